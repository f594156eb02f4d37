/-
  KeepActs: the walk.
-/
import Derived.Test.YtcccaejjhodnkabGreatDoorQKmRel
namespace Go.Proofs.YtcccaejjhodnkabGreatDoor
open Go.RowKit Go.Maps
open Num
set_option linter.unusedVariables false
/-- what the document's keep has of an ask -/
structure MOk (w : World) (y : Kx) : Prop where
  rows : RowsI w (.slice y.ra y.rn y.rc) y.rs
  ints : IntsRd w (.slice y.ga y.gn y.gc) y.zs
  few : Few y.rs
  z : y.zs.length ≤ 8
  p : planF y.many y.rs = (0, -1)
structure AInv (w w1 wr : World) (many : Int) (vl vm : Value) (l m : List Kx) : Prop where
  k : KIs (w1.heap.size + 1) wr w1.heap.size many vl l
  mr : MRow wr (w1.heap.size + 1) many vm m
  r : Rl l m
  nd : Nd l
  n : (l.length : Int) ≤ many
  e : ∀ y ∈ m, MOk w y
  b : Below w1.heap.size w1 wr
  vmb : ∀ k, vm.ownBlock = some k → w1.heap.size + 1 < k
theorem AInv.stays {w w1 wr w' : World} {many : Int} {vl vm : Value} {l m : List Kx} (A : AInv w w1 wr many vl vm l m) (h : Below wr.heap.size wr w') : AInv w w1 w' many vl vm l m :=
  ⟨A.k.stays h, A.mr.stays h, A.r, A.nd, A.n, A.e, A.b.trans (h.mono A.b.size), A.vmb⟩
theorem KIs.ne_mb {mb kb : Nat} {w : World} {room : Int} {v : Value} {l : List Kx} {f : Nat → Value} (K : KIs mb w kb room v l) (R : RowIs w mb 33 2 f) : v.ownBlock ≠ some mb := by
  intro e
  rcases K.row.own.2 with ⟨rfl, _⟩ | ⟨g, cap, cur, rfl, _, hg, _⟩
  · cases e
  · obtain rfl : g = mb := by simpa [Value.ownBlock] using e
    obtain ⟨cur2, h2, _⟩ := R
    rw [hg] at h2
    injection h2 with h2
    injection h2 with _ h3
    exact absurd h3 (by decide)
theorem cutK_lenA {many : Int} {l : List Kx} (h : (l.length : Int) ≤ many + 1) (h0 : 0 ≤ many) : ((cutK many l).length : Int) ≤ many := by
  by_cases hc : many < (l.length : Int)
  · have e : cutK many l = l.drop 1 := by unfold cutK; rw [if_pos hc]
    rw [e, List.length_drop]; omega
  · have e : cutK many l = l := by unfold cutK; rw [if_neg hc]
    rw [e]; omega
theorem cutK_memA {many : Int} {l : List Kx} {x : Kx} (h : x ∈ cutK many l) : x ∈ l := by
  unfold cutK at h
  split at h
  · exact List.mem_of_mem_drop h
  · exact h
/-- a plan was put -/
theorem AInv.put {w w1 wr w2 w3 w4 : World} {many : Int} {vl vm vl2 vm2 : Value} {l m : List Kx} {x y : Kx} (A : AInv w w1 wr many vl vm l m) (h2 : Below wr.heap.size wr w2) (g3 : w2.grownBy w3 (some w1.heap.size)) (K3 : KIs (w1.heap.size + 1) w3 w1.heap.size many vl2 (cutK many (l.filter (othK x.pc) ++ [x]))) (h3 : Below w3.heap.size w3 w4)
    {w5 : World} (g5 : w4.grownBy w5 (some (w1.heap.size + 1))) (M5 : MRow w5 (w1.heap.size + 1) many vm2 (cutK many (m.filter (othK y.pc) ++ [y]))) (hv : ∀ k, vm2.ownBlock = some k → w4.heap.size ≤ k) (e : kA x = kB y) (hy : MOk w y) : AInv w w1 w5 many vl2 vm2 (cutK many (l.filter (othK x.pc) ++ [x])) (cutK many (m.filter (othK y.pc) ++ [y])) := by
  have hxy : x.pc = y.pc := (kzs e).2.2.2
  have M3 : MRow w3 (w1.heap.size + 1) many vm m := (A.mr.stays h2).other g3 (by omega) (fun e => by have := A.vmb _ e; omega)
  have hm1 := A.mr.lt
  have hs2 := h2.size
  have hs3 := g3.size
  have hs4 := h3.size
  have hs5 := g5.size
  refine ⟨(K3.stays h3).foreign g5 (by omega) ((K3.stays h3).ne_mb (M3.stays h3).st), M5, ?_, (Nd.put A.nd x).cut many, cutK_lenA ?_ (by have := A.n; omega), fun z hz => ?_, ?_, fun k e => by have := hv k e; omega⟩
  · have := ((A.r.oth x.pc).snoc e).cut many
    rw [hxy] at this ⊢; exact this
  · have := List.length_filter_le (othK x.pc) l
    have := A.n
    rw [List.length_append]; simp; omega
  · rcases List.mem_append.1 (cutK_memA hz) with h | h
    · exact A.e z (List.mem_filter.1 h).1
    · rw [List.mem_singleton.1 h]; exact hy
  · have b3 : Below w1.heap.size w1 w3 := below_kb (A.b.trans (h2.mono A.b.size)) (Nat.le_refl _) g3 (Nat.le_trans A.b.size hs2)
    exact below_kb (b3.trans (h3.mono b3.size)) (by omega) g5 (Nat.le_trans b3.size hs4)
theorem AInv.zs {w w1 wr : World} {many : Int} {vl vm : Value} {l m : List Kx} (A : AInv w w1 wr many vl vm l m) : ∀ x ∈ l, x.zs.length ≤ 8 := fun x hx => by
  obtain ⟨y, hy, e⟩ := A.r.mem hx
  rw [(kzs e).1]
  exact Nat.le_trans (rise_len _) (A.e y hy).z
theorem AInv.rs {w w1 wr : World} {many : Int} {vl vm : Value} {l m : List Kx} (A : AInv w w1 wr many vl vm l m) : ∀ x ∈ l, Few x.rs ∧ ∀ r ∈ x.rs, 0 < r.length := fun x hx => by
  obtain ⟨y, hy, e⟩ := A.r.mem hx
  rw [(kzs e).2.1]
  exact ⟨(A.e y hy).few, planF_rows (A.e y hy).p⟩
theorem planF_okK (many : Int) (rs : List (List Opx)) : planF many rs = (0, -1) ∨ (1 ≤ (planF many rs).1 ∧ (planF many rs).1 ≤ 10) := by
  rcases planF_vals many rs with h | h | h | h | ⟨k, e, he, _, h⟩
  · exact .inl h
  all_goals
    right
    rw [h]
    simp only
    omega
/-- what Put's region reads -/
structure CkA (W : World) (ab fb : Nat) (pc many : Int) (rv gv : Value) (f1 f2 : Int) : Prop where
  p : W.cell? ⟨ab, 1, none⟩ = some (.int .u32 pc)
  m : W.cell? ⟨ab, 2, none⟩ = some (.int .i64 many)
  r : W.cell? ⟨ab, 3, none⟩ = some rv
  g : W.cell? ⟨ab, 4, none⟩ = some gv
  f0 : W.cell? ⟨fb, 0, none⟩ = some (.int .i64 f1)
  f1 : W.cell? ⟨fb, 1, none⟩ = some (.int .i64 f2)
theorem CkA.stays {W W' : World} {ab fb : Nat} {pc many : Int} {rv gv : Value} {f1 f2 : Int} (C : CkA W ab fb pc many rv gv f1 f2) (h : Below W.heap.size W W') : CkA W' ab fb pc many rv gv f1 f2 := by
  have c : ∀ (a : Addr) (v : Value), W.cell? a = some v → W'.cell? a = some v := fun a v e => by rw [h.cell (World.block_lt_of_cell? _ _ e)]; exact e
  exact ⟨c _ _ C.p, c _ _ C.m, c _ _ C.r, c _ _ C.g, c _ _ C.f0, c _ _ C.f1⟩
theorem CkA.grown {W W' : World} {ab fb kb : Nat} {pc many : Int} {rv gv : Value} {f1 f2 : Int} (C : CkA W ab fb pc many rv gv f1 f2) (g : W.grownBy W' (some kb)) (h1 : ab ≠ kb) (h2 : fb ≠ kb) : CkA W' ab fb pc many rv gv f1 f2 := by
  have e1 : W'.heap[ab]? = W.heap[ab]? := g.block ab (World.block_lt_of_cell? _ _ C.p) (fun e => by injection e with e; exact h1 e)
  have e2 : W'.heap[fb]? = W.heap[fb]? := g.block fb (World.block_lt_of_cell? _ _ C.f0) (fun e => by injection e with e; exact h2 e)
  exact ⟨(World.cell?_of_block (a := ⟨ab, 1, none⟩) e1).trans C.p, (World.cell?_of_block (a := ⟨ab, 2, none⟩) e1).trans C.m, (World.cell?_of_block (a := ⟨ab, 3, none⟩) e1).trans C.r, (World.cell?_of_block (a := ⟨ab, 4, none⟩) e1).trans C.g, (World.cell?_of_block (a := ⟨fb, 0, none⟩) e2).trans C.f0, (World.cell?_of_block (a := ⟨fb, 1, none⟩) e2).trans C.f1⟩
theorem hold_rows {mb kb base : Nat} {w : World} {v : Value} {us : List Value} {rs : List (List Opx)} (R : RwAt w base v us rs) (hk : kb < base) (hm : mb < base) : KHold mb w kb (.slice none 0 0) (fun W => RowsI W v rs) := fun W hs hb =>
  (R.blocks fun k h1 h2 => hb k h2 (by omega) (by omega) (fun e => by cases e)).rows
theorem hold_ownK {mb : Nat} {w : World} {kb base : Nat} {v : Value} {zs : List Int} (h : OwnI base w v zs) (hk : kb < base) (hm : mb < base) : KHold mb w kb (.slice none 0 0) (fun W => IntsAt W v zs) := fun W hs hb =>
  ints_of_own (owns_blocks h fun k e => hb k (own_lt h k e).1 (fun e' => by have := (own_lt h k e).2; omega) (fun e' => by have := (own_lt h k e).2; omega) (fun e' => by cases e'))
theorem oper_append_noneA {P : Program} {o : Oper} {a : Act} {w : World} {K : Act → World → Prop} {Q : Exit → Act → World → Prop} (s x : Operand) (t : TypeId)
    (ho : o.op = .call { callee := .builtin .append, args := #[s, x], argTypes := #[t, t] })
    (e : TypeId) (i : TypeInfo) (ht : P.underlying t = some (.slice e)) (hi : P.info? e = some i) (oa : Option Addr) (on oc : Nat) (hs : a.eval s = .slice oa on oc) (hx : a.eval x = .slice none 0 0) (hc : on ≤ oc)
    (h : K (a.put o.dst (.slice oa on oc)) w) : Oper.wp P o a w K Q := by
  have hr := run_append_none (P := P) w t o.type e i ht hi oa on oc hc
  unfold Oper.wp execOp
  simp only [ho, resolve, invoke, builtin, Sem.run_bind, Sem.run_pure, Result.andThen_ok, List.map_toArray, List.map_cons, List.map_nil, hs, hx, hr]
  exact h
theorem filt_partK {α : Type} (p : α → Bool) : ∀ l : List α, (l.filter p).length + (l.filter (fun x => !p x)).length = l.length
  | [] => rfl
  | x :: r => by
    have ih := filt_partK p r
    cases h : p x <;> simp [h] <;> omega
set_option maxRecDepth 100000 in
theorem oper_append_rd {o : Oper} {a : Act} {w : World} {K : Act → World → Prop} {Q : Exit → Act → World → Prop} (s x : Operand) (ho : o.op = .call { callee := .builtin .append, args := #[s, x], argTypes := #[36, 36] })
    {ga : Option Addr} {gc : Nat} {zs : List Int} (hs : a.eval s = .slice none 0 0) (hx : a.eval x = .slice ga zs.length gc) (hgn : ga = none → zs = [] ∧ gc = 0) (hgi : 0 < zs.length → ∃ b off : Nat, ga = some ⟨b, off, none⟩ ∧ ∀ j, j < zs.length → w.cell? ⟨b, off + j, none⟩ = some (.int .i64 (zs.getD j 0))) (hl : zs.length ≤ 1000)
    (h : ∀ v5 w5, OwnI w.heap.size w5 v5 zs → Below w.heap.size w w5 → K (a.put o.dst v5) w5) : Oper.wp Tryz.prog o a w K Q := by
  obtain ⟨i0, hi, iz0, iz1, iz2⟩ := info_parts infoInt
  cases ga with
  | none =>
    obtain ⟨hz0, hc0⟩ := hgn rfl
    subst hz0
    subst hc0
    exact oper_append_noneA s x 36 ho 3 i0 Tryz.underlying36 hi none 0 0 hs hx (Nat.le_refl _) (h _ _ (World.ownsRow_nil _ _ _ _) (Below.refl _ _))
  | some gad =>
    have hn : ∀ (k : Nat) (u : Value), (zs.map (Value.int .i64))[k]? = some u → w.cell? (gad.add k) = some u := by
      intro k u hk
      have hk1 : k < zs.length := by have := (List.getElem?_eq_some_iff.1 hk).1; simpa using this
      obtain ⟨gb, go, e, hc⟩ := hgi (by omega)
      injection e with e
      subst e
      have ha : (⟨gb, go, none⟩ : Addr).add k = ⟨gb, go + k, none⟩ := by unfold Addr.add; split <;> simp_all
      rw [ha, hc k hk1, ← hk]
      simp [List.getD, List.getElem?_eq_getElem hk1]
    refine oper_append_movedK s x 36 ho w.heap.size 3 i0 _ 1 8 Tryz.underlying36 hi iz0 iz1 iz2 rfl (by decide) (.slice none 0 0) 0 [] hs (World.ownsRow_nil _ _ _ _) gad zs.length gc (zs.map (Value.int .i64)) hx (by simp) hn (fun u hu => by obtain ⟨y, _, rfl⟩ := List.mem_map.1 hu; rfl) (by unfold maxLen; omega) (by omega) (Nat.le_refl _) ?_
    intro v8 w8 ho8 hg8 hm8
    rw [Nat.zero_add, List.nil_append] at ho8
    exact h v8 w8 ho8 ⟨hg8.os, hg8.tape, hg8.output, hg8.size, fun k hk => hg8.block k hk (by intro e; cases e)⟩
set_option maxRecDepth 100000 in
set_option maxHeartbeats 16000000 in
theorem keepActs_any (S : Nat → Addr) {w : World} (EE : Errs S w) (E : Ep (peS S) w) {v : Value} {al : List Ax} (A : AsksIn w v al) (hal : (al.length : Int) ≤ 9223372036854775807) (many : Int) :
    Calls Tryz.prog 3 #[.int .i64 many, v] w fun e w' => e = .returned (.bool true) ∧ Below w.heap.size w w' := by
  obtain ⟨i0, hi, iz0, iz1, iz2⟩ := info_parts infoInt
  obtain ⟨j0, hj0, jz0, jz1, jz2⟩ := info_parts infoU32
  have hkept := kept_any (peS S) E
  obtain ⟨ao, acap, rfl, hacap, hA⟩ := A.sh
  have HA : Hid (0 < al.length → ∃ b off : Nat, ao = some ⟨b, off, none⟩ ∧ ∀ (i : Nat) (o : Ax), al[i]? = some o → ∀ (j : Nat) (u : Value), (axC o)[j]? = some u → w.cell? ⟨b, off + i * 6 + j, none⟩ = some u) := hA
  have HOK : Hid (∀ o ∈ al, AxOk w o) := A.ok
  have HE : Hid (Ep (peS S) w) := E
  have HEE : Hid (Errs S w) := EE
  clear A hA E EE
  go_enter Tryz.func3, Tryz.ntmps3
  go_wp2_with fail
  refine hkept.mono ?_
  rintro e w1 ⟨rfl, hb1⟩
  have HB1 : Hid (Below w.heap.size w w1) := hb1
  clear hkept hb1
  by_cases h80 : (80 : Int) < al.length
  · go_wp2
    go_ret
    exact ⟨rfl, HB1.out⟩
  by_cases hmb : many < 1 ∨ 40 < many
  · have hnew := newK_bad (peS S) (HE.out.stays HB1.out) many hmb
    have hcs : many < 1 ∨ (¬ many < 1 ∧ 40 < many) := by omega
    go_wp2_with fail
    refine hnew.mono ?_
    rintro e w2 ⟨rfl, hb2⟩
    have HB2 : Hid (Below w.heap.size w w2) := HB1.out.trans (hb2.mono HB1.out.size)
    have hco := codedK_any S (HEE.out.stays HB2.out) 2 (by omega) (by omega)
    clear hnew hb2 hmb
    rcases hcs with h1 | ⟨h1, h2⟩
    all_goals
      go_wp2_with fail
      refine hco.mono ?_
      rintro e w3 ⟨rfl, hb3⟩
      have HB3 : Hid (Below w.heap.size w w3) := HB2.out.trans (hb3.mono HB2.out.size)
      clear hco hb3
      go_wp2
      go_ret
      exact ⟨rfl, HB3.out⟩
  have hm1 : ¬ many < 1 := by omega
  have hm40 : ¬ 40 < many := by omega
  clear hmb
  have hnew := newK_any w1 many (by omega) (by omega)
  go_wp2_with fail
  refine hnew.mono ?_
  rintro e w2 ⟨rfl, rfl⟩
  clear hnew
  have D0 : AInv w w1 ((w1.alloc (.cells #[.int .i64 many, .slice none 0 0] 67)).alloc (.cells #[.int .i64 many, .slice none 0 0] 33)) many (.slice none 0 0) (.slice none 0 0) [] [] := by
    have hb2 := below_new (w := w1.alloc (.cells #[.int .i64 many, .slice none 0 0] 67)) (.cells #[.int .i64 many, .slice none 0 0] 33)
    have hn := heap_alloc_new (w1.alloc (.cells #[.int .i64 many, .slice none 0 0] 67)) (.cells #[.int .i64 many, .slice none 0 0] 33)
    rw [World.size_alloc] at hn
    refine ⟨(newK_is (w1.heap.size + 1) w1 many).stays hb2, ⟨⟨_, hn, rfl, fun j hj => by rcases (by omega : j = 0 ∨ j = 1) with rfl | rfl <;> rfl⟩, ⟨none, 0, rfl, Nat.le_refl _, fun h => absurd h (by simp)⟩⟩, rfl, List.nodup_nil, by simp; omega, (fun y hy => by cases hy), (below_new _).trans (hb2.mono (by rw [World.size_alloc]; omega)), (fun k h => by cases h)⟩
  have HD0 : Hid (AInv w w1 ((w1.alloc (.cells #[.int .i64 many, .slice none 0 0] 67)).alloc (.cells #[.int .i64 many, .slice none 0 0] 33)) many (.slice none 0 0) (.slice none 0 0) [] []) := D0
  clear D0
  go_wp2
  generalize (w1.alloc (.cells #[.int .i64 many, .slice none 0 0] 67)).alloc (.cells #[.int .i64 many, .slice none 0 0] 33) = w2 at *
  go_loopw [9] (fun i wr => ∃ (j : Nat) (vl vm : Value) (l m : List Kx), j ≤ al.length ∧ i = .int .i64 j ∧ AInv w w1 wr many vl vm l m) (fun i _ => al.length - (intOf i).toNat)
  case atStart => exact ⟨0, _, _, _, _, Nat.zero_le _, rfl, HD0.out⟩
  case round =>
    obtain ⟨j, vl, vm, l, m, hj, rfl, D⟩ := hrel
    have hB0 : Below w.heap.size w wr := HB1.out.trans (D.b.mono HB1.out.size)
    have HB0 : Hid (Below w.heap.size w wr) := hB0
    have HD : Hid (AInv w w1 wr many vl vm l m) := D
    by_cases hlt : j < al.length
    · obtain ⟨a, ha⟩ : ∃ a, al[j]? = some a := ⟨_, List.getElem?_eq_getElem hlt⟩
      obtain ⟨b, off, rfl, hcell⟩ := HA.out (by omega)
      have cc : ∀ k u, (axC a)[k]? = some u → wr.cell? ⟨b, off + j * 6 + k, none⟩ = some u := fun k u hu => (hB0.cell (p := ⟨b, off + j * 6 + k, none⟩) (World.block_lt_of_cell? _ _ (hcell j a ha k u hu))).trans (hcell j a ha k u hu)
      have q0 : wr.cell? ⟨b, off + j * 6, none⟩ = _ := cc 0 _ rfl
      have q1 := cc 1 _ rfl
      have q2 := cc 2 _ rfl
      have hrn : a.rn = a.rs.length := by obtain ⟨_, _, e, _⟩ := (HOK.out a (List.mem_of_getElem? ha)).rows; injection e
      have hgn : a.gn = a.zs.length := by obtain ⟨_, _, e, _⟩ := (HOK.out a (List.mem_of_getElem? ha)).ints; injection e
      have q3 : wr.cell? ⟨b, off + j * 6 + 3, none⟩ = some (.slice a.ra a.rs.length a.rc) := by rw [← hrn]; exact cc 3 _ rfl
      have q4 : wr.cell? ⟨b, off + j * 6 + 4, none⟩ = some (.slice a.ga a.zs.length a.gc) := by rw [← hgn]; exact cc 4 _ rfl
      have q5 := cc 5 _ rfl
      have zb := World.block_lt_of_cell? _ _ q1
      have hlt' : (j : Int) < al.length := by omega
      have hok := HOK.out a (List.mem_of_getElem? ha)
      have HAX : Hid (AxOk w a) := hok
      obtain ⟨W, hW⟩ : ∃ W, wr.alloc (.cells #[.string a.kind, .int .u32 a.pc, .int .i64 a.many, .slice a.ra a.rs.length a.rc, .slice a.ga a.zs.length a.gc, .int .i64 a.page] 38) = W := ⟨_, rfl⟩
      have hbW : Below wr.heap.size wr W := by rw [← hW]; exact below_new _
      have RW : RowIs W wr.heap.size 38 6 (fun k => if k = 0 then .string a.kind else if k = 1 then .int .u32 a.pc else if k = 2 then .int .i64 a.many else if k = 3 then .slice a.ra a.rs.length a.rc else if k = 4 then .slice a.ga a.zs.length a.gc else .int .i64 a.page) := by
        rw [← hW]
        exact ⟨_, heap_alloc_new wr _, rfl, fun k hk => by rcases (by omega : k = 0 ∨ k = 1 ∨ k = 2 ∨ k = 3 ∨ k = 4 ∨ k = 5) with rfl | rfl | rfl | rfl | rfl | rfl <;> rfl⟩
      have HDW : Hid (AInv w w1 W many vl vm l m) := D.stays hbW
      have HMB0 : Hid (w1.heap.size + 1 < wr.heap.size) := D.mr.lt
      have HBW : Hid (Below w.heap.size w W) := hB0.trans (hbW.mono hB0.size)
      have zW : wr.heap.size < W.heap.size := RW.lt
      have HRN : Hid (a.rn = a.rs.length ∧ a.gn = a.zs.length) := ⟨hrn, hgn⟩
      clear hrn hgn
      have hrl := hok.rl.1
      have hil := hok.il
      have hkl := hok.kind
      go_upto_region 14 with fail
      clear hW q0 q1 q2 q3 q4 q5 cc hcell zb hB0 D HB0 HD ha hok hbW
      have r0 : W.cell? ⟨wr.heap.size, 0, none⟩ = some (.string a.kind) := RW.cell (j := 0) (by omega)
      have r1 : W.cell? ⟨wr.heap.size, 1, none⟩ = some (.int .u32 a.pc) := RW.cell (j := 1) (by omega)
      have r2 : W.cell? ⟨wr.heap.size, 2, none⟩ = some (.int .i64 a.many) := RW.cell (j := 2) (by omega)
      have r3 : W.cell? ⟨wr.heap.size, 3, none⟩ = some (.slice a.ra a.rs.length a.rc) := RW.cell (j := 3) (by omega)
      have r4 : W.cell? ⟨wr.heap.size, 4, none⟩ = some (.slice a.ga a.zs.length a.gc) := RW.cell (j := 4) (by omega)
      have r5 : W.cell? ⟨wr.heap.size, 5, none⟩ = some (.int .i64 a.page) := RW.cell (j := 5) (by omega)
      clear RW
      by_cases h4 : (4 : Int) < a.rs.length
      · go_wp2
        go_ret
        exact ⟨rfl, HBW.out⟩
      by_cases h8 : (8 : Int) < a.zs.length
      · go_wp2
        go_ret
        exact ⟨rfl, HBW.out⟩
      go_wp2
      go_loop [11] (fun i => ∃ k : Nat, k ≤ a.rs.length ∧ i = .int .i64 k ∧ Hid (∀ q r, q < k → a.rs[q]? = some r → r.length ≤ 1000)) (fun i => a.rs.length - (intOf i).toNat)
      case atStart => exact ⟨0, Nat.zero_le _, rfl, (by intro q r hq; omega)⟩
      case round =>
        obtain ⟨k, hk, rfl, HL⟩ := hrel
        by_cases hkl2 : k < a.rs.length
        · obtain ⟨row, hrow⟩ : ∃ r, a.rs[k]? = some r := ⟨_, List.getElem?_eq_getElem hkl2⟩
          obtain ⟨ra2, rc2, e2, _, hrr⟩ := HAX.out.rows.stays HBW.out
          rw [HRN.out.1] at e2
          injection e2 with e3 _ e4
          obtain ⟨rb, ro, e5, hrc⟩ := hrr (by omega)
          rw [e5] at e3
          obtain ⟨u, hu, hO⟩ := hrc k row hrow
          have hlo := longOps_any hO (HAX.out.rl.2 row (List.mem_of_getElem? hrow)).1 (HAX.out.rl.2 row (List.mem_of_getElem? hrow)).2 6
          have hkl3 : (k : Int) < a.rs.length := by omega
          have zu := World.block_lt_of_cell? _ _ hu
          rw [e3] at r3
          have HROW : Hid (a.rs[k]? = some row) := hrow
          obtain ⟨ua, uc, hue, _, _⟩ := hO.sh
          subst hue
          clear hrr hrc hO hrow e3 e4 e5
          by_cases hlg : longO row 6 = true
          · rw [if_pos hlg] at hlo
            go_wp2_with fail
            refine hlo.mono ?_
            rintro e w4 ⟨rfl, rfl⟩
            go_wp2
            go_ret
            exact ⟨rfl, HBW.out⟩
          · rw [if_neg hlg] at hlo
            have HL2 : Hid (∀ q r, q < k + 1 → a.rs[q]? = some r → r.length ≤ 1000) := by
              intro q r hq hr
              by_cases e : q = k
              · subst e
                rw [HROW.out] at hr
                obtain rfl := Option.some.inj hr
                unfold longO at hlg
                simp at hlg
                by_cases h201 : row.length = 201
                · omega
                · have := hlg.1; omega
              · exact HL.out q r (by omega) hr
            clear HL
            go_wp2_with fail
            refine hlo.mono ?_
            rintro e w4 ⟨rfl, rfl⟩
            go_wp2
            go_round
            case rel => exact ⟨k + 1, by omega, by go_num, HL2.out⟩
            case measure => simp [intOf]; omega
        · obtain rfl : k = a.rs.length := by omega
          have HFEW : Hid (Few a.rs) := ⟨by omega, fun r hr => by obtain ⟨q, hq⟩ := List.getElem?_of_mem hr; exact HL.out q r (List.getElem?_eq_some_iff.1 hq).1 hq⟩
          clear HL
          have HMB : Hid (w1.heap.size + 1 < wr.heap.size) := HMB0.out
          cases hput : (a.kind.toList == [112, 117, 116])
          · cases hget : (a.kind.toList == [103, 101, 116])
            · skip
              have hgn40 : l.length ≤ 40 := by have := HDW.out.n; omega
              have hdW : Below W.heap.size W W.drew := (Below.refl _ _).drew
              have ck0 : W.drew.cell? ⟨wr.heap.size, 5, none⟩ = some (.int .i64 a.page) := r5
              have HDd : Hid (AInv w w1 W.drew many vl vm l m) := HDW.out.stays hdW
              have hdr := drop_any HDd.out.k (by omega) (fun x hx => by have := HDd.out.zs x hx; omega) a.page
              have HCK : Hid (W.drew.cell? ⟨wr.heap.size, 5, none⟩ = some (.int .i64 a.page)) := ck0
              have zr1 : w1.heap.size + 1 < wr.heap.size := HMB.out
              have HBd : Hid (Below w.heap.size w W.drew) := HBW.out.drew
              clear ck0 hdW
              go_wp2
              refine wp_region_phase 10 [(0, 0), (1, 0), (2, 1), (4, 0), (5, 0), (6, 1), (3, 2), (7, 2), (8, 2), (9, 0)] (fun W => W.cell? ⟨wr.heap.size, 5, none⟩ = some (.int .i64 a.page)) (by kernel_rfl) (by kernel_rfl) (fun _ _ _ d _ h => by cases d <;> exact h) HCK.out ?_
              repeat (first | (refine wpPlanZ_free (by rfl) (by rfl) (fun W => by (go_simp; try with_reducible rfl)) (fun K hK => ?_); go_simp; refine hK _ ?_; clear hK K) | (refine wpPlanZ_quiet (by rfl) (by rfl) (fun W hW => by (have s0 := hW; go_simp; try with_reducible rfl)) (fun K hK => ?_); go_simp; refine hK _ ?_; clear hK K))
              refine wpPlanZ_serial (by rfl) (by rfl) (fun K hK => ?_)
              go_simp
              refine hdr.mono ?_
              rintro e wc ⟨vc, sv, rfl, hoc, hKc, hsv, hgc⟩
              have hcc : wc.cell? ⟨wr.heap.size, 5, none⟩ = some (.int .i64 a.page) := (World.cell?_of_block (a := ⟨wr.heap.size, 5, none⟩) (hgc.block wr.heap.size zW (fun e => by injection e; omega))).trans HCK.out
              refine hK _ _ (fun _ => hcc) ?_
              have Mc : MRow wc (w1.heap.size + 1) many vm m := HDd.out.mr.other hgc (by omega) (fun e => by have := HDd.out.vmb _ e; omega)
              have HBc : Hid (Below w.heap.size w wc) := below_kb HBd.out HB1.out.size hgc HBd.out.size
              have hmd := mdrop_any Mc (by rw [← HDd.out.r.len]; omega) (fun y hy => ⟨(HDd.out.e y hy).ints.stays HBc.out, by have := (HDd.out.e y hy).z; omega⟩) a.page
              have HOc : Hid (wc.ownsRow W.drew.heap.size 34 1 vc (l.filter (hasP a.page)).length (pcL (l.filter (hasP a.page)))) := hoc
              have HKc : Hid (KIs (w1.heap.size + 1) wc w1.heap.size many sv (l.filter (fun x => !hasP a.page x))) := hKc
              have HGc : Hid (W.drew.grownBy wc (some w1.heap.size)) := hgc
              have HMc : Hid (MRow wc (w1.heap.size + 1) many vm m) := Mc
              obtain ⟨ca, cn, cc2, hvc⟩ := own_slice hoc
              subst hvc
              clear hK K hdr hoc hKc hsv hgc Mc
              refine wpPlanZ_serial (by rfl) (by rfl) (fun K hK => ?_)
              go_simp
              refine hmd.mono ?_
              rintro e wd ⟨vd, rfl, hod, ⟨v2, hMd, hv2⟩, hgd⟩
              have hcd : wd.cell? ⟨wr.heap.size, 5, none⟩ = some (.int .i64 a.page) := (World.cell?_of_block (a := ⟨wr.heap.size, 5, none⟩) (hgd.block wr.heap.size (World.block_lt_of_cell? _ _ hcc) (fun e => by injection e; omega))).trans hcc
              refine hK _ _ (fun _ => hcd) ?_
              have HBd2 : Hid (Below w.heap.size w wd) := below_kb HBc.out (by have := HB1.out.size; omega) hgd HBc.out.size
              have hTd : AInv w w1 wd many sv v2 (l.filter (fun x => !hasP a.page x)) (m.filter (fun x => !hasP a.page x)) := by
                have hlt2 : (l.filter (fun x => !hasP a.page x)).length ≤ l.length := List.length_filter_le _ _
                have b1 : Below w1.heap.size w1 wc := below_kb HDd.out.b (Nat.le_refl _) HGc.out HDd.out.b.size
                refine ⟨HKc.out.foreign hgd (by omega) (HKc.out.ne_mb HMc.out.st), hMd, HDd.out.r.hasNot a.page, HDd.out.nd.sub List.filter_sublist, by have := HDd.out.n; omega, fun y hy => HDd.out.e y (List.mem_filter.1 hy).1, below_kb b1 (by omega) hgd b1.size, fun k e => by have h1 := hv2 k e; have h2 := HMc.out.lt; omega⟩
              have hLl : ((l.filter (hasP a.page)).map (·.pc)).length = (l.filter (hasP a.page)).length := by simp
              have hpe : pcL (l.filter (hasP a.page)) = ((l.filter (hasP a.page)).map (·.pc)).map (Value.int .u32) := by unfold pcL; simp
              have hrh := HDd.out.r.has a.page
              have hal1 := alikeK_any (L := (l.filter (hasP a.page)).map (·.pc)) (by rw [hLl, ← hpe]; exact owns_blocks HOc.out fun q e => hgd.block q (own_lt HOc.out q e).1 (fun e' => by have h1 := (own_lt HOc.out q e).2; injection e' with e'; have h3 : W.drew.heap.size = W.heap.size := rfl; omega)) (by rw [hLl, ← hpe, hrh.pcs, hrh.len]; exact hod) (by have := List.length_filter_le (hasP a.page) l; omega)
              have HTd : Hid (AInv w w1 wd many sv v2 (l.filter (fun x => !hasP a.page x)) (m.filter (fun x => !hasP a.page x))) := hTd
              obtain ⟨da, dn, dc, hvd⟩ := own_slice hod
              subst hvd
              clear hK K hmd hod hMd hv2 hgd hTd hcc HMc HGc HKc HOc
              refine wpPlanZ_serial (by rfl) (by rfl) (fun K hK => ?_)
              go_simp
              refine hal1.mono ?_
              rintro e we ⟨rfl, hbe⟩
              refine hK _ _ (fun _ => (hbe.cell (p := ⟨wr.heap.size, 5, none⟩) (World.block_lt_of_cell? _ _ hcd)).trans hcd) ?_
              have HT : Hid (AInv w w1 we many sv v2 (l.filter (fun x => !hasP a.page x)) (m.filter (fun x => !hasP a.page x))) := HTd.out.stays hbe
              have HBX : Hid (Below w.heap.size w we) := HBd2.out.trans (hbe.mono HBd2.out.size)
              clear hK K hal1 hbe HTd HBd2 HBc HBd HDd HCK hcd HDW HBW
              repeat (refine wpPlanZ_free (by rfl) (by rfl) (fun W => by (go_simp; try with_reducible rfl)) (fun K hK => ?_); go_simp; refine hK _ ?_; clear hK K)
              refine wpPlanZ_nil ?_
              clear r0 r1 r2 r3 r4 r5
              generalize l.filter (fun x => !hasP a.page x) = l3 at *
              generalize m.filter (fun x => !hasP a.page x) = m3 at *
              have hn40 : l3.length ≤ 40 := by have := HT.out.n; omega
              have hmlen : m3.length = l3.length := HT.out.r.len.symm
              obtain ⟨ma, mc, hvmq⟩ := HT.out.mr.form
              subst hvmq
              have km3 := HT.out.mr.c1
              have zm3 := HT.out.mr.lt
              go_wp2
              go_loopw [18, 19] (fun ov i wr => ∃ k : Nat, k ≤ m3.length ∧ i = .int .i64 k ∧ wr.ownsRow we.heap.size 34 1 ov k (pcL (m3.take k)) ∧ Below we.heap.size we wr) (fun _ i _ => m3.length - (intOf i).toNat)
              case atStart => exact ⟨0, Nat.zero_le _, rfl, World.ownsRow_nil _ _ _ _, Below.refl _ _⟩
              case round =>
                obtain ⟨k, hk, rfl, ho, hB⟩ := hrel
                have MW := HT.out.mr.stays hB
                have k1 := MW.c1
                have zk := MW.lt
                have hsX := hB.size
                by_cases hkl : k < m3.length
                · obtain ⟨y, hy⟩ : ∃ y, m3[k]? = some y := ⟨_, List.getElem?_eq_getElem hkl⟩
                  obtain ⟨ao2, cap2, e2, _, hh⟩ := MW.l
                  injection e2 with e3 _ e4
                  subst e3
                  subst e4
                  obtain ⟨g, goff, rfl, _, hcell⟩ := hh (by omega)
                  have x0 := (kept_cells (hcell k y hy)).1
                  have zb := World.block_lt_of_cell? _ _ x0
                  have hkl' : (k : Int) < m3.length := by omega
                  have hbA : Below wr.heap.size wr (wr.alloc (.cells #[.int .u32 y.pc] 34)) := below_new _
                  have ho2 := owns_blocks ho fun q e => hbA.block q (own_lt ho q e).1
                  have hn : ∀ (q : Nat) (u : Value), [Value.int .u32 y.pc][q]? = some u → (wr.alloc (.cells #[.int .u32 y.pc] 34)).cell? ((⟨wr.heap.size, 0, none⟩ : Addr).add q) = some u := by
                    intro q u hq
                    rw [add_lit, World.cell?_alloc_at _ _ _ _ rfl]
                    simpa using hq
                  have hs2 : we.heap.size ≤ (wr.alloc (.cells #[.int .u32 y.pc] 34)).heap.size := Nat.le_trans hsX hbA.size
                  have HN : Hid (∀ v1 w2, w2.ownsRow we.heap.size 34 1 v1 (k + 1) (pcL (m3.take k) ++ [.int .u32 y.pc]) → (wr.alloc (.cells #[.int .u32 y.pc] 34)).grownBy w2 u18.ownBlock → w2.ownsRow we.heap.size 34 1 v1 (k + 1) (pcL (m3.take (k + 1))) ∧ Below we.heap.size we w2) := fun v1 w2 h1 h2 => by
                    refine ⟨?_, (hB.trans (hbA.mono hB.size)).grown h2 hs2 fun q e => (own_lt ho q e).2⟩
                    rw [tk_snoc hy, pcL_snoc]; exact h1
                  have HO : Hid ((wr.alloc (.cells #[.int .u32 y.pc] 34)).ownsRow we.heap.size 34 1 u18 k (pcL (m3.take k))) := ho2
                  clear ho ho2 hB hbA hh hcell hy MW
                  go_wp2_with (at_builtin; refine wpList_append_moved rfl _ _ 57 rfl we.heap.size 34 j0 _ 1 4 Tryz.underlying57 hj0 jz0 jz1 jz2 rfl (by decide) u18 _ _ rfl HO.out ⟨wr.heap.size, 0, none⟩ 1 1 [.int .u32 y.pc] rfl rfl hn (by simp [Value.oneCell']) (by unfold maxLen; omega) (by omega) hs2 ?_; intro v1 w2 ho1 hg1 hm1; have KN : Hid _ := HN.out v1 w2 ho1 hg1; clear ho1 hg1 hm1 HN HO hn hs2 x0 k1)
                  go_roundw
                  case rel => exact ⟨k + 1, by omega, by go_num, KN.out.1, KN.out.2⟩
                  case measure => simp [intOf]; omega
                · obtain rfl : k = m3.length := by omega
                  rw [List.take_length] at ho
                  have HTW : Hid (AInv w w1 wr many sv (.slice ma m3.length mc) l3 m3) := HT.out.stays hB
                  have HBw : Hid (Below w.heap.size w wr) := HBX.out.trans (hB.mono HBX.out.size)
                  have HOm : Hid (wr.ownsRow we.heap.size 34 1 u18 m3.length (pcL m3)) := ho
                  have hp1 := pcs_any HTW.out.k.row (by omega)
                  obtain ⟨oa, on, oc, hov⟩ := own_slice ho
                  subst hov
                  clear ho hB MW HT HBX
                  go_wp2_with fail
                  refine hp1.mono ?_
                  rintro e wa ⟨va, rfl, hoa, hba⟩
                  have hLl : (l3.map (·.pc)).length = l3.length := by simp
                  have hpe : pcL l3 = (l3.map (·.pc)).map (Value.int .u32) := by unfold pcL; simp
                  have hal1 := alikeK_any (L := l3.map (·.pc)) (by rw [hLl, ← hpe]; exact hoa) (by rw [hLl, ← hpe, HTW.out.r.pcs, ← hmlen]; exact owns_blocks HOm.out fun q e => hba.block q (own_lt HOm.out q e).1) (by omega)
                  have HTa : Hid (AInv w w1 wa many sv (.slice ma m3.length mc) l3 m3) := HTW.out.stays hba
                  have HBa : Hid (Below w.heap.size w wa) := HBw.out.trans (hba.mono HBw.out.size)
                  obtain ⟨aa, an, ac, hva⟩ := own_slice hoa
                  subst hva
                  clear hp1 hoa hba HTW HBw HOm
                  go_wp2_with fail
                  refine hal1.mono ?_
                  rintro e wb ⟨rfl, hbb⟩
                  have HTb : Hid (AInv w w1 wb many sv (.slice ma m3.length mc) l3 m3) := HTa.out.stays hbb
                  have HBb : Hid (Below w.heap.size w wb) := HBa.out.trans (hbb.mono HBa.out.size)
                  have hp2 := pages_any HTb.out.k.row (fun x hx => (HTb.out.k.one x hx).here.1) (by omega) (fun x hx => by have := HTb.out.zs x hx; omega)
                  clear hal1 hbb HTa HBa
                  go_wp2_with fail
                  refine hp2.mono ?_
                  rintro e wc ⟨vc, rfl, hoc, hbc⟩
                  have HTc : Hid (AInv w w1 wc many sv (.slice ma m3.length mc) l3 m3) := HTb.out.stays hbc
                  have HBc : Hid (Below w.heap.size w wc) := HBb.out.trans (hbc.mono HBb.out.size)
                  have HOc : Hid (OwnI wb.heap.size wc vc (rise (allPg l3))) := hoc
                  have hp3 := mpages_any HTc.out.mr (by omega) (fun y hy => ⟨(HTc.out.e y hy).ints.stays HBc.out, by have := (HTc.out.e y hy).z; omega⟩)
                  obtain ⟨ca, cn, cc2, hvc⟩ := own_slice hoc
                  subst hvc
                  clear hp2 hoc hbc HTb HBb
                  go_wp2_with fail
                  refine hp3.mono ?_
                  rintro e wd ⟨vd, rfl, hod, hbd⟩
                  have HTd : Hid (AInv w w1 wd many sv (.slice ma m3.length mc) l3 m3) := HTc.out.stays hbd
                  have HBd : Hid (Below w.heap.size w wd) := HBc.out.trans (hbd.mono HBc.out.size)
                  have hpl : ((rise (allPg l3)).length : Int) ≤ 1000000 := by
                    have h1 := rise_len (allPg l3)
                    have h2 := allPg_len l3 8 (fun x hx => HTc.out.zs x hx)
                    omega
                  have hsm := sameK_any (L := rise (allPg l3)) ((ints_of_own HOc.out).stays hbd) (by rw [HTc.out.r.pages]; exact ints_of_own hod) hpl
                  obtain ⟨da, dn, dc, hvd⟩ := own_slice hod
                  subst hvd
                  clear hp3 hod hbd HTc HBc HOc
                  go_wp2_with fail
                  refine hsm.mono ?_
                  rintro e we ⟨rfl, hbe⟩
                  have HTe : Hid (AInv w w1 we many sv (.slice ma m3.length mc) l3 m3) := HTd.out.stays hbe
                  clear hsm hbe HTd HBd
                  go_wp2
                  go_roundw
                  case rel => exact ⟨j + 1, sv, _, l3, m3, by omega, by go_num, HTe.out⟩
                  case measure => simp [intOf]; omega
            · skip
              have hn40 : l.length ≤ 40 := by have := HDW.out.n; omega
              have hgt := get_any HDW.out.k (by omega) HDW.out.rs a.pc
              have zr1 : w1.heap.size + 1 < wr.heap.size := HMB.out
              go_wp2_with fail
              refine hgt.mono ?_
              rintro e w2 ⟨hd, g2⟩
              have HG2 : Hid (W.grownBy w2 (some w1.heap.size)) := g2
              have hs2 := g2.size
              have M2 : MRow w2 (w1.heap.size + 1) many vm m := HDW.out.mr.other g2 (by omega) (fun e => by have := HDW.out.vmb _ e; omega)
              have hblk : w2.heap[wr.heap.size]? = W.heap[wr.heap.size]? := g2.block wr.heap.size zW (fun e => by injection e; omega)
              have r1b := (World.cell?_of_block (a := ⟨wr.heap.size, 1, none⟩) hblk).trans r1
              have HB2 : Hid (Below w.heap.size w w2) := below_kb HBW.out HB1.out.size g2 HBW.out.size
              clear hgt r0 r1 r2 r3 r4 r5 g2
              rcases hd with ⟨h0, rfl, v2, K2⟩ | ⟨x, r, v2, v5, us, h0, rfl, K2, R2⟩
              · obtain ⟨hfi, hfo⟩ := find_none HDW.out.r h0
                rw [hfo] at K2
                have hb3 : Below w2.heap.size w2 (w2.alloc (.cells #[.int .u32 0, .int .i64 0, .slice none 0 0] 48)) := below_new _
                have hfn := find_any (M2.stays hb3) (by rw [← HDW.out.r.len]; omega) a.pc
                rw [hfi] at hfn
                have r1c := (hb3.cell (p := ⟨wr.heap.size, 1, none⟩) (World.block_lt_of_cell? _ _ r1b)).trans r1b
                have HT : Hid (AInv w w1 (w2.alloc (.cells #[.int .u32 0, .int .i64 0, .slice none 0 0] 48)) many v2 vm l m) := by
                  have hT2 : AInv w w1 w2 many v2 vm l m := ⟨K2, M2, HDW.out.r, HDW.out.nd, HDW.out.n, HDW.out.e, below_kb HDW.out.b (Nat.le_refl _) HG2.out HDW.out.b.size, HDW.out.vmb⟩
                  exact hT2.stays hb3
                clear K2 hfi hfo h0 hb3 M2
                go_wp2_with fail
                refine hfn.mono ?_
                rintro e w4 ⟨rfl, rfl⟩
                clear hfn
                go_wp2
                go_roundw
                case rel => exact ⟨j + 1, v2, vm, l, m, by omega, by go_num, HT.out⟩
                case measure => simp [intOf]; omega
              · obtain ⟨hr0, hxp, hxl⟩ := HDW.out.nd.one h0
                subst hr0
                obtain ⟨n, y, hfi, hyn, hyp, hxy⟩ := find_some HDW.out.r HDW.out.nd h0
                have hym := List.mem_of_getElem? hyn
                have hmok := HDW.out.e y hym
                obtain ⟨xa, xn, xc, hv5⟩ := own_slice R2.own
                subst hv5
                have hb3 : Below w2.heap.size w2 (w2.alloc (.cells #[.int .u32 x.pc, .int .i64 x.many, .slice xa xn xc] 48)) := below_new _
                have hs3 := hb3.size
                obtain ⟨w3, hw3⟩ : ∃ w3, w2.alloc (.cells #[.int .u32 x.pc, .int .i64 x.many, .slice xa xn xc] 48) = w3 := ⟨_, rfl⟩
                have RP : RowIs w3 w2.heap.size 48 3 (fun k => if k = 0 then .int .u32 x.pc else if k = 1 then .int .i64 x.many else .slice xa xn xc) := by
                  rw [← hw3]
                  exact ⟨_, heap_alloc_new w2 _, rfl, fun k hk => by rcases (by omega : k = 0 ∨ k = 1 ∨ k = 2) with rfl | rfl | rfl <;> rfl⟩
                rw [hw3] at hb3 hs3
                have M3 := M2.stays hb3
                have hml : m.length ≤ 40 := by rw [← HDW.out.r.len]; omega
                have hfn := find_any M3 (by omega) a.pc
                rw [hfi] at hfn
                have r1c := (hb3.cell (p := ⟨wr.heap.size, 1, none⟩) (World.block_lt_of_cell? _ _ r1b)).trans r1b
                have k3 := M3.c1
                have zk3 := M3.lt
                have hnl : n < m.length := (List.getElem?_eq_some_iff.1 hyn).1
                obtain ⟨ma, mc, hvm, _, hmh⟩ := id M3.l
                subst hvm
                obtain ⟨gm, go, rfl, _, hmc⟩ := hmh (by omega)
                obtain ⟨y0, y1, y2, y3⟩ := kept_cells (hmc n y hyn)
                have zy := World.block_lt_of_cell? _ _ y0
                have hnl' : (n : Int) < m.length := by omega
                have hn0 : (0 : Int) ≤ n := by omega
                have hb4 : Below w3.heap.size w3 (w3.alloc (.cells #[.int .u32 y.pc, .int .i64 y.many, .slice y.ra y.rn y.rc, .slice y.ga y.gn y.gc] 51)) := below_new _
                obtain ⟨w4, hw4⟩ : ∃ w4, w3.alloc (.cells #[.int .u32 y.pc, .int .i64 y.many, .slice y.ra y.rn y.rc, .slice y.ga y.gn y.gc] 51) = w4 := ⟨_, rfl⟩
                have RK : RowIs w4 w3.heap.size 51 4 (fun k => if k = 0 then .int .u32 y.pc else if k = 1 then .int .i64 y.many else if k = 2 then .slice y.ra y.rn y.rc else .slice y.ga y.gn y.gc) := by
                  rw [← hw4]
                  exact ⟨_, heap_alloc_new w3 _, rfl, fun k hk => by rcases (by omega : k = 0 ∨ k = 1 ∨ k = 2 ∨ k = 3) with rfl | rfl | rfl | rfl <;> rfl⟩
                rw [hw4] at hb4
                have M4 := M3.stays hb4
                have hmp := mput_any M4 (by omega) y
                have hs4 := hb4.size
                have HRP : Hid (RowIs w4 w2.heap.size 48 3 (fun k => if k = 0 then .int .u32 x.pc else if k = 1 then .int .i64 x.many else .slice xa xn xc)) := RP.stays hb4
                have HRK : Hid (RowIs w4 w3.heap.size 51 4 (fun k => if k = 0 then .int .u32 y.pc else if k = 1 then .int .i64 y.many else if k = 2 then .slice y.ra y.rn y.rc else .slice y.ga y.gn y.gc)) := RK
                have zw2 : w2.heap.size < w3.heap.size := RP.lt
                have zw3 : w3.heap.size < w4.heap.size := RK.lt
                have HB24 : Hid (Below w2.heap.size w2 w4) := hb3.trans (hb4.mono hs3)
                have HXY : Hid (kA x = kB y) := hxy
                have HMOK : Hid (MOk w y) := hmok
                have HR2 : Hid (RwK W.heap.size w2 (.slice xa xn xc) us x.rs) := R2
                have HK2 : Hid (KIs (w1.heap.size + 1) w2 w1.heap.size many v2 (cutK many (l.filter (othK x.pc) ++ [x]))) := by
                  have hlen := filt_partK (atK a.pc) l
                  rw [h0] at hlen
                  have e : l.filter (fun x => !atK a.pc x) = l.filter (othK a.pc) := rfl
                  rw [e] at hlen
                  have hc : cutK many (l.filter (othK x.pc) ++ [x]) = l.filter (othK x.pc) ++ [x] := by
                    unfold cutK
                    rw [if_neg]
                    rw [hxp, List.length_append]
                    have := HDW.out.n
                    simp at hlen ⊢
                    omega
                  show KIs _ _ _ _ _ _
                  rw [hc, hxp]; exact K2
                have p0 : w3.cell? ⟨w2.heap.size, 0, none⟩ = some (.int .u32 x.pc) := RP.cell (j := 0) (by omega)
                have e0 : w4.cell? ⟨w3.heap.size, 0, none⟩ = some (.int .u32 y.pc) := RK.cell (j := 0) (by omega)
                have e1 : w4.cell? ⟨w3.heap.size, 1, none⟩ = some (.int .i64 y.many) := RK.cell (j := 1) (by omega)
                have e2 : w4.cell? ⟨w3.heap.size, 2, none⟩ = some (.slice y.ra y.rn y.rc) := RK.cell (j := 2) (by omega)
                have e3 : w4.cell? ⟨w3.heap.size, 3, none⟩ = some (.slice y.ga y.gn y.gc) := RK.cell (j := 3) (by omega)
                have HPC : Hid (y.pc = a.pc ∧ x.pc = a.pc) := ⟨hyp, hxp⟩
                clear R2 K2 hmh hmc hxy hmok hym hyn hfi h0 hxl hyp hxp RP RK M2 M3 M4 hb3 hb4 p0
                go_wp2_with fail
                refine hfn.mono ?_
                rintro e w9 ⟨rfl, he9⟩
                subst he9
                clear hfn
                go_wp2_with fail
                refine hmp.mono ?_
                rintro e w5 ⟨rfl, ⟨v5m, M5, hv5m⟩, g5⟩
                have b5 : ∀ k, k < w4.heap.size → k ≠ w1.heap.size + 1 → w5.heap[k]? = w4.heap[k]? := fun k hk hne => g5.block k hk (fun e => by injection e with e; exact hne e)
                have RP5 := HRP.out.block (b5 w2.heap.size (by omega) (by omega))
                have RK5 := HRK.out.block (b5 w9.heap.size (by omega) (by omega))
                have hT5 := HDW.out.put (Below.refl _ _) HG2.out HK2.out HB24.out g5 M5 hv5m HXY.out HMOK.out
                have b4 : Below w.heap.size w w4 := HB2.out.trans (HB24.out.mono HB2.out.size)
                have HB5 : Hid (Below w.heap.size w w5) := below_kb b4 (by have := HB1.out.size; omega) g5 b4.size
                have hk5 := kzs HXY.out
                have hRx : RowsI w5 (.slice xa xn xc) x.rs := by
                  refine (HR2.out.blocks (Nat.le_trans HB24.out.size g5.size) fun k h1 h2 => ?_).rows (by rw [hk5.2.1]; exact HMOK.out.rows.ok)
                  have h3 := HB24.out.size
                  rw [b5 k (by omega) (by omega), HB24.out.block k h2]
                have hsr := sameRowsK_any (rs := y.rs) (by rw [← hk5.2.1]; exact hRx) (HMOK.out.rows.stays HB5.out) HMOK.out.few
                have s0 : w5.cell? ⟨w2.heap.size, 0, none⟩ = some (.int .u32 y.pc) := by rw [← hk5.2.2.2]; exact RP5.cell (j := 0) (by omega)
                have s1 : w5.cell? ⟨w2.heap.size, 1, none⟩ = some (.int .i64 y.many) := by rw [← hk5.2.2.1]; exact RP5.cell (j := 1) (by omega)
                have s2 : w5.cell? ⟨w2.heap.size, 2, none⟩ = some (.slice xa xn xc) := RP5.cell (j := 2) (by omega)
                have t0 : w5.cell? ⟨w9.heap.size, 0, none⟩ = some (.int .u32 y.pc) := RK5.cell (j := 0) (by omega)
                have t1 : w5.cell? ⟨w9.heap.size, 1, none⟩ = some (.int .i64 y.many) := RK5.cell (j := 1) (by omega)
                have t2 : w5.cell? ⟨w9.heap.size, 2, none⟩ = some (.slice y.ra y.rn y.rc) := RK5.cell (j := 2) (by omega)
                have zz2 : w2.heap.size < w5.heap.size := by have := g5.size; omega
                have zz3 : w9.heap.size < w5.heap.size := by have := g5.size; omega
                obtain ⟨l8, hl8⟩ : ∃ l8, cutK many (l.filter (othK x.pc) ++ [x]) = l8 := ⟨_, rfl⟩
                obtain ⟨m8, hm8⟩ : ∃ m8, cutK many (m.filter (othK y.pc) ++ [y]) = m8 := ⟨_, rfl⟩
                have HT5 : Hid (AInv w w1 w5 many v2 v5m l8 m8) := by rw [← hl8, ← hm8]; exact hT5
                clear hmp M5 hv5m g5 b5 RP5 RK5 hT5 b4 hk5 hRx hl8 hm8 HRP HRK HK2 HR2 HB24 HG2 HB2 HDW HBW y0 y1 y2 y3 k3 hw3 hw4 r1b r1c e0 e1 e2 e3
                go_wp2_with fail
                refine hsr.mono ?_
                rintro e w6 ⟨rfl, hb6⟩
                have HT : Hid (AInv w w1 w6 many v2 v5m l8 m8) := HT5.out.stays hb6
                have HBX : Hid (Below w.heap.size w w6) := HB5.out.trans (hb6.mono HB5.out.size)
                clear hsr hb6 HT5 HB5 s0 s1 s2 t0 t1 t2
                have hn40 : l8.length ≤ 40 := by have := HT.out.n; omega
                have hmlen : m8.length = l8.length := HT.out.r.len.symm
                obtain ⟨ma, mc, hvmq⟩ := HT.out.mr.form
                subst hvmq
                have km8 := HT.out.mr.c1
                have zm8 := HT.out.mr.lt
                go_wp2
                go_loopw [18, 19] (fun ov i wr => ∃ k : Nat, k ≤ m8.length ∧ i = .int .i64 k ∧ wr.ownsRow w6.heap.size 34 1 ov k (pcL (m8.take k)) ∧ Below w6.heap.size w6 wr) (fun _ i _ => m8.length - (intOf i).toNat)
                case atStart => exact ⟨0, Nat.zero_le _, rfl, World.ownsRow_nil _ _ _ _, Below.refl _ _⟩
                case round =>
                  obtain ⟨k, hk, rfl, ho, hB⟩ := hrel
                  have MW := HT.out.mr.stays hB
                  have k1 := MW.c1
                  have zk := MW.lt
                  have hsX := hB.size
                  by_cases hkl : k < m8.length
                  · obtain ⟨y, hy⟩ : ∃ y, m8[k]? = some y := ⟨_, List.getElem?_eq_getElem hkl⟩
                    obtain ⟨ao2, cap2, e2, _, hh⟩ := MW.l
                    injection e2 with e3 _ e4
                    subst e3
                    subst e4
                    obtain ⟨g, goff, rfl, _, hcell⟩ := hh (by omega)
                    have x0 := (kept_cells (hcell k y hy)).1
                    have zb := World.block_lt_of_cell? _ _ x0
                    have hkl' : (k : Int) < m8.length := by omega
                    have hbA : Below wr.heap.size wr (wr.alloc (.cells #[.int .u32 y.pc] 34)) := below_new _
                    have ho2 := owns_blocks ho fun q e => hbA.block q (own_lt ho q e).1
                    have hn : ∀ (q : Nat) (u : Value), [Value.int .u32 y.pc][q]? = some u → (wr.alloc (.cells #[.int .u32 y.pc] 34)).cell? ((⟨wr.heap.size, 0, none⟩ : Addr).add q) = some u := by
                      intro q u hq
                      rw [add_lit, World.cell?_alloc_at _ _ _ _ rfl]
                      simpa using hq
                    have hs2 : w6.heap.size ≤ (wr.alloc (.cells #[.int .u32 y.pc] 34)).heap.size := Nat.le_trans hsX hbA.size
                    have HN : Hid (∀ v1 w2, w2.ownsRow w6.heap.size 34 1 v1 (k + 1) (pcL (m8.take k) ++ [.int .u32 y.pc]) → (wr.alloc (.cells #[.int .u32 y.pc] 34)).grownBy w2 u18.ownBlock → w2.ownsRow w6.heap.size 34 1 v1 (k + 1) (pcL (m8.take (k + 1))) ∧ Below w6.heap.size w6 w2) := fun v1 w2 h1 h2 => by
                      refine ⟨?_, (hB.trans (hbA.mono hB.size)).grown h2 hs2 fun q e => (own_lt ho q e).2⟩
                      rw [tk_snoc hy, pcL_snoc]; exact h1
                    have HO : Hid ((wr.alloc (.cells #[.int .u32 y.pc] 34)).ownsRow w6.heap.size 34 1 u18 k (pcL (m8.take k))) := ho2
                    clear ho ho2 hB hbA hh hcell hy MW
                    go_wp2_with (at_builtin; refine wpList_append_moved rfl _ _ 57 rfl w6.heap.size 34 j0 _ 1 4 Tryz.underlying57 hj0 jz0 jz1 jz2 rfl (by decide) u18 _ _ rfl HO.out ⟨wr.heap.size, 0, none⟩ 1 1 [.int .u32 y.pc] rfl rfl hn (by simp [Value.oneCell']) (by unfold maxLen; omega) (by omega) hs2 ?_; intro v1 w2 ho1 hg1 hm1; have KN : Hid _ := HN.out v1 w2 ho1 hg1; clear ho1 hg1 hm1 HN HO hn hs2 x0 k1)
                    go_roundw
                    case rel => exact ⟨k + 1, by omega, by go_num, KN.out.1, KN.out.2⟩
                    case measure => simp [intOf]; omega
                  · obtain rfl : k = m8.length := by omega
                    rw [List.take_length] at ho
                    have HTW : Hid (AInv w w1 wr many v2 (.slice ma m8.length mc) l8 m8) := HT.out.stays hB
                    have HBw : Hid (Below w.heap.size w wr) := HBX.out.trans (hB.mono HBX.out.size)
                    have HOm : Hid (wr.ownsRow w6.heap.size 34 1 u18 m8.length (pcL m8)) := ho
                    have hp1 := pcs_any HTW.out.k.row (by omega)
                    obtain ⟨oa, on, oc, hov⟩ := own_slice ho
                    subst hov
                    clear ho hB MW HT HBX
                    go_wp2_with fail
                    refine hp1.mono ?_
                    rintro e wa ⟨va, rfl, hoa, hba⟩
                    have hLl : (l8.map (·.pc)).length = l8.length := by simp
                    have hpe : pcL l8 = (l8.map (·.pc)).map (Value.int .u32) := by unfold pcL; simp
                    have hal1 := alikeK_any (L := l8.map (·.pc)) (by rw [hLl, ← hpe]; exact hoa) (by rw [hLl, ← hpe, HTW.out.r.pcs, ← hmlen]; exact owns_blocks HOm.out fun q e => hba.block q (own_lt HOm.out q e).1) (by omega)
                    have HTa : Hid (AInv w w1 wa many v2 (.slice ma m8.length mc) l8 m8) := HTW.out.stays hba
                    have HBa : Hid (Below w.heap.size w wa) := HBw.out.trans (hba.mono HBw.out.size)
                    obtain ⟨aa, an, ac, hva⟩ := own_slice hoa
                    subst hva
                    clear hp1 hoa hba HTW HBw HOm
                    go_wp2_with fail
                    refine hal1.mono ?_
                    rintro e wb ⟨rfl, hbb⟩
                    have HTb : Hid (AInv w w1 wb many v2 (.slice ma m8.length mc) l8 m8) := HTa.out.stays hbb
                    have HBb : Hid (Below w.heap.size w wb) := HBa.out.trans (hbb.mono HBa.out.size)
                    have hp2 := pages_any HTb.out.k.row (fun x hx => (HTb.out.k.one x hx).here.1) (by omega) (fun x hx => by have := HTb.out.zs x hx; omega)
                    clear hal1 hbb HTa HBa
                    go_wp2_with fail
                    refine hp2.mono ?_
                    rintro e wc ⟨vc, rfl, hoc, hbc⟩
                    have HTc : Hid (AInv w w1 wc many v2 (.slice ma m8.length mc) l8 m8) := HTb.out.stays hbc
                    have HBc : Hid (Below w.heap.size w wc) := HBb.out.trans (hbc.mono HBb.out.size)
                    have HOc : Hid (OwnI wb.heap.size wc vc (rise (allPg l8))) := hoc
                    have hp3 := mpages_any HTc.out.mr (by omega) (fun y hy => ⟨(HTc.out.e y hy).ints.stays HBc.out, by have := (HTc.out.e y hy).z; omega⟩)
                    obtain ⟨ca, cn, cc2, hvc⟩ := own_slice hoc
                    subst hvc
                    clear hp2 hoc hbc HTb HBb
                    go_wp2_with fail
                    refine hp3.mono ?_
                    rintro e wd ⟨vd, rfl, hod, hbd⟩
                    have HTd : Hid (AInv w w1 wd many v2 (.slice ma m8.length mc) l8 m8) := HTc.out.stays hbd
                    have HBd : Hid (Below w.heap.size w wd) := HBc.out.trans (hbd.mono HBc.out.size)
                    have hpl : ((rise (allPg l8)).length : Int) ≤ 1000000 := by
                      have h1 := rise_len (allPg l8)
                      have h2 := allPg_len l8 8 (fun x hx => HTc.out.zs x hx)
                      omega
                    have hsm := sameK_any (L := rise (allPg l8)) ((ints_of_own HOc.out).stays hbd) (by rw [HTc.out.r.pages]; exact ints_of_own hod) hpl
                    obtain ⟨da, dn, dc, hvd⟩ := own_slice hod
                    subst hvd
                    clear hp3 hod hbd HTc HBc HOc
                    go_wp2_with fail
                    refine hsm.mono ?_
                    rintro e we ⟨rfl, hbe⟩
                    have HTe : Hid (AInv w w1 we many v2 (.slice ma m8.length mc) l8 m8) := HTd.out.stays hbe
                    clear hsm hbe HTd HBd
                    go_wp2
                    go_roundw
                    case rel => exact ⟨j + 1, v2, _, l8, m8, by omega, by go_num, HTe.out⟩
                    case measure => simp [intOf]; omega
          · skip
            have hpf := planFault_any (HAX.out.rows.stays HBW.out) HFEW.out a.many HAX.out.many.1 HAX.out.many.2
            rw [HRN.out.1] at hpf
            have hpo := planF_okK a.many a.rs
            obtain ⟨f1, f2, hpF⟩ : ∃ f1 f2, planF a.many a.rs = (f1, f2) := ⟨_, _, rfl⟩
            rw [hpF] at hpf hpo
            have HPF : Hid (planF a.many a.rs = (f1, f2)) := hpF
            have HPO : Hid ((f1, f2) = ((0 : Int), (-1 : Int)) ∨ (1 ≤ f1 ∧ f1 ≤ 10)) := hpo
            clear hpF hpo
            go_wp2_with fail
            refine hpf.mono ?_
            rintro e W2 ⟨rfl, hb2⟩
            have hbF : Below W2.heap.size W2 (W2.alloc (.cells #[.int .i64 f1, .int .i64 f2] 42)) := below_new _
            have hb3 : Below W.heap.size W (W2.alloc (.cells #[.int .i64 f1, .int .i64 f2] 42)) := hb2.trans (hbF.mono hb2.size)
            obtain ⟨V, hV⟩ : ∃ V, W2.alloc (.cells #[.int .i64 f1, .int .i64 f2] 42) = V := ⟨_, rfl⟩
            have c : ∀ (ad : Addr) (x : Value), W.cell? ad = some x → V.cell? ad = some x := fun ad x e => by rw [← hV, hb3.cell (World.block_lt_of_cell? _ _ e)]; exact e
            have hz2 : W.heap.size ≤ W2.heap.size := hb2.size
            have ck0 : CkA V wr.heap.size W2.heap.size a.pc a.many (.slice a.ra a.rs.length a.rc) (.slice a.ga a.zs.length a.gc) f1 f2 := ⟨c _ _ r1, c _ _ r2, c _ _ r3, c _ _ r4, by rw [← hV]; simp, by rw [← hV]; simp⟩
            have HbV : Hid (Below W.heap.size W V.drew) := by rw [← hV]; exact hb3.drew
            have hdV : Below V.heap.size V V.drew := (Below.refl _ _).drew
            have HCK : Hid (CkA V.drew wr.heap.size W2.heap.size a.pc a.many (.slice a.ra a.rs.length a.rc) (.slice a.ga a.zs.length a.gc) f1 f2) := ck0.stays hdV
            have HBV : Hid (Below w.heap.size w V.drew) := HBW.out.trans (HbV.out.mono HBW.out.size)
            have HDV : Hid (AInv w w1 V.drew many vl vm l m) := HDW.out.stays HbV.out
            have zr1 : w1.heap.size + 1 < wr.heap.size := HMB.out
            have zVd : W2.heap.size < V.drew.heap.size := World.block_lt_of_cell? _ _ ck0.f0
            have how := ownRowsK_any (HAX.out.rows.stays HBV.out) HFEW.out
            rw [HRN.out.1] at how
            have hir := HAX.out.ints.stays HBV.out
            rw [HRN.out.2] at hir
            obtain ⟨ga, gcap, hge, hgc2, hgnn, hgi⟩ := hir
            injection hge with hg1 _ hg3
            have HGN : Hid (a.ga = none → a.zs = [] ∧ a.gc = 0) := by rw [hg1, hg3]; exact hgnn
            have HGI : Hid (0 < a.zs.length → ∃ b off : Nat, a.ga = some ⟨b, off, none⟩ ∧ ∀ j, j < a.zs.length → V.drew.cell? ⟨b, off + j, none⟩ = some (.int .i64 (a.zs.getD j 0))) := by rw [hg1]; exact hgi
            clear hpf hb2 hbF hb3 c ck0 hdV hg1 hg3 hgnn hgi HDW HBW
            go_upto_region 27 with fail
            clear hV r0 r1 r2 r3 r4 r5
            refine wp_region_phase 17 [(0, 0), (1, 0), (2, 1), (3, 0), (4, 1), (5, 0), (6, 1), (9, 0), (10, 0), (11, 1), (14, 1), (7, 2), (8, 0), (12, 2), (13, 2), (15, 2), (16, 0)] (fun W => CkA W wr.heap.size W2.heap.size a.pc a.many (.slice a.ra a.rs.length a.rc) (.slice a.ga a.zs.length a.gc) f1 f2) (by kernel_rfl) (by kernel_rfl) (fun _ _ _ d _ h => by cases d <;> exact h) HCK.out ?_
            repeat (first | (refine wpPlanZ_free (by rfl) (by rfl) (fun W => by (go_simp; try with_reducible rfl)) (fun K hK => ?_); go_simp; refine hK _ ?_; clear hK K) | (refine wpPlanZ_quiet (by rfl) (by rfl) (fun W hW => by (obtain ⟨s0, s1, s2, s3, s4, s5⟩ := hW; go_simp; try with_reducible rfl)) (fun K hK => ?_); go_simp; refine hK _ ?_; clear hK K))
            have hzl : a.zs.length ≤ 8 := by omega
            have HWD : Hid (w1.heap.size + 1 < V.drew.heap.size) := by show _ < _; have := HbV.out.size; omega
            refine wpPlanZ_serial (by rfl) (by rfl) (fun K hK => ?_)
            go_simp
            refine how.mono ?_
            rintro e w4 ⟨ur, us, rfl, hR4, hb4⟩
            have CK4 : Hid (CkA w4 wr.heap.size W2.heap.size a.pc a.many (.slice a.ra a.rs.length a.rc) (.slice a.ga a.zs.length a.gc) f1 f2) := HCK.out.stays hb4
            refine hK _ _ (fun _ => CK4.out) ?_
            have HR4 : Hid (RwAt w4 V.drew.heap.size ur us a.rs) := hR4
            have HB4 : Hid (Below V.drew.heap.size V.drew w4) := hb4
            obtain ⟨xa, xn, xc, hvr⟩ := own_slice hR4.own
            subst hvr
            have hs4 := hb4.size
            have hgi4 : 0 < a.zs.length → ∃ b off : Nat, a.ga = some ⟨b, off, none⟩ ∧ ∀ j, j < a.zs.length → w4.cell? ⟨b, off + j, none⟩ = some (.int .i64 (a.zs.getD j 0)) := fun hp => by
              obtain ⟨gb, go, e, hc⟩ := HGI.out hp
              exact ⟨gb, go, e, fun q hq => (hb4.cell (p := ⟨gb, go + q, none⟩) (World.block_lt_of_cell? _ _ (hc q hq))).trans (hc q hq)⟩
            clear hK K how hR4 hb4
            repeat (refine wpPlanZ_free (by rfl) (by rfl) (fun W => by (go_simp; try with_reducible rfl)) (fun K hK => ?_); go_simp; refine hK _ ?_; clear hK K)
            refine wpPlanZ_serial (by rfl) (by rfl) (fun K hK => ?_)
            refine oper_append_rd _ _ rfl rfl rfl HGN.out hgi4 (by omega) ?_
            intro v5 w5 hO5 hb5
            have hb45 : Below V.drew.heap.size V.drew w5 := HB4.out.trans (hb5.mono hs4)
            have CK5 : Hid (CkA w5 wr.heap.size W2.heap.size a.pc a.many (.slice a.ra a.rs.length a.rc) (.slice a.ga a.zs.length a.gc) f1 f2) := CK4.out.stays hb5
            refine hK _ _ (fun _ => CK5.out) ?_
            have HR5 : Hid (KHold (w1.heap.size + 1) w5 w1.heap.size (.slice none 0 0) (fun W => RowsI W (.slice xa xn xc) a.rs)) := hold_rows (HR4.out.stays hb5) (by have := HWD.out; omega) (by have := HWD.out; omega)
            have HO5 : Hid (OwnI V.drew.heap.size w5 v5 a.zs) := own_low hO5 hs4
            have HB5 : Hid (Below w.heap.size w w5) := HBV.out.trans (hb45.mono HBV.out.size)
            have HD5 : Hid (AInv w w1 w5 many vl vm l m) := HDV.out.stays hb45
            have hs5 : V.drew.heap.size ≤ w5.heap.size := hb45.size
            obtain ⟨ya, yn, yc, hv5⟩ := own_slice hO5
            subst hv5
            clear hK K hO5 hb5 hb45 HR4 HB4 CK4 hgi4 HCK HDV HGI
            have hn40 : l.length ≤ 40 := by have := HD5.out.n; omega
            have hv5z : w1.heap.size + 1 < V.drew.heap.size := HWD.out
            rcases HPO.out with hf0 | hf1
            · injection hf0 with hf0 hf00
              subst hf0
              subst hf00
              have hpt := put_ok (mb := w1.heap.size + 1) (peS S) (HE.out.stays HB5.out) HD5.out.k (by omega) (by omega) (HR5.out.and (hold_ownK HO5.out (by omega) (by omega))) HFEW.out (by omega) a.pc a.many HAX.out.many.1 HAX.out.many.2 HPF.out
              refine wpPlanZ_serial (by rfl) (by rfl) (fun K hK => ?_)
              go_simp
              refine hpt.mono ?_
              rintro e w6 ⟨x, v6, rfl, ⟨x1, x2, x3, x4⟩, K6, g6⟩
              have CK6 : Hid (CkA w6 wr.heap.size W2.heap.size a.pc a.many (.slice a.ra a.rs.length a.rc) (.slice a.ga a.zs.length a.gc) 0 (-1)) := CK5.out.grown g6 (by omega) (by omega)
              refine hK _ _ (fun _ => CK6.out) ?_
              have HB6 : Hid (Below w.heap.size w w6) := below_kb HB5.out HB1.out.size g6 HB5.out.size
              have hfa := faulted_any S (HEE.out.stays HB6.out) ((0 : Int), (-1 : Int)) .nilIface (.inl ⟨rfl, rfl⟩) (.inl rfl)
              have HK6 : Hid (KIs (w1.heap.size + 1) w6 w1.heap.size many v6 (cutK many (l.filter (othK x.pc) ++ [x]))) := by rw [x1]; exact K6
              have HG6 : Hid (w5.grownBy w6 (some w1.heap.size)) := g6
              have HXX : Hid (x.pc = a.pc ∧ x.many = a.many ∧ x.zs = rise a.zs ∧ x.rs = a.rs) := ⟨x1, x2, x3, x4⟩
              clear hK K hpt K6 g6 x1 x2 x3 x4 HR5 HO5 CK5
              refine wpPlanZ_serial (by rfl) (by rfl) (fun K hK => ?_)
              go_simp
              refine hfa.mono ?_
              rintro e w7 ⟨rfl, hb7⟩
              have CK7 : CkA w7 wr.heap.size W2.heap.size a.pc a.many (.slice a.ra a.rs.length a.rc) (.slice a.ga a.zs.length a.gc) 0 (-1) := CK6.out.stays hb7
              refine hK _ _ (fun _ => CK7) ?_
              have M6 : MRow w6 (w1.heap.size + 1) many vm m := HD5.out.mr.other HG6.out (by omega) (fun e => by have := HD5.out.vmb _ e; omega)
              have M7 := M6.stays hb7
              have hmp := mput_any M7 (by rw [← HD5.out.r.len]; omega) ⟨a.pc, a.many, a.ra, a.rs.length, a.rc, a.ga, a.zs.length, a.gc, a.zs, a.rs⟩
              have HB7 : Hid (Below w6.heap.size w6 w7) := hb7
              obtain ⟨c1, c2, c3, c4, c5, c6⟩ := id CK7
              have z71 := World.block_lt_of_cell? _ _ c1
              have z72 := World.block_lt_of_cell? _ _ c5
              clear hK K hfa hb7 CK6 M6 M7 CK7
              repeat (refine wpPlanZ_free (by rfl) (by rfl) (fun W => by (go_simp; try with_reducible rfl)) (fun K hK => ?_); go_simp; refine hK _ ?_; clear hK K)
              refine wpPlanZ_nil ?_
              go_wp2_with fail
              refine hmp.mono ?_
              rintro e w8 ⟨rfl, ⟨v8, M8, hv8⟩, g8⟩
              have hyk : MOk w ⟨a.pc, a.many, a.ra, a.rs.length, a.rc, a.ga, a.zs.length, a.gc, a.zs, a.rs⟩ := ⟨by show RowsI w (.slice a.ra a.rs.length a.rc) a.rs; rw [← HRN.out.1]; exact HAX.out.rows, by show IntsRd w (.slice a.ga a.zs.length a.gc) a.zs; rw [← HRN.out.2]; exact HAX.out.ints, HFEW.out, hzl, HPF.out⟩
              have hT8 := HD5.out.put (Below.refl _ _) HG6.out HK6.out HB7.out g8 M8 hv8 (by unfold kA kB; rw [HXX.out.1, HXX.out.2.1, HXX.out.2.2.1, HXX.out.2.2.2]) hyk
              have HBX : Hid (Below w.heap.size w w8) := by
                have b7 : Below w.heap.size w w7 := HB6.out.trans (HB7.out.mono HB6.out.size)
                exact below_kb b7 (by have := HB1.out.size; omega) g8 b7.size
              obtain ⟨l8, hl8⟩ : ∃ l8, cutK many (l.filter (othK x.pc) ++ [x]) = l8 := ⟨_, rfl⟩
              obtain ⟨m8, hm8⟩ : ∃ m8, cutK many (m.filter (othK a.pc) ++ [⟨a.pc, a.many, a.ra, a.rs.length, a.rc, a.ga, a.zs.length, a.gc, a.zs, a.rs⟩]) = m8 := ⟨_, rfl⟩
              have HT : Hid (AInv w w1 w8 many v6 v8 l8 m8) := by rw [← hl8, ← hm8]; exact hT8
              clear hmp M8 hv8 g8 hyk hT8 hl8 hm8 HK6 HG6 HB7 HB6 HD5 HXX HB5 c1 c2 c3 c4 c5 c6
              have hn40 : l8.length ≤ 40 := by have := HT.out.n; omega
              have hmlen : m8.length = l8.length := HT.out.r.len.symm
              obtain ⟨ma, mc, hvmq⟩ := HT.out.mr.form
              subst hvmq
              have km8 := HT.out.mr.c1
              have zm8 := HT.out.mr.lt
              go_wp2
              go_loopw [18, 19] (fun ov i wr => ∃ k : Nat, k ≤ m8.length ∧ i = .int .i64 k ∧ wr.ownsRow w8.heap.size 34 1 ov k (pcL (m8.take k)) ∧ Below w8.heap.size w8 wr) (fun _ i _ => m8.length - (intOf i).toNat)
              case atStart => exact ⟨0, Nat.zero_le _, rfl, World.ownsRow_nil _ _ _ _, Below.refl _ _⟩
              case round =>
                obtain ⟨k, hk, rfl, ho, hB⟩ := hrel
                have MW := HT.out.mr.stays hB
                have k1 := MW.c1
                have zk := MW.lt
                have hsX := hB.size
                by_cases hkl : k < m8.length
                · obtain ⟨y, hy⟩ : ∃ y, m8[k]? = some y := ⟨_, List.getElem?_eq_getElem hkl⟩
                  obtain ⟨ao2, cap2, e2, _, hh⟩ := MW.l
                  injection e2 with e3 _ e4
                  subst e3
                  subst e4
                  obtain ⟨g, goff, rfl, _, hcell⟩ := hh (by omega)
                  have x0 := (kept_cells (hcell k y hy)).1
                  have zb := World.block_lt_of_cell? _ _ x0
                  have hkl' : (k : Int) < m8.length := by omega
                  have hbA : Below wr.heap.size wr (wr.alloc (.cells #[.int .u32 y.pc] 34)) := below_new _
                  have ho2 := owns_blocks ho fun q e => hbA.block q (own_lt ho q e).1
                  have hn : ∀ (q : Nat) (u : Value), [Value.int .u32 y.pc][q]? = some u → (wr.alloc (.cells #[.int .u32 y.pc] 34)).cell? ((⟨wr.heap.size, 0, none⟩ : Addr).add q) = some u := by
                    intro q u hq
                    rw [add_lit, World.cell?_alloc_at _ _ _ _ rfl]
                    simpa using hq
                  have hs2 : w8.heap.size ≤ (wr.alloc (.cells #[.int .u32 y.pc] 34)).heap.size := Nat.le_trans hsX hbA.size
                  have HN : Hid (∀ v1 w2, w2.ownsRow w8.heap.size 34 1 v1 (k + 1) (pcL (m8.take k) ++ [.int .u32 y.pc]) → (wr.alloc (.cells #[.int .u32 y.pc] 34)).grownBy w2 u18.ownBlock → w2.ownsRow w8.heap.size 34 1 v1 (k + 1) (pcL (m8.take (k + 1))) ∧ Below w8.heap.size w8 w2) := fun v1 w2 h1 h2 => by
                    refine ⟨?_, (hB.trans (hbA.mono hB.size)).grown h2 hs2 fun q e => (own_lt ho q e).2⟩
                    rw [tk_snoc hy, pcL_snoc]; exact h1
                  have HO : Hid ((wr.alloc (.cells #[.int .u32 y.pc] 34)).ownsRow w8.heap.size 34 1 u18 k (pcL (m8.take k))) := ho2
                  clear ho ho2 hB hbA hh hcell hy MW
                  go_wp2_with (at_builtin; refine wpList_append_moved rfl _ _ 57 rfl w8.heap.size 34 j0 _ 1 4 Tryz.underlying57 hj0 jz0 jz1 jz2 rfl (by decide) u18 _ _ rfl HO.out ⟨wr.heap.size, 0, none⟩ 1 1 [.int .u32 y.pc] rfl rfl hn (by simp [Value.oneCell']) (by unfold maxLen; omega) (by omega) hs2 ?_; intro v1 w2 ho1 hg1 hm1; have KN : Hid _ := HN.out v1 w2 ho1 hg1; clear ho1 hg1 hm1 HN HO hn hs2 x0 k1)
                  go_roundw
                  case rel => exact ⟨k + 1, by omega, by go_num, KN.out.1, KN.out.2⟩
                  case measure => simp [intOf]; omega
                · obtain rfl : k = m8.length := by omega
                  rw [List.take_length] at ho
                  have HTW : Hid (AInv w w1 wr many v6 (.slice ma m8.length mc) l8 m8) := HT.out.stays hB
                  have HBw : Hid (Below w.heap.size w wr) := HBX.out.trans (hB.mono HBX.out.size)
                  have HOm : Hid (wr.ownsRow w8.heap.size 34 1 u18 m8.length (pcL m8)) := ho
                  have hp1 := pcs_any HTW.out.k.row (by omega)
                  obtain ⟨oa, on, oc, hov⟩ := own_slice ho
                  subst hov
                  clear ho hB MW HT HBX
                  go_wp2_with fail
                  refine hp1.mono ?_
                  rintro e wa ⟨va, rfl, hoa, hba⟩
                  have hLl : (l8.map (·.pc)).length = l8.length := by simp
                  have hpe : pcL l8 = (l8.map (·.pc)).map (Value.int .u32) := by unfold pcL; simp
                  have hal1 := alikeK_any (L := l8.map (·.pc)) (by rw [hLl, ← hpe]; exact hoa) (by rw [hLl, ← hpe, HTW.out.r.pcs, ← hmlen]; exact owns_blocks HOm.out fun q e => hba.block q (own_lt HOm.out q e).1) (by omega)
                  have HTa : Hid (AInv w w1 wa many v6 (.slice ma m8.length mc) l8 m8) := HTW.out.stays hba
                  have HBa : Hid (Below w.heap.size w wa) := HBw.out.trans (hba.mono HBw.out.size)
                  obtain ⟨aa, an, ac, hva⟩ := own_slice hoa
                  subst hva
                  clear hp1 hoa hba HTW HBw HOm
                  go_wp2_with fail
                  refine hal1.mono ?_
                  rintro e wb ⟨rfl, hbb⟩
                  have HTb : Hid (AInv w w1 wb many v6 (.slice ma m8.length mc) l8 m8) := HTa.out.stays hbb
                  have HBb : Hid (Below w.heap.size w wb) := HBa.out.trans (hbb.mono HBa.out.size)
                  have hp2 := pages_any HTb.out.k.row (fun x hx => (HTb.out.k.one x hx).here.1) (by omega) (fun x hx => by have := HTb.out.zs x hx; omega)
                  clear hal1 hbb HTa HBa
                  go_wp2_with fail
                  refine hp2.mono ?_
                  rintro e wc ⟨vc, rfl, hoc, hbc⟩
                  have HTc : Hid (AInv w w1 wc many v6 (.slice ma m8.length mc) l8 m8) := HTb.out.stays hbc
                  have HBc : Hid (Below w.heap.size w wc) := HBb.out.trans (hbc.mono HBb.out.size)
                  have HOc : Hid (OwnI wb.heap.size wc vc (rise (allPg l8))) := hoc
                  have hp3 := mpages_any HTc.out.mr (by omega) (fun y hy => ⟨(HTc.out.e y hy).ints.stays HBc.out, by have := (HTc.out.e y hy).z; omega⟩)
                  obtain ⟨ca, cn, cc2, hvc⟩ := own_slice hoc
                  subst hvc
                  clear hp2 hoc hbc HTb HBb
                  go_wp2_with fail
                  refine hp3.mono ?_
                  rintro e wd ⟨vd, rfl, hod, hbd⟩
                  have HTd : Hid (AInv w w1 wd many v6 (.slice ma m8.length mc) l8 m8) := HTc.out.stays hbd
                  have HBd : Hid (Below w.heap.size w wd) := HBc.out.trans (hbd.mono HBc.out.size)
                  have hpl : ((rise (allPg l8)).length : Int) ≤ 1000000 := by
                    have h1 := rise_len (allPg l8)
                    have h2 := allPg_len l8 8 (fun x hx => HTc.out.zs x hx)
                    omega
                  have hsm := sameK_any (L := rise (allPg l8)) ((ints_of_own HOc.out).stays hbd) (by rw [HTc.out.r.pages]; exact ints_of_own hod) hpl
                  obtain ⟨da, dn, dc, hvd⟩ := own_slice hod
                  subst hvd
                  clear hp3 hod hbd HTc HBc HOc
                  go_wp2_with fail
                  refine hsm.mono ?_
                  rintro e we ⟨rfl, hbe⟩
                  have HTe : Hid (AInv w w1 we many v6 (.slice ma m8.length mc) l8 m8) := HTd.out.stays hbe
                  clear hsm hbe HTd HBd
                  go_wp2
                  go_roundw
                  case rel => exact ⟨j + 1, v6, _, l8, m8, by omega, by go_num, HTe.out⟩
                  case measure => simp [intOf]; omega
            · have hfne : f1 ≠ 0 := by omega
              have hpt := put_bad (peS S) (gv := .slice ya yn yc) (kp := .pointer (some ⟨w1.heap.size, 0, none⟩)) (HE.out.stays HB5.out) HR5.out.here HFEW.out a.pc a.many HAX.out.many.1 HAX.out.many.2 (by rw [HPF.out]; exact hfne)
              rw [HPF.out] at hpt
              refine wpPlanZ_serial (by rfl) (by rfl) (fun K hK => ?_)
              go_simp
              refine hpt.mono ?_
              rintro e w6 ⟨⟨xe, rfl, hxe⟩, hb6⟩
              have CK6 : Hid (CkA w6 wr.heap.size W2.heap.size a.pc a.many (.slice a.ra a.rs.length a.rc) (.slice a.ga a.zs.length a.gc) f1 f2) := CK5.out.stays hb6
              refine hK _ _ (fun _ => CK6.out) ?_
              have HB6 : Hid (Below w.heap.size w w6) := HB5.out.trans (hb6.mono HB5.out.size)
              have hfa := faulted_any S (HEE.out.stays HB6.out) (f1, f2) xe hxe (.inr hf1)
              have HT6 : Hid (AInv w w1 w6 many vl vm l m) := HD5.out.stays hb6
              clear hK K hpt hxe hb6 HR5 HO5 CK5 HD5
              refine wpPlanZ_serial (by rfl) (by rfl) (fun K hK => ?_)
              go_simp
              refine hfa.mono ?_
              rintro e w7 ⟨rfl, hb7⟩
              have CK7 : CkA w7 wr.heap.size W2.heap.size a.pc a.many (.slice a.ra a.rs.length a.rc) (.slice a.ga a.zs.length a.gc) f1 f2 := CK6.out.stays hb7
              refine hK _ _ (fun _ => CK7) ?_
              have HT : Hid (AInv w w1 w7 many vl vm l m) := HT6.out.stays hb7
              have HBX : Hid (Below w.heap.size w w7) := HB6.out.trans (hb7.mono HB6.out.size)
              have c5 := CK7.f0
              have z72 := World.block_lt_of_cell? _ _ c5
              have hfne' : (f1 == 0) = false := by simpa using hfne
              clear hK K hfa hb7 CK6 CK7 HT6 HB6 HB5
              repeat (refine wpPlanZ_free (by rfl) (by rfl) (fun W => by (go_simp; try with_reducible rfl)) (fun K hK => ?_); go_simp; refine hK _ ?_; clear hK K)
              refine wpPlanZ_nil ?_
              have hn40 : l.length ≤ 40 := by have := HT.out.n; omega
              have hmlen : m.length = l.length := HT.out.r.len.symm
              obtain ⟨ma, mc, hvmq⟩ := HT.out.mr.form
              subst hvmq
              have km := HT.out.mr.c1
              have zm := HT.out.mr.lt
              go_wp2
              go_loopw [18, 19] (fun ov i wr => ∃ k : Nat, k ≤ m.length ∧ i = .int .i64 k ∧ wr.ownsRow w7.heap.size 34 1 ov k (pcL (m.take k)) ∧ Below w7.heap.size w7 wr) (fun _ i _ => m.length - (intOf i).toNat)
              case atStart => exact ⟨0, Nat.zero_le _, rfl, World.ownsRow_nil _ _ _ _, Below.refl _ _⟩
              case round =>
                obtain ⟨k, hk, rfl, ho, hB⟩ := hrel
                have MW := HT.out.mr.stays hB
                have k1 := MW.c1
                have zk := MW.lt
                have hsX := hB.size
                by_cases hkl : k < m.length
                · obtain ⟨y, hy⟩ : ∃ y, m[k]? = some y := ⟨_, List.getElem?_eq_getElem hkl⟩
                  obtain ⟨ao2, cap2, e2, _, hh⟩ := MW.l
                  injection e2 with e3 _ e4
                  subst e3
                  subst e4
                  obtain ⟨g, goff, rfl, _, hcell⟩ := hh (by omega)
                  have x0 := (kept_cells (hcell k y hy)).1
                  have zb := World.block_lt_of_cell? _ _ x0
                  have hkl' : (k : Int) < m.length := by omega
                  have hbA : Below wr.heap.size wr (wr.alloc (.cells #[.int .u32 y.pc] 34)) := below_new _
                  have ho2 := owns_blocks ho fun q e => hbA.block q (own_lt ho q e).1
                  have hn : ∀ (q : Nat) (u : Value), [Value.int .u32 y.pc][q]? = some u → (wr.alloc (.cells #[.int .u32 y.pc] 34)).cell? ((⟨wr.heap.size, 0, none⟩ : Addr).add q) = some u := by
                    intro q u hq
                    rw [add_lit, World.cell?_alloc_at _ _ _ _ rfl]
                    simpa using hq
                  have hs2 : w7.heap.size ≤ (wr.alloc (.cells #[.int .u32 y.pc] 34)).heap.size := Nat.le_trans hsX hbA.size
                  have HN : Hid (∀ v1 w2, w2.ownsRow w7.heap.size 34 1 v1 (k + 1) (pcL (m.take k) ++ [.int .u32 y.pc]) → (wr.alloc (.cells #[.int .u32 y.pc] 34)).grownBy w2 u18.ownBlock → w2.ownsRow w7.heap.size 34 1 v1 (k + 1) (pcL (m.take (k + 1))) ∧ Below w7.heap.size w7 w2) := fun v1 w2 h1 h2 => by
                    refine ⟨?_, (hB.trans (hbA.mono hB.size)).grown h2 hs2 fun q e => (own_lt ho q e).2⟩
                    rw [tk_snoc hy, pcL_snoc]; exact h1
                  have HO : Hid ((wr.alloc (.cells #[.int .u32 y.pc] 34)).ownsRow w7.heap.size 34 1 u18 k (pcL (m.take k))) := ho2
                  clear ho ho2 hB hbA hh hcell hy MW
                  go_wp2_with (at_builtin; refine wpList_append_moved rfl _ _ 57 rfl w7.heap.size 34 j0 _ 1 4 Tryz.underlying57 hj0 jz0 jz1 jz2 rfl (by decide) u18 _ _ rfl HO.out ⟨wr.heap.size, 0, none⟩ 1 1 [.int .u32 y.pc] rfl rfl hn (by simp [Value.oneCell']) (by unfold maxLen; omega) (by omega) hs2 ?_; intro v1 w2 ho1 hg1 hm1; have KN : Hid _ := HN.out v1 w2 ho1 hg1; clear ho1 hg1 hm1 HN HO hn hs2 x0 k1)
                  go_roundw
                  case rel => exact ⟨k + 1, by omega, by go_num, KN.out.1, KN.out.2⟩
                  case measure => simp [intOf]; omega
                · obtain rfl : k = m.length := by omega
                  rw [List.take_length] at ho
                  have HTW : Hid (AInv w w1 wr many vl (.slice ma m.length mc) l m) := HT.out.stays hB
                  have HBw : Hid (Below w.heap.size w wr) := HBX.out.trans (hB.mono HBX.out.size)
                  have HOm : Hid (wr.ownsRow w7.heap.size 34 1 u18 m.length (pcL m)) := ho
                  have hp1 := pcs_any HTW.out.k.row (by omega)
                  obtain ⟨oa, on, oc, hov⟩ := own_slice ho
                  subst hov
                  clear ho hB MW HT HBX
                  go_wp2_with fail
                  refine hp1.mono ?_
                  rintro e wa ⟨va, rfl, hoa, hba⟩
                  have hLl : (l.map (·.pc)).length = l.length := by simp
                  have hpe : pcL l = (l.map (·.pc)).map (Value.int .u32) := by unfold pcL; simp
                  have hal1 := alikeK_any (L := l.map (·.pc)) (by rw [hLl, ← hpe]; exact hoa) (by rw [hLl, ← hpe, HTW.out.r.pcs, ← hmlen]; exact owns_blocks HOm.out fun q e => hba.block q (own_lt HOm.out q e).1) (by omega)
                  have HTa : Hid (AInv w w1 wa many vl (.slice ma m.length mc) l m) := HTW.out.stays hba
                  have HBa : Hid (Below w.heap.size w wa) := HBw.out.trans (hba.mono HBw.out.size)
                  obtain ⟨aa, an, ac, hva⟩ := own_slice hoa
                  subst hva
                  clear hp1 hoa hba HTW HBw HOm
                  go_wp2_with fail
                  refine hal1.mono ?_
                  rintro e wb ⟨rfl, hbb⟩
                  have HTb : Hid (AInv w w1 wb many vl (.slice ma m.length mc) l m) := HTa.out.stays hbb
                  have HBb : Hid (Below w.heap.size w wb) := HBa.out.trans (hbb.mono HBa.out.size)
                  have hp2 := pages_any HTb.out.k.row (fun x hx => (HTb.out.k.one x hx).here.1) (by omega) (fun x hx => by have := HTb.out.zs x hx; omega)
                  clear hal1 hbb HTa HBa
                  go_wp2_with fail
                  refine hp2.mono ?_
                  rintro e wc ⟨vc, rfl, hoc, hbc⟩
                  have HTc : Hid (AInv w w1 wc many vl (.slice ma m.length mc) l m) := HTb.out.stays hbc
                  have HBc : Hid (Below w.heap.size w wc) := HBb.out.trans (hbc.mono HBb.out.size)
                  have HOc : Hid (OwnI wb.heap.size wc vc (rise (allPg l))) := hoc
                  have hp3 := mpages_any HTc.out.mr (by omega) (fun y hy => ⟨(HTc.out.e y hy).ints.stays HBc.out, by have := (HTc.out.e y hy).z; omega⟩)
                  obtain ⟨ca, cn, cc2, hvc⟩ := own_slice hoc
                  subst hvc
                  clear hp2 hoc hbc HTb HBb
                  go_wp2_with fail
                  refine hp3.mono ?_
                  rintro e wd ⟨vd, rfl, hod, hbd⟩
                  have HTd : Hid (AInv w w1 wd many vl (.slice ma m.length mc) l m) := HTc.out.stays hbd
                  have HBd : Hid (Below w.heap.size w wd) := HBc.out.trans (hbd.mono HBc.out.size)
                  have hpl : ((rise (allPg l)).length : Int) ≤ 1000000 := by
                    have h1 := rise_len (allPg l)
                    have h2 := allPg_len l 8 (fun x hx => HTc.out.zs x hx)
                    omega
                  have hsm := sameK_any (L := rise (allPg l)) ((ints_of_own HOc.out).stays hbd) (by rw [HTc.out.r.pages]; exact ints_of_own hod) hpl
                  obtain ⟨da, dn, dc, hvd⟩ := own_slice hod
                  subst hvd
                  clear hp3 hod hbd HTc HBc HOc
                  go_wp2_with fail
                  refine hsm.mono ?_
                  rintro e we ⟨rfl, hbe⟩
                  have HTe : Hid (AInv w w1 we many vl (.slice ma m.length mc) l m) := HTd.out.stays hbe
                  clear hsm hbe HTd HBd
                  go_wp2
                  go_roundw
                  case rel => exact ⟨j + 1, vl, _, l, m, by omega, by go_num, HTe.out⟩
                  case measure => simp [intOf]; omega
    · obtain rfl : j = al.length := by omega
      clear D hB0
      go_wp2
      go_ret
      exact ⟨rfl, HB0.out⟩
end Go.Proofs.YtcccaejjhodnkabGreatDoor
