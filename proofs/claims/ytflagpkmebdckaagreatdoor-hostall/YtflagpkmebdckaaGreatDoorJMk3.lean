/-
  Package plan: the rows of a maker in memory; what is found with room.
-/
import Derived.Test.YtflagpkmebdckaaGreatDoorKIrChk2
import Derived.Test.YtflagpkmebdckaaGreatDoorJPl1
import Derived.Test.YtflagpkmebdckaaGreatDoorJMk1
import Derived.Test.YtflagpkmebdckaaGreatDoorKRowsI
namespace Go.Proofs.YtflagpkmebdckaaGreatDoor
open Go.RowKit Go.Maps
open Num
set_option linter.unusedVariables false
theorem oper_append_movedP {P : Program} {o : Oper} {a : Act} {w : World} {K : Act → World → Prop} {Q : Exit → Act → World → Prop} (s x : Operand) (t : TypeId)
    (ho : o.op = .call { callee := .builtin .append, args := #[s, x], argTypes := #[t, t] })
    (base : Nat) (e : TypeId) (i : TypeInfo) (z : Value) (size bytes : Nat) (ht : P.underlying t = some (.slice e)) (hi : P.info? e = some i) (hz : i.zero = some z)
    (hsize : i.size = size) (hby : i.bytes = bytes) (hzs : z.cells.size = size) (hsz : 0 < size)
    (v : Value) (n : Nat) (xs : List Value) (hs : a.eval s = v) (hown : w.ownsRow base e size v n xs)
    (ad : Addr) (m c : Nat) (news : List Value) (hx : a.eval x = .slice (some ad) m c) (hl : news.length = m * size) (hnews : ∀ j u, news[j]? = some u → w.cell? (ad.add j) = some u) (h1 : ∀ u ∈ news, u.oneCell' = true)
    (h63 : n + m ≤ maxLen) (hbytes : (n + m) * bytes ≤ 140737488355328) (hbase : base ≤ w.heap.size)
    (h : ∀ v' w', w'.ownsRow base e size v' (n + m) (xs ++ news) → w.grownBy w' v.ownBlock → Moved w v v' → K (a.put o.dst v') w') : Oper.wp P o a w K Q := by
  obtain ⟨v', w', hr, h2, h3, h4⟩ := run_append_moved (P := P) w base t o.type e i z size bytes ht hi hz hsize hby hzs hsz v n xs hown ad m c news hl hnews h1 h63 hbytes hbase
  unfold Oper.wp execOp
  simp only [ho, resolve, invoke, builtin, Sem.run_bind, Sem.run_pure, Result.andThen_ok, List.map_toArray, List.map_cons, List.map_nil, hs, hx, hr]
  exact h v' w' h2 h3 h4
/-- rows that are their maker's own -/
structure RwAt (W : World) (base : Nat) (vr : Value) (us : List Value) (rs : List (List Opx)) : Prop where
  own : W.ownsRow base 52 1 vr rs.length us
  each : ∀ (k : Nat) (u : Value) (row : List Opx), us[k]? = some u → rs[k]? = some row → W.ownsRow base 139 6 u row.length (opL row) ∧ ∀ g, u.ownBlock = some g → vr.ownBlock ≠ some g
  apart : ∀ (k k' : Nat) (u u' : Value) (g : Nat), us[k]? = some u → us[k']? = some u' → k ≠ k' → u.ownBlock = some g → u'.ownBlock ≠ some g
  ok : ∀ row ∈ rs, ∀ o ∈ row, o.ok
section
variable {W W' : World} {base : Nat} {vr : Value} {us : List Value} {rs : List (List Opx)}
theorem RwAt.len (R : RwAt W base vr us rs) : us.length = rs.length := by have := R.own.1; omega
theorem RwAt.vlt (R : RwAt W base vr us rs) : ∀ k, vr.ownBlock = some k → base ≤ k ∧ k < W.heap.size := R.own.lt
theorem RwAt.ult (R : RwAt W base vr us rs) {k : Nat} {u : Value} (hu : us[k]? = some u) : ∀ g, u.ownBlock = some g → base ≤ g ∧ g < W.heap.size := by
  have hk : k < rs.length := by rw [← R.len]; exact (List.getElem?_eq_some_iff.1 hu).1
  exact (R.each k u _ hu (List.getElem?_eq_getElem hk)).1.lt
theorem RwAt.blocks (R : RwAt W base vr us rs) (h : ∀ k, base ≤ k → k < W.heap.size → W'.heap[k]? = W.heap[k]?) : RwAt W' base vr us rs where
  own := owns_blocks R.own fun k hk => h k (R.vlt k hk).1 (R.vlt k hk).2
  each := fun k u row hu hr => ⟨owns_blocks (R.each k u row hu hr).1 fun g hg => h g (R.ult hu g hg).1 (R.ult hu g hg).2, (R.each k u row hu hr).2⟩
  apart := R.apart
  ok := R.ok
theorem RwAt.stays (R : RwAt W base vr us rs) (h : Below W.heap.size W W') : RwAt W' base vr us rs := R.blocks fun k _ hk => h.block k hk
theorem RwAt.note {mb : Nat} (R : RwAt W base vr us rs) (hb : mb < base) (h : W.grownBy W' (some mb)) : RwAt W' base vr us rs := R.blocks fun k hk1 hk => h.block k hk (by intro e; have := Option.some.inj e; omega)
theorem RwAt.ops (R : RwAt W base vr us rs) {k : Nat} {u : Value} {row : List Opx} (hu : us[k]? = some u) (hr : rs[k]? = some row) : OpsIn W u row :=
  ops_of_row (n := 0) (R.each k u row hu hr).1 (R.ok row (List.mem_of_getElem? hr))
theorem RwAt.form (R : RwAt W base vr us rs) (hp : 0 < rs.length) : ∃ g cap, vr = .slice (some ⟨g, 0, none⟩) rs.length cap ∧ rs.length ≤ cap ∧ base ≤ g ∧ ∀ (i : Nat) (u : Value), us[i]? = some u → W.cell? ⟨g, i, none⟩ = some u := by
  obtain ⟨h1, h2⟩ := R.own
  rcases h2 with ⟨_, hn⟩ | ⟨g, cap, cur, hv, hb, hg, r1, r2, r3, r4⟩
  · omega
  · refine ⟨g, cap, hv, r1, hb, fun i u hu => ?_⟩
    rw [cell_of_row _ _ _ _ _ _ hg]
    have hi : i < us.length := (List.getElem?_eq_some_iff.1 hu).1
    have : (cur.toList.take (rs.length * 1))[i]? = some u := by rw [r4]; exact hu
    rw [List.getElem?_take, if_pos (by rw [← h1]; exact hi)] at this
    rw [← Array.getElem?_toList]; exact this
theorem RwAt.rows (R : RwAt W base vr us rs) : RowsI W vr rs := by
  by_cases hp : 0 < rs.length
  · obtain ⟨g, cap, hv, hc, hb, hcell⟩ := R.form hp
    refine ⟨_, cap, hv, hc, fun _ => ⟨g, 0, rfl, fun i row hi => ?_⟩⟩
    have hil : i < us.length := by rw [R.len]; exact (List.getElem?_eq_some_iff.1 hi).1
    exact ⟨us[i], by rw [Nat.zero_add]; exact hcell i _ (List.getElem?_eq_getElem hil), R.ops (List.getElem?_eq_getElem hil) hi⟩
  · have h0 : rs.length = 0 := by omega
    obtain ⟨h1, h2⟩ := R.own
    rcases h2 with ⟨hv, hn⟩ | ⟨g, cap, cur, hv, hb, hg, r1, r2, r3, r4⟩
    · exact ⟨none, 0, by rw [hv, h0], by omega, fun h => by omega⟩
    · exact ⟨_, cap, hv, r1, fun h => by omega⟩
theorem RowsI.nil {v : Value} {n : Nat} {ao : Option Addr} {cap : Nat} (hv : v = .slice ao 0 cap) : RowsI W v [] := ⟨ao, cap, hv, Nat.zero_le _, fun h => by simp at h⟩
/-- rows from a place on -/
theorem RwAt.drop (R : RwAt W base vr us rs) (f : Nat) (hf : f ≤ rs.length) (hm : rs.length ≤ 100000) : ∃ X, (∀ W' : World, (Instr.slice 77 vr (some (.int .i64 (f : Int))) none none).run Tryz.prog W' = .ok X W') ∧ RowsI W X (rs.drop f) := by
  have e1 : ∀ W' : World, (sizeOf 52).run Tryz.prog W' = .ok 1 W' := fun W' => by kernel_rfl
  by_cases hp : 0 < rs.length
  · obtain ⟨g, cap, hv, hc, hb, hcell⟩ := R.form hp
    subst hv
    have hrun : ∀ W' : World, (Instr.slice 77 (.slice (some ⟨g, 0, none⟩) rs.length cap) (some (.int .i64 (f : Int))) none none).run Tryz.prog W' = .ok (.slice (if cap = f then some ⟨g, 0, none⟩ else some ⟨g, f, none⟩) (rs.length - f) (cap - f)) W' := fun W' => by
      have hi : ((f : Int) : Int) ≤ (rs.length : Int) := by omega
      have h0 : (0 : Int) ≤ (f : Int) := by omega
      unfold Instr.slice
      simp [run_underlying Tryz.underlying77, Instr.sliceBounds, run_sliceBound, hi, h0, e1, go_sem]
    refine ⟨_, hrun, ?_⟩
    have hl : (rs.drop f).length = rs.length - f := List.length_drop
    by_cases hcf : cap = f
    · have h0 : rs.drop f = [] := List.drop_eq_nil_of_le (by omega)
      rw [h0, if_pos hcf]
      exact ⟨_, _, by rw [show rs.length - f = 0 by omega]; rfl, Nat.zero_le _, fun h => by simp at h⟩
    · rw [if_neg hcf]
      refine ⟨_, cap - f, by rw [hl], by rw [hl]; omega, fun _ => ⟨g, f, rfl, fun i row hi => ?_⟩⟩
      rw [List.getElem?_drop] at hi
      have hil : f + i < us.length := by rw [R.len]; exact (List.getElem?_eq_some_iff.1 hi).1
      exact ⟨us[f + i], hcell (f + i) _ (List.getElem?_eq_getElem hil), R.ops (List.getElem?_eq_getElem hil) hi⟩
  · have h0 : rs.length = 0 := by omega
    have hf0 : f = 0 := by omega
    subst hf0
    obtain ⟨ao, cap, hv, _, _⟩ := R.rows
    subst hv
    rw [h0]
    refine ⟨.slice ao 0 cap, fun W' => ?_, ?_⟩
    · unfold Instr.slice
      simp [run_underlying Tryz.underlying77, Instr.sliceBounds, run_sliceBound, e1, go_sem]
    · rw [List.drop_zero, List.length_eq_zero_iff.1 h0]; exact RowsI.nil (n := 0) rfl
/-- one row more, with nothing in it -/
theorem RwAt.snoc {W1 : World} {v' : Value} (R : RwAt W1 base vr us rs) (ho : W'.ownsRow base 52 1 v' (rs.length + 1) (us ++ [.slice none 0 0])) (hg : W1.grownBy W' vr.ownBlock) (hm : Moved W1 vr v') : RwAt W' base v' (us ++ [.slice none 0 0]) (rs ++ [[]]) := by
  have hl := R.len
  have at_ : ∀ k u, (us ++ [Value.slice none 0 0])[k]? = some u → (k < us.length ∧ us[k]? = some u) ∨ (k = us.length ∧ u = .slice none 0 0) := by
    intro k u h
    by_cases hk : k < us.length
    · rw [List.getElem?_append_left hk] at h; exact .inl ⟨hk, h⟩
    · rw [List.getElem?_append_right (by omega)] at h
      have h0 : k - us.length = 0 := by
        rcases Nat.eq_zero_or_pos (k - us.length) with h' | h'
        · exact h'
        · rw [List.getElem?_eq_none (by simp; omega)] at h; cases h
      rw [h0] at h
      exact .inr ⟨by omega, by simpa using h.symm⟩
  refine ⟨by rw [List.length_append]; exact ho, fun k u row hu hr => ?_, fun k k' u u' g hu hu' hne hg' => ?_, fun row hr => ?_⟩
  · rcases at_ k u hu with ⟨hk, hu⟩ | ⟨hk, rfl⟩
    · rw [List.getElem?_append_left (by omega)] at hr
      obtain ⟨h1, h2⟩ := R.each k u row hu hr
      refine ⟨h1.kept hg ?_, fun g hgu hv => ?_⟩
      · cases hob : u.ownBlock with
        | none => exact .inl rfl
        | some g => exact .inr (Ne.symm (h2 g hob))
      · rcases hm g hv with h | h
        · exact h2 g hgu h
        · have := (R.ult hu g hgu).2; omega
    · rw [List.getElem?_append_right (by omega), show k - rs.length = 0 by omega] at hr
      obtain rfl : [] = row := by simpa using hr
      exact ⟨World.ownsRow_nil _ _ _ _, fun g hgu => by cases hgu⟩
  · rcases at_ k u hu with ⟨hk, hu⟩ | ⟨hk, rfl⟩
    · rcases at_ k' u' hu' with ⟨hk', hu'⟩ | ⟨hk', rfl⟩
      · exact R.apart k k' u u' g hu hu' hne hg'
      · intro h; cases h
    · cases hg'
  · rcases List.mem_append.1 hr with h | h
    · exact R.ok row h
    · simp at h; subst h; intro o ho; cases ho
theorem opL_snoc (l : List Opx) (o : Opx) : opL (l ++ [o]) = opL l ++ opC o := by unfold opL; rw [List.flatMap_append]; simp
/-- one op more in a row -/
theorem RwAt.push {W1 : World} {v' u : Value} {g cap n : Nat} {row : List Opx} {o : Opx} (R : RwAt W1 base (.slice (some ⟨g, 0, none⟩) rs.length cap) us rs) (hu : us[n]? = some u) (hr : rs[n]? = some row) (ok : o.ok) (ho : W'.ownsRow base 139 6 v' (row.length + 1) (opL row ++ opC o)) (hg : W1.grownBy W' u.ownBlock) (hm : Moved W1 u v') :
    RwAt (W'.setCell ⟨g, n, none⟩ v') base (.slice (some ⟨g, 0, none⟩) rs.length cap) (us.set n v') (rs.modify n (· ++ [o])) := by
  have hnu : n < us.length := (List.getElem?_eq_some_iff.1 hu).1
  have hnr : n < rs.length := (List.getElem?_eq_some_iff.1 hr).1
  have hgb := R.vlt g rfl
  have hug : ∀ k, u.ownBlock = some k → k ≠ g := fun k hk e => (R.each n u row hu hr).2 k hk (by rw [e]; rfl)
  have hvg : v'.ownBlock ≠ some g := fun e => by
    rcases hm g e with h | h
    · exact hug g h rfl
    · omega
  have hown1 : W'.ownsRow base 52 1 (.slice (some ⟨g, 0, none⟩) rs.length cap) rs.length us := R.own.kept hg (.inr (fun e => hug g e.symm rfl))
  have hst := (hown1.stored n v').1
  have hget : ∀ k x, (us.set n v')[k]? = some x → (k = n ∧ x = v') ∨ (k ≠ n ∧ us[k]? = some x) := by
    intro k x h
    rw [List.getElem?_set] at h
    by_cases e : n = k
    · rw [if_pos e, if_pos hnu] at h; exact .inl ⟨e.symm, by simpa using h.symm⟩
    · rw [if_neg e] at h; exact .inr ⟨fun h' => e h'.symm, h⟩
  have hkept : ∀ k x row', k ≠ n → us[k]? = some x → rs[k]? = some row' → (W'.setCell ⟨g, n, none⟩ v').ownsRow base 139 6 x row'.length (opL row') := by
    intro k x row' hne hx hr'
    obtain ⟨h1, h2⟩ := R.each k x row' hx hr'
    refine ownsRow_setCell_other (h1.kept hg ?_) (fun e => h2 g e rfl) _
    cases hob : x.ownBlock with
    | none => exact .inl rfl
    | some y => exact .inr (fun e => R.apart k n x u y hx hu hne hob e.symm)
  refine ⟨by rw [List.length_modify]; exact hst, fun k x row' hx hr' => ?_, fun k k' x x' y hx hx' hne hy => ?_, fun row' hr' => ?_⟩
  · rw [List.getElem?_modify] at hr'
    rcases hget k x hx with ⟨rfl, rfl⟩ | ⟨hne, hx⟩
    · rw [hr] at hr'
      obtain rfl : row ++ [o] = row' := by simpa using hr'
      refine ⟨?_, fun y hy e => ?_⟩
      · rw [opL_snoc, List.length_append]; exact ownsRow_setCell_other ho hvg _
      · have : y = g := by simpa [Value.ownBlock] using e.symm
        subst this; exact hvg hy
    · obtain ⟨q, hq, hqe⟩ : ∃ q, rs[k]? = some q ∧ q = row' := by
        cases hq : rs[k]? with
        | none => rw [hq] at hr'; simp at hr'
        | some q => rw [hq] at hr'; simp [Ne.symm hne] at hr'; exact ⟨q, rfl, hr'⟩
      subst hqe
      exact ⟨hkept k x q hne hx hq, (R.each k x q hx hq).2⟩
  · rcases hget k x hx with ⟨rfl, rfl⟩ | ⟨h1, hx1⟩
    · rcases hget k' x' hx' with ⟨rfl, rfl⟩ | ⟨h2, hx2⟩
      · exact absurd rfl hne
      · intro e
        rcases hm y hy with h | h
        · exact R.apart k k' u x' y hu hx2 hne h e
        · have := (R.ult hx2 y e).2; omega
    · rcases hget k' x' hx' with ⟨rfl, rfl⟩ | ⟨h2, hx2⟩
      · intro e
        rcases hm y e with h | h
        · exact R.apart k k' x u y hx1 hu hne hy h
        · have := (R.ult hx1 y hy).2; omega
      · exact R.apart k k' x x' y hx1 hx2 hne hy
  · intro q hq
    obtain ⟨k, hk⟩ := List.getElem?_of_mem hr'
    rw [List.getElem?_modify] at hk
    cases hz : rs[k]? with
    | none => rw [hz] at hk; simp at hk
    | some z =>
      rw [hz] at hk
      have hmz := List.mem_of_getElem? hz
      by_cases e : n = k
      · simp [e] at hk
        subst hk
        rcases List.mem_append.1 hq with h | h
        · exact R.ok z hmz q h
        · simp at h; subst h; exact ok
      · simp [e] at hk
        subst hk
        exact R.ok z hmz q hq
end
theorem fIdx_at {α : Type} {p : α → Bool} : ∀ (rs : List α) (j : Nat) (r : α), rs[j]? = some r → p r = true → (∀ k q, k < j → rs[k]? = some q → p q = false) → rs.findIdx p = j
  | [], j, r, h, _, _ => by simp at h
  | q :: rs, 0, r, h, hp, _ => by
    obtain rfl : q = r := by simpa using h
    rw [List.findIdx_cons, hp]; rfl
  | q :: rs, j + 1, r, h, hp, hn => by
    rw [List.findIdx_cons, hn 0 q (by omega) rfl, fIdx_at rs j r (by simpa using h) hp (fun k x hk hx => hn (k + 1) x (by omega) (by simpa using hx))]; rfl
theorem fIdx_none {α : Type} {p : α → Bool} : ∀ (rs : List α), (∀ (k : Nat) (q : α), rs[k]? = some q → p q = false) → rs.findIdx p = rs.length
  | [], _ => rfl
  | q :: rs, hn => by
    rw [List.findIdx_cons, hn 0 q rfl, fIdx_none rs (fun k x hx => hn (k + 1) x (by simpa using hx))]; rfl
set_option maxRecDepth 100000 in
set_option maxHeartbeats 1000000 in
theorem roomC_any {w : World} (M : Mst w) {v : Value} {l : List Opx} (A : OpsIn w v l) (hl : (l.length : Int) ≤ 100000) (o : Opx) (b : Nat) (bx : BoxP w b o) :
    Calls Tryz.prog 141 #[v, .pointer (some ⟨b, 0, none⟩)] w fun e w' => e = .returned (.bool (roomB o l)) ∧ Below w.heap.size w w' := by
  have hr := hasRoom_any M A hl o
  obtain ⟨ao, cap, rfl, _, _⟩ := A.sh
  have zb := bx.lt
  obtain ⟨c0, c1, c2, c3, c4, c5⟩ := bx
  unfold opV at hr
  clear A M
  go_enter Tryz.func141, Tryz.ntmps141
  go_wp2_with fail
  refine hr.mono ?_
  rintro e w1 ⟨rfl, hb⟩
  have HB : Hid (Below w.heap.size w w1) := hb
  clear hr hb
  go_wp2
  go_ret
  exact ⟨rfl, HB.out⟩
set_option maxRecDepth 100000 in
set_option maxHeartbeats 2000000 in
theorem idxRows_any {w : World} (M : Mst w) {v : Value} {rs : List (List Opx)} (R : RowsI w v rs) (F : Few rs) (o : Opx) (b : Nat) (bx : BoxP w b o) :
    Calls Tryz.prog 140 #[v, .func (.func 141) #[] #[.pointer (some ⟨b, 0, none⟩)]] w fun e w' => (∃ r : Int, e = .returned (.int .i64 r) ∧ ((r = (rs.findIdx (roomB o) : Int) ∧ rs.findIdx (roomB o) < rs.length) ∨ (r = -1 ∧ rs.findIdx (roomB o) = rs.length))) ∧ Below w.heap.size w w' := by
  obtain ⟨ao, cap, rfl, hc, hh⟩ := R
  have HH : Hid (0 < rs.length → ∃ b off : Nat, ao = some ⟨b, off, none⟩ ∧ ∀ (i : Nat) (row : List Opx), rs[i]? = some row → ∃ u, w.cell? ⟨b, off + i, none⟩ = some u ∧ OpsIn w u row) := hh
  have FH : Hid (Few rs) := F
  have HX : Hid (BoxP w b o) := bx
  have HM : Hid (Mst w) := M
  have hF := F.1
  clear hh F bx M
  go_enter Tryz.func140, Tryz.ntmps140
  go_wp2
  go_loopw [8] (fun i wr => ∃ j : Nat, j ≤ rs.length ∧ i = .int .i64 j ∧ Hid (∀ k q, k < j → rs[k]? = some q → roomB o q = false) ∧ Below w.heap.size w wr) (fun i _ => rs.length - (intOf i).toNat)
  case atStart => exact ⟨0, Nat.zero_le _, rfl, (by intro k q hk; omega), Below.refl _ _⟩
  case round =>
    obtain ⟨j, hj, rfl, HN, hB⟩ := hrel
    have HB : Hid (Below w.heap.size w wr) := hB
    by_cases hlt : j < rs.length
    · obtain ⟨row, hrow⟩ : ∃ r, rs[j]? = some r := ⟨_, List.getElem?_eq_getElem hlt⟩
      obtain ⟨bo, off, rfl, hcell⟩ := HH.out (by omega)
      obtain ⟨u, hu, hO⟩ := hcell j row hrow
      have hr1 := FH.out.2 row (List.mem_of_getElem? hrow)
      have hu2 : wr.cell? ⟨bo, off + j, none⟩ = some u := (hB.cell (p := ⟨bo, off + j, none⟩) (World.block_lt_of_cell? _ _ hu)).trans hu
      have hcl := roomC_any (HM.out.stays hB) (hO.stays hB) (by omega) o b (HX.out.stays hB)
      have zb : bo < wr.heap.size := World.block_lt_of_cell? _ _ hu2
      have hlt' : (j : Int) < rs.length := by omega
      obtain ⟨a1, k1, rfl, _, _⟩ := hO.sh
      have HR : Hid (rs[j]? = some row) := hrow
      clear hrow hcell hu hO hB HH
      generalize hP : roomB o row = pb at *
      go_wp2_with fail
      refine hcl.mono ?_
      rintro e w1 ⟨rfl, hb1⟩
      have HB1 : Hid (Below w.heap.size w w1) := HB.out.trans (hb1.mono HB.out.size)
      clear hcl hb1 HB hu2 zb
      cases pb
      · have HN2 : Hid (∀ k q, k < j + 1 → rs[k]? = some q → roomB o q = false) := by
          intro k q hk hq
          by_cases hkj : k = j
          · subst hkj
            rw [HR.out] at hq
            obtain rfl := Option.some.inj hq
            exact hP
          · exact HN.out k q (by omega) hq
        clear hP HN
        go_wp2
        go_roundw
        case rel => exact ⟨j + 1, by omega, by go_num, HN2.out, HB1.out⟩
        case measure => simp [intOf]; omega
      · have HT : Hid (rs.findIdx (roomB o) = j) := fIdx_at rs j row HR.out hP HN.out
        clear hP HN
        go_wp2
        go_ret
        exact ⟨⟨(j : Int), rfl, .inl ⟨by rw [HT.out], by rw [HT.out]; omega⟩⟩, HB1.out⟩
    · obtain rfl : j = rs.length := by omega
      have HT : Hid (rs.findIdx (roomB o) = rs.length) := fIdx_none rs fun k q hq => HN.out k q (List.getElem?_eq_some_iff.1 hq).1 hq
      clear hB HN HH
      go_wp2
      go_ret
      exact ⟨⟨-1, rfl, .inr ⟨rfl, HT.out⟩⟩, HB.out⟩
end Go.Proofs.YtflagpkmebdckaaGreatDoor
/-
  What a row of rows' element is.
-/
namespace Go.Proofs.YtflagpkmebdckaaGreatDoor
theorem infoOpsP : (Tryz.prog.info? 52).map (fun i => (i.zero, i.size, i.bytes)) = some (some (.slice none 0 0), 1, 24) := by kernel_rfl
end Go.Proofs.YtflagpkmebdckaaGreatDoor
/-
  Package plan: place.
-/
namespace Go.Proofs.YtflagpkmebdckaaGreatDoor
open Go.RowKit Go.Maps
open Num
set_option linter.unusedVariables false
theorem MkC.put0 {W : World} {mb : Nat} {M : Mk} {vr : Value} (C : MkC W mb M vr) (v : Value) : MkC (W.setCell ⟨mb, 0, none⟩ v) mb M v := by
  refine RowIs.put C 0 _ _ rfl (fun j hj hne => ?_)
  unfold mkF; rw [if_neg hne, if_neg hne]
structure CkR (W : World) (mb g n xb : Nat) (vr u : Value) (o : Opx) : Prop where
  a : W.cell? ⟨mb, 0, none⟩ = some vr
  b : W.cell? ⟨g, n, none⟩ = some u
  x : BoxP W xb o
theorem modify_last (rs : List (List Opx)) (o : Opx) : (rs ++ [[]]).modify rs.length (· ++ [o]) = rs ++ [[o]] := by
  induction rs with
  | nil => rfl
  | cons r rs ih => simp [ih]
theorem op_news (w : World) (o : Opx) : ∀ j u, (opC o)[j]? = some u → (w.alloc (.cells #[.string o.s, .int .i64 o.d, .int .i64 o.a, .int .i64 o.b, .int .u32 o.i, .int .i64 o.t] 139)).drew.cell? ((⟨w.heap.size, 0, none⟩ : Addr).add j) = some u := by
  intro j u h
  rw [add_lit]
  have : (w.alloc (.cells #[.string o.s, .int .i64 o.d, .int .i64 o.a, .int .i64 o.b, .int .u32 o.i, .int .i64 o.t] 139)).cell? ⟨w.heap.size, j, none⟩ = (#[.string o.s, .int .i64 o.d, .int .i64 o.a, .int .i64 o.b, .int .u32 o.i, .int .i64 o.t] : Array Value)[j]? := cell_of_row _ _ _ _ _ _ (heap_alloc_new w _)
  show (w.alloc (.cells #[.string o.s, .int .i64 o.d, .int .i64 o.a, .int .i64 o.b, .int .u32 o.i, .int .i64 o.t] 139)).cell? ⟨w.heap.size, j, none⟩ = _
  rw [this, List.getElem?_toArray]; exact h
theorem opC_one (o : Opx) : ∀ u ∈ opC o, u.oneCell' = true := by
  intro u h; simp [opC] at h; rcases h with rfl | rfl | rfl | rfl | rfl | rfl <;> rfl
set_option maxRecDepth 100000 in
set_option maxHeartbeats 8000000 in
theorem place_any {w : World} {base mb : Nat} {M : Mk} {vr : Value} {us : List Value} (hst : Mst w) (C : MkC w mb M vr) (R : RwAt w base vr us M.rows) (hb : mb < base) (hbase : base ≤ w.heap.size) (hmg : 12 < mb) (H : MkOk M) (F : Few M.rows) (hF9 : M.rows.length < 1000) (hF8 : ∀ r ∈ M.rows, r.length < 1000) (o : Opx) (ok : o.ok) {many : Int} (ho : opE o many = 0) :
    Calls Tryz.prog 75 #[.pointer (some ⟨mb, 0, none⟩), opV o] w fun e w' => e = .returned (.tuple #[]) ∧ (∃ vr' us', MkC w' mb (place M o) vr' ∧ RwAt w' base vr' us' (place M o).rows) ∧ Below mb w w' := by
  have hmb := C.lt
  have B0 : Below w.heap.size w (w.alloc (.cells #[.string o.s, .int .i64 o.d, .int .i64 o.a, .int .i64 o.b, .int .u32 o.i, .int .i64 o.t] 139)) := (Below.refl _ _).alloc (Nat.le_refl _) _
  have bx := BoxP.new w o
  have C1 := C.stays B0
  have R1 := R.stays B0
  have S1 := hst.stays B0
  obtain ⟨ar, cr, hvr, _, _⟩ := R.rows
  have hfi := first_any (by rw [hvr] at C1; exact C1) H (by have := F.1; omega) o ho
  have HVR : Hid (vr = .slice ar M.rows.length cr) := hvr
  clear hvr
  have hfr := frR_le H o
  have HRN : Hid (rowN M o = frR M o + (M.rows.drop (frR M o)).findIdx (roomB o)) := rfl
  have hrl : Hid (rowN M o ≤ M.rows.length) := rowN_le H o
  have HNT : Hid (∀ W vr', MkC W mb M vr' → ∀ n : Nat, n ≤ 1000 → Calls Tryz.prog 143 #[.pointer (some ⟨mb, 0, none⟩), opV o, .int .i64 (n : Int)] W fun e w' => e = .returned (.tuple #[]) ∧ MkC w' mb (note { M with rows := putR M.rows (rowN M o) o } o n) vr' ∧ W.grownBy w' (some mb)) := fun W vr' hC n hn => note_any (M := { M with rows := putR M.rows (rowN M o) o }) hC (fun r => by have := H.ask r; have := F.1; show M.ask r ≤ 100000; omega) (by have := H.bM; have := F.1; show M.bM ≤ 100000; omega) o ho n (by omega)
  have OKH : Hid o.ok := ok
  have FH : Hid (Few M.rows) := F
  have H8 : Hid (∀ r ∈ M.rows, r.length < 1000) := hF8
  have hmf : ∀ (fn : Fn) (first cap : Array Value) (w : World), (Instr.makeFunc fn first cap).run Tryz.prog w = .ok (.func fn first cap) w := fun _ _ _ _ => rfl
  have VLT : Hid (∀ k, vr.ownBlock = some k → base ≤ k ∧ k < w.heap.size) := R.vlt
  have ULT : Hid (∀ (k : Nat) (u : Value), us[k]? = some u → ∀ g, u.ownBlock = some g → base ≤ g ∧ g < w.heap.size) := fun k u hu => R.ult hu
  obtain ⟨i0, hi, hz0, hz1, hz2⟩ := info_parts infoOp
  obtain ⟨i1, hj, hy0, hy1, hy2⟩ := info_parts infoOpsP
  obtain ⟨PM, hPM⟩ : ∃ PM, place M o = PM := ⟨_, rfl⟩
  have HPM : Hid (place M o = PM) := hPM
  rw [hPM]
  clear C R hst hPM ok H F hF8
  unfold opV at hfi ⊢
  generalize hf : frR M o = f at *
  clear hf
  go_enter Tryz.func75, Tryz.ntmps75
  go_upto_region 1 with fail
  generalize w.alloc (.cells #[.string o.s, .int .i64 o.d, .int .i64 o.a, .int .i64 o.b, .int .u32 o.i, .int .i64 o.t] 139) = V at *
  have HC : Hid (MkC V mb M vr) := C1
  have HR : Hid (RwAt V base vr us M.rows) := R1
  have HS : Hid (Mst V) := S1
  have HX : Hid (BoxP V w.heap.size o) := bx
  have HB : Hid (Below w.heap.size w V) := B0
  have zx := bx.lt
  obtain ⟨c0, c1, c2, c3, c4, c5⟩ := bx
  clear C1 R1 S1 B0
  go_wp2_with fail
  refine hfi.mono ?_
  rintro e w2 ⟨rfl, hb2⟩
  have HB2 : Hid (Below w.heap.size w w2) := HB.out.trans (hb2.mono HB.out.size)
  have HC2 : Hid (MkC w2 mb M vr) := HC.out.stays hb2
  have HR2 : Hid (RwAt w2 base vr us M.rows) := HR.out.stays hb2
  have HX2 : Hid (BoxP w2 w.heap.size o) := HX.out.stays hb2
  obtain ⟨X, hsl, hXI⟩ := HR2.out.drop f hfr (by have := FH.out.1; omega)
  have hix := idxRows_any (HS.out.stays hb2) hXI ⟨by have := FH.out.1; rw [List.length_drop]; omega, fun r hr => FH.out.2 r (List.mem_of_mem_drop hr)⟩ o w.heap.size HX2.out
  have d0 := HC2.out.c0
  have zm2 := HC2.out.lt
  obtain ⟨aX, kX, rfl, _, _⟩ := hXI
  have HDL : Hid ((M.rows.drop f).length = M.rows.length - f) := List.length_drop
  rw [List.length_drop] at hix hsl
  clear hfi hb2 HB HC HR HS HX c0 c1 c2 c3 c4 c5 zx
  go_wp2_with fail
  refine hix.mono ?_
  rintro e w3 ⟨⟨r, rfl, hr⟩, hb3⟩
  have HB3 : Hid (Below w.heap.size w w3) := HB2.out.trans (hb3.mono HB2.out.size)
  have HC3 : Hid (MkC w3 mb M vr) := HC2.out.stays hb3
  have HR3 : Hid (RwAt w3 base vr us M.rows) := HR2.out.stays hb3
  have HX3 : Hid (BoxP w3 w.heap.size o) := HX2.out.stays hb3
  have hf3 : f ≤ 100000 := by have := FH.out.1; omega
  clear hix hb3 HB2 HC2 HR2 HX2 d0 zm2 hsl
  have hdl := HDL.out
  clear HDL
  rcases hr with ⟨rfl, hrlt⟩ | ⟨rfl, hreq⟩
  · obtain ⟨n, hn⟩ : ∃ n, rowN M o = n := ⟨_, rfl⟩
    have hni : (f : Int) + ((M.rows.drop f).findIdx (roomB o) : Int) = (n : Int) := by have := HRN.out; omega
    have hnl : n < M.rows.length := by have := HRN.out; omega
    have HN : Hid (rowN M o = n) := hn
    have HPR : Hid (putR M.rows n o = M.rows.modify n (· ++ [o])) := by show _ = _; unfold putR; rw [if_pos hnl]
    clear hn HRN hrl hdl
    generalize ((M.rows.drop f).findIdx (roomB o) : Nat) = j at *
    have hnl2 := hF9
    obtain ⟨g, cap, hvg, hcap, hgb, hgc⟩ := HR3.out.form (by omega)
    subst hvg
    have HW : Hid (Below w.heap.size w w3) := HB3.out
    have WL : Hid (∀ k, k < w.heap.size → k ≠ g → w3.heap[k]? = w.heap[k]?) := fun k hk _ => HB3.out.block k hk
    have hgw : g < w.heap.size := (VLT.out g rfl).2
    have hgx : g ≠ w.heap.size := by omega
    have hws := HB3.out.size
    generalize hL : M.rows.length = L at *
    obtain ⟨u, hu⟩ : ∃ u, us[n]? = some u := ⟨_, List.getElem?_eq_getElem (by rw [HR3.out.len, hL]; exact hnl)⟩
    obtain ⟨row, hrow⟩ : ∃ r, M.rows[n]? = some r := ⟨_, List.getElem?_eq_getElem (by rw [hL]; exact hnl)⟩
    have hrw8 : row.length < 1000 := H8.out row (List.mem_of_getElem? hrow)
    have hub : ∀ k, u.ownBlock = some k → base ≤ k ∧ k ≠ w.heap.size := fun k e => by have := ULT.out n u hu k e; omega
    have HPM2 : Hid (PM = note { M with rows := M.rows.modify n (· ++ [o]) } o n) := by show _ = _; rw [← HPM.out]; unfold place; rw [HN.out, HPR.out]
    have HB4 : Hid (Below mb w w3) := HB3.out.mono (by omega)
    have S4 : w.heap.size ≤ w3.heap.size := hws
    have hgc' := hgc
    clear HB3 HW WL hgc' VLT
    have HB3 : Hid (Below mb w w3) := HB4.out
    clear HB4
    generalize hRS : M.rows = RS at *
    generalize hUS : us = US at *
    generalize w3 = w5 at *
    have hgn : w5.cell? ⟨g, n, none⟩ = some u := by
      obtain ⟨g', c', e, _, _, hc⟩ := HR3.out.form (by omega)
      injection e with e1 e2 e3
      injection e1 with e1
      injection e1 with e1
      subst e1
      exact hc n u hu
    have d0 := HC3.out.c0
    have zm := HC3.out.lt
    have zg := World.block_lt_of_cell? _ _ hgn
    have zx := HX3.out.lt
    have ck : CkR w5 mb g n w.heap.size (.slice (some ⟨g, 0, none⟩) L cap) u o := ⟨d0, hgn, HX3.out⟩
    have hmg2 : mb ≠ g := by omega
    have hnl' : (n : Int) < (L : Int) := by omega
    have BA : Below w5.heap.size w5 (w5.alloc (.cells #[.string o.s, .int .i64 o.d, .int .i64 o.a, .int .i64 o.b, .int .u32 o.i, .int .i64 o.t] 139)).drew := ((Below.refl _ _).alloc (Nat.le_refl _) _).drew
    have RA := HR3.out.stays BA
    have hne6 := op_news w5 o
    have CKA : CkR (w5.alloc (.cells #[.string o.s, .int .i64 o.d, .int .i64 o.a, .int .i64 o.b, .int .u32 o.i, .int .i64 o.t] 139)).drew mb g n w.heap.size (.slice (some ⟨g, 0, none⟩) L cap) u o := ⟨(BA.cell (p := ⟨mb, 0, none⟩) zm).trans d0, (BA.cell (p := ⟨g, n, none⟩) zg).trans hgn, HX3.out.stays BA⟩
    have CA := HC3.out.stays BA
    have sA : w5.heap.size < (w5.alloc (.cells #[.string o.s, .int .i64 o.d, .int .i64 o.a, .int .i64 o.b, .int .u32 o.i, .int .i64 o.t] 139)).drew.heap.size := by show _ < (w5.alloc _).heap.size; rw [World.size_alloc]; omega
    have FA : Hid (∀ v' w4, w4.ownsRow base 139 6 v' (row.length + 1) (opL row ++ opC o) → (w5.alloc (.cells #[.string o.s, .int .i64 o.d, .int .i64 o.a, .int .i64 o.b, .int .u32 o.i, .int .i64 o.t] 139)).drew.grownBy w4 u.ownBlock → Moved (w5.alloc (.cells #[.string o.s, .int .i64 o.d, .int .i64 o.a, .int .i64 o.b, .int .u32 o.i, .int .i64 o.t] 139)).drew u v' → RwAt (w4.setCell ⟨g, n, none⟩ v') base (.slice (some ⟨g, 0, none⟩) L cap) (US.set n v') (RS.modify n (· ++ [o])) ∧ CkR w4 mb g n w.heap.size (.slice (some ⟨g, 0, none⟩) L cap) u o ∧ w4.frozen? ⟨g, n, none⟩ = false ∧ MkC (w4.setCell ⟨g, n, none⟩ v') mb M (.slice (some ⟨g, 0, none⟩) L cap) ∧ BoxP (w4.setCell ⟨g, n, none⟩ v') w.heap.size o ∧ Below mb w (w4.setCell ⟨g, n, none⟩ v')) := by
      intro v' w4 ho4 hg4 hm4
      have RA' := RA
      rw [← hL] at RA'
      have hug : ∀ k, u.ownBlock = some k → k ≠ g := fun k e he => (RA.each n u row hu hrow).2 k e (by rw [he]; rfl)
      have bk : ∀ k, k < w5.heap.size → u.ownBlock ≠ some k → w4.heap[k]? = w5.heap[k]? := fun k hk hne => (hg4.block k (by omega) (Ne.symm hne)).trans (BA.block k hk)
      have b1 := bk mb zm (fun e => by have := (hub mb e).1; omega)
      have b2 := bk g zg (fun e => hug g e rfl)
      have b3 := bk w.heap.size zx (fun e => (hub _ e).2 rfl)
      have own4 : w4.ownsRow base 52 1 (.slice (some ⟨g, 0, none⟩) L cap) RS.length US := owns_blocks HR3.out.own fun k e => by
        have : k = g := by simpa [Value.ownBlock] using e.symm
        subst this; exact b2
      have hp := RA'.push hu hrow OKH.out ho4 hg4 hm4
      rw [hL] at hp
      refine ⟨hp, ⟨(World.cell?_of_block (a := ⟨mb, 0, none⟩) b1).trans d0, (World.cell?_of_block (a := ⟨g, n, none⟩) b2).trans hgn, HX3.out.block b3⟩, ?_, ?_, ?_, ?_⟩
      · rw [hL] at own4; exact own4.frozenAt n
      · exact RowIs.block HC3.out ((Below.heap_setCell _ _ _ _ (fun e => hmg2 e)).trans b1)
      · exact (HX3.out.block b3).put (Ne.symm hgx)
      · refine ⟨hg4.os.trans (BA.os.trans HB3.out.os), hg4.tape.trans (BA.tape.trans HB3.out.tape), hg4.output.trans (BA.output.trans HB3.out.output), ?_, fun k hk => ?_⟩
        · rw [World.size_setCell]; have := hg4.size; omega
        · rw [Below.heap_setCell _ _ _ _ (by intro e; have e' : k = g := e; omega)]
          exact (bk k (by omega) (fun e => by have := (hub k e).1; omega)).trans (HB3.out.block k hk)
    have hbA : base ≤ (w5.alloc (.cells #[.string o.s, .int .i64 o.d, .int .i64 o.a, .int .i64 o.b, .int .u32 o.i, .int .i64 o.t] 139)).drew.heap.size := by omega
    have RAO := (RA.each n u row hu hrow).1
    have HRAO : Hid ((w5.alloc (.cells #[.string o.s, .int .i64 o.d, .int .i64 o.a, .int .i64 o.b, .int .u32 o.i, .int .i64 o.t] 139)).drew.ownsRow base 139 6 u row.length (opL row)) := RAO
    have HCKA : Hid (CkR (w5.alloc (.cells #[.string o.s, .int .i64 o.d, .int .i64 o.a, .int .i64 o.b, .int .u32 o.i, .int .i64 o.t] 139)).drew mb g n w.heap.size (.slice (some ⟨g, 0, none⟩) L cap) u o) := CKA
    obtain ⟨au, cu, hue2⟩ : ∃ a c, u = .slice a row.length c := by obtain ⟨a, c, e, _⟩ := (ops_of_row (n := 0) RAO (HR3.out.ok row (List.mem_of_getElem? hrow))).sh; exact ⟨a, c, e⟩
    subst hue2
    have hone := opC_one o
    have hlen6 : (opC o).length = 1 * 6 := rfl
    unfold opC at hne6 hone hlen6
    clear RA CA BA CKA RAO hu hrow hub
    go_wp2
    refine wp_region_phase 16 [(0, 0), (1, 0), (2, 0), (3, 1), (4, 0), (5, 0), (6, 0), (7, 0), (8, 1), (9, 0), (10, 0), (11, 1), (12, 1), (13, 2), (14, 2), (15, 0), (16, 2)] (fun W => CkR W mb g n w.heap.size (.slice (some ⟨g, 0, none⟩) L cap) (.slice au row.length cu) o) (by kernel_rfl) (by kernel_rfl) (fun _ _ _ d _ h => by cases d <;> exact h) ⟨by simpa using ck.a, by simpa using ck.b, ⟨by simpa using ck.x.c0, by simpa using ck.x.c1, by simpa using ck.x.c2, by simpa using ck.x.c3, by simpa using ck.x.c4, by simpa using ck.x.c5⟩⟩ ?_
    repeat (first | (refine wpPlanZ_free (by rfl) (by rfl) (fun W => by (go_simp; try with_reducible rfl)) (fun K hK => ?_); go_simp; refine hK _ ?_; clear hK K) | (refine wpPlanZ_quiet (by rfl) (by rfl) (fun W hW => by (obtain ⟨s0, s1, ⟨t0, t1, t2, t3, t4, t5⟩⟩ := hW; go_simp; try with_reducible rfl)) (fun K hK => ?_); go_simp; refine hK _ ?_; clear hK K))
    refine wpPlanZ_serial (by rfl) (by rfl) (fun K hK => ?_)
    go_simp
    refine hK _ _ (fun _ => HCKA.out) ?_
    clear hK K ck HCKA d0 zm zg zx hgn
    generalize (w5.alloc (.cells #[.string o.s, .int .i64 o.d, .int .i64 o.a, .int .i64 o.b, .int .u32 o.i, .int .i64 o.t] 139)).drew = wA at *
    refine wpPlanZ_serial (by rfl) (by rfl) (fun K hK => ?_)
    refine oper_append_movedP _ _ 52 rfl base 139 i0 _ 6 56 Tryz.underlying52 hi hz0 hz1 hz2 rfl (by decide) (.slice au row.length cu) row.length (opL row) rfl HRAO.out ⟨w5.heap.size, 0, none⟩ 1 1 [.string o.s, .int .i64 o.d, .int .i64 o.a, .int .i64 o.b, .int .u32 o.i, .int .i64 o.t] rfl hlen6 hne6 hone (by unfold maxLen; omega) (by omega) hbA ?_
    intro v' w4 ho4 hg4 hm4
    have FF := FA.out v' w4 ho4 hg4 hm4
    obtain ⟨g', cap', hv'⟩ := own_pos ho4
    subst hv'
    have HFF : Hid _ := FF
    refine hK _ _ (fun _ => FF.2.1) ?_
    have q1 := FF.2.1.b
    have q2 := FF.2.2.1
    have q3 := World.block_lt_of_cell? _ _ q1
    clear hK K FA ho4 hg4 hm4 FF HRAO
    repeat (refine wpPlanZ_free (by rfl) (by rfl) (fun W => by (go_simp; try with_reducible rfl)) (fun K hK => ?_); go_simp; refine hK _ ?_; clear hK K)
    refine wpPlanZ_serial (by rfl) (by rfl) (fun K hK => ?_)
    go_simp
    refine hK _ _ (fun h => absurd h (by decide)) ?_
    clear hK K
    refine wpPlanZ_nil ?_
    have F1 := HFF.out.1
    have F2 := HFF.out.2.2.2.1
    have F3 := HFF.out.2.2.2.2.1
    have F4 := HFF.out.2.2.2.2.2
    clear HFF q1 q2 q3
    generalize w4.setCell ⟨g, n, none⟩ (.slice (some ⟨g', 0, none⟩) (row.length + 1) cap') = w6 at *
    have HF1 : Hid _ := F1
    have HF2 : Hid (MkC w6 mb M (.slice (some ⟨g, 0, none⟩) L cap)) := F2
    have HF4 : Hid (Below mb w w6) := F4
    have hnt := HNT.out w6 _ F2 n (by omega)
    unfold opV at hnt
    have zx6 := F3.lt
    obtain ⟨c0, c1, c2, c3, c4, c5⟩ := F3
    clear F1 F2 F4 HNT
    go_wp2_with fail
    refine hnt.mono ?_
    rintro e w7 ⟨rfl, hC7, hg7⟩
    have R7 : Hid (RwAt w7 base (.slice (some ⟨g, 0, none⟩) L cap) (US.set n (.slice (some ⟨g', 0, none⟩) (row.length + 1) cap')) (RS.modify n (· ++ [o]))) := HF1.out.note hb hg7
    have C7 : Hid (MkC w7 mb PM (.slice (some ⟨g, 0, none⟩) L cap)) := by
      rw [HPM2.out]
      have := hC7
      rw [HN.out, HPR.out] at this
      exact this
    have B7 : Hid (Below mb w w7) := ⟨hg7.os.trans HF4.out.os, hg7.tape.trans HF4.out.tape, hg7.output.trans HF4.out.output, Nat.le_trans HF4.out.size hg7.size, fun k hk => (hg7.block k (by have := HF4.out.size; omega) (by intro e; have := Option.some.inj e; omega)).trans (HF4.out.block k hk)⟩
    have HRW : Hid (PM.rows = RS.modify n (· ++ [o])) := by show _ = _; rw [HPM2.out]; rfl
    clear hnt hC7 hg7 c0 c1 c2 c3 c4 c5 zx6 HF1 HF2 HF4
    go_wp2
    go_end0
    exact ⟨rfl, ⟨_, _, C7.out, by rw [HRW.out]; exact R7.out⟩, B7.out⟩
  · have HN : Hid (rowN M o = M.rows.length) := by show _ = _; have := HRN.out; omega
    have HPR : Hid (putR M.rows M.rows.length o = (M.rows ++ [[]]).modify M.rows.length (· ++ [o])) := by show _ = _; rw [modify_last]; unfold putR; rw [if_neg (by omega)]
    clear HRN hrl hdl hreq
    have d0 := HC3.out.c0
    have df := HC3.out.fz 0
    have zm3 := HC3.out.lt
    have hL9 := hF9
    have hvn : ∀ k, vr.ownBlock = some k → k ≠ mb := fun k e => by have := (VLT.out k e).1; omega
    have hvx : ∀ k, vr.ownBlock = some k → k ≠ w.heap.size := fun k e => by have := (VLT.out k e).2; omega
    have hbz : base ≤ w3.heap.size := by have := HB3.out.size; omega
    have HOW : Hid ((w3.alloc (.cells #[.slice none 0 0] 52)).ownsRow base 52 1 vr M.rows.length us) := HR3.out.own.alloc _
    have hn1 : ∀ (k : Nat) (u : Value), [Value.slice none 0 0][k]? = some u → (w3.alloc (.cells #[.slice none 0 0] 52)).cell? ((⟨w3.heap.size, 0, none⟩ : Addr).add k) = some u := by
      intro k u hk
      rw [add_lit, World.cell?_alloc_at _ _ _ _ rfl]
      simpa using hk
    have hszA : (w3.alloc (.cells #[.slice none 0 0] 52)).heap.size = w3.heap.size + 1 := World.size_alloc _ _
    have BA : Below w3.heap.size w3 (w3.alloc (.cells #[.slice none 0 0] 52)) := (Below.refl _ _).alloc (Nat.le_refl _) _
    have HA : Hid (∀ v1 w1, (w3.alloc (.cells #[.slice none 0 0] 52)).grownBy w1 vr.ownBlock → Moved (w3.alloc (.cells #[.slice none 0 0] 52)) vr v1 → w1.ownsRow base 52 1 v1 (M.rows.length + 1) (us ++ [.slice none 0 0]) → (RwAt w1 base v1 (us ++ [.slice none 0 0]) (M.rows ++ [[]]) ∧ MkC w1 mb M vr ∧ BoxP w1 w.heap.size o ∧ Below mb w w1 ∧ w.heap.size ≤ w1.heap.size ∧ (∀ k, v1.ownBlock = some k → base ≤ k ∧ k ≠ w.heap.size))) := by
      intro v1 w1 hg1 hm1 ho1
      have bk : ∀ k, k < w3.heap.size → vr.ownBlock ≠ some k → w1.heap[k]? = w3.heap[k]? := fun k hk hne => (hg1.block k (by rw [hszA]; omega) (Ne.symm hne)).trans (BA.block k hk)
      have z3 := HX3.out.lt
      refine ⟨(HR3.out.stays BA).snoc ho1 hg1 hm1, RowIs.block HC3.out (bk mb HC3.out.lt (fun e => hvn mb e rfl)), HX3.out.block (bk _ z3 (fun e => hvx _ e rfl)), ?_, ?_, fun k e => ⟨(ho1.lt k e).1, fun he => by
        rcases hm1 k e with h | h
        · exact hvx k h he
        · rw [hszA] at h; omega⟩⟩
      · refine ⟨hg1.os.trans (BA.os.trans HB3.out.os), hg1.tape.trans (BA.tape.trans HB3.out.tape), hg1.output.trans (BA.output.trans HB3.out.output), ?_, fun k hk => ?_⟩
        · have h1 := hg1.size; have h2 := HB3.out.size; rw [hszA] at h1; omega
        · have h3 := HB3.out.size
          exact (bk k (by omega) (fun e => by have := (VLT.out k e).1; omega)).trans (HB3.out.block k (by omega))
      · have h1 := hg1.size; have h2 := HB3.out.size; rw [hszA] at h1; omega
    obtain ⟨ar, cr, rfl⟩ : ∃ a c, vr = .slice a M.rows.length c := ⟨ar, cr, HVR.out⟩
    clear HR3 HVR BA hszA
    go_wp2_with (at_builtin; refine wpList_append_moved rfl _ _ 77 rfl base 52 i1 (.slice none 0 0) 1 24 Tryz.underlying77 hj hy0 hy1 hy2 rfl (by decide) (.slice ar M.rows.length cr) M.rows.length us rfl HOW.out ⟨w3.heap.size, 0, none⟩ 1 1 [.slice none 0 0] rfl rfl hn1 (by simp [Value.oneCell']) (by unfold maxLen; omega) (by omega) (by simp; omega) ?_; intro v1 w1 ho1 hg1 hm1; have KA := HA.out v1 w1 hg1 hm1 ho1; have HKA : Hid _ := KA; obtain ⟨g, cap, hv1⟩ := own_pos ho1; have k0 := KA.2.1.c0; have kf := RowIs.fz KA.2.1 0; have kz := RowIs.lt KA.2.1; subst hv1; clear ho1 hg1 hm1 KA HA HOW hn1 d0 df zm3)
    have R4 : RwAt (w1.setCell ⟨mb, 0, none⟩ (.slice (some ⟨g, 0, none⟩) (M.rows.length + 1) cap)) base (.slice (some ⟨g, 0, none⟩) (M.rows.length + 1) cap) (us ++ [.slice none 0 0]) (M.rows ++ [[]]) := HKA.out.1.note hb (grown_setP _ _)
    have C4 : MkC (w1.setCell ⟨mb, 0, none⟩ (.slice (some ⟨g, 0, none⟩) (M.rows.length + 1) cap)) mb M (.slice (some ⟨g, 0, none⟩) (M.rows.length + 1) cap) := HKA.out.2.1.put0 _
    have X4 : BoxP (w1.setCell ⟨mb, 0, none⟩ (.slice (some ⟨g, 0, none⟩) (M.rows.length + 1) cap)) w.heap.size o := HKA.out.2.2.1.put (by omega)
    have B4 : Below mb w (w1.setCell ⟨mb, 0, none⟩ (.slice (some ⟨g, 0, none⟩) (M.rows.length + 1) cap)) := HKA.out.2.2.2.1.setCell (Nat.le_refl _) _
    have S4 : w.heap.size ≤ (w1.setCell ⟨mb, 0, none⟩ (.slice (some ⟨g, 0, none⟩) (M.rows.length + 1) cap)).heap.size := by rw [World.size_setCell]; exact HKA.out.2.2.2.2.1
    have hgb : base ≤ g := (HKA.out.2.2.2.2.2 g rfl).1
    have hgx : g ≠ w.heap.size := (HKA.out.2.2.2.2.2 g rfl).2
    clear HKA k0 kf kz HC3 HX3 HB3
    generalize w1.setCell ⟨mb, 0, none⟩ (.slice (some ⟨g, 0, none⟩) (M.rows.length + 1) cap) = w5 at *
    have HC3 : Hid (MkC w5 mb M (.slice (some ⟨g, 0, none⟩) (M.rows.length + 1) cap)) := C4
    have HR3 : Hid (RwAt w5 base (.slice (some ⟨g, 0, none⟩) (M.rows.length + 1) cap) (us ++ [.slice none 0 0]) (M.rows ++ [[]])) := R4
    have HX3 : Hid (BoxP w5 w.heap.size o) := X4
    have HB3 : Hid (Below mb w w5) := B4
    clear C4 R4 X4 B4
    obtain ⟨n, hnE⟩ : ∃ n, M.rows.length = n := ⟨_, rfl⟩
    have hlenB : (M.rows ++ [[]]).length = n + 1 := by rw [List.length_append, hnE]; rfl
    have husl : us.length = n := by have := HR3.out.len; rw [List.length_append, hlenB] at this; simpa using this
    have hu : (us ++ [Value.slice none 0 0])[n]? = some (.slice none 0 0) := by rw [List.getElem?_append_right (by omega), husl]; simp
    have hrow : (M.rows ++ [[]])[n]? = some ([] : List Opx) := by rw [List.getElem?_append_right (by omega), hnE]; simp
    rw [hnE] at HN HPR HR3 HC3 hF9 ⊢
    have HPM2 : Hid (PM = note { M with rows := (M.rows ++ [[]]).modify n (· ++ [o]) } o n) := by show _ = _; rw [← HPM.out]; unfold place; rw [HN.out, HPR.out]
    generalize hRS : M.rows ++ [[]] = RS at *
    generalize hUS : us ++ [Value.slice none 0 0] = US at *
    obtain ⟨u, hue⟩ : ∃ u, u = Value.slice none 0 0 := ⟨_, rfl⟩
    obtain ⟨row, hre⟩ : ∃ r : List Opx, r = [] := ⟨_, rfl⟩
    rw [← hue] at hu
    rw [← hre] at hrow
    have hrw8 : row.length < 1000 := by rw [hre]; show 0 < 1000; omega
    have hub : ∀ k, u.ownBlock = some k → base ≤ k ∧ k ≠ w.heap.size := fun k e => by rw [hue] at e; cases e
    have hnl : n < n + 1 := by omega
    clear hue hre
    have hL : RS.length = n + 1 := hlenB
    generalize hLL : n + 1 = L at *
    have hgn : w5.cell? ⟨g, n, none⟩ = some u := by
      obtain ⟨g', c', e, _, _, hc⟩ := HR3.out.form (by omega)
      injection e with e1 e2 e3
      injection e1 with e1
      injection e1 with e1
      subst e1
      exact hc n u hu
    have d0 := HC3.out.c0
    have zm := HC3.out.lt
    have zg := World.block_lt_of_cell? _ _ hgn
    have zx := HX3.out.lt
    have ck : CkR w5 mb g n w.heap.size (.slice (some ⟨g, 0, none⟩) L cap) u o := ⟨d0, hgn, HX3.out⟩
    have hmg2 : mb ≠ g := by omega
    have hnl' : (n : Int) < (L : Int) := by omega
    have BA : Below w5.heap.size w5 (w5.alloc (.cells #[.string o.s, .int .i64 o.d, .int .i64 o.a, .int .i64 o.b, .int .u32 o.i, .int .i64 o.t] 139)).drew := ((Below.refl _ _).alloc (Nat.le_refl _) _).drew
    have RA := HR3.out.stays BA
    have hne6 := op_news w5 o
    have CKA : CkR (w5.alloc (.cells #[.string o.s, .int .i64 o.d, .int .i64 o.a, .int .i64 o.b, .int .u32 o.i, .int .i64 o.t] 139)).drew mb g n w.heap.size (.slice (some ⟨g, 0, none⟩) L cap) u o := ⟨(BA.cell (p := ⟨mb, 0, none⟩) zm).trans d0, (BA.cell (p := ⟨g, n, none⟩) zg).trans hgn, HX3.out.stays BA⟩
    have CA := HC3.out.stays BA
    have sA : w5.heap.size < (w5.alloc (.cells #[.string o.s, .int .i64 o.d, .int .i64 o.a, .int .i64 o.b, .int .u32 o.i, .int .i64 o.t] 139)).drew.heap.size := by show _ < (w5.alloc _).heap.size; rw [World.size_alloc]; omega
    have FA : Hid (∀ v' w4, w4.ownsRow base 139 6 v' (row.length + 1) (opL row ++ opC o) → (w5.alloc (.cells #[.string o.s, .int .i64 o.d, .int .i64 o.a, .int .i64 o.b, .int .u32 o.i, .int .i64 o.t] 139)).drew.grownBy w4 u.ownBlock → Moved (w5.alloc (.cells #[.string o.s, .int .i64 o.d, .int .i64 o.a, .int .i64 o.b, .int .u32 o.i, .int .i64 o.t] 139)).drew u v' → RwAt (w4.setCell ⟨g, n, none⟩ v') base (.slice (some ⟨g, 0, none⟩) L cap) (US.set n v') (RS.modify n (· ++ [o])) ∧ CkR w4 mb g n w.heap.size (.slice (some ⟨g, 0, none⟩) L cap) u o ∧ w4.frozen? ⟨g, n, none⟩ = false ∧ MkC (w4.setCell ⟨g, n, none⟩ v') mb M (.slice (some ⟨g, 0, none⟩) L cap) ∧ BoxP (w4.setCell ⟨g, n, none⟩ v') w.heap.size o ∧ Below mb w (w4.setCell ⟨g, n, none⟩ v')) := by
      intro v' w4 ho4 hg4 hm4
      have RA' := RA
      rw [← hL] at RA'
      have hug : ∀ k, u.ownBlock = some k → k ≠ g := fun k e he => (RA.each n u row hu hrow).2 k e (by rw [he]; rfl)
      have bk : ∀ k, k < w5.heap.size → u.ownBlock ≠ some k → w4.heap[k]? = w5.heap[k]? := fun k hk hne => (hg4.block k (by omega) (Ne.symm hne)).trans (BA.block k hk)
      have b1 := bk mb zm (fun e => by have := (hub mb e).1; omega)
      have b2 := bk g zg (fun e => hug g e rfl)
      have b3 := bk w.heap.size zx (fun e => (hub _ e).2 rfl)
      have own4 : w4.ownsRow base 52 1 (.slice (some ⟨g, 0, none⟩) L cap) RS.length US := owns_blocks HR3.out.own fun k e => by
        have : k = g := by simpa [Value.ownBlock] using e.symm
        subst this; exact b2
      have hp := RA'.push hu hrow OKH.out ho4 hg4 hm4
      rw [hL] at hp
      refine ⟨hp, ⟨(World.cell?_of_block (a := ⟨mb, 0, none⟩) b1).trans d0, (World.cell?_of_block (a := ⟨g, n, none⟩) b2).trans hgn, HX3.out.block b3⟩, ?_, ?_, ?_, ?_⟩
      · rw [hL] at own4; exact own4.frozenAt n
      · exact RowIs.block HC3.out ((Below.heap_setCell _ _ _ _ (fun e => hmg2 e)).trans b1)
      · exact (HX3.out.block b3).put (Ne.symm hgx)
      · refine ⟨hg4.os.trans (BA.os.trans HB3.out.os), hg4.tape.trans (BA.tape.trans HB3.out.tape), hg4.output.trans (BA.output.trans HB3.out.output), ?_, fun k hk => ?_⟩
        · rw [World.size_setCell]; have := hg4.size; omega
        · rw [Below.heap_setCell _ _ _ _ (by intro e; have e' : k = g := e; omega)]
          exact (bk k (by omega) (fun e => by have := (hub k e).1; omega)).trans (HB3.out.block k hk)
    have hbA : base ≤ (w5.alloc (.cells #[.string o.s, .int .i64 o.d, .int .i64 o.a, .int .i64 o.b, .int .u32 o.i, .int .i64 o.t] 139)).drew.heap.size := by omega
    have RAO := (RA.each n u row hu hrow).1
    have HRAO : Hid ((w5.alloc (.cells #[.string o.s, .int .i64 o.d, .int .i64 o.a, .int .i64 o.b, .int .u32 o.i, .int .i64 o.t] 139)).drew.ownsRow base 139 6 u row.length (opL row)) := RAO
    have HCKA : Hid (CkR (w5.alloc (.cells #[.string o.s, .int .i64 o.d, .int .i64 o.a, .int .i64 o.b, .int .u32 o.i, .int .i64 o.t] 139)).drew mb g n w.heap.size (.slice (some ⟨g, 0, none⟩) L cap) u o) := CKA
    obtain ⟨au, cu, hue2⟩ : ∃ a c, u = .slice a row.length c := by obtain ⟨a, c, e, _⟩ := (ops_of_row (n := 0) RAO (HR3.out.ok row (List.mem_of_getElem? hrow))).sh; exact ⟨a, c, e⟩
    subst hue2
    have hone := opC_one o
    have hlen6 : (opC o).length = 1 * 6 := rfl
    unfold opC at hne6 hone hlen6
    clear RA CA BA CKA RAO hu hrow hub
    go_wp2
    refine wp_region_phase 16 [(0, 0), (1, 0), (2, 0), (3, 1), (4, 0), (5, 0), (6, 0), (7, 0), (8, 1), (9, 0), (10, 0), (11, 1), (12, 1), (13, 2), (14, 2), (15, 0), (16, 2)] (fun W => CkR W mb g n w.heap.size (.slice (some ⟨g, 0, none⟩) L cap) (.slice au row.length cu) o) (by kernel_rfl) (by kernel_rfl) (fun _ _ _ d _ h => by cases d <;> exact h) ⟨by simpa using ck.a, by simpa using ck.b, ⟨by simpa using ck.x.c0, by simpa using ck.x.c1, by simpa using ck.x.c2, by simpa using ck.x.c3, by simpa using ck.x.c4, by simpa using ck.x.c5⟩⟩ ?_
    repeat (first | (refine wpPlanZ_free (by rfl) (by rfl) (fun W => by (go_simp; try with_reducible rfl)) (fun K hK => ?_); go_simp; refine hK _ ?_; clear hK K) | (refine wpPlanZ_quiet (by rfl) (by rfl) (fun W hW => by (obtain ⟨s0, s1, ⟨t0, t1, t2, t3, t4, t5⟩⟩ := hW; go_simp; try with_reducible rfl)) (fun K hK => ?_); go_simp; refine hK _ ?_; clear hK K))
    refine wpPlanZ_serial (by rfl) (by rfl) (fun K hK => ?_)
    go_simp
    refine hK _ _ (fun _ => HCKA.out) ?_
    clear hK K ck HCKA d0 zm zg zx hgn
    generalize (w5.alloc (.cells #[.string o.s, .int .i64 o.d, .int .i64 o.a, .int .i64 o.b, .int .u32 o.i, .int .i64 o.t] 139)).drew = wA at *
    refine wpPlanZ_serial (by rfl) (by rfl) (fun K hK => ?_)
    refine oper_append_movedP _ _ 52 rfl base 139 i0 _ 6 56 Tryz.underlying52 hi hz0 hz1 hz2 rfl (by decide) (.slice au row.length cu) row.length (opL row) rfl HRAO.out ⟨w5.heap.size, 0, none⟩ 1 1 [.string o.s, .int .i64 o.d, .int .i64 o.a, .int .i64 o.b, .int .u32 o.i, .int .i64 o.t] rfl hlen6 hne6 hone (by unfold maxLen; omega) (by omega) hbA ?_
    intro v' w4 ho4 hg4 hm4
    have FF := FA.out v' w4 ho4 hg4 hm4
    obtain ⟨g', cap', hv'⟩ := own_pos ho4
    subst hv'
    have HFF : Hid _ := FF
    refine hK _ _ (fun _ => FF.2.1) ?_
    have q1 := FF.2.1.b
    have q2 := FF.2.2.1
    have q3 := World.block_lt_of_cell? _ _ q1
    clear hK K FA ho4 hg4 hm4 FF HRAO
    repeat (refine wpPlanZ_free (by rfl) (by rfl) (fun W => by (go_simp; try with_reducible rfl)) (fun K hK => ?_); go_simp; refine hK _ ?_; clear hK K)
    refine wpPlanZ_serial (by rfl) (by rfl) (fun K hK => ?_)
    go_simp
    refine hK _ _ (fun h => absurd h (by decide)) ?_
    clear hK K
    refine wpPlanZ_nil ?_
    have F1 := HFF.out.1
    have F2 := HFF.out.2.2.2.1
    have F3 := HFF.out.2.2.2.2.1
    have F4 := HFF.out.2.2.2.2.2
    clear HFF q1 q2 q3
    generalize w4.setCell ⟨g, n, none⟩ (.slice (some ⟨g', 0, none⟩) (row.length + 1) cap') = w6 at *
    have HF1 : Hid _ := F1
    have HF2 : Hid (MkC w6 mb M (.slice (some ⟨g, 0, none⟩) L cap)) := F2
    have HF4 : Hid (Below mb w w6) := F4
    have hnt := HNT.out w6 _ F2 n (by omega)
    unfold opV at hnt
    have zx6 := F3.lt
    obtain ⟨c0, c1, c2, c3, c4, c5⟩ := F3
    clear F1 F2 F4 HNT
    go_wp2_with fail
    refine hnt.mono ?_
    rintro e w7 ⟨rfl, hC7, hg7⟩
    have R7 : Hid (RwAt w7 base (.slice (some ⟨g, 0, none⟩) L cap) (US.set n (.slice (some ⟨g', 0, none⟩) (row.length + 1) cap')) (RS.modify n (· ++ [o]))) := HF1.out.note hb hg7
    have C7 : Hid (MkC w7 mb PM (.slice (some ⟨g, 0, none⟩) L cap)) := by
      rw [HPM2.out]
      have := hC7
      rw [HN.out, HPR.out] at this
      exact this
    have B7 : Hid (Below mb w w7) := ⟨hg7.os.trans HF4.out.os, hg7.tape.trans HF4.out.tape, hg7.output.trans HF4.out.output, Nat.le_trans HF4.out.size hg7.size, fun k hk => (hg7.block k (by have := HF4.out.size; omega) (by intro e; have := Option.some.inj e; omega)).trans (HF4.out.block k hk)⟩
    have HRW : Hid (PM.rows = RS.modify n (· ++ [o])) := by show _ = _; rw [HPM2.out]; rfl
    clear hnt hC7 hg7 c0 c1 c2 c3 c4 c5 zx6 HF1 HF2 HF4
    go_wp2
    go_end0
    exact ⟨rfl, ⟨_, _, C7.out, by rw [HRW.out]; exact R7.out⟩, B7.out⟩
end Go.Proofs.YtflagpkmebdckaaGreatDoor
/-
  Package plan: Make.
-/
namespace Go.Proofs.YtflagpkmebdckaaGreatDoor
open Go.RowKit Go.Maps
open Num
set_option linter.unusedVariables false
theorem results_cell1P {fn : Func} {p u : Tmp} {ty : TypeId} {A : Addr} {x : Value} (h : fn.results = #[.cell p ty, .tmp u]) (tmps : Array Value) (P : Program) (w : World) (hp : tmps.getD p undef = .pointer (some A)) (hl : (loadVar ty A).run P w = .ok x w) :
    (results fn tmps).run P w = .ok (.tuple #[x, tmps.getD u undef]) w := by
  simp only [results, h]
  simp only [asAddr, hp, Sem.run_bind, List.mapM_toArray, List.mapM_cons, List.mapM_nil, Sem.run_map, Sem.run_pure, Result.andThen, hl]
  simp
theorem plan_load {w : World} {B : Nat} {a b c : Value} (z0 : w.cell? ⟨B, 0, none⟩ = some a) (z1 : w.cell? ⟨B, 1, none⟩ = some b) (z2 : w.cell? ⟨B, 2, none⟩ = some c) : (loadVar 79 ⟨B, 0, none⟩).run Tryz.prog w = .ok (.agg #[a, b, c]) w := by
  simp [go_sem, z0, z1, z2]
/-- the code's box and the plan's -/
structure PBox (W : World) (cb rb : Nat) (pc many : Int) (v : Value) : Prop where
  k0 : W.cell? ⟨cb, 0, none⟩ = some (.int .u32 pc)
  k1 : W.cell? ⟨cb, 1, none⟩ = some (.int .i64 many)
  k2 : W.cell? ⟨cb, 2, none⟩ = some v
  z0 : W.cell? ⟨rb, 0, none⟩ = some (.int .u32 0)
  z1 : W.cell? ⟨rb, 1, none⟩ = some (.int .i64 0)
  z2 : W.cell? ⟨rb, 2, none⟩ = some (.slice none 0 0)
  f : ∀ j, W.frozen? ⟨rb, j, none⟩ = false
theorem PBox.block {W W' : World} {cb rb : Nat} {pc many : Int} {v : Value} (O : PBox W cb rb pc many v) (h1 : W'.heap[cb]? = W.heap[cb]?) (h2 : W'.heap[rb]? = W.heap[rb]?) : PBox W' cb rb pc many v :=
  ⟨(World.cell?_of_block (a := ⟨cb, 0, none⟩) h1).trans O.k0, (World.cell?_of_block (a := ⟨cb, 1, none⟩) h1).trans O.k1, (World.cell?_of_block (a := ⟨cb, 2, none⟩) h1).trans O.k2, (World.cell?_of_block (a := ⟨rb, 0, none⟩) h2).trans O.z0, (World.cell?_of_block (a := ⟨rb, 1, none⟩) h2).trans O.z1, (World.cell?_of_block (a := ⟨rb, 2, none⟩) h2).trans O.z2, fun j => (World.frozen?_of_block (a := ⟨rb, j, none⟩) h2).trans (O.f j)⟩
theorem PBox.lt {W : World} {cb rb : Nat} {pc many : Int} {v : Value} (O : PBox W cb rb pc many v) : cb < W.heap.size ∧ rb < W.heap.size := ⟨World.block_lt_of_cell? _ _ O.k0, World.block_lt_of_cell? _ _ O.z0⟩
theorem PBox.stays {W W' : World} {cb rb : Nat} {pc many : Int} {v : Value} (O : PBox W cb rb pc many v) (h : Below W.heap.size W W') : PBox W' cb rb pc many v := O.block (h.block _ O.lt.1) (h.block _ O.lt.2)
theorem PBox.new (w : World) (pc many : Int) (v : Value) : PBox ((w.alloc (.cells #[.int .u32 pc, .int .i64 many, v] 54)).alloc (.cells #[.int .u32 0, .int .i64 0, .slice none 0 0] 79)) w.heap.size (w.heap.size + 1) pc many v := by
  refine ⟨by simp, by simp, by simp, by simp, by simp, by simp, fun j => World.frozen?_alloc_at _ _ _ _ (by simp)⟩
theorem put3P {w : World} {B : Nat} {u0 u1 u2 v0 v1 v2 : Value} (z0 : w.cell? ⟨B, 0, none⟩ = some u0) (z1 : w.cell? ⟨B, 1, none⟩ = some u1) (z2 : w.cell? ⟨B, 2, none⟩ = some u2) : (((w.setCell ⟨B, 0, none⟩ v0).setCell ⟨B, 1, none⟩ v1).setCell ⟨B, 2, none⟩ v2).cell? ⟨B, 0, none⟩ = some v0 ∧ (((w.setCell ⟨B, 0, none⟩ v0).setCell ⟨B, 1, none⟩ v1).setCell ⟨B, 2, none⟩ v2).cell? ⟨B, 1, none⟩ = some v1 ∧ (((w.setCell ⟨B, 0, none⟩ v0).setCell ⟨B, 1, none⟩ v1).setCell ⟨B, 2, none⟩ v2).cell? ⟨B, 2, none⟩ = some v2 := by
  have n1 : (⟨B, 1, none⟩ : Addr) ≠ ⟨B, 0, none⟩ := ofs3 (by omega)
  have n2 : (⟨B, 2, none⟩ : Addr) ≠ ⟨B, 0, none⟩ := ofs3 (by omega)
  have n3 : (⟨B, 2, none⟩ : Addr) ≠ ⟨B, 1, none⟩ := ofs3 (by omega)
  have a1 := World.cell?_setCell_same w ⟨B, 0, none⟩ v0 z0
  have a2 : (w.setCell ⟨B, 0, none⟩ v0).cell? ⟨B, 1, none⟩ = some u1 := by rw [World.cell?_setCell_other _ _ _ _ (Ne.symm n1)]; exact z1
  have a3 : (w.setCell ⟨B, 0, none⟩ v0).cell? ⟨B, 2, none⟩ = some u2 := by rw [World.cell?_setCell_other _ _ _ _ (Ne.symm n2)]; exact z2
  have b1 := World.cell?_setCell_same (w.setCell ⟨B, 0, none⟩ v0) ⟨B, 1, none⟩ v1 a2
  have b3 : ((w.setCell ⟨B, 0, none⟩ v0).setCell ⟨B, 1, none⟩ v1).cell? ⟨B, 2, none⟩ = some u2 := by rw [World.cell?_setCell_other _ _ _ _ (Ne.symm n3)]; exact a3
  have b0 : ((w.setCell ⟨B, 0, none⟩ v0).setCell ⟨B, 1, none⟩ v1).cell? ⟨B, 0, none⟩ = some v0 := by rw [World.cell?_setCell_other _ _ _ _ n1]; exact a1
  exact ⟨by rw [World.cell?_setCell_other _ _ _ _ n2]; exact b0, by rw [World.cell?_setCell_other _ _ _ _ n3]; exact b1, World.cell?_setCell_same _ _ _ b3⟩
theorem CErr.nz {pe : Nat → Addr} {w : World} {f : Int × Int} {v : Value} (C : CErr pe w f v) (hf : f ≠ (0, -1)) : ∃ t a, v = .iface t (.pointer a) := by
  rcases C with ⟨h1, h2⟩ | ⟨_, _, fb, h2, _⟩
  · have h0 : f.1 ≠ 0 := fun e => hf (by rw [← h1, ← e])
    exact ⟨_, _, by rw [h2, erV_some h0]⟩
  · exact ⟨_, _, h2⟩
theorem CErr.block {pe : Nat → Addr} {w w' : World} {f : Int × Int} {v : Value} (C : CErr pe w f v) (h : ∀ fb, v = .iface 202 (.pointer (some ⟨fb, 0, none⟩)) → w'.heap[fb]? = w.heap[fb]?) : CErr pe w' f v := by
  rcases C with h1 | ⟨h1, h2, fb, h3, h4, h5⟩
  · exact .inl h1
  · exact .inr ⟨h1, h2, fb, h3, (World.cell?_of_block (a := ⟨fb, 0, none⟩) (h fb h3)).trans h4, (World.cell?_of_block (a := ⟨fb, 1, none⟩) (h fb h3)).trans h5⟩
end Go.Proofs.YtflagpkmebdckaaGreatDoor
