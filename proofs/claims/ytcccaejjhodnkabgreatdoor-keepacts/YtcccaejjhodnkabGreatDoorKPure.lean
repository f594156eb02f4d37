/-
  Memory in whole numbers: which error an access has; a word's bytes, taken and laid.
-/
import Derived.Laws.BitsAllLaws
import Derived.Deep.RegionWith
import Derived.Deep.Cut
import Derived.Laws.Rows
import Derived.Laws.CopyOwn
import Derived.Below
import Derived.Test.YtcccaejjhodnkabGreatDoorKNum
namespace Go.Proofs.YtcccaejjhodnkabGreatDoor
open Num
/-- a word with bytes laid into it: P: what lies behind them, S: how many values they have -/
def stw (x v P S : Int) : Int := x / (P * S) * (P * S) + v % S * P + x % P
/-- how many bits lie behind bytes in their word -/
def bhd (addr size : Int) : Int := 8 * (4 - addr % 4 - size)
/-- what is loaded -/
def ld (m : Nat → Int) (addr size : Int) (s : Bool) : Int := wd (m (addr / 4).toNat / 2 ^ (bhd addr size).toNat) (8 * size) s
/-- memory with bytes stored -/
def upd (m : Nat → Int) (addr size v : Int) (i : Nat) : Int := if i = (addr / 4).toNat then stw (m i) v (2 ^ (bhd addr size).toNat) (2 ^ (8 * size).toNat) else m i
end Go.Proofs.YtcccaejjhodnkabGreatDoor
/-
  Codes in whole numbers: kinds of ops, what is wrong with an op or a code, what an op makes of registers and memory.
-/
namespace Go.Proofs.YtcccaejjhodnkabGreatDoor
open Num
set_option linter.unusedVariables false
/-- the kinds' words: 1 set, 2 copy, 3 to 20 sums (17 to 20: quotients), 21 over+, 22 over-, 23 load, 24 store, 25 if, 26 out, 27 outr -/
def kinds : List (List UInt8) := [[], [115, 101, 116], [99, 111, 112, 121], [97, 100, 100], [115, 117, 98], [97, 110, 100], [111, 114], [120, 111, 114], [110, 111, 114], [115, 108, 116], [115, 108, 116, 117], [115, 104, 108], [115, 104, 114], [115, 97, 114], [109, 117, 108], [109, 117, 108, 104], [109, 117, 108, 104, 117], [113, 117, 111], [114, 101, 109], [113, 117, 111, 117], [114, 101, 109, 117], [111, 118, 101, 114, 43], [111, 118, 101, 114, 45], [108, 111, 97, 100], [115, 116, 111, 114, 101], [105, 102], [111, 117, 116], [111, 117, 116, 114]]
def kindS (k : Nat) : ByteArray := ⟨(kinds.getD k []).toArray⟩
/-- a kind's number; 0: there is none -/
def kn (s : ByteArray) : Nat := ((List.range 28).find? fun k => decide (1 ≤ k ∧ s.data.toList = kinds.getD k [])).getD 0
theorem kn_lt (s : ByteArray) : kn s < 28 := by
  unfold kn
  cases hf : (List.range 28).find? (fun k => decide (1 ≤ k ∧ s.data.toList = kinds.getD k [])) with
  | none => decide
  | some j => exact List.mem_range.1 (List.mem_of_find?_eq_some hf)
theorem kn_word {s : ByteArray} (h : kn s ≠ 0) : s = kindS (kn s) := by
  have e : ∀ n, kn s = n → n ≠ 0 → s.data.toList = kinds.getD n [] := by
    intro n hn h0
    unfold kn at hn
    cases hf : (List.range 28).find? (fun k => decide (1 ≤ k ∧ s.data.toList = kinds.getD k [])) with
    | none => rw [hf] at hn; exact absurd hn.symm h0
    | some j =>
      rw [hf] at hn
      obtain rfl : j = n := hn
      have := List.find?_some hf
      simp only [decide_eq_true_eq] at this
      exact this.2
  have := e _ rfl h
  obtain ⟨⟨l⟩⟩ := s
  unfold kindS
  rw [← this]
theorem kn_kind' : ∀ k, k < 28 → 1 ≤ k → kn (kindS k) = k := by decide
theorem kn_kind (k : Nat) (h1 : 1 ≤ k) (h2 : k < 28) : kn (kindS k) = k := kn_kind' k h2 h1
theorem kn_none {s : ByteArray} (h : kn s = 0) : ∀ k, 1 ≤ k → k < 28 → s.data.toList ≠ kinds.getD k [] := by
  intro k h1 h2 e
  have : s = kindS k := by obtain ⟨⟨l⟩⟩ := s; unfold kindS; rw [← e]
  rw [this, kn_kind k h1 h2] at h
  omega
/-- an op -/
structure Opx where
  s : ByteArray
  d : Int
  a : Int
  b : Int
  i : Int
  t : Int
abbrev Opx.k (o : Opx) : Nat := kn o.s
structure Opx.ok (o : Opx) : Prop where
  d0 : -9223372036854775808 ≤ o.d
  d1 : o.d ≤ 9223372036854775807
  a0 : -9223372036854775808 ≤ o.a
  a1 : o.a ≤ 9223372036854775807
  b0 : -9223372036854775808 ≤ o.b
  b1 : o.b ≤ 9223372036854775807
  i0 : 0 ≤ o.i
  i1 : o.i < 4294967296
  t0 : -9223372036854775808 ≤ o.t
  t1 : o.t ≤ 9223372036854775807
/-- what a kind's fields are: 0 nothing, 1 a register that is read, 2 one that is written, 3 bytes that are loaded, 4 bytes that are stored -/
def rD (k : Nat) : Nat := if 1 ≤ k ∧ k ≤ 20 ∨ k = 23 then 2 else if k = 24 then 4 else 0
def rA (k : Nat) : Nat := if 2 ≤ k ∧ k ≤ 25 ∨ k = 27 then 1 else 0
def rB (k : Nat) : Nat := if 3 ≤ k ∧ k ≤ 22 ∨ k = 24 then 1 else if k = 23 then 3 else 0
def rI (k : Nat) : Bool := decide (k = 1 ∨ 23 ≤ k ∧ k ≤ 26)
/-- is a number one of a role? -/
def alw (r : Nat) (n : Int) : Bool := if r = 1 then decide (0 ≤ n) && decide (n < 64) else if r = 2 then decide (1 ≤ n) && decide (n < 64) else if r = 3 then decide (n = 1 ∨ n = 2 ∨ n = 4 ∨ n = -1 ∨ n = -2) else if r = 4 then decide (n = 1 ∨ n = 2 ∨ n = 4) else true
def bndB (o : Opx) (many : Int) : Bool := alw (rD o.k) o.d && alw (rA o.k) o.a && alw (rB o.k) o.b && decide (0 ≤ o.t) && decide (o.t < many)
def shpB (o : Opx) : Bool := (decide (rD o.k ≠ 0) || decide (o.d = 0)) && (decide (rA o.k ≠ 0) || decide (o.a = 0)) && (decide (rB o.k ≠ 0) || decide (o.b = 0)) && (rI o.k || decide (o.i = 0))
/-- what is wrong with an op alone: an error's number -/
def opE (o : Opx) (many : Int) : Int := if o.k = 0 then 4 else if bndB o many = false then 2 else if shpB o = false then 3 else 0
def outB (o : Opx) : Bool := decide (o.k = 26 ∨ o.k = 27)
def strs (l : List Opx) : Nat := (l.filter fun o => decide (o.k = 24)).length
theorem strs_snoc (l : List Opx) (o : Opx) : strs (l ++ [o]) = strs l + (if o.k = 24 then 1 else 0) := by
  unfold strs; rw [List.filter_append, List.length_append]; by_cases h : o.k = 24 <;> simp [h]
theorem strs_le (l : List Opx) : strs l ≤ l.length := List.length_filter_le _ _
/-- what a kind that only writes writes: of x(A), x(B), what D has, Imm -/
def valV (k : Nat) (a b d i : Int) : Int :=
  if k = 1 then i else if k = 2 then a else if k = 3 then lo (a + b) else if k = 4 then lo (a - b) else if k = 5 then bits .and .u32 a b else if k = 6 then bits .or .u32 a b else if k = 7 then bits .xor .u32 a b else if k = 8 then bits .xor .u32 4294967295 (bits .or .u32 a b)
  else if k = 9 then (if lessB a b true = true then 1 else 0) else if k = 10 then (if lessB a b false = true then 1 else 0) else if k = 11 then shf 60 a b else if k = 12 then shf 62 a b else if k = 13 then shf 126 a b
  else if k = 14 then lo (a * b) else if k = 15 then hi (nm a true * nm b true) else if k = 16 then hi (a * b)
  else if b = 0 then d else if k = 17 then quo a b true else if k = 18 then rst a b true else if k = 19 then quo a b false else rst a b false
/-- a store that waits -/
structure Pend where
  a : Int
  s : Int
  v : Int
def Pend.put (m : Nat → Int) (p : Pend) : Nat → Int := upd m p.a p.s p.v
/-- registers, and what waits -/
structure Mc where
  x : Nat → Int
  p : List Pend
inductive Rs where
  | on (M : Mc)
  | trap
  | leave (to : Int)
inductive Out where
  | trap (t : Int)
  | leave (to : Int) (M : Mc)
  | fell
end Go.Proofs.YtcccaejjhodnkabGreatDoor
/-
  Append: a row that was appended to lies where it lay, or anew.
-/
namespace Go.Proofs.YtcccaejjhodnkabGreatDoor
open Go.RowKit
set_option linter.unusedVariables false
/-- a row that was appended to lies where it lay, or anew -/
def Moved (w : World) (v v' : Value) : Prop := ∀ k, v'.ownBlock = some k → v.ownBlock = some k ∨ w.heap.size ≤ k
theorem Moved.refl (w : World) (v : Value) : Moved w v v := fun _ h => Or.inl h
theorem run_append_moved {P : Program} (w : World) (base : Nat) (t ty e : TypeId) (i : TypeInfo) (z : Value) (size bytes : Nat) (ht : P.underlying t = some (.slice e)) (hi : P.info? e = some i) (hz : i.zero = some z)
    (hsize : i.size = size) (hby : i.bytes = bytes) (hzs : z.cells.size = size) (hsz : 0 < size)
    (v : Value) (n : Nat) (xs : List Value) (hown : w.ownsRow base e size v n xs)
    (a : Addr) (m c : Nat) (news : List Value) (hl : news.length = m * size) (hnews : ∀ j u, news[j]? = some u → w.cell? (a.add j) = some u) (h1 : ∀ u ∈ news, u.oneCell' = true)
    (h63 : n + m ≤ maxLen) (hbytes : (n + m) * bytes ≤ 140737488355328) (hbase : base ≤ w.heap.size) :
    ∃ v' w', (Builtin.append_ #[t, t] ty #[v, .slice (some a) m c]).run P w = .ok v' w' ∧ w'.ownsRow base e size v' (n + m) (xs ++ news) ∧ w.grownBy w' v.ownBlock ∧ Moved w v v' := by
  obtain ⟨v', w', hr, h2, h3, h4⟩ := run_append_own (P := P) w base t ty e i z size bytes ht hi hz hsize hby hzs hsz v n xs hown a m c news hl hnews h1 h63 hbytes hbase
  refine ⟨v', w', hr, h2, h3, ?_⟩
  subst hsize
  subst hby
  have hsmall : n + m ≤ 9223372036854775807 := by simp only [maxLen] at h63; omega
  rcases hown.2 with ⟨rfl, rfl⟩ | ⟨g, cap, cur, rfl, hbg, hg, hnc, hcm, hcs, htake⟩
  · by_cases hm : m = 0
    · obtain rfl : v' = .slice none 0 0 := h4.2 ⟨rfl, hm⟩
      exact Moved.refl _ _
    · have hr2 := run_append_nil (P := P) w t ty e i z ht hi hz a m c news hl hnews (by omega) (by omega) (by have hb := hbytes; simp only [Nat.zero_add] at hb; omega)
      rw [hr] at hr2
      injection hr2 with e1 e2
      subst e1
      intro k hk
      simp [Value.ownBlock] at hk
      exact Or.inr (by omega)
  · by_cases hroom : n + m ≤ cap
    · have hfit : n * i.size + news.length ≤ cur.size := by rw [hl, hcs, ← Nat.add_mul]; exact Nat.mul_le_mul_right _ hroom
      have hr2 := run_append_room (P := P) w t ty e i ht hi g n cap cur hg a m c news hl hnews h1 hroom hfit
      rw [hr] at hr2
      injection hr2 with e1 e2
      subst e1
      intro k hk
      exact Or.inl hk
    · have holds : ∀ j u, xs[j]? = some u → w.cell? ((⟨g, 0, none⟩ : Addr).add j) = some u := hown.cells (g := g) rfl
      have hr2 := run_append_grow (P := P) w t ty e i z ht hi hz ⟨g, 0, none⟩ n cap xs hown.1 holds a m c news hl hnews (by omega) (by omega) (growslice_fits (by omega) hbytes)
      rw [hr] at hr2
      injection hr2 with e1 e2
      subst e1
      intro k hk
      simp [Value.ownBlock] at hk
      exact Or.inr (by omega)
theorem wpList_append_moved {P : Program} {w : World} {ops : Array Oper} {rest : List Oper} {o : Oper} {a : Act} {Q : Exit → Act → World → Prop} (hgd : o.guard = none) (s x : Operand) (t : TypeId)
    (ho : o.op = .call { callee := .builtin .append, args := #[s, x], argTypes := #[t, t] })
    (base : Nat) (e : TypeId) (i : TypeInfo) (z : Value) (size bytes : Nat) (ht : P.underlying t = some (.slice e)) (hi : P.info? e = some i) (hz : i.zero = some z)
    (hsize : i.size = size) (hby : i.bytes = bytes) (hzs : z.cells.size = size) (hsz : 0 < size)
    (v : Value) (n : Nat) (xs : List Value) (hs : a.eval s = v) (hown : w.ownsRow base e size v n xs)
    (ad : Addr) (m c : Nat) (news : List Value) (hx : a.eval x = .slice (some ad) m c) (hl : news.length = m * size) (hnews : ∀ j u, news[j]? = some u → w.cell? (ad.add j) = some u) (h1 : ∀ u ∈ news, u.oneCell' = true)
    (h63 : n + m ≤ maxLen) (hbytes : (n + m) * bytes ≤ 140737488355328) (hbase : base ≤ w.heap.size)
    (h : ∀ v' w', w'.ownsRow base e size v' (n + m) (xs ++ news) → w.grownBy w' v.ownBlock → Moved w v v' → wpList P ops Q rest (a.put o.dst v') w') : wpList P ops Q (o :: rest) a w := by
  refine wpList_plain hgd fun K hK => ?_
  obtain ⟨v', w', hr, h2, h3, h4⟩ := run_append_moved (P := P) w base t o.type e i z size bytes ht hi hz hsize hby hzs hsz v n xs hown ad m c news hl hnews h1 h63 hbytes hbase
  unfold Oper.wp execOp
  simp only [ho, resolve, invoke, builtin, Sem.run_bind, Sem.run_pure, Result.andThen_ok, List.map_toArray, List.map_cons, List.map_nil, hs, hx, hr]
  exact hK _ _ (h v' w' h2 h3 h4)
end Go.Proofs.YtcccaejjhodnkabGreatDoor
/-
  Rows of memory that may be written.
-/
namespace Go.Proofs.YtcccaejjhodnkabGreatDoor
open Go.RowKit
set_option linter.unusedVariables false
/-- block b is a row of so many cells, that may be written -/
def RowIs (w : World) (b : Nat) (t : TypeId) (n : Nat) (f : Nat → Value) : Prop := ∃ cur : Array Value, w.heap[b]? = some (.cells cur t (0, 0)) ∧ cur.size = n ∧ ∀ j, j < n → cur[j]? = some (f j)
theorem RowIs.cell {w : World} {b : Nat} {t : TypeId} {n : Nat} {f : Nat → Value} (h : RowIs w b t n f) {j : Nat} (hj : j < n) : w.cell? ⟨b, j, none⟩ = some (f j) := by
  obtain ⟨cur, h1, h2, h3⟩ := h
  rw [cell_of_row _ _ _ _ _ _ h1]; exact h3 j hj
theorem RowIs.fz {w : World} {b : Nat} {t : TypeId} {n : Nat} {f : Nat → Value} (h : RowIs w b t n f) (j : Nat) : w.frozen? ⟨b, j, none⟩ = false := by
  obtain ⟨cur, h1, h2, h3⟩ := h
  simp [World.frozen?, h1]
theorem RowIs.lt {w : World} {b : Nat} {t : TypeId} {n : Nat} {f : Nat → Value} (h : RowIs w b t n f) : b < w.heap.size := by
  obtain ⟨cur, h1, _⟩ := h; exact (Array.getElem?_eq_some_iff.1 h1).1
theorem RowIs.block {w w' : World} {b : Nat} {t : TypeId} {n : Nat} {f : Nat → Value} (h : RowIs w b t n f) (e : w'.heap[b]? = w.heap[b]?) : RowIs w' b t n f := by
  obtain ⟨cur, h1, h2, h3⟩ := h; exact ⟨cur, e.trans h1, h2, h3⟩
theorem RowIs.stays {w w' : World} {b : Nat} {t : TypeId} {n : Nat} {f : Nat → Value} (h : RowIs w b t n f) (hb : Below w.heap.size w w') : RowIs w' b t n f := h.block (hb.block _ h.lt)
theorem RowIs.put {w : World} {b : Nat} {t : TypeId} {n : Nat} {f : Nat → Value} (h : RowIs w b t n f) (i : Nat) (v : Value) (g : Nat → Value) (hg : g i = v) (ho : ∀ j, j < n → j ≠ i → g j = f j) : RowIs (w.setCell ⟨b, i, none⟩ v) b t n g := by
  obtain ⟨cur, h1, h2, h3⟩ := h
  rw [setCell_eq_setRow _ _ _ cur t (0, 0) _ h1]
  refine ⟨cur.setIfInBounds i v, setRow_heap w b _ _ t _ h1, by simp [h2], fun j hj => ?_⟩
  by_cases e : i = j
  · subst e; rw [Array.getElem?_setIfInBounds_self, if_pos (by omega), hg]
  · rw [Array.getElem?_setIfInBounds_ne e, h3 j hj, ho j hj (Ne.symm e)]
theorem owns_blocks {w w' : World} {base : Nat} {e : TypeId} {size n : Nat} {v : Value} {xs : List Value} (h : w.ownsRow base e size v n xs) (hb : ∀ k, v.ownBlock = some k → w'.heap[k]? = w.heap[k]?) : w'.ownsRow base e size v n xs := by
  refine ⟨h.1, ?_⟩
  rcases h.2 with hn | ⟨g, cap, cur, rfl, hbg, hgg, rest⟩
  · exact .inl hn
  · exact .inr ⟨g, cap, cur, rfl, hbg, (hb g rfl).trans hgg, rest⟩
theorem own_pos {w : World} {base : Nat} {e : TypeId} {size n : Nat} {v : Value} {xs : List Value} (h : w.ownsRow base e size v (n + 1) xs) : ∃ g cap, v = .slice (some ⟨g, 0, none⟩) (n + 1) cap := by
  rcases h.2 with ⟨_, h⟩ | ⟨g, cap, cur, rfl, _⟩
  · omega
  · exact ⟨g, cap, rfl⟩
theorem add_lit (g k : Nat) : (⟨g, 0, none⟩ : Addr).add k = ⟨g, k, none⟩ := by unfold Addr.add; split <;> simp_all
end Go.Proofs.YtcccaejjhodnkabGreatDoor
/-
  Package keep: a keep behind its pointer: its room, and the row of what it has.
-/
namespace Go.Proofs.YtcccaejjhodnkabGreatDoor
open Go.RowKit
open Num
set_option linter.unusedVariables false
/-- one that is kept: its cells, and what its pages and its rows are -/
structure Kx where
  pc : Int
  many : Int
  ra : Option Addr
  rn : Nat
  rc : Nat
  ga : Option Addr
  gn : Nat
  gc : Nat
  zs : List Int
  rs : List (List Opx)
def kC (x : Kx) : List Value := [.int .u32 x.pc, .int .i64 x.many, .slice x.ra x.rn x.rc, .slice x.ga x.gn x.gc]
def kL (l : List Kx) : List Value := l.flatMap kC
theorem kL_len (l : List Kx) : (kL l).length = l.length * 4 := by
  induction l with
  | nil => rfl
  | cons q p ih => unfold kL at ih ⊢; rw [List.flatMap_cons, List.length_append, ih]; simp [kC]; omega
theorem kL_get : ∀ (p : List Kx) (j : Nat) (q : Kx) (i : Nat), p[j]? = some q → i < 4 → (kL p)[j * 4 + i]? = (kC q)[i]?
  | [], j, q, i, h, _ => by simp at h
  | r :: p, 0, q, i, h, hi => by
    simp at h; subst h
    show (kC r ++ kL p)[0 * 4 + i]? = _
    rw [List.getElem?_append_left (by simp [kC]; omega)]; simp
  | r :: p, j + 1, q, i, h, hi => by
    show (kC r ++ kL p)[(j + 1) * 4 + i]? = _
    rw [List.getElem?_append_right (by simp [kC]; omega), ← kL_get p j q i (by simpa using h) hi]
    congr 1; simp [kC]; omega
theorem kL_one (l : List Kx) : ∀ u ∈ kL l, u.oneCell' = true := by
  intro u hu
  obtain ⟨o, _, h⟩ := List.mem_flatMap.1 hu
  simp [kC] at h
  rcases h with rfl | rfl | rfl | rfl <;> rfl
theorem kL_snoc (l : List Kx) (x : Kx) : kL (l ++ [x]) = kL l ++ kC x := by unfold kL; simp
theorem infoKept : (Tryz.prog.info? 81).map (fun i => (i.zero, i.size, i.bytes)) = some (some (.agg #[.int .u32 0, .int .i64 0, .slice none 0 0, .slice none 0 0]), 4, 64) := by kernel_rfl
/-- a row of what is kept, as it is read -/
theorem row_cells {w : World} {base g cap n : Nat} {l : List Kx} (h : w.ownsRow base 81 4 (.slice (some ⟨g, 0, none⟩) n cap) n (kL l)) {j : Nat} {x : Kx} (hx : l[j]? = some x) :
    w.cell? ⟨g, j * 4, none⟩ = some (.int .u32 x.pc) ∧ w.cell? ⟨g, j * 4 + 1, none⟩ = some (.int .i64 x.many) ∧ w.cell? ⟨g, j * 4 + 2, none⟩ = some (.slice x.ra x.rn x.rc) ∧ w.cell? ⟨g, j * 4 + 3, none⟩ = some (.slice x.ga x.gn x.gc) := by
  have f : ∀ i u, i < 4 → (kC x)[i]? = some u → w.cell? ⟨g, j * 4 + i, none⟩ = some u := fun i u hi hu => by
    have := h.cells (g := g) rfl (j * 4 + i) u (by rw [kL_get l j x i hx hi]; exact hu)
    rwa [add_lit] at this
  exact ⟨f 0 _ (by omega) rfl, f 1 _ (by omega) rfl, f 2 _ (by omega) rfl, f 3 _ (by omega) rfl⟩
/-- a keep behind its pointer -/
structure KRow (w : World) (kb : Nat) (room : Int) (v : Value) (l : List Kx) : Prop where
  st : RowIs w kb 67 2 (fun j => if j = 0 then .int .i64 room else v)
  own : w.ownsRow (kb + 1) 81 4 v l.length (kL l)
theorem KRow.c0 {w : World} {kb : Nat} {room : Int} {v : Value} {l : List Kx} (K : KRow w kb room v l) : w.cell? ⟨kb, 0, none⟩ = some (.int .i64 room) := K.st.cell (j := 0) (by omega)
theorem KRow.c1 {w : World} {kb : Nat} {room : Int} {v : Value} {l : List Kx} (K : KRow w kb room v l) : w.cell? ⟨kb, 1, none⟩ = some v := K.st.cell (j := 1) (by omega)
theorem KRow.lt {w : World} {kb : Nat} {room : Int} {v : Value} {l : List Kx} (K : KRow w kb room v l) : kb < w.heap.size := K.st.lt
theorem KRow.fz {w : World} {kb : Nat} {room : Int} {v : Value} {l : List Kx} (K : KRow w kb room v l) (j : Nat) : w.frozen? ⟨kb, j, none⟩ = false := K.st.fz j
theorem own_lt {w : World} {base : Nat} {e : TypeId} {size n : Nat} {v : Value} {xs : List Value} (h : w.ownsRow base e size v n xs) : ∀ k, v.ownBlock = some k → k < w.heap.size ∧ base ≤ k := by
  intro k hk
  rcases h.2 with ⟨hv, _⟩ | ⟨g, cap, cur, hv, hb, hg, _⟩
  · subst hv; cases hk
  · subst hv
    obtain rfl : g = k := by simpa [Value.ownBlock] using hk
    exact ⟨(Array.getElem?_eq_some_iff.1 hg).1, hb⟩
theorem own_slice {w : World} {base : Nat} {e : TypeId} {size n : Nat} {v : Value} {xs : List Value} (h : w.ownsRow base e size v n xs) : ∃ a m c, v = .slice a m c := by
  rcases h.2 with ⟨hv, _⟩ | ⟨g, cap, cur, hv, _⟩
  · exact ⟨_, _, _, hv⟩
  · exact ⟨_, _, _, hv⟩
theorem own_cap {w : World} {base : Nat} {e : TypeId} {size n : Nat} {a : Option Addr} {m c : Nat} {xs : List Value} (h : w.ownsRow base e size (.slice a m c) n xs) : m ≤ c := by
  rcases h.2 with ⟨hv, _⟩ | ⟨g, cap, cur, hv, _, _, hc, _⟩
  · cases hv; exact Nat.le_refl _
  · cases hv; exact hc
theorem own_low {w : World} {base base' : Nat} {e : TypeId} {size n : Nat} {v : Value} {xs : List Value} (h : w.ownsRow base e size v n xs) (hb : base' ≤ base) : w.ownsRow base' e size v n xs := by
  refine ⟨h.1, ?_⟩
  rcases h.2 with hn | ⟨g, cap, cur, rfl, hbg, rest⟩
  · exact .inl hn
  · exact .inr ⟨g, cap, cur, rfl, Nat.le_trans hb hbg, rest⟩
theorem KRow.stays {w w' : World} {kb : Nat} {room : Int} {v : Value} {l : List Kx} (K : KRow w kb room v l) (h : Below w.heap.size w w') : KRow w' kb room v l :=
  ⟨K.st.stays h, owns_blocks K.own fun k e => h.block k (own_lt K.own k e).1⟩
theorem KRow.form {w : World} {kb : Nat} {room : Int} {v : Value} {l : List Kx} (K : KRow w kb room v l) : ∃ ao cap, v = .slice ao l.length cap ∧ (0 < l.length → ∃ g, ao = some ⟨g, 0, none⟩) := by
  rcases K.own.2 with ⟨rfl, h⟩ | ⟨g, cap, cur, rfl, _⟩
  · exact ⟨none, 0, by rw [h], fun hp => by omega⟩
  · exact ⟨_, cap, rfl, fun _ => ⟨g, rfl⟩⟩
/-- another row in its place -/
theorem KRow.put {w : World} {kb : Nat} {room : Int} {v v' : Value} {l l' : List Kx} (K : KRow w kb room v l) (ho : w.ownsRow (kb + 1) 81 4 v' l'.length (kL l')) : KRow (w.setCell ⟨kb, 1, none⟩ v') kb room v' l' := by
  refine ⟨K.st.put 1 v' _ rfl fun j hj hne => ?_, owns_blocks ho fun k e => ?_⟩
  · obtain rfl : j = 0 := by omega
    rfl
  · have := own_lt ho k e
    exact Below.heap_setCell _ _ _ _ (by intro e; have e' : k = kb := e; omega)
theorem grown_put {w w' : World} {kb : Nat} {v : Value} (h : Below w.heap.size w w') : w.grownBy (w'.setCell ⟨kb, 1, none⟩ v) (some kb) :=
  ⟨h.os, h.tape, h.output, by rw [World.size_setCell]; exact h.size, fun k hk hne => by rw [Below.heap_setCell _ _ _ _ (by intro e; apply hne; rw [show k = kb from e])]; exact h.block k hk⟩
end Go.Proofs.YtcccaejjhodnkabGreatDoor
/-
  Package ir: what a kind makes of two registers.
-/
namespace Go.Proofs.YtcccaejjhodnkabGreatDoor
open Go.RowKit
open Num
set_option linter.unusedVariables false
end Go.Proofs.YtcccaejjhodnkabGreatDoor
