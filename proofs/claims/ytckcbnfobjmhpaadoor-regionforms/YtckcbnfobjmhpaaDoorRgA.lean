/-
  How long a region is, in whole numbers: kd tells the kind of each place (2: branch, 3: trap, 5: store), M how many places memory has.
-/
import Derived.Deep.Cut
import Derived.Laws.ResultCell
import Derived.Test.YtckcbnfobjmhpaaDoorKKinds
import Derived.Test.YtckcbnfobjmhpaaDoorKDecF
import Derived.Test.YtckcbnfobjmhpaaDoorBus
import Derived.Test.YtckcbnfobjmhpaaDoorPhase
namespace Go.Proofs.YtckcbnfobjmhpaaDoor
set_option linter.unusedVariables false
/-- may what stands at place n be taken, with so many stores ahead? -/
def lkP (kd : Nat → Nat) (M most n st : Nat) : Bool := decide (n < most) && decide (n < M) && decide (kd n ≠ 3) && (decide (kd n ≠ 5) || decide (st < 8))
theorem lkP_iff {kd : Nat → Nat} {M most n st : Nat} : lkP kd M most n st = true ↔ n < most ∧ n < M ∧ kd n ≠ 3 ∧ (kd n ≠ 5 ∨ st < 8) := by
  unfold lkP; simp only [Bool.and_eq_true, Bool.or_eq_true, decide_eq_true_eq]
  exact ⟨fun ⟨⟨⟨a, b⟩, c⟩, d⟩ => ⟨a, b, c, d⟩, fun ⟨a, b, c, d⟩ => ⟨⟨⟨a, b⟩, c⟩, d⟩⟩
/-- stores with one more -/
def stP (kd : Nat → Nat) (n st : Nat) : Nat := if kd n = 5 then st + 1 else st
/-- how long it is in the end -/
def lenP (kd : Nat → Nat) (M most : Nat) : Nat → Nat → Nat → Nat
  | 0, n, _ => n
  | f + 1, n, st => if lkP kd M most n st = true then (if kd n = 2 then (if lkP kd M most (n + 1) st = true ∧ kd (n + 1) ≠ 2 then n + 2 else n) else lenP kd M most f (n + 1) (stP kd n st)) else n
theorem lenP_ge (kd : Nat → Nat) (M most : Nat) : ∀ f n st, n ≤ lenP kd M most f n st
  | 0, n, st => Nat.le_refl _
  | f + 1, n, st => by
    unfold lenP
    split
    · split
      · split <;> omega
      · have := lenP_ge kd M most f (n + 1) (stP kd n st); omega
    · exact Nat.le_refl _
/-- stores among the first -/
def stc (kd : Nat → Nat) : Nat → Nat
  | 0 => 0
  | n + 1 => stP kd n (stc kd n)
/-- what a region is: not too long, in memory, without a trap, a branch only as the last but one, not too many stores -/
structure Reg (kd : Nat → Nat) (M most len : Nat) : Prop where
  room : len ≤ most
  mem : len ≤ M
  trap : ∀ j, j < len → kd j ≠ 3
  branch : ∀ j, j < len → kd j = 2 → j + 2 = len
  stores : stc kd len ≤ 8
/-- what it has so far -/
structure Sofar (kd : Nat → Nat) (M most n st : Nat) : Prop where
  cnt : st = stc kd n
  room : n ≤ most
  mem : n ≤ M
  trap : ∀ j, j < n → kd j ≠ 3 ∧ kd j ≠ 2
  stores : st ≤ 8
theorem Sofar.start (kd : Nat → Nat) (M most : Nat) : Sofar kd M most 0 0 := ⟨rfl, by omega, by omega, fun j h => by omega, by omega⟩
theorem Sofar.next {kd : Nat → Nat} {M most n st : Nat} (h : Sofar kd M most n st) (hl : lkP kd M most n st = true) (h2 : kd n ≠ 2) : Sofar kd M most (n + 1) (stP kd n st) := by
  obtain ⟨a, b, c, d⟩ := lkP_iff.1 hl
  refine ⟨by rw [h.cnt]; rfl, by omega, by omega, fun j hj => ?_, ?_⟩
  · by_cases e : j = n
    · subst e; exact ⟨c, h2⟩
    · exact h.trap j (by omega)
  · have := h.stores; unfold stP; split <;> omega
theorem Sofar.stop {kd : Nat → Nat} {M most n st : Nat} (h : Sofar kd M most n st) : Reg kd M most n := ⟨h.room, h.mem, fun j hj => (h.trap j hj).1, fun j hj e => absurd e (h.trap j hj).2, h.cnt ▸ h.stores⟩
theorem Sofar.both {kd : Nat → Nat} {M most n st : Nat} (h : Sofar kd M most n st) (hl : lkP kd M most n st = true) (h2 : kd n = 2) (hl' : lkP kd M most (n + 1) st = true) (h2' : kd (n + 1) ≠ 2) : Reg kd M most (n + 2) := by
  obtain ⟨a, b, c, d⟩ := lkP_iff.1 hl
  obtain ⟨a', b', c', d'⟩ := lkP_iff.1 hl'
  refine ⟨by omega, by omega, fun j hj => ?_, fun j hj e => ?_, ?_⟩
  · by_cases e : j = n
    · subst e; exact c
    · by_cases e : j = n + 1
      · subst e; exact c'
      · exact (h.trap j (by omega)).1
  · by_cases e' : j = n
    · omega
    · by_cases e' : j = n + 1
      · subst e'; exact absurd e h2'
      · exact absurd e (h.trap j (by omega)).2
  · have e1 : stc kd (n + 2) = stP kd (n + 1) (stP kd n (stc kd n)) := rfl
    have e2 : stP kd n (stc kd n) = stc kd n := by unfold stP; rw [if_neg (by omega)]
    rw [e1, e2, ← h.cnt]
    have := h.stores
    unfold stP; split <;> omega
theorem lenP_reg (kd : Nat → Nat) (M most : Nat) : ∀ f n st, Sofar kd M most n st → Reg kd M most (lenP kd M most f n st)
  | 0, n, st, h => h.stop
  | f + 1, n, st, h => by
    unfold lenP
    split
    · rename_i hl
      split
      · rename_i h2
        split
        · rename_i h3
          exact h.both hl h2 h3.1 h3.2
        · exact h.stop
      · rename_i h2
        exact lenP_reg kd M most f _ _ (h.next hl h2)
    · exact h.stop
/-- the length of a region from a place on -/
def lenR (kd : Nat → Nat) (M most : Nat) : Nat := lenP kd M most most 0 0
theorem lenR_reg (kd : Nat → Nat) (M most : Nat) : Reg kd M most (lenR kd M most) := lenP_reg kd M most most 0 0 (Sofar.start _ _ _)
theorem lkP_more {kd : Nat → Nat} {M most most' n st : Nat} (hm : most ≤ most') (h : lkP kd M most n st = true) : lkP kd M most' n st = true := by
  obtain ⟨a, b, c, d⟩ := lkP_iff.1 h
  exact lkP_iff.2 ⟨by omega, b, c, d⟩
theorem lenP_mono (kd : Nat → Nat) (M : Nat) {most most' : Nat} (hm : most ≤ most') : ∀ f f' n st, f ≤ f' → lenP kd M most f n st ≤ lenP kd M most' f' n st
  | 0, f', n, st, _ => lenP_ge _ _ _ _ _ _
  | f + 1, 0, n, st, h => by omega
  | f + 1, f' + 1, n, st, h => by
    have ih := lenP_mono kd M hm f f' (n + 1) (stP kd n st) (by omega)
    have hge := lenP_ge kd M most' (f' + 1) n st
    by_cases hl : lkP kd M most n st = true
    · have hl' := lkP_more hm hl
      by_cases h2 : kd n = 2
      · by_cases h3 : lkP kd M most (n + 1) st = true ∧ kd (n + 1) ≠ 2
        · simp only [lenP, hl, hl', h2, h3, lkP_more hm h3.1]; simp
        · have e : lenP kd M most (f + 1) n st = n := by rw [lenP, if_pos hl, if_pos h2, if_neg h3]
          omega
      · simpa only [lenP, hl, hl', h2, if_true, if_false] using ih
    · have e : lenP kd M most (f + 1) n st = n := by rw [lenP, if_neg hl]
      omega
theorem lenR_mono (kd : Nat → Nat) (M : Nat) {most most' : Nat} (hm : most ≤ most') : lenR kd M most ≤ lenR kd M most' := lenP_mono kd M hm _ _ _ _ hm
/-- with more room it goes on from there, or ends alike -/
theorem lenP_on (kd : Nat → Nat) (M : Nat) {most most' : Nat} (hm : most ≤ most') : ∀ f f' n st, f ≤ f' → lenP kd M most f n st = lenP kd M most' f' n st ∨ ∃ f'' st', f'' ≤ f' ∧ lenP kd M most' f' n st = lenP kd M most' f'' (lenP kd M most f n st) st'
  | 0, f', n, st, _ => .inr ⟨f', st, Nat.le_refl _, rfl⟩
  | f + 1, 0, n, st, h => by omega
  | f + 1, f' + 1, n, st, h => by
    by_cases hl : lkP kd M most n st = true
    · have hl' := lkP_more hm hl
      by_cases h2 : kd n = 2
      · by_cases h3 : lkP kd M most (n + 1) st = true ∧ kd (n + 1) ≠ 2
        · left
          rw [lenP, if_pos hl, if_pos h2, if_pos h3, lenP, if_pos hl', if_pos h2, if_pos ⟨lkP_more hm h3.1, h3.2⟩]
        · right
          have e : lenP kd M most (f + 1) n st = n := by rw [lenP, if_pos hl, if_pos h2, if_neg h3]
          rw [e]; exact ⟨f' + 1, st, Nat.le_refl _, rfl⟩
      · have e : lenP kd M most (f + 1) n st = lenP kd M most f (n + 1) (stP kd n st) := by rw [lenP, if_pos hl, if_neg h2]
        have e' : lenP kd M most' (f' + 1) n st = lenP kd M most' f' (n + 1) (stP kd n st) := by rw [lenP, if_pos hl', if_neg h2]
        rw [e, e']
        rcases lenP_on kd M hm f f' (n + 1) (stP kd n st) (by omega) with h | ⟨f'', st', h1, h2⟩
        · exact .inl h
        · exact .inr ⟨f'', st', by omega, h2⟩
    · right
      have e : lenP kd M most (f + 1) n st = n := by rw [lenP, if_neg hl]
      rw [e]; exact ⟨f' + 1, st, Nat.le_refl _, rfl⟩
/-- from a place on, with fewer stores ahead, it is not shorter -/
theorem lenP_from (kd : Nat → Nat) (M most a : Nat) (kd' : Nat → Nat) (hk : ∀ j, kd' j = kd (a + j)) : ∀ f f' i st st', f ≤ f' → st' ≤ st → lenP kd M most f (a + i) st ≤ a + lenP kd' (M - a) most f' i st'
  | 0, f', i, st, st', _, _ => by
    have := lenP_ge kd' (M - a) most f' i st'
    show a + i ≤ _; omega
  | f + 1, 0, i, st, st', h, _ => by omega
  | f + 1, f' + 1, i, st, st', h, hs => by
    have hge := lenP_ge kd' (M - a) most (f' + 1) i st'
    have lk : ∀ i, lkP kd M most (a + i) st = true → lkP kd' (M - a) most i st' = true := fun i hl => by
      obtain ⟨a1, b, c, d⟩ := lkP_iff.1 hl
      exact lkP_iff.2 ⟨by omega, by omega, by rw [hk]; exact c, by rw [hk]; omega⟩
    by_cases hl : lkP kd M most (a + i) st = true
    · by_cases h2 : kd (a + i) = 2
      · by_cases h3 : lkP kd M most (a + i + 1) st = true ∧ kd (a + i + 1) ≠ 2
        · rw [lenP, if_pos hl, if_pos h2, if_pos h3, lenP, if_pos (lk i hl), if_pos (by rw [hk]; exact h2), if_pos ⟨lk (i + 1) h3.1, by rw [hk]; exact h3.2⟩]
          omega
        · have e : lenP kd M most (f + 1) (a + i) st = a + i := by rw [lenP, if_pos hl, if_pos h2, if_neg h3]
          omega
      · have e : lenP kd M most (f + 1) (a + i) st = lenP kd M most f (a + (i + 1)) (stP kd (a + i) st) := by rw [lenP, if_pos hl, if_neg h2]; rfl
        have e' : lenP kd' (M - a) most (f' + 1) i st' = lenP kd' (M - a) most f' (i + 1) (stP kd' i st') := by rw [lenP, if_pos (lk i hl), if_neg (by rw [hk]; exact h2)]
        rw [e, e']
        refine lenP_from kd M most a kd' hk f f' (i + 1) _ _ (by omega) ?_
        unfold stP; rw [hk]; split <;> omega
    · have e : lenP kd M most (f + 1) (a + i) st = a + i := by rw [lenP, if_neg hl]
      omega
/-- what is left behind a shorter one is not longer than what begins there -/
theorem lenR_joins (kd : Nat → Nat) (M : Nat) {most most' : Nat} (hm : most ≤ most') (kd' : Nat → Nat) (hk : ∀ j, kd' j = kd (lenR kd M most + j)) (h : lenR kd M most < lenR kd M most') :
    lenR kd M most' ≤ lenR kd M most + lenR kd' (M - lenR kd M most) most' := by
  rcases lenP_on kd M hm most most' 0 0 hm with e | ⟨f'', st', h1, h2⟩
  · unfold lenR at h; omega
  · have := lenP_from kd M most' (lenR kd M most) kd' hk f'' most' 0 st' 0 h1 (by omega)
    unfold lenR at this ⊢
    rw [h2]; exact this
/-- enough rounds are enough -/
theorem lenP_fuel (kd : Nat → Nat) (M most : Nat) : ∀ f n st, most ≤ n + f → ∀ f', f ≤ f' → lenP kd M most f' n st = lenP kd M most f n st
  | 0, n, st, h, 0, _ => rfl
  | 0, n, st, h, f' + 1, _ => by
    have hl : ¬ lkP kd M most n st = true := fun e => by have := (lkP_iff.1 e).1; omega
    show _ = n; rw [lenP, if_neg hl]
  | f + 1, n, st, h, 0, h' => by omega
  | f + 1, n, st, h, f' + 1, h' => by
    unfold lenP
    rw [lenP_fuel kd M most f (n + 1) (stP kd n st) (by omega) f' (by omega)]
end Go.Proofs.YtckcbnfobjmhpaaDoor
/-
  A region on its way: what it has so far; what stands at a place.
-/
namespace Go.Proofs.YtckcbnfobjmhpaaDoor
open Go.RowKit Go.Maps
open Num
set_option linter.unusedVariables false
def decK (v : Int) : Nat := ((List.range 54).find? fun k => decide (1 ≤ k ∧ Tab.xw k v = v)).getD 0
theorem decK_of {v : Int} (v0 : 0 ≤ v) (v1 : v < 4294967296) {k : Nat} (h : K.DecP v k) : k = decK v := by
  unfold decK
  cases hf : (List.range 54).find? (fun k => decide (1 ≤ k ∧ Tab.xw k v = v)) with
  | none =>
    rcases h with ⟨h1, h2, h3⟩ | ⟨h1, _⟩
    · have := List.find?_eq_none.1 hf k (List.mem_range.2 h2)
      simp [h1, h3] at this
    · exact h1
  | some j =>
    have hj := List.find?_some hf
    have hm := List.mem_range.1 (List.mem_of_find?_eq_some hf)
    simp only [decide_eq_true_eq] at hj
    rcases h with ⟨h1, h2, h3⟩ | ⟨h1, h2⟩
    · exact Tab.xw_one k j h2 h1 hm hj.1 v v0 v1 h3 hj.2
    · exact absurd hj.2 (h2 j hj.1 hm)
theorem decK_lt (v : Int) : decK v < 54 := by
  unfold decK
  cases hf : (List.range 54).find? (fun k => decide (1 ≤ k ∧ Tab.xw k v = v)) with
  | none => decide
  | some j => exact List.mem_range.1 (List.mem_of_find?_eq_some hf)
/-- an instruction's cells -/
def insC (v : Int) : List Value := [.int .i64 (decK v), .int .i64 (Tab.xs (Tab.sh (decK v)) v), .int .i64 (Tab.xt (Tab.sh (decK v)) v), .int .i64 (Tab.xd (Tab.sh (decK v)) v), .int .u32 (Tab.xm (Tab.sh (decK v)) v)]
def insV (v : Int) : Value := K.ins (decK v) (Tab.xs (Tab.sh (decK v)) v) (Tab.xt (Tab.sh (decK v)) v) (Tab.xd (Tab.sh (decK v)) v) (Tab.xm (Tab.sh (decK v)) v)
theorem decode_v (pk pb : Addr) (v : Int) (h0 : 0 ≤ v) (h1 : v < 4294967296) (w : World) (T : K.Tb pk pb w) :
    Calls Tryd.prog 60 #[.int .u32 v] w fun e w' => e = .returned (insV v) ∧ Below w.heap.size w w' := by
  refine (K.decode_any pk pb v h0 h1 w T).mono ?_
  rintro e w' ⟨k, hd, rfl, hb⟩
  obtain rfl := decK_of h0 h1 hd
  exact ⟨rfl, hb⟩
/-- a kind by its number -/
def knd (v : Int) : Nat := Tab.kdL.getD (decK v) 0
theorem kind_knd (v : Int) : Tab.kind (decK v) = Tab.kwL.getD (knd v) [] := rfl
theorem knd_all : ∀ k, k < 54 → Tab.kdL.getD k 0 = 1 ∨ Tab.kdL.getD k 0 = 2 ∨ Tab.kdL.getD k 0 = 3 ∨ Tab.kdL.getD k 0 = 4 ∨ Tab.kdL.getD k 0 = 5 := by decide
theorem knd_in (v : Int) : knd v = 1 ∨ knd v = 2 ∨ knd v = 3 ∨ knd v = 4 ∨ knd v = 5 := knd_all _ (decK_lt v)
/-- a kind's word -/
def kwV (n : Nat) : Value := .string ⟨(Tab.kwL.getD n []).toArray⟩
/-- the word at a place from pc on -/
def wAt (m : Nat → Int) (pc : Int) (j : Nat) : Int := m ((pc / 4).toNat + j)
def kdAt (m : Nat → Int) (pc : Int) (j : Nat) : Nat := knd (wAt m pc j)
/-- how many places memory has from pc on -/
def many (pc : Int) : Nat := 4096 - (pc / 4).toNat
def insL (m : Nat → Int) (pc : Int) (n : Nat) : List Value := (List.range n).flatMap fun j => insC (wAt m pc j)
theorem insL_len (m : Nat → Int) (pc : Int) (n : Nat) : (insL m pc n).length = n * 5 := by
  induction n with
  | zero => rfl
  | succ n ih => unfold insL at ih ⊢; rw [List.range_succ, List.flatMap_append, List.length_append, ih]; simp [insC]; omega
theorem insL_succ (m : Nat → Int) (pc : Int) (n : Nat) : insL m pc (n + 1) = insL m pc n ++ insC (wAt m pc n) := by
  unfold insL; rw [List.range_succ, List.flatMap_append]; simp
theorem insL_get (m : Nat → Int) (pc : Int) : ∀ n j i, j < n → i < 5 → (insL m pc n)[j * 5 + i]? = (insC (wAt m pc j))[i]?
  | 0, j, i, h, _ => by omega
  | n + 1, j, i, h, hi => by
    rw [insL_succ]
    by_cases e : j = n
    · subst e
      rw [List.getElem?_append_right (by rw [insL_len]; omega), insL_len]
      congr 1; omega
    · rw [List.getElem?_append_left (by rw [insL_len]; omega), insL_get m pc n j i (by omega) hi]
theorem ld_at (m : Nat → Int) (mb : ∀ i, 0 ≤ m i ∧ m i < 4294967296) (pc : Int) (j : Nat) (h0 : 0 ≤ pc) (h4 : pc % 4 = 0) : ld m (pc + 4 * j) 4 false = wAt m pc j := by
  unfold ld wAt
  have e1 : ((pc + 4 * (j : Int)) / 4).toNat = (pc / 4).toNat + j := by omega
  have e2 : (bhd (pc + 4 * (j : Int)) 4).toNat = 0 := by unfold bhd; omega
  rw [e1, e2, wd_u (by omega) (by omega)]
  have := mb ((pc / 4).toNat + j)
  simp; omega
/-- a step of a plan that is not wanted -/
theorem wpPlanZ_skip {P : Program} {ops : Array Oper} {Q : Exit → Act → World → Prop} {C : World → Prop} {z : Nat} {on : Bool} {i k : Nat} {rest : List (Nat × Nat)} {a : Act} {w : World} {o : Oper} (ho : ops[i]? = some o) (hwt : Region.wanted o (yielded ops a.tmps) = false) (h : ∀ K : Act → Prop, (∀ a', wpPlanZ P ops C z Q (on && i != z) rest a' w → K a') → K (a.put o.dst undef)) : wpPlanZ P ops C z Q on ((i, k) :: rest) a w :=
  ⟨o, ho, by unfold oneZ; rw [if_neg (by simp [hwt])]; exact h _ (fun _ h => h)⟩
/-- what is handed back, where the first is a cell's -/
theorem results_cell2 {fn : Func} {p u v : Tmp} {ty : TypeId} {A : Addr} {x : Value} (h : fn.results = #[.cell p ty, .tmp u, .tmp v]) (tmps : Array Value) (P : Program) (w : World) (hp : tmps.getD p undef = .pointer (some A)) (hl : (loadVar ty A).run P w = .ok x w) :
    (results fn tmps).run P w = .ok (.tuple #[x, tmps.getD u undef, tmps.getD v undef]) w := by
  simp only [results, h]
  simp only [asAddr, hp, Sem.run_bind, List.mapM_toArray, List.mapM_cons, List.mapM_nil, Sem.run_map, Sem.run_pure, Result.andThen, hl]
  simp
theorem results_cell1 {fn : Func} {p u : Tmp} {ty : TypeId} {A : Addr} {x : Value} (h : fn.results = #[.cell p ty, .tmp u]) (tmps : Array Value) (P : Program) (w : World) (hp : tmps.getD p undef = .pointer (some A)) (hl : (loadVar ty A).run P w = .ok x w) :
    (results fn tmps).run P w = .ok (.tuple #[x, tmps.getD u undef]) w := by
  rw [results_cell_tmp h, hp]
  simp [asAddr, Result.andThen, hl]
theorem ins_load {w : World} {B : Nat} {o s t d x : Int} (z0 : w.cell? ⟨B, 0, none⟩ = some (.int .i64 o)) (z1 : w.cell? ⟨B, 1, none⟩ = some (.int .i64 s)) (z2 : w.cell? ⟨B, 2, none⟩ = some (.int .i64 t)) (z3 : w.cell? ⟨B, 3, none⟩ = some (.int .i64 d)) (z4 : w.cell? ⟨B, 4, none⟩ = some (.int .u32 x)) : (loadVar 65 ⟨B, 0, none⟩).run Tryd.prog w = .ok (K.ins o s t d x) w := by
  simp [go_sem, z0, z1, z2, z3, z4]
theorem ZAt.load {w : World} {B : Nat} (z : K.ZAt B w) : (loadVar 65 ⟨B, 0, none⟩).run Tryd.prog w = .ok (K.ins 0 0 0 0 0) w := ins_load z.z0 z.z1 z.z2 z.z3 z.z4
def put5 (W : World) (B : Nat) (o s t d x : Int) : World := ((((W.setCell ⟨B, 0, none⟩ (.int .i64 o)).setCell ⟨B, 1, none⟩ (.int .i64 s)).setCell ⟨B, 2, none⟩ (.int .i64 t)).setCell ⟨B, 3, none⟩ (.int .i64 d)).setCell ⟨B, 4, none⟩ (.int .u32 x)
theorem put5_cells {W : World} {B : Nat} {o s t d x : Int} (z : K.ZAt B W) : (put5 W B o s t d x).cell? ⟨B, 0, none⟩ = some (.int .i64 o) ∧ (put5 W B o s t d x).cell? ⟨B, 1, none⟩ = some (.int .i64 s) ∧ (put5 W B o s t d x).cell? ⟨B, 2, none⟩ = some (.int .i64 t) ∧ (put5 W B o s t d x).cell? ⟨B, 3, none⟩ = some (.int .i64 d) ∧ (put5 W B o s t d x).cell? ⟨B, 4, none⟩ = some (.int .u32 x) := by
  have oo : ∀ (W : World) (i j : Nat) (x : Value), i ≠ j → (W.setCell ⟨B, j, none⟩ x).cell? ⟨B, i, none⟩ = W.cell? ⟨B, i, none⟩ := fun W i j x hij => World.cell?_setCell_other _ _ _ _ (by intro e; injection e with e1 e2; exact hij e2.symm)
  unfold put5
  refine ⟨?_, ?_, ?_, ?_, ?_⟩
  · rw [oo _ 0 4 _ (by omega), oo _ 0 3 _ (by omega), oo _ 0 2 _ (by omega), oo _ 0 1 _ (by omega)]; exact World.cell?_setCell_same _ _ _ z.z0
  · rw [oo _ 1 4 _ (by omega), oo _ 1 3 _ (by omega), oo _ 1 2 _ (by omega)]; exact World.cell?_setCell_same _ _ _ (by rw [oo _ 1 0 _ (by omega)]; exact z.z1)
  · rw [oo _ 2 4 _ (by omega), oo _ 2 3 _ (by omega)]; exact World.cell?_setCell_same _ _ _ (by rw [oo _ 2 1 _ (by omega), oo _ 2 0 _ (by omega)]; exact z.z2)
  · rw [oo _ 3 4 _ (by omega)]; exact World.cell?_setCell_same _ _ _ (by rw [oo _ 3 2 _ (by omega), oo _ 3 1 _ (by omega), oo _ 3 0 _ (by omega)]; exact z.z3)
  · exact World.cell?_setCell_same _ _ _ (by rw [oo _ 4 3 _ (by omega), oo _ 4 2 _ (by omega), oo _ 4 1 _ (by omega), oo _ 4 0 _ (by omega)]; exact z.z4)
theorem put5_other {W : World} {B b j : Nat} {o s t d x : Int} (h : b ≠ B) : (put5 W B o s t d x).cell? ⟨b, j, none⟩ = W.cell? ⟨b, j, none⟩ := by
  have oo : ∀ (W : World) (i : Nat) (x : Value), (W.setCell ⟨B, i, none⟩ x).cell? ⟨b, j, none⟩ = W.cell? ⟨b, j, none⟩ := fun W i x => World.cell?_setCell_other _ _ _ _ (by intro e; injection e with e1 e2; exact h e1.symm)
  unfold put5
  rw [oo, oo, oo, oo, oo]
theorem ins_stored {W : World} {B : Nat} {o s t d x : Int} (z : K.ZAt B W) : (loadVar 65 ⟨B, 0, none⟩).run Tryd.prog (put5 W B o s t d x) = .ok (K.ins o s t d x) (put5 W B o s t d x) := by
  obtain ⟨h0, h1, h2, h3, h4⟩ := put5_cells (o := o) (s := s) (t := t) (d := d) (x := x) z
  exact ins_load h0 h1 h2 h3 h4
theorem ins_stored_drew {W : World} {B : Nat} {o s t d x : Int} (z : K.ZAt B W) : (loadVar 65 ⟨B, 0, none⟩).run Tryd.prog (put5 W B o s t d x).drew = .ok (K.ins o s t d x) (put5 W B o s t d x).drew := by
  obtain ⟨h0, h1, h2, h3, h4⟩ := put5_cells (o := o) (s := s) (t := t) (d := d) (x := x) z
  generalize put5 W B o s t d x = V at *
  exact ins_load (by simpa using h0) (by simpa using h1) (by simpa using h2) (by simpa using h3) (by simpa using h4)
theorem below_put5 {w W : World} {B : Nat} {o s t d x : Int} {C : Nat} (h : Below C w W) (hB : C ≤ B) : Below C w (put5 W B o s t d x) :=
  ((((h.setCell hB _).setCell hB _).setCell hB _).setCell hB _).setCell hB _
/-- a region on its way -/
structure FAt (w0 w : World) (fb : Nat) (pc : Int) (sb most n st : Nat) (m : Nat → Int) (vi : Value) : Prop where
  c0 : w.cell? ⟨fb, 0, none⟩ = some (.int .u32 pc)
  c1 : w.cell? ⟨fb, 1, none⟩ = some vi
  c2 : w.cell? ⟨fb, 2, none⟩ = some (.slice none 0 0)
  c3 : w.cell? ⟨fb, 3, none⟩ = some (.pointer (some ⟨sb, 0, none⟩))
  c4 : w.cell? ⟨fb, 4, none⟩ = some (.int .i64 most)
  c5 : w.cell? ⟨fb, 5, none⟩ = some (.int .i64 st)
  fz : ∀ j, w.frozen? ⟨fb, j, none⟩ = false
  row : w.ownsRow w0.heap.size 65 5 vi n (insL m pc n)
  be : Below w0.heap.size w0 w
  lf : w0.heap.size ≤ fb
  vb : ∀ k, vi.ownBlock = some k → k ≠ fb
section
variable {w0 w : World} {fb : Nat} {pc : Int} {sb most n st bp bw bh N : Nat} {m : Nat → Int} {wt ht : Int → Bool} {vi : Value}
theorem FAt.lt (F : FAt w0 w fb pc sb most n st m vi) : fb < w.heap.size := World.block_lt_of_cell? _ _ F.c0
theorem FAt.stays {w' : World} (F : FAt w0 w fb pc sb most n st m vi) (h : Below w.heap.size w w') : FAt w0 w' fb pc sb most n st m vi := by
  have c : ∀ j, w'.cell? ⟨fb, j, none⟩ = w.cell? ⟨fb, j, none⟩ := fun j => h.cell (p := ⟨fb, j, none⟩) F.lt
  exact ⟨(c 0).trans F.c0, (c 1).trans F.c1, (c 2).trans F.c2, (c 3).trans F.c3, (c 4).trans F.c4, (c 5).trans F.c5, fun j => (h.frozen (p := ⟨fb, j, none⟩) F.lt).trans (F.fz j),
    owns_blocks F.row (fun k hk => h.block k (by
      rcases F.row.2 with ⟨rfl, _⟩ | ⟨g, cap, cur, rfl, _, hg, _⟩
      · cases hk
      · injection hk with hk; subst hk; exact (Array.getElem?_eq_some_iff.1 hg).1)), F.be.trans (h.mono F.be.size), F.lf, F.vb⟩
theorem FAt.len (F : FAt w0 w fb pc sb most n st m vi) : ∃ p c, vi = .slice p n c := by
  rcases F.row.2 with ⟨rfl, rfl⟩ | ⟨g, cap, cur, rfl, _⟩
  · exact ⟨none, 0, rfl⟩
  · exact ⟨_, _, rfl⟩
end
end Go.Proofs.YtckcbnfobjmhpaaDoor
/-
  What stands at a place.
-/
namespace Go.Proofs.YtckcbnfobjmhpaaDoor
open Go.RowKit Go.Maps
open Num
set_option linter.unusedVariables false
section
variable {w0 w : World} {fb : Nat} {pc : Int} {sb most n st bp bw bh N : Nat} {m : Nat → Int} {wt ht : Int → Bool} {vi : Value}
set_option maxRecDepth 100000 in
set_option maxHeartbeats 1000000 in
/-- no room -/
theorem look_full (F : FAt w0 w fb pc sb most n st m vi) (fu : Nat) (hn : n ≤ 24) (hfu : fu ≤ 1) (hm : most ≤ 24) (h : most ≤ n + fu) :
    Calls Tryd.prog 67 #[.pointer (some ⟨fb, 0, none⟩), .int .i64 fu] w fun e w' => e = .returned (.tuple #[K.ins 0 0 0 0 0, .string ⟨#[]⟩, .bool false]) ∧ Below w.heap.size w w' := by
  have c1 := F.c1
  have c4 := F.c4
  have hlt := F.lt
  obtain ⟨p, c, rfl⟩ := F.len
  clear F
  have hn' : (n : Int) ≤ 24 := by omega
  have hfu' : (fu : Int) ≤ 1 := by omega
  have hm' : (most : Int) ≤ 24 := by omega
  have hd : decide ((most : Int) ≤ (n : Int) + fu) = true := by simp; omega
  go_enter Tryd.func67, Tryd.ntmps67
  go_wp2
  exact bodyPost_ret (results_cell2 Tryd.results67 _ _ _ (A := ⟨w.heap.size, 0, none⟩) rfl (ZAt.load (K.ZAt.alloc w))) rfl ⟨rfl, (Below.refl _ _).alloc (Nat.le_refl _) _⟩
end
end Go.Proofs.YtckcbnfobjmhpaaDoor
/-
  What stands at a place.
-/
namespace Go.Proofs.YtckcbnfobjmhpaaDoor
open Go.RowKit Go.Maps
open Num
set_option linter.unusedVariables false
section
variable {w0 w : World} {fb : Nat} {pc : Int} {sb most n st bp bw bh N : Nat} {m : Nat → Int} {wt ht : Int → Bool} {vi : Value}
theorem Er.stays2 {ps pa pf : Addr} {w w' : World} (E : Er ps pa pf w) (h : Below w.heap.size w w') : Er ps pa pf w' :=
  ⟨K.cell_stays h (Nat.le_refl _) E.s, K.cell_stays h (Nat.le_refl _) E.a, K.cell_stays h (Nat.le_refl _) E.f⟩
theorem chk_far {a : Int} (h4 : a % 4 = 0) (h : 16384 ≤ a) : chk a 4 = 3 := by
  unfold chk; rw [if_neg (by omega), if_neg (by omega), if_pos h]
theorem chk_in {a : Int} (h4 : a % 4 = 0) (h : a < 16384) : chk a 4 = 0 := by
  unfold chk; rw [if_neg (by omega), if_neg (by omega), if_neg (by omega)]
set_option maxRecDepth 100000 in
set_option maxHeartbeats 4000000 in
/-- beyond memory -/
theorem look_far (ps pa pf : Addr) (E : Er ps pa pf w0) (F : FAt w0 w fb pc sb most n st m vi) (fu : Nat) (hpc : 0 ≤ pc) (hpc1 : pc < 16384) (h4 : pc % 4 = 0) (hn : n ≤ 24) (hfu : fu ≤ 1) (hm : most ≤ 24) (h : n + fu < most) (hf : many pc ≤ n + fu) :
    Calls Tryd.prog 67 #[.pointer (some ⟨fb, 0, none⟩), .int .i64 fu] w fun e w' => e = .returned (.tuple #[K.ins 0 0 0 0 0, .string ⟨#[]⟩, .bool false]) ∧ Below w.heap.size w w' := by
  have bA : Below w.heap.size w (w.alloc (.cells #[.int .i64 0, .int .i64 0, .int .i64 0, .int .i64 0, .int .u32 0] 65)) := (Below.refl _ _).alloc (Nat.le_refl _) _
  have hfar : 16384 ≤ pc + 4 * ((n : Int) + fu) := by unfold many at hf; omega
  have hl : ∀ W, Below w0.heap.size w0 W → _ := fun W hW => load_no ps pa pf (E.stays2 hW) (.pointer (some ⟨sb, 0, none⟩)) (pc + 4 * ((n : Int) + fu)) 4 false (by omega) (by omega) (by omega) (by omega) (by rw [chk_far (by omega) hfar]; decide)
  rw [chk_far (by omega) hfar] at hl
  generalize erA ps pa pf 3 = er at hl
  have FA := F.stays bA
  have Z := K.ZAt.alloc w
  have hl2 := hl _ FA.be.drew
  have hwr : IntKind.u32.wrap (pc + IntKind.u32.wrap (4 * IntKind.u32.wrap ((n : Int) + fu))) = pc + 4 * ((n : Int) + fu) := by
    simp only [IntKind.wrap_u32]; omega
  rw [← hwr] at hl2
  have c1 := F.c1
  have c4 := F.c4
  have hlt := F.lt
  obtain ⟨p, c, rfl⟩ := F.len
  clear F hl E hf hwr hfar
  have hn' : (n : Int) ≤ 24 := by omega
  have hfu' : (fu : Int) ≤ 1 := by omega
  have hm' : (most : Int) ≤ 24 := by omega
  have hd : decide ((most : Int) ≤ (n : Int) + fu) = false := by simp; omega
  have hB : Hid (Below w.heap.size w (w.alloc (.cells #[.int .i64 0, .int .i64 0, .int .i64 0, .int .i64 0, .int .u32 0] 65))) := bA
  have hF : Hid (FAt w0 (w.alloc (.cells #[.int .i64 0, .int .i64 0, .int .i64 0, .int .i64 0, .int .u32 0] 65)) fb pc sb most n st m (.slice p n c)) := FA
  have hZ : Hid (K.ZAt w.heap.size (w.alloc (.cells #[.int .i64 0, .int .i64 0, .int .i64 0, .int .i64 0, .int .u32 0] 65))) := Z
  clear bA FA Z
  go_enter Tryd.func67, Tryd.ntmps67
  go_upto_region 4 with fail
  generalize w.alloc (.cells #[.int .i64 0, .int .i64 0, .int .i64 0, .int .i64 0, .int .u32 0] 65) = w1 at *
  clear c1 c4 hlt
  have q0 := hF.out.c0
  have q3 := hF.out.c3
  refine wp_region_phase 19 [(0, 0), (1, 0), (2, 0), (3, 1), (4, 0), (5, 0), (6, 0), (7, 0), (8, 1), (9, 0), (10, 0), (11, 0), (12, 0), (13, 2), (14, 0), (15, 0), (16, 0), (17, 0), (18, 0)] (fun W => W.cell? ⟨fb, 0, none⟩ = some (.int .u32 pc) ∧ W.cell? ⟨fb, 3, none⟩ = some (.pointer (some ⟨sb, 0, none⟩))) (by kernel_rfl) (by kernel_rfl) (fun _ _ _ d _ h => by cases d <;> exact h) ⟨q0, q3⟩ ?_
  repeat (first | (refine wpPlanZ_free (by rfl) (by rfl) (fun W => by (go_simp; try with_reducible rfl)) (fun K hK => ?_); go_simp; refine hK _ ?_; clear hK K) | (refine wpPlanZ_quiet (by rfl) (by rfl) (fun W hW => by (obtain ⟨q0, q3⟩ := hW; go_simp; try with_reducible rfl)) (fun K hK => ?_); go_simp; refine hK _ ?_; clear hK K))
  refine wpPlanZ_serial (by rfl) (by rfl) (fun K hK => ?_)
  go_simp
  refine hl2.mono ?_
  rintro e wx ⟨rfl, rfl⟩
  refine hK _ _ (fun _ => ⟨q0, q3⟩) ?_
  clear hK K
  repeat (first | (refine wpPlanZ_free (by rfl) (by rfl) (fun W => by (go_simp; try with_reducible rfl)) (fun K hK => ?_); go_simp; refine hK _ ?_; clear hK K))
  refine wpPlanZ_nil ?_
  obtain ⟨z0, z1, z2, z3, z4, zf⟩ := hZ.out
  go_wp2
  exact bodyPost_ret (results_cell2 Tryd.results67 _ _ _ (A := ⟨w.heap.size, 0, none⟩) rfl (ins_stored_drew hZ.out)) rfl ⟨rfl, (below_put5 hB.out (Nat.le_refl _)).drew⟩
end
end Go.Proofs.YtckcbnfobjmhpaaDoor
/-
  What stands at a place that is in memory.
-/
namespace Go.Proofs.YtckcbnfobjmhpaaDoor
open Go.RowKit Go.Maps
open Num
set_option linter.unusedVariables false
section
variable {w0 w : World} {fb : Nat} {pc : Int} {sb most n st bp bw bh N : Nat} {m : Nat → Int} {wt ht : Int → Bool} {vi : Value}
set_option maxRecDepth 100000 in
set_option maxHeartbeats 8000000 in
theorem look_in (pk pb : Addr) (T : K.Tb pk pb w0) (R : RamIs w0 sb bp bw bh N m wt ht) (F : FAt w0 w fb pc sb most n st m vi) (fu : Nat) (hpc : 0 ≤ pc) (hpc1 : pc < 16384) (h4 : pc % 4 = 0) (hn : n ≤ 24) (hfu : fu ≤ 1) (hm : most ≤ 24) (hst : st ≤ 8) (h : n + fu < most) (hf : n + fu < many pc) :
    Calls Tryd.prog 67 #[.pointer (some ⟨fb, 0, none⟩), .int .i64 fu] w fun e w' => e = .returned (.tuple #[insV (wAt m pc (n + fu)), kwV (kdAt m pc (n + fu)), .bool (lkP (kdAt m pc) (many pc) most (n + fu) st)]) ∧ Below w.heap.size w w' := by
  have bA : Below w.heap.size w (w.alloc (.cells #[.int .i64 0, .int .i64 0, .int .i64 0, .int .i64 0, .int .u32 0] 65)) := (Below.refl _ _).alloc (Nat.le_refl _) _
  have hin : pc + 4 * ((n : Int) + fu) < 16384 := by unfold many at hf; omega
  have hld : ld m (pc + 4 * ((n : Int) + fu)) 4 false = wAt m pc (n + fu) := by
    have := ld_at m R.mb pc (n + fu) hpc h4
    rw [← this]; congr 1
  have hl : ∀ W, Below w0.heap.size w0 W → _ := fun W hW => load_ok (R.stays hW (Nat.le_refl _)) (pc + 4 * ((n : Int) + fu)) 4 false (by omega) (by omega) (chk_in (by omega) hin)
  rw [hld] at hl
  have hv := R.mb ((pc / 4).toNat + (n + fu))
  change 0 ≤ wAt m pc (n + fu) ∧ wAt m pc (n + fu) < 4294967296 at hv
  have hlk : lkP (kdAt m pc) (many pc) most (n + fu) st = (decide (knd (wAt m pc (n + fu)) ≠ 3) && (decide (knd (wAt m pc (n + fu)) ≠ 5) || decide (st < 8))) := by
    unfold lkP
    rw [decide_eq_true h, decide_eq_true hf]; rfl
  rw [hlk]
  clear hlk
  change Calls Tryd.prog 67 #[.pointer (some ⟨fb, 0, none⟩), .int .i64 fu] w fun e w' => e = .returned (.tuple #[insV (wAt m pc (n + fu)), kwV (knd (wAt m pc (n + fu))), _]) ∧ Below w.heap.size w w'
  generalize wAt m pc (n + fu) = v at *
  have hde := fun W (hW : Below w0.heap.size w0 W) => decode_v pk pb v hv.1 hv.2 W (T.stays hW (Nat.le_refl _))
  have hki := fun W => K.kind_nat (decK v) (decK_lt v) _ (kind_knd v) W
  have hk := knd_in v
  have HV : Hid (insV v = K.ins (decK v) (Tab.xs (Tab.sh (decK v)) v) (Tab.xt (Tab.sh (decK v)) v) (Tab.xd (Tab.sh (decK v)) v) (Tab.xm (Tab.sh (decK v)) v)) := rfl
  have hkl := decK_lt v
  have hxm := (K.x_rng (Tab.sh (decK v)) v hv.1 hv.2)
  rw [HV.out] at hde ⊢
  clear HV hld
  generalize hok : (decide (knd v ≠ 3) && (decide (knd v ≠ 5) || decide (st < 8))) = ok
  generalize knd v = kd at *
  generalize Tab.xs (Tab.sh (decK v)) v = i1 at *
  generalize Tab.xt (Tab.sh (decK v)) v = i2 at *
  generalize Tab.xd (Tab.sh (decK v)) v = i3 at *
  generalize Tab.xm (Tab.sh (decK v)) v = i4 at *
  generalize decK v = i0 at *
  have FA := F.stays bA
  have Z := K.ZAt.alloc w
  have hl2 := hl _ FA.be.drew
  have hwr : IntKind.u32.wrap (pc + IntKind.u32.wrap (4 * IntKind.u32.wrap ((n : Int) + fu))) = pc + 4 * ((n : Int) + fu) := by
    simp only [IntKind.wrap_u32]; omega
  rw [← hwr] at hl2
  have c1 := F.c1
  have c4 := F.c4
  have hlt := F.lt
  obtain ⟨p, c, rfl⟩ := F.len
  clear F hl T hf hwr hin R
  have hn' : (n : Int) ≤ 24 := by omega
  have hfu' : (fu : Int) ≤ 1 := by omega
  have hm' : (most : Int) ≤ 24 := by omega
  have hd : decide ((most : Int) ≤ (n : Int) + fu) = false := by simp; omega
  have hB : Hid (Below w.heap.size w (w.alloc (.cells #[.int .i64 0, .int .i64 0, .int .i64 0, .int .i64 0, .int .u32 0] 65))) := bA
  have hF : Hid (FAt w0 (w.alloc (.cells #[.int .i64 0, .int .i64 0, .int .i64 0, .int .i64 0, .int .u32 0] 65)) fb pc sb most n st m (.slice p n c)) := FA
  have hZ : Hid (K.ZAt w.heap.size (w.alloc (.cells #[.int .i64 0, .int .i64 0, .int .i64 0, .int .i64 0, .int .u32 0] 65))) := Z
  have hBl : w.heap.size < (w.alloc (.cells #[.int .i64 0, .int .i64 0, .int .i64 0, .int .i64 0, .int .u32 0] 65)).heap.size := by simp
  clear bA FA Z
  go_enter Tryd.func67, Tryd.ntmps67
  go_upto_region 4 with fail
  generalize w.alloc (.cells #[.int .i64 0, .int .i64 0, .int .i64 0, .int .i64 0, .int .u32 0] 65) = w1 at *
  clear c1 c4 hlt
  have q0 := hF.out.c0
  have q3 := hF.out.c3
  refine wp_region_phase 19 [(0, 0), (1, 0), (2, 0), (3, 1), (4, 0), (5, 0), (6, 0), (7, 0), (8, 1), (9, 0), (10, 0), (11, 0), (12, 0), (13, 2), (14, 0), (15, 0), (16, 0), (17, 0), (18, 0)] (fun W => W.cell? ⟨fb, 0, none⟩ = some (.int .u32 pc) ∧ W.cell? ⟨fb, 3, none⟩ = some (.pointer (some ⟨sb, 0, none⟩))) (by kernel_rfl) (by kernel_rfl) (fun _ _ _ d _ h => by cases d <;> exact h) ⟨q0, q3⟩ ?_
  repeat (first | (refine wpPlanZ_free (by rfl) (by rfl) (fun W => by (go_simp; try with_reducible rfl)) (fun K hK => ?_); go_simp; refine hK _ ?_; clear hK K) | (refine wpPlanZ_quiet (by rfl) (by rfl) (fun W hW => by (obtain ⟨q0, q3⟩ := hW; go_simp; try with_reducible rfl)) (fun K hK => ?_); go_simp; refine hK _ ?_; clear hK K))
  refine wpPlanZ_serial (by rfl) (by rfl) (fun K hK => ?_)
  go_simp
  refine hl2.mono ?_
  rintro e wx ⟨rfl, n2, rfl⟩
  refine hK _ _ (fun _ => ⟨q0, q3⟩) ?_
  clear hK K
  repeat (first | (refine wpPlanZ_free (by rfl) (by rfl) (fun W => by (go_simp; try with_reducible rfl)) (fun K hK => ?_); go_simp; refine hK _ ?_; clear hK K))
  refine wpPlanZ_nil ?_
  have hb2 : Below w1.heap.size w1 (w1.drew.drewN n2) := below_drewN (Below.refl _ _).drew n2
  have F2 : Hid (FAt w0 (w1.drew.drewN n2) fb pc sb most n st m (.slice p n c)) := hF.out.stays hb2
  have Z2 : Hid (K.ZAt w.heap.size (w1.drew.drewN n2)) := hZ.out.stays hb2 hBl
  have B2 : Hid (Below w.heap.size w (w1.drew.drewN n2)) := hB.out.trans (hb2.mono (by omega))
  have hBl2 : w.heap.size < (w1.drew.drewN n2).heap.size := by have := hb2.size; omega
  clear hb2 hl2 q0 q3 hF hZ hB hBl
  generalize w1.drew.drewN n2 = w2 at *
  clear w1
  have hde2 := hde w2 F2.out.be
  clear hde
  go_wp2_with fail
  refine hde2.mono ?_
  rintro e w3 ⟨rfl, hb3⟩
  have F3 := F2.out.stays hb3
  have Z3 := Z2.out.stays hb3 hBl2
  have B3 := B2.out.trans (hb3.mono (by omega))
  have hBl3 : w.heap.size < w3.heap.size := by have := hb3.size; omega
  clear hde2 F2 Z2 B2 hBl2 hb3 w2
  go_wp2_with fail
  refine (hki _).mono ?_
  rintro e wk ⟨rfl, hwk⟩
  rw [hwk]; clear hwk wk hki
  have hb4 : Below w3.heap.size w3 (w3.alloc (.cells #[.int .i64 i0, .int .i64 i1, .int .i64 i2, .int .i64 i3, .int .u32 i4] 65)) := (Below.refl _ _).alloc (Nat.le_refl _) _
  have F4 : Hid (FAt w0 _ fb pc sb most n st m (.slice p n c)) := F3.stays hb4
  have Z4 : Hid (K.ZAt w.heap.size _) := Z3.stays hb4 hBl3
  have B4 : Hid (Below w.heap.size w _) := B3.trans (hb4.mono (by omega))
  have g0 : (w3.alloc (.cells #[.int .i64 i0, .int .i64 i1, .int .i64 i2, .int .i64 i3, .int .u32 i4] 65)).cell? ⟨w3.heap.size, 0, none⟩ = some (.int .i64 i0) := by simp
  have g1 : (w3.alloc (.cells #[.int .i64 i0, .int .i64 i1, .int .i64 i2, .int .i64 i3, .int .u32 i4] 65)).cell? ⟨w3.heap.size, 1, none⟩ = some (.int .i64 i1) := by simp
  have g2 : (w3.alloc (.cells #[.int .i64 i0, .int .i64 i1, .int .i64 i2, .int .i64 i3, .int .u32 i4] 65)).cell? ⟨w3.heap.size, 2, none⟩ = some (.int .i64 i2) := by simp
  have g3 : (w3.alloc (.cells #[.int .i64 i0, .int .i64 i1, .int .i64 i2, .int .i64 i3, .int .u32 i4] 65)).cell? ⟨w3.heap.size, 3, none⟩ = some (.int .i64 i3) := by simp
  have g4 : (w3.alloc (.cells #[.int .i64 i0, .int .i64 i1, .int .i64 i2, .int .i64 i3, .int .u32 i4] 65)).cell? ⟨w3.heap.size, 4, none⟩ = some (.int .u32 i4) := by simp
  have hfl := F3.lt
  have hne : w3.heap.size ≠ w.heap.size := by omega
  have hfw : fb ≠ w.heap.size := by
    intro e
    have h1 := Z3.z1; have h2 := F3.c1
    rw [← e, h2] at h1
    cases h1
  clear F3 Z3 B3 hb4
  generalize w3.alloc (.cells #[.int .i64 i0, .int .i64 i1, .int .i64 i2, .int .i64 i3, .int .u32 i4] 65) = w4 at *
  generalize w3.heap.size = gb at *
  clear w3
  have c5 := F4.out.c5
  obtain ⟨z0, z1, z2, z3, z4, zf⟩ := Z4.out
  have zf0 := zf 0
  have zf1 := zf 1
  have zf2 := zf 2
  have zf3 := zf 3
  have zf4 := zf 4
  have hst' : (st : Int) ≤ 8 := by omega
  have hcl : ∀ W : World, (W = w4.drew ∨ W = (put5 w4 w.heap.size i0 i1 i2 i3 i4).drew) → W.cell? ⟨fb, 5, none⟩ = some (.int .i64 st) ∧ W.cell? ⟨gb, 0, none⟩ = some (.int .i64 i0) ∧ W.cell? ⟨gb, 1, none⟩ = some (.int .i64 i1) ∧ W.cell? ⟨gb, 2, none⟩ = some (.int .i64 i2) ∧ W.cell? ⟨gb, 3, none⟩ = some (.int .i64 i3) ∧ W.cell? ⟨gb, 4, none⟩ = some (.int .u32 i4) := by
    rintro W (rfl | rfl)
    · exact ⟨by simpa using c5, by simpa using g0, by simpa using g1, by simpa using g2, by simpa using g3, by simpa using g4⟩
    · have a5 : (put5 w4 w.heap.size i0 i1 i2 i3 i4).cell? ⟨fb, 5, none⟩ = _ := (put5_other hfw).trans c5
      have a0 : (put5 w4 w.heap.size i0 i1 i2 i3 i4).cell? ⟨gb, 0, none⟩ = _ := (put5_other hne).trans g0
      have a1 : (put5 w4 w.heap.size i0 i1 i2 i3 i4).cell? ⟨gb, 1, none⟩ = _ := (put5_other hne).trans g1
      have a2 : (put5 w4 w.heap.size i0 i1 i2 i3 i4).cell? ⟨gb, 2, none⟩ = _ := (put5_other hne).trans g2
      have a3 : (put5 w4 w.heap.size i0 i1 i2 i3 i4).cell? ⟨gb, 3, none⟩ = _ := (put5_other hne).trans g3
      have a4 : (put5 w4 w.heap.size i0 i1 i2 i3 i4).cell? ⟨gb, 4, none⟩ = _ := (put5_other hne).trans g4
      generalize put5 w4 w.heap.size i0 i1 i2 i3 i4 = V at *
      exact ⟨by simpa using a5, by simpa using a0, by simpa using a1, by simpa using a2, by simpa using a3, by simpa using a4⟩
  clear c5 g0 g1 g2 g3 g4 F4
  have hC1 : Hid _ := hcl _ (Or.inl rfl)
  have hC2 : Hid _ := hcl _ (Or.inr rfl)
  clear hcl
  rcases hk with rfl | rfl | rfl | rfl | rfl
  · obtain rfl : ok = true := by rw [← hok]; simp
    rw [show Tab.kwL.getD 1 [] = [115, 117, 109] from rfl]
    clear hok
    go_upto_region 9 with fail
    refine wp_region_phase 18 [(0, 1), (1, 0), (2, 0), (3, 0), (4, 0), (5, 0), (6, 0), (7, 0), (8, 0), (9, 0), (10, 0), (11, 1), (12, 0), (13, 0), (14, 0), (15, 2), (16, 0), (17, 0)] (fun W => W.cell? ⟨fb, 5, none⟩ = some (.int .i64 st) ∧ W.cell? ⟨gb, 0, none⟩ = some (.int .i64 i0) ∧ W.cell? ⟨gb, 1, none⟩ = some (.int .i64 i1) ∧ W.cell? ⟨gb, 2, none⟩ = some (.int .i64 i2) ∧ W.cell? ⟨gb, 3, none⟩ = some (.int .i64 i3) ∧ W.cell? ⟨gb, 4, none⟩ = some (.int .u32 i4)) (by kernel_rfl) (by kernel_rfl) (fun _ _ _ d _ h => by cases d <;> exact h) hC1.out ?_
    repeat (first | (refine wpPlanZ_free (by rfl) (by rfl) (fun W => by (go_simp; try with_reducible rfl)) (fun K hK => ?_); go_simp; refine hK _ ?_; clear hK K) | (refine wpPlanZ_quiet (by rfl) (by rfl) (fun W hW => by (obtain ⟨c5, g0, g1, g2, g3, g4⟩ := hW; go_simp; try with_reducible rfl)) (fun K hK => ?_); go_simp; refine hK _ ?_; clear hK K) | (refine wpPlanZ_skip (by rfl) (by rfl) (fun K hK => ?_); go_simp; refine hK _ ?_; clear hK K))
    refine wpPlanZ_serial (by rfl) (by rfl) (fun K hK => ?_)
    go_simp
    refine hK _ _ (fun _ => hC2.out) ?_
    clear hK K
    repeat (first | (refine wpPlanZ_free (by rfl) (by rfl) (fun W => by (go_simp; try with_reducible rfl)) (fun K hK => ?_); go_simp; refine hK _ ?_; clear hK K))
    refine wpPlanZ_nil ?_
    go_wp2
    exact bodyPost_ret (results_cell2 Tryd.results67 _ _ _ (A := ⟨w.heap.size, 0, none⟩) rfl (ins_stored_drew Z4.out)) rfl ⟨rfl, (below_put5 B4.out (Nat.le_refl _)).drew⟩
  · obtain rfl : ok = true := by rw [← hok]; simp
    rw [show Tab.kwL.getD 2 [] = [98, 114, 97, 110, 99, 104] from rfl]
    clear hok
    go_upto_region 9 with fail
    refine wp_region_phase 18 [(0, 1), (1, 0), (2, 0), (3, 0), (4, 0), (5, 0), (6, 0), (7, 0), (8, 0), (9, 0), (10, 0), (11, 1), (12, 0), (13, 0), (14, 0), (15, 2), (16, 0), (17, 0)] (fun W => W.cell? ⟨fb, 5, none⟩ = some (.int .i64 st) ∧ W.cell? ⟨gb, 0, none⟩ = some (.int .i64 i0) ∧ W.cell? ⟨gb, 1, none⟩ = some (.int .i64 i1) ∧ W.cell? ⟨gb, 2, none⟩ = some (.int .i64 i2) ∧ W.cell? ⟨gb, 3, none⟩ = some (.int .i64 i3) ∧ W.cell? ⟨gb, 4, none⟩ = some (.int .u32 i4)) (by kernel_rfl) (by kernel_rfl) (fun _ _ _ d _ h => by cases d <;> exact h) hC1.out ?_
    repeat (first | (refine wpPlanZ_free (by rfl) (by rfl) (fun W => by (go_simp; try with_reducible rfl)) (fun K hK => ?_); go_simp; refine hK _ ?_; clear hK K) | (refine wpPlanZ_quiet (by rfl) (by rfl) (fun W hW => by (obtain ⟨c5, g0, g1, g2, g3, g4⟩ := hW; go_simp; try with_reducible rfl)) (fun K hK => ?_); go_simp; refine hK _ ?_; clear hK K) | (refine wpPlanZ_skip (by rfl) (by rfl) (fun K hK => ?_); go_simp; refine hK _ ?_; clear hK K))
    refine wpPlanZ_serial (by rfl) (by rfl) (fun K hK => ?_)
    go_simp
    refine hK _ _ (fun _ => hC2.out) ?_
    clear hK K
    repeat (first | (refine wpPlanZ_free (by rfl) (by rfl) (fun W => by (go_simp; try with_reducible rfl)) (fun K hK => ?_); go_simp; refine hK _ ?_; clear hK K))
    refine wpPlanZ_nil ?_
    go_wp2
    exact bodyPost_ret (results_cell2 Tryd.results67 _ _ _ (A := ⟨w.heap.size, 0, none⟩) rfl (ins_stored_drew Z4.out)) rfl ⟨rfl, (below_put5 B4.out (Nat.le_refl _)).drew⟩
  · obtain rfl : ok = false := by rw [← hok]; simp
    rw [show Tab.kwL.getD 3 [] = [116, 114, 97, 112] from rfl]
    clear hok
    go_upto_region 9 with fail
    refine wp_region_phase 18 [(0, 1), (1, 0), (2, 0), (3, 0), (4, 0), (5, 0), (6, 0), (7, 0), (8, 0), (9, 0), (10, 0), (11, 1), (12, 0), (13, 0), (14, 0), (15, 2), (16, 0), (17, 0)] (fun W => W.cell? ⟨fb, 5, none⟩ = some (.int .i64 st) ∧ W.cell? ⟨gb, 0, none⟩ = some (.int .i64 i0) ∧ W.cell? ⟨gb, 1, none⟩ = some (.int .i64 i1) ∧ W.cell? ⟨gb, 2, none⟩ = some (.int .i64 i2) ∧ W.cell? ⟨gb, 3, none⟩ = some (.int .i64 i3) ∧ W.cell? ⟨gb, 4, none⟩ = some (.int .u32 i4)) (by kernel_rfl) (by kernel_rfl) (fun _ _ _ d _ h => by cases d <;> exact h) hC1.out ?_
    repeat (first | (refine wpPlanZ_free (by rfl) (by rfl) (fun W => by (go_simp; try with_reducible rfl)) (fun K hK => ?_); go_simp; refine hK _ ?_; clear hK K) | (refine wpPlanZ_quiet (by rfl) (by rfl) (fun W hW => by (obtain ⟨c5, g0, g1, g2, g3, g4⟩ := hW; go_simp; try with_reducible rfl)) (fun K hK => ?_); go_simp; refine hK _ ?_; clear hK K) | (refine wpPlanZ_skip (by rfl) (by rfl) (fun K hK => ?_); go_simp; refine hK _ ?_; clear hK K))
    refine wpPlanZ_serial (by rfl) (by rfl) (fun K hK => ?_)
    go_simp
    refine hK _ _ (fun _ => hC2.out) ?_
    clear hK K
    repeat (first | (refine wpPlanZ_free (by rfl) (by rfl) (fun W => by (go_simp; try with_reducible rfl)) (fun K hK => ?_); go_simp; refine hK _ ?_; clear hK K))
    refine wpPlanZ_nil ?_
    go_wp2
    exact bodyPost_ret (results_cell2 Tryd.results67 _ _ _ (A := ⟨w.heap.size, 0, none⟩) rfl (ins_stored_drew Z4.out)) rfl ⟨rfl, (below_put5 B4.out (Nat.le_refl _)).drew⟩
  · obtain rfl : ok = true := by rw [← hok]; simp
    rw [show Tab.kwL.getD 4 [] = [108, 111, 97, 100] from rfl]
    clear hok
    go_upto_region 9 with fail
    refine wp_region_phase 18 [(0, 1), (1, 0), (2, 0), (3, 0), (4, 0), (5, 0), (6, 0), (7, 0), (8, 0), (9, 0), (10, 0), (11, 1), (12, 0), (13, 0), (14, 0), (15, 2), (16, 0), (17, 0)] (fun W => W.cell? ⟨fb, 5, none⟩ = some (.int .i64 st) ∧ W.cell? ⟨gb, 0, none⟩ = some (.int .i64 i0) ∧ W.cell? ⟨gb, 1, none⟩ = some (.int .i64 i1) ∧ W.cell? ⟨gb, 2, none⟩ = some (.int .i64 i2) ∧ W.cell? ⟨gb, 3, none⟩ = some (.int .i64 i3) ∧ W.cell? ⟨gb, 4, none⟩ = some (.int .u32 i4)) (by kernel_rfl) (by kernel_rfl) (fun _ _ _ d _ h => by cases d <;> exact h) hC1.out ?_
    repeat (first | (refine wpPlanZ_free (by rfl) (by rfl) (fun W => by (go_simp; try with_reducible rfl)) (fun K hK => ?_); go_simp; refine hK _ ?_; clear hK K) | (refine wpPlanZ_quiet (by rfl) (by rfl) (fun W hW => by (obtain ⟨c5, g0, g1, g2, g3, g4⟩ := hW; go_simp; try with_reducible rfl)) (fun K hK => ?_); go_simp; refine hK _ ?_; clear hK K) | (refine wpPlanZ_skip (by rfl) (by rfl) (fun K hK => ?_); go_simp; refine hK _ ?_; clear hK K))
    refine wpPlanZ_serial (by rfl) (by rfl) (fun K hK => ?_)
    go_simp
    refine hK _ _ (fun _ => hC2.out) ?_
    clear hK K
    repeat (first | (refine wpPlanZ_free (by rfl) (by rfl) (fun W => by (go_simp; try with_reducible rfl)) (fun K hK => ?_); go_simp; refine hK _ ?_; clear hK K))
    refine wpPlanZ_nil ?_
    go_wp2
    exact bodyPost_ret (results_cell2 Tryd.results67 _ _ _ (A := ⟨w.heap.size, 0, none⟩) rfl (ins_stored_drew Z4.out)) rfl ⟨rfl, (below_put5 B4.out (Nat.le_refl _)).drew⟩
  · by_cases hs8 : st < 8
    · obtain rfl : ok = true := by rw [← hok]; simp [hs8]
      rw [show Tab.kwL.getD 5 [] = [115, 116, 111, 114, 101] from rfl]
      clear hok
      have hs : decide ((st : Int) < 8) = true := by simp; omega
      go_upto_region 9 with fail
      refine wp_region_phase 18 [(0, 1), (1, 0), (2, 0), (3, 0), (4, 0), (5, 0), (6, 0), (7, 0), (8, 0), (9, 0), (10, 0), (11, 1), (12, 0), (13, 0), (14, 0), (15, 2), (16, 0), (17, 0)] (fun W => W.cell? ⟨fb, 5, none⟩ = some (.int .i64 st) ∧ W.cell? ⟨gb, 0, none⟩ = some (.int .i64 i0) ∧ W.cell? ⟨gb, 1, none⟩ = some (.int .i64 i1) ∧ W.cell? ⟨gb, 2, none⟩ = some (.int .i64 i2) ∧ W.cell? ⟨gb, 3, none⟩ = some (.int .i64 i3) ∧ W.cell? ⟨gb, 4, none⟩ = some (.int .u32 i4)) (by kernel_rfl) (by kernel_rfl) (fun _ _ _ d _ h => by cases d <;> exact h) hC1.out ?_
      repeat (first | (refine wpPlanZ_free (by rfl) (by rfl) (fun W => by (go_simp; try with_reducible rfl)) (fun K hK => ?_); go_simp; refine hK _ ?_; clear hK K) | (refine wpPlanZ_quiet (by rfl) (by rfl) (fun W hW => by (obtain ⟨c5, g0, g1, g2, g3, g4⟩ := hW; go_simp; try with_reducible rfl)) (fun K hK => ?_); go_simp; refine hK _ ?_; clear hK K) | (refine wpPlanZ_skip (by rfl) (by rfl) (fun K hK => ?_); go_simp; refine hK _ ?_; clear hK K))
      refine wpPlanZ_serial (by rfl) (by rfl) (fun K hK => ?_)
      go_simp
      refine hK _ _ (fun _ => hC2.out) ?_
      clear hK K
      repeat (first | (refine wpPlanZ_free (by rfl) (by rfl) (fun W => by (go_simp; try with_reducible rfl)) (fun K hK => ?_); go_simp; refine hK _ ?_; clear hK K))
      refine wpPlanZ_nil ?_
      go_wp2
      exact bodyPost_ret (results_cell2 Tryd.results67 _ _ _ (A := ⟨w.heap.size, 0, none⟩) rfl (ins_stored_drew Z4.out)) rfl ⟨rfl, (below_put5 B4.out (Nat.le_refl _)).drew⟩
    · obtain rfl : ok = false := by rw [← hok]; simp [hs8]
      rw [show Tab.kwL.getD 5 [] = [115, 116, 111, 114, 101] from rfl]
      clear hok
      have hs : decide ((st : Int) < 8) = false := by simp; omega
      go_upto_region 9 with fail
      refine wp_region_phase 18 [(0, 1), (1, 0), (2, 0), (3, 0), (4, 0), (5, 0), (6, 0), (7, 0), (8, 0), (9, 0), (10, 0), (11, 1), (12, 0), (13, 0), (14, 0), (15, 2), (16, 0), (17, 0)] (fun W => W.cell? ⟨fb, 5, none⟩ = some (.int .i64 st) ∧ W.cell? ⟨gb, 0, none⟩ = some (.int .i64 i0) ∧ W.cell? ⟨gb, 1, none⟩ = some (.int .i64 i1) ∧ W.cell? ⟨gb, 2, none⟩ = some (.int .i64 i2) ∧ W.cell? ⟨gb, 3, none⟩ = some (.int .i64 i3) ∧ W.cell? ⟨gb, 4, none⟩ = some (.int .u32 i4)) (by kernel_rfl) (by kernel_rfl) (fun _ _ _ d _ h => by cases d <;> exact h) hC1.out ?_
      repeat (first | (refine wpPlanZ_free (by rfl) (by rfl) (fun W => by (go_simp; try with_reducible rfl)) (fun K hK => ?_); go_simp; refine hK _ ?_; clear hK K) | (refine wpPlanZ_quiet (by rfl) (by rfl) (fun W hW => by (obtain ⟨c5, g0, g1, g2, g3, g4⟩ := hW; go_simp; try with_reducible rfl)) (fun K hK => ?_); go_simp; refine hK _ ?_; clear hK K) | (refine wpPlanZ_skip (by rfl) (by rfl) (fun K hK => ?_); go_simp; refine hK _ ?_; clear hK K))
      refine wpPlanZ_serial (by rfl) (by rfl) (fun K hK => ?_)
      go_simp
      refine hK _ _ (fun _ => hC2.out) ?_
      clear hK K
      repeat (first | (refine wpPlanZ_free (by rfl) (by rfl) (fun W => by (go_simp; try with_reducible rfl)) (fun K hK => ?_); go_simp; refine hK _ ?_; clear hK K))
      refine wpPlanZ_nil ?_
      go_wp2
      exact bodyPost_ret (results_cell2 Tryd.results67 _ _ _ (A := ⟨w.heap.size, 0, none⟩) rfl (ins_stored_drew Z4.out)) rfl ⟨rfl, (below_put5 B4.out (Nat.le_refl _)).drew⟩
end
end Go.Proofs.YtckcbnfobjmhpaaDoor
