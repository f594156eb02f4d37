/-
  A region on its way: what it has so far; what stands at a place.
-/
import Derived.Test.YtckcbnfobjmhpaaDoorLen
import Derived.Test.YtckcbnfobjmhpaaDoorKKinds
import Derived.Test.YtckcbnfobjmhpaaDoorKDecF
import Derived.Test.YtckcbnfobjmhpaaDoorBus
import Derived.Test.YtckcbnfobjmhpaaDoorPhase
import Derived.Deep.Cut
import Derived.Laws.ResultCell
namespace Go.Proofs.YtckcbnfobjmhpaaDoor
open Go.RowKit Go.Maps
open Num
set_option linter.unusedVariables false
def decK (v : Int) : Nat := ((List.range 54).find? fun k => decide (1 ≤ k ∧ Tab.xw k v = v)).getD 0
theorem decK_of {v : Int} (v0 : 0 ≤ v) (v1 : v < 4294967296) {k : Nat} (h : K.DecP v k) : k = decK v := by
  unfold decK
  cases hf : (List.range 54).find? (fun k => decide (1 ≤ k ∧ Tab.xw k v = v)) with
  | none =>
    rcases h with ⟨h1, h2, h3⟩ | ⟨h1, _⟩
    · have := List.find?_eq_none.1 hf k (List.mem_range.2 h2)
      simp [h1, h3] at this
    · exact h1
  | some j =>
    have hj := List.find?_some hf
    have hm := List.mem_range.1 (List.mem_of_find?_eq_some hf)
    simp only [decide_eq_true_eq] at hj
    rcases h with ⟨h1, h2, h3⟩ | ⟨h1, h2⟩
    · exact Tab.xw_one k j h2 h1 hm hj.1 v v0 v1 h3 hj.2
    · exact absurd hj.2 (h2 j hj.1 hm)
theorem decK_lt (v : Int) : decK v < 54 := by
  unfold decK
  cases hf : (List.range 54).find? (fun k => decide (1 ≤ k ∧ Tab.xw k v = v)) with
  | none => decide
  | some j => exact List.mem_range.1 (List.mem_of_find?_eq_some hf)
/-- an instruction's cells -/
def insC (v : Int) : List Value := [.int .i64 (decK v), .int .i64 (Tab.xs (Tab.sh (decK v)) v), .int .i64 (Tab.xt (Tab.sh (decK v)) v), .int .i64 (Tab.xd (Tab.sh (decK v)) v), .int .u32 (Tab.xm (Tab.sh (decK v)) v)]
def insV (v : Int) : Value := K.ins (decK v) (Tab.xs (Tab.sh (decK v)) v) (Tab.xt (Tab.sh (decK v)) v) (Tab.xd (Tab.sh (decK v)) v) (Tab.xm (Tab.sh (decK v)) v)
theorem decode_v (pk pb : Addr) (v : Int) (h0 : 0 ≤ v) (h1 : v < 4294967296) (w : World) (T : K.Tb pk pb w) :
    Calls Tryd.prog 60 #[.int .u32 v] w fun e w' => e = .returned (insV v) ∧ Below w.heap.size w w' := by
  refine (K.decode_any pk pb v h0 h1 w T).mono ?_
  rintro e w' ⟨k, hd, rfl, hb⟩
  obtain rfl := decK_of h0 h1 hd
  exact ⟨rfl, hb⟩
/-- a kind by its number -/
def knd (v : Int) : Nat := Tab.kdL.getD (decK v) 0
theorem kind_knd (v : Int) : Tab.kind (decK v) = Tab.kwL.getD (knd v) [] := rfl
theorem knd_all : ∀ k, k < 54 → Tab.kdL.getD k 0 = 1 ∨ Tab.kdL.getD k 0 = 2 ∨ Tab.kdL.getD k 0 = 3 ∨ Tab.kdL.getD k 0 = 4 ∨ Tab.kdL.getD k 0 = 5 := by decide
theorem knd_in (v : Int) : knd v = 1 ∨ knd v = 2 ∨ knd v = 3 ∨ knd v = 4 ∨ knd v = 5 := knd_all _ (decK_lt v)
/-- a kind's word -/
def kwV (n : Nat) : Value := .string ⟨(Tab.kwL.getD n []).toArray⟩
/-- the word at a place from pc on -/
def wAt (m : Nat → Int) (pc : Int) (j : Nat) : Int := m ((pc / 4).toNat + j)
def kdAt (m : Nat → Int) (pc : Int) (j : Nat) : Nat := knd (wAt m pc j)
/-- how many places memory has from pc on -/
def many (pc : Int) : Nat := 4096 - (pc / 4).toNat
def insL (m : Nat → Int) (pc : Int) (n : Nat) : List Value := (List.range n).flatMap fun j => insC (wAt m pc j)
theorem insL_len (m : Nat → Int) (pc : Int) (n : Nat) : (insL m pc n).length = n * 5 := by
  induction n with
  | zero => rfl
  | succ n ih => unfold insL at ih ⊢; rw [List.range_succ, List.flatMap_append, List.length_append, ih]; simp [insC]; omega
theorem insL_succ (m : Nat → Int) (pc : Int) (n : Nat) : insL m pc (n + 1) = insL m pc n ++ insC (wAt m pc n) := by
  unfold insL; rw [List.range_succ, List.flatMap_append]; simp
theorem insL_get (m : Nat → Int) (pc : Int) : ∀ n j i, j < n → i < 5 → (insL m pc n)[j * 5 + i]? = (insC (wAt m pc j))[i]?
  | 0, j, i, h, _ => by omega
  | n + 1, j, i, h, hi => by
    rw [insL_succ]
    by_cases e : j = n
    · subst e
      rw [List.getElem?_append_right (by rw [insL_len]; omega), insL_len]
      congr 1; omega
    · rw [List.getElem?_append_left (by rw [insL_len]; omega), insL_get m pc n j i (by omega) hi]
theorem ld_at (m : Nat → Int) (mb : ∀ i, 0 ≤ m i ∧ m i < 4294967296) (pc : Int) (j : Nat) (h0 : 0 ≤ pc) (h4 : pc % 4 = 0) : ld m (pc + 4 * j) 4 false = wAt m pc j := by
  unfold ld wAt
  have e1 : ((pc + 4 * (j : Int)) / 4).toNat = (pc / 4).toNat + j := by omega
  have e2 : (bhd (pc + 4 * (j : Int)) 4).toNat = 0 := by unfold bhd; omega
  rw [e1, e2, wd_u (by omega) (by omega)]
  have := mb ((pc / 4).toNat + j)
  simp; omega
/-- a step of a plan that is not wanted -/
theorem wpPlanZ_skip {P : Program} {ops : Array Oper} {Q : Exit → Act → World → Prop} {C : World → Prop} {z : Nat} {on : Bool} {i k : Nat} {rest : List (Nat × Nat)} {a : Act} {w : World} {o : Oper} (ho : ops[i]? = some o) (hwt : Region.wanted o (yielded ops a.tmps) = false) (h : ∀ K : Act → Prop, (∀ a', wpPlanZ P ops C z Q (on && i != z) rest a' w → K a') → K (a.put o.dst undef)) : wpPlanZ P ops C z Q on ((i, k) :: rest) a w :=
  ⟨o, ho, by unfold oneZ; rw [if_neg (by simp [hwt])]; exact h _ (fun _ h => h)⟩
/-- what is handed back, where the first is a cell's -/
theorem results_cell2 {fn : Func} {p u v : Tmp} {ty : TypeId} {A : Addr} {x : Value} (h : fn.results = #[.cell p ty, .tmp u, .tmp v]) (tmps : Array Value) (P : Program) (w : World) (hp : tmps.getD p undef = .pointer (some A)) (hl : (loadVar ty A).run P w = .ok x w) :
    (results fn tmps).run P w = .ok (.tuple #[x, tmps.getD u undef, tmps.getD v undef]) w := by
  simp only [results, h]
  simp only [asAddr, hp, Sem.run_bind, List.mapM_toArray, List.mapM_cons, List.mapM_nil, Sem.run_map, Sem.run_pure, Result.andThen, hl]
  simp
theorem results_cell1 {fn : Func} {p u : Tmp} {ty : TypeId} {A : Addr} {x : Value} (h : fn.results = #[.cell p ty, .tmp u]) (tmps : Array Value) (P : Program) (w : World) (hp : tmps.getD p undef = .pointer (some A)) (hl : (loadVar ty A).run P w = .ok x w) :
    (results fn tmps).run P w = .ok (.tuple #[x, tmps.getD u undef]) w := by
  rw [results_cell_tmp h, hp]
  simp [asAddr, Result.andThen, hl]
theorem ins_load {w : World} {B : Nat} {o s t d x : Int} (z0 : w.cell? ⟨B, 0, none⟩ = some (.int .i64 o)) (z1 : w.cell? ⟨B, 1, none⟩ = some (.int .i64 s)) (z2 : w.cell? ⟨B, 2, none⟩ = some (.int .i64 t)) (z3 : w.cell? ⟨B, 3, none⟩ = some (.int .i64 d)) (z4 : w.cell? ⟨B, 4, none⟩ = some (.int .u32 x)) : (loadVar 65 ⟨B, 0, none⟩).run Tryd.prog w = .ok (K.ins o s t d x) w := by
  simp [go_sem, z0, z1, z2, z3, z4]
theorem ZAt.load {w : World} {B : Nat} (z : K.ZAt B w) : (loadVar 65 ⟨B, 0, none⟩).run Tryd.prog w = .ok (K.ins 0 0 0 0 0) w := ins_load z.z0 z.z1 z.z2 z.z3 z.z4
def put5 (W : World) (B : Nat) (o s t d x : Int) : World := ((((W.setCell ⟨B, 0, none⟩ (.int .i64 o)).setCell ⟨B, 1, none⟩ (.int .i64 s)).setCell ⟨B, 2, none⟩ (.int .i64 t)).setCell ⟨B, 3, none⟩ (.int .i64 d)).setCell ⟨B, 4, none⟩ (.int .u32 x)
theorem put5_cells {W : World} {B : Nat} {o s t d x : Int} (z : K.ZAt B W) : (put5 W B o s t d x).cell? ⟨B, 0, none⟩ = some (.int .i64 o) ∧ (put5 W B o s t d x).cell? ⟨B, 1, none⟩ = some (.int .i64 s) ∧ (put5 W B o s t d x).cell? ⟨B, 2, none⟩ = some (.int .i64 t) ∧ (put5 W B o s t d x).cell? ⟨B, 3, none⟩ = some (.int .i64 d) ∧ (put5 W B o s t d x).cell? ⟨B, 4, none⟩ = some (.int .u32 x) := by
  have oo : ∀ (W : World) (i j : Nat) (x : Value), i ≠ j → (W.setCell ⟨B, j, none⟩ x).cell? ⟨B, i, none⟩ = W.cell? ⟨B, i, none⟩ := fun W i j x hij => World.cell?_setCell_other _ _ _ _ (by intro e; injection e with e1 e2; exact hij e2.symm)
  unfold put5
  refine ⟨?_, ?_, ?_, ?_, ?_⟩
  · rw [oo _ 0 4 _ (by omega), oo _ 0 3 _ (by omega), oo _ 0 2 _ (by omega), oo _ 0 1 _ (by omega)]; exact World.cell?_setCell_same _ _ _ z.z0
  · rw [oo _ 1 4 _ (by omega), oo _ 1 3 _ (by omega), oo _ 1 2 _ (by omega)]; exact World.cell?_setCell_same _ _ _ (by rw [oo _ 1 0 _ (by omega)]; exact z.z1)
  · rw [oo _ 2 4 _ (by omega), oo _ 2 3 _ (by omega)]; exact World.cell?_setCell_same _ _ _ (by rw [oo _ 2 1 _ (by omega), oo _ 2 0 _ (by omega)]; exact z.z2)
  · rw [oo _ 3 4 _ (by omega)]; exact World.cell?_setCell_same _ _ _ (by rw [oo _ 3 2 _ (by omega), oo _ 3 1 _ (by omega), oo _ 3 0 _ (by omega)]; exact z.z3)
  · exact World.cell?_setCell_same _ _ _ (by rw [oo _ 4 3 _ (by omega), oo _ 4 2 _ (by omega), oo _ 4 1 _ (by omega), oo _ 4 0 _ (by omega)]; exact z.z4)
theorem put5_other {W : World} {B b j : Nat} {o s t d x : Int} (h : b ≠ B) : (put5 W B o s t d x).cell? ⟨b, j, none⟩ = W.cell? ⟨b, j, none⟩ := by
  have oo : ∀ (W : World) (i : Nat) (x : Value), (W.setCell ⟨B, i, none⟩ x).cell? ⟨b, j, none⟩ = W.cell? ⟨b, j, none⟩ := fun W i x => World.cell?_setCell_other _ _ _ _ (by intro e; injection e with e1 e2; exact h e1.symm)
  unfold put5
  rw [oo, oo, oo, oo, oo]
theorem ins_stored {W : World} {B : Nat} {o s t d x : Int} (z : K.ZAt B W) : (loadVar 65 ⟨B, 0, none⟩).run Tryd.prog (put5 W B o s t d x) = .ok (K.ins o s t d x) (put5 W B o s t d x) := by
  obtain ⟨h0, h1, h2, h3, h4⟩ := put5_cells (o := o) (s := s) (t := t) (d := d) (x := x) z
  exact ins_load h0 h1 h2 h3 h4
theorem ins_stored_drew {W : World} {B : Nat} {o s t d x : Int} (z : K.ZAt B W) : (loadVar 65 ⟨B, 0, none⟩).run Tryd.prog (put5 W B o s t d x).drew = .ok (K.ins o s t d x) (put5 W B o s t d x).drew := by
  obtain ⟨h0, h1, h2, h3, h4⟩ := put5_cells (o := o) (s := s) (t := t) (d := d) (x := x) z
  generalize put5 W B o s t d x = V at *
  exact ins_load (by simpa using h0) (by simpa using h1) (by simpa using h2) (by simpa using h3) (by simpa using h4)
theorem below_put5 {w W : World} {B : Nat} {o s t d x : Int} {C : Nat} (h : Below C w W) (hB : C ≤ B) : Below C w (put5 W B o s t d x) :=
  ((((h.setCell hB _).setCell hB _).setCell hB _).setCell hB _).setCell hB _
/-- a region on its way -/
structure FAt (w0 w : World) (fb : Nat) (pc : Int) (sb most n st : Nat) (m : Nat → Int) (vi : Value) : Prop where
  c0 : w.cell? ⟨fb, 0, none⟩ = some (.int .u32 pc)
  c1 : w.cell? ⟨fb, 1, none⟩ = some vi
  c2 : w.cell? ⟨fb, 2, none⟩ = some (.slice none 0 0)
  c3 : w.cell? ⟨fb, 3, none⟩ = some (.pointer (some ⟨sb, 0, none⟩))
  c4 : w.cell? ⟨fb, 4, none⟩ = some (.int .i64 most)
  c5 : w.cell? ⟨fb, 5, none⟩ = some (.int .i64 st)
  fz : ∀ j, w.frozen? ⟨fb, j, none⟩ = false
  row : w.ownsRow w0.heap.size 65 5 vi n (insL m pc n)
  be : Below w0.heap.size w0 w
  lf : w0.heap.size ≤ fb
  vb : ∀ k, vi.ownBlock = some k → k ≠ fb
section
variable {w0 w : World} {fb : Nat} {pc : Int} {sb most n st bp bw bh N : Nat} {m : Nat → Int} {wt ht : Int → Bool} {vi : Value}
theorem FAt.lt (F : FAt w0 w fb pc sb most n st m vi) : fb < w.heap.size := World.block_lt_of_cell? _ _ F.c0
theorem FAt.stays {w' : World} (F : FAt w0 w fb pc sb most n st m vi) (h : Below w.heap.size w w') : FAt w0 w' fb pc sb most n st m vi := by
  have c : ∀ j, w'.cell? ⟨fb, j, none⟩ = w.cell? ⟨fb, j, none⟩ := fun j => h.cell (p := ⟨fb, j, none⟩) F.lt
  exact ⟨(c 0).trans F.c0, (c 1).trans F.c1, (c 2).trans F.c2, (c 3).trans F.c3, (c 4).trans F.c4, (c 5).trans F.c5, fun j => (h.frozen (p := ⟨fb, j, none⟩) F.lt).trans (F.fz j),
    owns_blocks F.row (fun k hk => h.block k (by
      rcases F.row.2 with ⟨rfl, _⟩ | ⟨g, cap, cur, rfl, _, hg, _⟩
      · cases hk
      · injection hk with hk; subst hk; exact (Array.getElem?_eq_some_iff.1 hg).1)), F.be.trans (h.mono F.be.size), F.lf, F.vb⟩
theorem FAt.len (F : FAt w0 w fb pc sb most n st m vi) : ∃ p c, vi = .slice p n c := by
  rcases F.row.2 with ⟨rfl, rfl⟩ | ⟨g, cap, cur, rfl, _⟩
  · exact ⟨none, 0, rfl⟩
  · exact ⟨_, _, rfl⟩
end
end Go.Proofs.YtckcbnfobjmhpaaDoor
