/-
  The program's keep and the document's: one the other's.
-/
import Derived.Test.YtcccaejjhodnkabGreatDoorQKmHelp
import Derived.Test.YtcccaejjhodnkabGreatDoorQKpKept
namespace Go.Proofs.YtcccaejjhodnkabGreatDoor
open Go.RowKit
set_option linter.unusedVariables false
def kA (x : Kx) : Int × Int × List (List Opx) × List Int := (x.pc, x.many, x.rs, x.zs)
def kB (x : Kx) : Int × Int × List (List Opx) × List Int := (x.pc, x.many, x.rs, rise x.zs)
abbrev Rl (l m : List Kx) : Prop := l.map kA = m.map kB
theorem Rl.len {l m : List Kx} (h : Rl l m) : l.length = m.length := by have := congrArg List.length h; simpa using this
theorem Rl.filt {l m : List Kx} (h : Rl l m) (p q : Kx → Bool) (g : Int × Int × List (List Opx) × List Int → Bool) (hp : ∀ x, p x = g (kA x)) (hq : ∀ x, q x = g (kB x)) : Rl (l.filter p) (m.filter q) := by
  have e1 : p = g ∘ kA := funext hp
  have e2 : q = g ∘ kB := funext hq
  show (l.filter p).map kA = (m.filter q).map kB
  rw [e1, e2, ← List.filter_map, ← List.filter_map, h]
theorem Rl.oth {l m : List Kx} (h : Rl l m) (pc : Int) : Rl (l.filter (othK pc)) (m.filter (othK pc)) := h.filt _ _ (fun t => !decide (t.1 = pc)) (fun _ => rfl) (fun _ => rfl)
theorem has_rise (page : Int) (x : Kx) : hasP page x = (rise x.zs).contains page := by
  unfold hasP
  rw [Bool.eq_iff_iff]
  simp [mem_rise]
theorem Rl.has {l m : List Kx} (h : Rl l m) (page : Int) : Rl (l.filter (hasP page)) (m.filter (hasP page)) := h.filt _ _ (fun t => t.2.2.2.contains page) (fun _ => rfl) (fun x => has_rise page x)
theorem Rl.hasNot {l m : List Kx} (h : Rl l m) (page : Int) : Rl (l.filter (fun x => !hasP page x)) (m.filter (fun x => !hasP page x)) := h.filt _ _ (fun t => !t.2.2.2.contains page) (fun _ => rfl) (fun x => by rw [has_rise page x]; rfl)
theorem Rl.cut {l m : List Kx} (h : Rl l m) (many : Int) : Rl (cutK many l) (cutK many m) := by
  show (cutK many l).map kA = (cutK many m).map kB
  unfold cutK
  rw [h.len]
  by_cases hc : many < (m.length : Int)
  · rw [if_pos hc, if_pos hc, List.map_drop, List.map_drop, h]
  · rw [if_neg hc, if_neg hc]; exact h
theorem Rl.snoc {l m : List Kx} (h : Rl l m) {x y : Kx} (e : kA x = kB y) : Rl (l ++ [x]) (m ++ [y]) := by
  show (l ++ [x]).map kA = (m ++ [y]).map kB
  rw [List.map_append, List.map_append, h]; simp [e]
theorem Rl.pcs {l m : List Kx} (h : Rl l m) : pcL l = pcL m := by
  have := congrArg (List.map fun t : Int × Int × List (List Opx) × List Int => Value.int .u32 t.1) h
  simpa [pcL, List.map_map, Function.comp_def, kA, kB] using this
theorem Rl.mem {l m : List Kx} (h : Rl l m) {x : Kx} (hx : x ∈ l) : ∃ y ∈ m, kA x = kB y := by
  have h1 : kA x ∈ l.map kA := List.mem_map.2 ⟨x, hx, rfl⟩
  rw [h] at h1
  obtain ⟨y, hy, e⟩ := List.mem_map.1 h1
  exact ⟨y, hy, e.symm⟩
theorem Rl.mem' {l m : List Kx} (h : Rl l m) {y : Kx} (hy : y ∈ m) : ∃ x ∈ l, kA x = kB y := by
  have h1 : kB y ∈ m.map kB := List.mem_map.2 ⟨y, hy, rfl⟩
  rw [← h] at h1
  obtain ⟨x, hx, e⟩ := List.mem_map.1 h1
  exact ⟨x, hx, e⟩
theorem kzs {x y : Kx} (e : kA x = kB y) : x.zs = rise y.zs ∧ x.rs = y.rs ∧ x.many = y.many ∧ x.pc = y.pc := by
  unfold kA kB at e
  injection e with e1 e2
  injection e2 with e2 e3
  injection e3 with e3 e4
  exact ⟨e4, e3, e2, e1⟩
theorem Rl.pages {l m : List Kx} (h : Rl l m) : rise (allPg l) = mpgL (allPg m) := by
  rw [← rise_mpgL]
  refine srt_eq (rise_srt _) (rise_srt _) fun z => ?_
  rw [mem_rise, mem_rise, mem_allPg, mem_allPg]
  constructor
  · rintro ⟨x, hx, hz⟩
    obtain ⟨y, hy, e⟩ := h.mem hx
    rw [(kzs e).1] at hz
    exact ⟨y, hy, mem_rise.1 hz⟩
  · rintro ⟨y, hy, hz⟩
    obtain ⟨x, hx, e⟩ := h.mem' hy
    exact ⟨x, hx, by rw [(kzs e).1]; exact mem_rise.2 hz⟩
/-- no place twice -/
abbrev Nd (l : List Kx) : Prop := (l.map (·.pc)).Nodup
theorem Nd.put {l : List Kx} (h : Nd l) (x : Kx) : Nd (l.filter (othK x.pc) ++ [x]) := by
  show ((l.filter (othK x.pc) ++ [x]).map (·.pc)).Nodup
  rw [List.map_append]
  refine List.nodup_append.2 ⟨?_, by simp, ?_⟩
  · exact h.sublist ((List.filter_sublist (p := othK x.pc) (l := l)).map _)
  · intro a ha b hb
    obtain ⟨y, hy, rfl⟩ := List.mem_map.1 ha
    have h2 := (List.mem_filter.1 hy).2
    have hb' : b = x.pc := by simpa using hb
    rw [hb']
    unfold othK at h2
    simpa using h2
theorem Nd.sub {l m : List Kx} (h : Nd l) (hs : m.Sublist l) : Nd m := h.sublist (hs.map _)
theorem Nd.cut {l : List Kx} (h : Nd l) (many : Int) : Nd (cutK many l) := by
  unfold cutK
  split
  · exact h.sub (List.drop_sublist _ _)
  · exact h
theorem Nd.one {l : List Kx} (h : Nd l) {pc : Int} {x : Kx} {r : List Kx} (e : l.filter (atK pc) = x :: r) : r = [] ∧ x.pc = pc ∧ x ∈ l := by
  have hm : ∀ y ∈ x :: r, y ∈ l ∧ y.pc = pc := fun y hy => by
    rw [← e] at hy
    have := List.mem_filter.1 hy
    exact ⟨this.1, by simpa [atK] using this.2⟩
  have h2 : Nd (x :: r) := h.sub (by rw [← e]; exact List.filter_sublist)
  refine ⟨?_, (hm x (List.mem_cons_self ..)).2, (hm x (List.mem_cons_self ..)).1⟩
  cases r with
  | nil => rfl
  | cons y s =>
    have h3 := (List.nodup_cons.1 (show (x.pc :: (y :: s).map (·.pc)).Nodup from h2)).1
    exfalso
    apply h3
    rw [(hm x (List.mem_cons_self ..)).2, List.map_cons, (hm y (List.mem_cons_of_mem _ (List.mem_cons_self ..))).2]
    exact List.mem_cons_self ..
theorem find_none {l m : List Kx} (h : Rl l m) {pc : Int} (e : l.filter (atK pc) = []) : findM pc m = -1 ∧ l.filter (othK pc) = l := by
  have hn : ∀ x ∈ l, x.pc ≠ pc := fun x hx hp => by
    have : x ∈ l.filter (atK pc) := List.mem_filter.2 ⟨hx, by simp [atK, hp]⟩
    rw [e] at this; cases this
  refine ⟨?_, List.filter_eq_self.2 fun x hx => by simp [othK, hn x hx]⟩
  unfold findM
  rw [if_neg]
  intro hlt
  have h1 := List.findIdx_getElem (xs := m) (p := fun x => decide (x.pc = pc)) (w := hlt)
  obtain ⟨x, hx, e2⟩ := h.mem' (List.getElem_mem hlt)
  apply hn x hx
  rw [(kzs e2).2.2.2]; simpa using h1
theorem find_some {l m : List Kx} (h : Rl l m) (nd : Nd l) {pc : Int} {x : Kx} {r : List Kx} (e : l.filter (atK pc) = x :: r) : ∃ (n : Nat) (y : Kx), findM pc m = (n : Int) ∧ m[n]? = some y ∧ y.pc = pc ∧ kA x = kB y := by
  obtain ⟨_, hxp, hxl⟩ := nd.one e
  obtain ⟨y, hy, ey⟩ := h.mem hxl
  have hyp : y.pc = pc := by rw [← (kzs ey).2.2.2]; exact hxp
  have hlt : m.findIdx (fun x => decide (x.pc = pc)) < m.length := List.findIdx_lt_length_of_exists ⟨y, hy, by simp [hyp]⟩
  obtain ⟨z, hz⟩ : ∃ z, m[m.findIdx (fun x => decide (x.pc = pc))]? = some z := ⟨_, List.getElem?_eq_getElem hlt⟩
  have h1 := List.findIdx_getElem (xs := m) (p := fun x => decide (x.pc = pc)) (w := hlt)
  have hzp : z.pc = pc := by
    have : m[m.findIdx (fun x => decide (x.pc = pc))] = z := by rw [List.getElem?_eq_getElem hlt] at hz; exact Option.some.inj hz
    rw [this] at h1; simpa using h1
  refine ⟨_, z, by unfold findM; rw [if_pos hlt], hz, hzp, ?_⟩
  obtain ⟨x2, hx2, e2⟩ := h.mem' (List.mem_of_getElem? hz)
  have hx2p : x2.pc = pc := by rw [(kzs e2).2.2.2]; exact hzp
  have h2 : x2 ∈ l.filter (atK pc) := List.mem_filter.2 ⟨hx2, by simp [atK, hx2p]⟩
  rw [e, (nd.one e).1] at h2
  rw [← e2, List.mem_singleton.1 h2]
end Go.Proofs.YtcccaejjhodnkabGreatDoor
