/-
  Package keep: a keep behind its pointer: its room, and the row of what it has.
-/
import Derived.Test.YtcccaejjhodnkaaDoorRow
import Derived.Test.YtcccaejjhodnkaaDoorIrPure
import Derived.Below
namespace Go.Proofs.YtcccaejjhodnkaaDoor
open Go.RowKit
open Num
set_option linter.unusedVariables false
/-- one that is kept: its cells, and what its pages and its rows are -/
structure Kx where
  pc : Int
  many : Int
  ra : Option Addr
  rn : Nat
  rc : Nat
  ga : Option Addr
  gn : Nat
  gc : Nat
  zs : List Int
  rs : List (List Opx)
def kC (x : Kx) : List Value := [.int .u32 x.pc, .int .i64 x.many, .slice x.ra x.rn x.rc, .slice x.ga x.gn x.gc]
def kL (l : List Kx) : List Value := l.flatMap kC
theorem kL_len (l : List Kx) : (kL l).length = l.length * 4 := by
  induction l with
  | nil => rfl
  | cons q p ih => unfold kL at ih ⊢; rw [List.flatMap_cons, List.length_append, ih]; simp [kC]; omega
theorem kL_get : ∀ (p : List Kx) (j : Nat) (q : Kx) (i : Nat), p[j]? = some q → i < 4 → (kL p)[j * 4 + i]? = (kC q)[i]?
  | [], j, q, i, h, _ => by simp at h
  | r :: p, 0, q, i, h, hi => by
    simp at h; subst h
    show (kC r ++ kL p)[0 * 4 + i]? = _
    rw [List.getElem?_append_left (by simp [kC]; omega)]; simp
  | r :: p, j + 1, q, i, h, hi => by
    show (kC r ++ kL p)[(j + 1) * 4 + i]? = _
    rw [List.getElem?_append_right (by simp [kC]; omega), ← kL_get p j q i (by simpa using h) hi]
    congr 1; simp [kC]; omega
theorem kL_one (l : List Kx) : ∀ u ∈ kL l, u.oneCell' = true := by
  intro u hu
  obtain ⟨o, _, h⟩ := List.mem_flatMap.1 hu
  simp [kC] at h
  rcases h with rfl | rfl | rfl | rfl <;> rfl
theorem kL_snoc (l : List Kx) (x : Kx) : kL (l ++ [x]) = kL l ++ kC x := by unfold kL; simp
theorem infoKept : (Tryd.prog.info? 134).map (fun i => (i.zero, i.size, i.bytes)) = some (some (.agg #[.int .u32 0, .int .i64 0, .slice none 0 0, .slice none 0 0]), 4, 64) := by kernel_rfl
/-- a row of what is kept, as it is read -/
theorem row_cells {w : World} {base g cap n : Nat} {l : List Kx} (h : w.ownsRow base 134 4 (.slice (some ⟨g, 0, none⟩) n cap) n (kL l)) {j : Nat} {x : Kx} (hx : l[j]? = some x) :
    w.cell? ⟨g, j * 4, none⟩ = some (.int .u32 x.pc) ∧ w.cell? ⟨g, j * 4 + 1, none⟩ = some (.int .i64 x.many) ∧ w.cell? ⟨g, j * 4 + 2, none⟩ = some (.slice x.ra x.rn x.rc) ∧ w.cell? ⟨g, j * 4 + 3, none⟩ = some (.slice x.ga x.gn x.gc) := by
  have f : ∀ i u, i < 4 → (kC x)[i]? = some u → w.cell? ⟨g, j * 4 + i, none⟩ = some u := fun i u hi hu => by
    have := h.cells (g := g) rfl (j * 4 + i) u (by rw [kL_get l j x i hx hi]; exact hu)
    rwa [add_lit] at this
  exact ⟨f 0 _ (by omega) rfl, f 1 _ (by omega) rfl, f 2 _ (by omega) rfl, f 3 _ (by omega) rfl⟩
/-- a keep behind its pointer -/
structure KRow (w : World) (kb : Nat) (room : Int) (v : Value) (l : List Kx) : Prop where
  st : RowIs w kb 126 2 (fun j => if j = 0 then .int .i64 room else v)
  own : w.ownsRow (kb + 1) 134 4 v l.length (kL l)
theorem KRow.c0 {w : World} {kb : Nat} {room : Int} {v : Value} {l : List Kx} (K : KRow w kb room v l) : w.cell? ⟨kb, 0, none⟩ = some (.int .i64 room) := K.st.cell (j := 0) (by omega)
theorem KRow.c1 {w : World} {kb : Nat} {room : Int} {v : Value} {l : List Kx} (K : KRow w kb room v l) : w.cell? ⟨kb, 1, none⟩ = some v := K.st.cell (j := 1) (by omega)
theorem KRow.lt {w : World} {kb : Nat} {room : Int} {v : Value} {l : List Kx} (K : KRow w kb room v l) : kb < w.heap.size := K.st.lt
theorem KRow.fz {w : World} {kb : Nat} {room : Int} {v : Value} {l : List Kx} (K : KRow w kb room v l) (j : Nat) : w.frozen? ⟨kb, j, none⟩ = false := K.st.fz j
theorem own_lt {w : World} {base : Nat} {e : TypeId} {size n : Nat} {v : Value} {xs : List Value} (h : w.ownsRow base e size v n xs) : ∀ k, v.ownBlock = some k → k < w.heap.size ∧ base ≤ k := by
  intro k hk
  rcases h.2 with ⟨hv, _⟩ | ⟨g, cap, cur, hv, hb, hg, _⟩
  · subst hv; cases hk
  · subst hv
    obtain rfl : g = k := by simpa [Value.ownBlock] using hk
    exact ⟨(Array.getElem?_eq_some_iff.1 hg).1, hb⟩
theorem own_slice {w : World} {base : Nat} {e : TypeId} {size n : Nat} {v : Value} {xs : List Value} (h : w.ownsRow base e size v n xs) : ∃ a m c, v = .slice a m c := by
  rcases h.2 with ⟨hv, _⟩ | ⟨g, cap, cur, hv, _⟩
  · exact ⟨_, _, _, hv⟩
  · exact ⟨_, _, _, hv⟩
theorem own_cap {w : World} {base : Nat} {e : TypeId} {size n : Nat} {a : Option Addr} {m c : Nat} {xs : List Value} (h : w.ownsRow base e size (.slice a m c) n xs) : m ≤ c := by
  rcases h.2 with ⟨hv, _⟩ | ⟨g, cap, cur, hv, _, _, hc, _⟩
  · cases hv; exact Nat.le_refl _
  · cases hv; exact hc
theorem own_low {w : World} {base base' : Nat} {e : TypeId} {size n : Nat} {v : Value} {xs : List Value} (h : w.ownsRow base e size v n xs) (hb : base' ≤ base) : w.ownsRow base' e size v n xs := by
  refine ⟨h.1, ?_⟩
  rcases h.2 with hn | ⟨g, cap, cur, rfl, hbg, rest⟩
  · exact .inl hn
  · exact .inr ⟨g, cap, cur, rfl, Nat.le_trans hb hbg, rest⟩
theorem KRow.stays {w w' : World} {kb : Nat} {room : Int} {v : Value} {l : List Kx} (K : KRow w kb room v l) (h : Below w.heap.size w w') : KRow w' kb room v l :=
  ⟨K.st.stays h, owns_blocks K.own fun k e => h.block k (own_lt K.own k e).1⟩
theorem KRow.form {w : World} {kb : Nat} {room : Int} {v : Value} {l : List Kx} (K : KRow w kb room v l) : ∃ ao cap, v = .slice ao l.length cap ∧ (0 < l.length → ∃ g, ao = some ⟨g, 0, none⟩) := by
  rcases K.own.2 with ⟨rfl, h⟩ | ⟨g, cap, cur, rfl, _⟩
  · exact ⟨none, 0, by rw [h], fun hp => by omega⟩
  · exact ⟨_, cap, rfl, fun _ => ⟨g, rfl⟩⟩
/-- another row in its place -/
theorem KRow.put {w : World} {kb : Nat} {room : Int} {v v' : Value} {l l' : List Kx} (K : KRow w kb room v l) (ho : w.ownsRow (kb + 1) 134 4 v' l'.length (kL l')) : KRow (w.setCell ⟨kb, 1, none⟩ v') kb room v' l' := by
  refine ⟨K.st.put 1 v' _ rfl fun j hj hne => ?_, owns_blocks ho fun k e => ?_⟩
  · obtain rfl : j = 0 := by omega
    rfl
  · have := own_lt ho k e
    exact Below.heap_setCell _ _ _ _ (by intro e; have e' : k = kb := e; omega)
theorem grown_put {w w' : World} {kb : Nat} {v : Value} (h : Below w.heap.size w w') : w.grownBy (w'.setCell ⟨kb, 1, none⟩ v) (some kb) :=
  ⟨h.os, h.tape, h.output, by rw [World.size_setCell]; exact h.size, fun k hk hne => by rw [Below.heap_setCell _ _ _ _ (by intro e; apply hne; rw [show k = kb from e])]; exact h.block k hk⟩
end Go.Proofs.YtcccaejjhodnkaaDoor
