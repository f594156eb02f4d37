/-
  Hits: the pages that were hit, sorted; then none.
-/
import Derived.Test.YtmfhimphlackiaaDoorOwn
import Derived.Test.YtmfhimphlackiaaDoorSmall
import Derived.Test.YtmfhimphlackiaaDoorShelf
namespace Go.Proofs.YtmfhimphlackiaaDoor
open Go.RowKit Go.Maps Go.Sort Go.Shelf
open Num
set_option linter.unusedVariables false
theorem sortsH (m : Nat) : AnyZI.SortsIn Tryd.prog Tryd.sortedH_ren Fence.wide m :=
  ⟨fun blk off cap ss W hH hblk hsz => callsIn_wide.2 (AnyM.slices_Sort_int Tryd.sortH blk off cap ss W hH hblk hsz),
   fun p cap W => callsIn_wide.2 (AnyM.slices_Sort_int_none Tryd.sortH p cap W)⟩
theorem clear_set {w : World} {b clock : Nat} {es : Array MapEntry} (hb : w.heap[b]? = some (.map es clock)) (ty : TypeId) : (Builtin.clear_ #[73] ty #[.map (some b)]).run Tryd.prog w = .ok (.tuple #[]) { w with heap := w.heap.setIfInBounds b (.map #[] clock) } := by
  simp [Builtin.clear_, run_underlying Tryd.underlying73, MapKept.run_getObj_map hb, MapKept.run_setObj_map _ hb, Result.andThen]
set_option maxHeartbeats 1000000 in
theorem hits_any {w : World} {sb bp bw bh N : Nat} {m : Nat → Int} {wt ht : Int → Bool} (R : RamIs w sb bp bw bh N m wt ht) (hN : N ≤ 1000000) :
    Calls Tryd.prog 22 #[.pointer (some ⟨sb, 0, none⟩)] w fun e w' => ∃ (v : Value) (ss : List Int) (D : DataW Unit), e = .returned v ∧ (∀ x : Int, Maps.has D (.int .i64 x) = ht x) ∧ w.ownsMap Tryd.prog 3 unitElem bh N D ∧ ss.Perm (intKeys D) ∧
      w'.ownsRow w.heap.size 3 1 v ss.length ((ss.mergeSort (fun x y => decide (x ≤ y))).map encZ) ∧ (v = .slice none 0 0 ↔ ss = []) ∧ RamIs w' sb bp bw bh N m wt (fun _ => false) ∧ w.heap.size ≤ w'.heap.size ∧ (∀ k, k < w.heap.size → k ≠ bh → w'.heap[k]? = w.heap[k]?) ∧ w'.os = w.os ∧ w'.tape = w.tape ∧ w'.output = w.output := by
  obtain ⟨D0, hown, hD⟩ := R.hs
  refine (callsIn_wide (n := 6)).1 ?_
  have hbl := hown.lt
  have c2 := R.c2
  have hsz : Maps.size D0 ≤ 1000000 := Nat.le_trans hown.size_le hN
  have hseq : SeqGives Fence.wide 2 Tryd.prog 69 #[.pointer (some ⟨w.heap.size, 0, none⟩)] encZ (fun ss => ss.Perm (intKeys D0)) (Maps.size D0) (w.alloc (.cells #[.map (some bh)] 73)) :=
    AnyZI.keys_gives (ρ := Tryd.keysH_ren) { Tryd.keysH with } Fence.wide _ trivial rfl (by omega) w.heap.size bh N D0 _ (by simp) (by simp) (by
      obtain ⟨es, clock, hb, Ft, hs, hD⟩ := hown
      exact ⟨es, clock, (Below.heap_alloc _ _ bh hbl).trans hb, Ft, hs, hD⟩)
  have cK : ∀ mb W, CallsIn Fence.wide 5 Tryd.prog 51 #[.map mb] W fun e w' => e = .returned (.func (.func 69) #[] #[.pointer (some ⟨W.heap.size, 0, none⟩)]) ∧ w' = W.alloc (.cells #[.map mb] 73) := fun mb W => AnyZI.keys_in Tryd.keysH Fence.wide 5 trivial rfl mb W
  have cS := AnyZI.sorted_in Tryd.sortedH Fence.wide 5 trivial trivial trivial trivial rfl (by omega) (sortsH _) (enters_of Tryd.func68 (by kernel_rfl) rfl) 69 #[.pointer (some ⟨w.heap.size, 0, none⟩)] trivial (enters_of Tryd.func69 (by kernel_rfl) rfl) _ _ (show Maps.size D0 ≤ maxLen by unfold maxLen; omega) (by omega) _ hseq
  change CallsIn _ _ Tryd.prog 50 _ _ _ at cS
  have hfK : Fence.wide.fn 51 := trivial
  have hfS : Fence.wide.fn 50 := trivial
  refine callsIn_of_wp Tryd.func22 rfl trivial ?_ rfl
  simp only [Tryd.ntmps22, List.size_toArray, List.length_cons, List.length_nil, Nat.reduceAdd, Nat.reduceSub, Array.replicate_succ, Array.replicate_zero, List.push_toArray, List.append_toArray, List.nil_append, List.cons_append]
  gi_wp2_with (first
    | (gi_at_call 51; refine (cK _ _).mono ?_; rintro e w' ⟨rfl, rfl⟩)
    | (gi_at_call 50; refine cS.mono ?_; rintro e w' ⟨v, ss, rfl, hS, hrow, hnil, hb⟩; have b2 : Below w.heap.size w w' := ((Below.refl _ w).alloc (Nat.le_refl _) _).trans (hb.mono (by simp)); have R2 := R.stays b2 (Nat.le_refl _); have c2' := R2.c2; obtain ⟨es, clock, hm, _⟩ := hown; have hm' := (b2.block bh hbl).trans hm; have hcl := fun ty => clear_set hm' ty))
  go_ret
  obtain ⟨hs1, hs2⟩ := MapKept.heap_set (o' := Obj.map #[] clock) hm'
  generalize hZ : ({ w' with heap := w'.heap.setIfInBounds bh (Obj.map #[] clock) } : World) = Z
  have z1 : Z.heap[bh]? = some (.map #[] clock) := by rw [← hZ]; exact hs1
  have z2 : ∀ k, k ≠ bh → Z.heap[k]? = w'.heap[k]? := by rw [← hZ]; exact hs2
  have z3 : Z.heap.size = w'.heap.size := by rw [← hZ]; simp
  have z4 : Z.os = w'.os ∧ Z.tape = w'.tape ∧ Z.output = w'.output := by rw [← hZ]; exact ⟨rfl, rfl, rfl⟩
  clear hZ hs1 hs2
  have zc : ∀ (j : Nat) (u : Value), w'.cell? ⟨sb, j, none⟩ = some u → Z.cell? ⟨sb, j, none⟩ = some u := fun j u h => (World.cell?_of_block (a := ⟨sb, j, none⟩) (z2 sb R.sh)).trans h
  have hg : w'.grownBy Z (some bh) := ⟨z4.1, z4.2.1, z4.2.2, by omega, fun k _ hk => z2 k (fun e => hk (by rw [e]))⟩
  refine ⟨v, ss, D0, rfl, hD, ⟨es, clock, hm, ‹_›⟩, hS, ?_, hnil, ⟨zc _ _ R2.c0, zc _ _ R2.c1, zc _ _ R2.c2, R2.pw, R2.ph, R2.wh, R2.sp, R2.sh, R2.ps.kept hg (by simpa using R2.ph), R2.ws.kept hg (by simpa using R2.wh), ⟨.map [], ⟨#[], clock, z1, ⟨by simp, MapKept.stamped_empty _, by simp⟩, Nat.zero_le _, rfl⟩, fun x => rfl⟩, R2.mb⟩, by have := b2.size; omega, fun k hk hn => (z2 k hn).trans (b2.block k hk), z4.1.trans b2.os, z4.2.1.trans b2.tape, z4.2.2.trans b2.output⟩
  obtain ⟨hl, h | ⟨g, cap, cur, rfl, hgb, hgc, hr⟩⟩ := hrow
  · exact ⟨hl, .inl h⟩
  · simp at hgb
    exact ⟨hl, .inr ⟨g, cap, cur, rfl, by omega, (z2 g (by omega)).trans hgc, hr⟩⟩
end Go.Proofs.YtmfhimphlackiaaDoor
