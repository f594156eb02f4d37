/-
  cutName, for any text.
-/
import Derived.Laws.AppendOwn
import Derived.Laws.CopyOwn
import Derived.Test.YtccnliihdhnckaaGreatDoorKName
namespace Go.Proofs.YtccnliihdhnckaaGreatDoor
open Go.RowKit Go.Shelf Go.Joins
open Num Tab Fm Txt
set_option linter.unusedVariables false
theorem lastOcc_bd (s sub : List UInt8) : ∀ k : Nat, -1 ≤ Lib.lastOcc s sub k ∧ Lib.lastOcc s sub k < k
  | 0 => by simp [Lib.lastOcc]
  | k + 1 => by
    have ih := lastOcc_bd s sub k
    unfold Lib.lastOcc
    split
    · omega
    · omega
/-- behind the last blank -/
def lsi (l : List UInt8) : Nat := (Lib.lastIndex l [32] + 1).toNat
theorem lsi_eq (l : List UInt8) : Lib.lastIndex l [32] + 1 = (lsi l : Int) ∧ lsi l ≤ l.length := by
  unfold lsi Lib.lastIndex
  split
  · rename_i h
    have := lastOcc_bd l [32] (l.length - [(32 : UInt8)].length + 1)
    simp at this h ⊢
    omega
  · simp
theorem cut_more (l : List UInt8) : (Lib.cut l [32]).2.2 = l.any (· == 32) := by
  unfold Lib.cut
  rw [idx_blank]
  by_cases h : l.any (· == 32) = true
  · rw [if_pos h, if_pos (by omega), h]
  · rw [if_neg h, if_neg (by omega)]; simp at h ⊢; intro x hx e; exact h (e ▸ hx)
theorem ext_from (l : List UInt8) (q : Nat) (h : q ≤ l.length) : (⟨l.toArray⟩ : ByteArray).extract q l.length = ⟨(l.drop q).toArray⟩ := by
  apply ByteArray.ext
  simp [ByteArray.data_extract]
  exact List.take_of_length_le (by simp)
def isBr (k : Nat) : Bool := kindI k == [98, 114, 97, 110, 99, 104]
def cutOk (l : List UInt8) : Bool := l.any (· == 32) && isBr (opOf (l.takeWhile isWord)) && isNm (l.drop (lsi l))
def cutT (l : List UInt8) : List UInt8 := if cutOk l then l.take (lsi l) ++ [48] else l
def cutN (l : List UInt8) : List UInt8 := if cutOk l then l.drop (lsi l) else []
set_option maxRecDepth 100000 in
set_option maxHeartbeats 1000000 in
theorem cutName_any (l : List UInt8) (hl : l.length ≤ 1000) (w : World) (b : Lb w) : Calls Tryz.prog 103 #[.string ⟨l.toArray⟩] w fun e w' => e = .returned (.tuple #[.string ⟨(cutT l).toArray⟩, .string ⟨(cutN l).toArray⟩]) ∧ Below w.heap.size w w' := by
  have hcu := cutF_any l (by omega) w b
  rw [cut_more] at hcu
  have hli : ∀ W : World, Calls Tryz.prog 125 #[.string ⟨l.toArray⟩, .string ⟨#[32]⟩] W fun e w' => e = .returned (.int .i64 (Lib.lastIndex l [32])) ∧ w' = W := fun W => Any.strings_LastIndex Tryz.l148 ⟨l.toArray⟩ ⟨#[32]⟩ (by simp [ByteArray.size]; omega) W
  obtain ⟨e1, hq⟩ := lsi_eq l
  have hq0 : Lib.lastIndex l [32] = (lsi l : Int) - 1 := by omega
  have HQ : Hid (Lib.lastIndex l [32] + 1 = (lsi l : Int)) := e1
  have hop := fun W => fun b : Lb W => oper_nm (l.takeWhile isWord) W b
  have hkl := opOf_lt (l.takeWhile isWord)
  have hki := fun W => kind_any (opOf (l.takeWhile isWord) : Int) W
  have hin := fun W => isName_any (l.drop (lsi l)) (by simp; omega) W
  have HB : Hid (Lb w) := b
  have HT : Hid (cutOk l = (l.any (· == 32) && isBr (opOf (l.takeWhile isWord)) && isNm (l.drop (lsi l))) ∧ cutT l = (if cutOk l then l.take (lsi l) ++ [48] else l) ∧ cutN l = (if cutOk l then l.drop (lsi l) else [])) := ⟨rfl, rfl, rfl⟩
  have hef := ext_from l (lsi l) hq
  have het := ext_take l (lsi l)
  clear b e1
  rw [hq0] at hli
  have hq1 : (lsi l : Int) ≤ l.length := by omega
  have hl' : (l.length : Int) ≤ 1000 := by omega
  generalize lsi l = q at *
  generalize opOf (l.takeWhile isWord) = k at *
  have hbr : isBr k = (kindI k == [98, 114, 97, 110, 99, 104]) := rfl
  have hbn : (kindI (k : Int) == [98, 114, 97, 110, 99, 104]) = isBr k := rfl
  clear hbr
  generalize isBr k = br at *
  generalize kindI (k : Int) = kk at *
  go_enter Tryz.func103, Tryz.ntmps103
  go_wp2_with fail
  refine hcu.mono ?_
  rintro e w1 ⟨r, rfl, n1, rfl⟩
  clear hcu
  go_wp2_with fail
  refine (hli _).mono ?_
  rintro e w2 ⟨rfl, rfl⟩
  clear hli
  have hqq : (q : Int) - 1 + 1 = q := by omega
  cases hmo : l.any (· == 32) with
  | false =>
    have HF : Hid (cutT l = l ∧ cutN l = []) := by
      have h := HT.out; rw [hmo] at h; simp at h; rw [h.1] at h; show cutT l = l ∧ cutN l = []; simpa using h.2
    go_wp2
    go_ret2
    exact ⟨by rw [HF.out.1, HF.out.2]; rfl, below_drewN (Below.refl _ _) _⟩
  | true =>
    go_wp2_with fail
    refine (hop _ (HB.out.drewN n1)).mono ?_
    rintro e w3 ⟨rfl, n3, rfl⟩
    go_wp2_with fail
    refine (hki _).mono ?_
    rintro e w4 ⟨rfl, rfl⟩
    cases br with
    | false =>
      have HF : Hid (cutT l = l ∧ cutN l = []) := by
        have h := HT.out; rw [hmo] at h; simp at h; rw [h.1] at h; show cutT l = l ∧ cutN l = []; simpa using h.2
      go_wp2
      go_ret2
      exact ⟨by rw [HF.out.1, HF.out.2]; rfl, below_drewN (Below.refl _ _) _⟩
    | true =>
      go_wp2_with fail
      refine (hin _).mono ?_
      rintro e w5 ⟨rfl, hb5⟩
      have B5 : Below w.heap.size w w5 := (below_drewN (Below.refl _ _) _).trans (hb5.mono (Nat.le_refl _))
      clear hin hb5
      cases hnm : isNm (l.drop q) with
      | false =>
        have HF : Hid (cutT l = l ∧ cutN l = []) := by
          have h := HT.out; rw [hmo, hnm] at h; simp at h; rw [h.1] at h; show cutT l = l ∧ cutN l = []; simpa using h.2
        go_wp2
        go_ret2
        exact ⟨by rw [HF.out.1, HF.out.2]; rfl, B5⟩
      | true =>
        have HF : Hid (cutT l = l.take q ++ [48] ∧ cutN l = l.drop q) := by
          have h := HT.out; rw [hmo, hnm] at h; simp at h; rw [h.1] at h; show cutT l = _ ∧ cutN l = _; simpa using h.2
        have hlt : ((l.take q).length : Int) ≤ 1000 := by simp; omega
        go_wp2_with fail
        go_region
        all_goals
          go_wp2
          go_ret2
          exact ⟨by rw [HF.out.1, HF.out.2]; first | rfl | simp, B5.drew⟩
end Go.Proofs.YtccnliihdhnckaaGreatDoor
/-
  What asm.Assemble has read so far: parts in a row of its own; how a part is added.
-/
namespace Go.Proofs.YtccnliihdhnckaaGreatDoor
open Go.RowKit Go.Shelf Go.Joins
open Num Tab Fm Txt
set_option linter.unusedVariables false
/-- a row that was appended to lies where it lay, or anew -/
def Moved (w : World) (v v' : Value) : Prop := ∀ k, v'.ownBlock = some k → v.ownBlock = some k ∨ w.heap.size ≤ k
theorem Moved.refl (w : World) (v : Value) : Moved w v v := fun _ h => Or.inl h
theorem run_append_moved {P : Program} (w : World) (base : Nat) (t ty e : TypeId) (i : TypeInfo) (z : Value) (size bytes : Nat) (ht : P.underlying t = some (.slice e)) (hi : P.info? e = some i) (hz : i.zero = some z)
    (hsize : i.size = size) (hby : i.bytes = bytes) (hzs : z.cells.size = size) (hsz : 0 < size)
    (v : Value) (n : Nat) (xs : List Value) (hown : w.ownsRow base e size v n xs)
    (a : Addr) (m c : Nat) (news : List Value) (hl : news.length = m * size) (hnews : ∀ j u, news[j]? = some u → w.cell? (a.add j) = some u) (h1 : ∀ u ∈ news, u.oneCell' = true)
    (h63 : n + m ≤ maxLen) (hbytes : (n + m) * bytes ≤ 140737488355328) (hbase : base ≤ w.heap.size) :
    ∃ v' w', (Builtin.append_ #[t, t] ty #[v, .slice (some a) m c]).run P w = .ok v' w' ∧ w'.ownsRow base e size v' (n + m) (xs ++ news) ∧ w.grownBy w' v.ownBlock ∧ Moved w v v' := by
  obtain ⟨v', w', hr, h2, h3, h4⟩ := run_append_own (P := P) w base t ty e i z size bytes ht hi hz hsize hby hzs hsz v n xs hown a m c news hl hnews h1 h63 hbytes hbase
  refine ⟨v', w', hr, h2, h3, ?_⟩
  subst hsize
  subst hby
  have hsmall : n + m ≤ 9223372036854775807 := by simp only [maxLen] at h63; omega
  rcases hown.2 with ⟨rfl, rfl⟩ | ⟨g, cap, cur, rfl, hbg, hg, hnc, hcm, hcs, htake⟩
  · by_cases hm : m = 0
    · obtain rfl : v' = .slice none 0 0 := h4.2 ⟨rfl, hm⟩
      exact Moved.refl _ _
    · have hr2 := run_append_nil (P := P) w t ty e i z ht hi hz a m c news hl hnews (by omega) (by omega) (by have hb := hbytes; simp only [Nat.zero_add] at hb; omega)
      rw [hr] at hr2
      injection hr2 with e1 e2
      subst e1
      intro k hk
      simp [Value.ownBlock] at hk
      exact Or.inr (by omega)
  · by_cases hroom : n + m ≤ cap
    · have hfit : n * i.size + news.length ≤ cur.size := by rw [hl, hcs, ← Nat.add_mul]; exact Nat.mul_le_mul_right _ hroom
      have hr2 := run_append_room (P := P) w t ty e i ht hi g n cap cur hg a m c news hl hnews h1 hroom hfit
      rw [hr] at hr2
      injection hr2 with e1 e2
      subst e1
      intro k hk
      exact Or.inl hk
    · have holds : ∀ j u, xs[j]? = some u → w.cell? ((⟨g, 0, none⟩ : Addr).add j) = some u := hown.cells (g := g) rfl
      have hr2 := run_append_grow (P := P) w t ty e i z ht hi hz ⟨g, 0, none⟩ n cap xs hown.1 holds a m c news hl hnews (by omega) (by omega) (growslice_fits (by omega) hbytes)
      rw [hr] at hr2
      injection hr2 with e1 e2
      subst e1
      intro k hk
      simp [Value.ownBlock] at hk
      exact Or.inr (by omega)
theorem wpList_append_moved {P : Program} {w : World} {ops : Array Oper} {rest : List Oper} {o : Oper} {a : Act} {Q : Exit → Act → World → Prop} (hgd : o.guard = none) (s x : Operand) (t : TypeId)
    (ho : o.op = .call { callee := .builtin .append, args := #[s, x], argTypes := #[t, t] })
    (base : Nat) (e : TypeId) (i : TypeInfo) (z : Value) (size bytes : Nat) (ht : P.underlying t = some (.slice e)) (hi : P.info? e = some i) (hz : i.zero = some z)
    (hsize : i.size = size) (hby : i.bytes = bytes) (hzs : z.cells.size = size) (hsz : 0 < size)
    (v : Value) (n : Nat) (xs : List Value) (hs : a.eval s = v) (hown : w.ownsRow base e size v n xs)
    (ad : Addr) (m c : Nat) (news : List Value) (hx : a.eval x = .slice (some ad) m c) (hl : news.length = m * size) (hnews : ∀ j u, news[j]? = some u → w.cell? (ad.add j) = some u) (h1 : ∀ u ∈ news, u.oneCell' = true)
    (h63 : n + m ≤ maxLen) (hbytes : (n + m) * bytes ≤ 140737488355328) (hbase : base ≤ w.heap.size)
    (h : ∀ v' w', w'.ownsRow base e size v' (n + m) (xs ++ news) → w.grownBy w' v.ownBlock → Moved w v v' → wpList P ops Q rest (a.put o.dst v') w') : wpList P ops Q (o :: rest) a w := by
  refine wpList_plain hgd fun K hK => ?_
  obtain ⟨v', w', hr, h2, h3, h4⟩ := run_append_moved (P := P) w base t o.type e i z size bytes ht hi hz hsize hby hzs hsz v n xs hown ad m c news hl hnews h1 h63 hbytes hbase
  unfold Oper.wp execOp
  simp only [ho, resolve, invoke, builtin, Sem.run_bind, Sem.run_pure, Result.andThen_ok, List.map_toArray, List.map_cons, List.map_nil, hs, hx, hr]
  exact hK _ _ (h v' w' h2 h3 h4)
theorem owns_blocks {w w' : World} {base : Nat} {e : TypeId} {size n : Nat} {v : Value} {xs : List Value} (h : w.ownsRow base e size v n xs) (hb : ∀ k, v.ownBlock = some k → w'.heap[k]? = w.heap[k]?) : w'.ownsRow base e size v n xs := by
  refine ⟨h.1, ?_⟩
  rcases h.2 with hn | ⟨g, cap, cur, rfl, hbg, hgg, rest⟩
  · exact .inl hn
  · exact .inr ⟨g, cap, cur, rfl, hbg, (hb g rfl).trans hgg, rest⟩
theorem owns_pos {w : World} {base : Nat} {e : TypeId} {size n : Nat} {v : Value} {xs : List Value} (h : w.ownsRow base e size v (n + 1) xs) : ∃ g cap, v = .slice (some ⟨g, 0, none⟩) (n + 1) cap := by
  rcases h.2 with ⟨_, h⟩ | ⟨g, cap, cur, rfl, _⟩
  · omega
  · exact ⟨g, cap, rfl⟩
/-- a part -/
structure Pt where
  line : Int
  word : Int
  k : Nat
  f : F
  name : List UInt8
def ptC (x : Pt) : List Value := [.int .i64 x.line, .int .u32 x.word, .int .i64 x.k, .int .i64 x.f.s, .int .i64 x.f.t, .int .i64 x.f.d, .int .u32 x.f.m, .string ⟨x.name.toArray⟩]
theorem ptC_add (l : List Pt) (x : Pt) : l.flatMap ptC ++ ptC x = (l ++ [x]).flatMap ptC := by simp [List.flatMap_append]
theorem pt_one (x : Pt) : ∀ u ∈ ptC x, u.oneCell' = true := by
  intro u hu
  simp [ptC] at hu
  rcases hu with rfl | rfl | rfl | rfl | rfl | rfl | rfl | rfl <;> rfl
theorem info93 : (Tryz.prog.info? 93).map (fun i => (i.zero, i.size, i.bytes)) = some (some (.agg #[.int .i64 0, .int .u32 0, .int .i64 0, .int .i64 0, .int .i64 0, .int .i64 0, .int .u32 0, .string ⟨#[]⟩]), 8, 72) := by kernel_rfl
theorem add_lit (g k : Nat) : (⟨g, 0, none⟩ : Addr).add k = ⟨g, k, none⟩ := by unfold Addr.add; split <;> simp_all
/-- block sb is a source: its base, its parts; its labels lie in block lb -/
structure SrcIs (w : World) (base sb lb : Nat) (org : Int) (ps : List Pt) (vp : Value) : Prop where
  c0 : w.cell? ⟨sb, 0, none⟩ = some (.int .u32 org)
  c1 : w.cell? ⟨sb, 1, none⟩ = some (.map (some lb))
  c2 : w.cell? ⟨sb, 2, none⟩ = some vp
  fz : ∀ j, w.frozen? ⟨sb, j, none⟩ = false
  rp : w.ownsRow base 93 8 vp ps.length (ps.flatMap ptC)
  ls : sb < base
  ll : lb < base
  nl : sb ≠ lb
  bs : base ≤ w.heap.size
section
variable {w : World} {base sb lb : Nat} {org : Int} {ps : List Pt} {vp : Value}
theorem SrcIs.blocks {w' : World} (S : SrcIs w base sb lb org ps vp) (hz : w.heap.size ≤ w'.heap.size) (h : ∀ k, k = sb ∨ vp.ownBlock = some k → w'.heap[k]? = w.heap[k]?) : SrcIs w' base sb lb org ps vp := by
  have hs := h sb (Or.inl rfl)
  have c : ∀ (j : Nat) (v : Value), w.cell? ⟨sb, j, none⟩ = some v → w'.cell? ⟨sb, j, none⟩ = some v := fun j v e => (World.cell?_of_block (a := ⟨sb, j, none⟩) hs).trans e
  exact ⟨c _ _ S.c0, c _ _ S.c1, c _ _ S.c2, fun j => (World.frozen?_of_block (a := ⟨sb, j, none⟩) hs).trans (S.fz j), owns_blocks S.rp (fun k e => h k (Or.inr e)), S.ls, S.ll, S.nl, Nat.le_trans S.bs hz⟩
theorem SrcIs.stays {w' : World} (S : SrcIs w base sb lb org ps vp) (h : Below w.heap.size w w') : SrcIs w' base sb lb org ps vp :=
  S.blocks h.size fun k hk => h.block k (by
    rcases hk with rfl | hk
    · have := S.ls; have := S.bs; omega
    · exact (S.rp.lt k hk).2)
/-- w' is w but for these blocks, and new ones -/
structure STurned (w w' : World) (sb : Nat) (vp : Value) : Prop where
  os : w'.os = w.os
  tape : w'.tape = w.tape
  output : w'.output = w.output
  size : w.heap.size ≤ w'.heap.size
  block : ∀ k, k < w.heap.size → k ≠ sb → vp.ownBlock ≠ some k → w'.heap[k]? = w.heap[k]?
theorem SrcIs.putPart (S : SrcIs w base sb lb org ps vp) {o : Obj} {w1 : World} {v' : Value} {x : Pt} (ho : w1.ownsRow base 93 8 v' (ps.length + 1) (ps.flatMap ptC ++ ptC x)) (hg : (w.alloc o).grownBy w1 vp.ownBlock) (hm : Moved (w.alloc o) vp v') :
    (w1.cell? ⟨sb, 2, none⟩ = some vp ∧ w1.frozen? ⟨sb, 2, none⟩ = false) ∧ SrcIs (w1.setCell ⟨sb, 2, none⟩ v') base sb lb org (ps ++ [x]) v' ∧ STurned w (w1.setCell ⟨sb, 2, none⟩ v') sb vp ∧ Moved w vp v' := by
  have hz : w.heap.size < w1.heap.size := by have := hg.size; simp at this; omega
  have hmw : Moved w vp v' := fun k hk => (hm k hk).imp id (fun h => by simp at h; omega)
  have hk : ∀ k, k < w.heap.size → vp.ownBlock ≠ some k → w1.heap[k]? = w.heap[k]? := fun k hk h => (hg.block k (by simp; omega) (fun e => h e.symm)).trans (Below.heap_alloc w o k hk)
  have hlow : ∀ k, k < base → w1.heap[k]? = w.heap[k]? := fun k hb => hk k (by have := S.bs; omega) (fun e => by have := (S.rp.lt k e).1; omega)
  have hs := hlow sb S.ls
  have c : ∀ (j : Nat) (v : Value), w.cell? ⟨sb, j, none⟩ = some v → w1.cell? ⟨sb, j, none⟩ = some v := fun j v e => (World.cell?_of_block (a := ⟨sb, j, none⟩) hs).trans e
  have f : ∀ j, w1.frozen? ⟨sb, j, none⟩ = false := fun j => (World.frozen?_of_block (a := ⟨sb, j, none⟩) hs).trans (S.fz j)
  have oth : ∀ (j : Nat) (v : Value), j ≠ 2 → w.cell? ⟨sb, j, none⟩ = some v → (w1.setCell ⟨sb, 2, none⟩ v').cell? ⟨sb, j, none⟩ = some v := fun j v hj e => by
    rw [World.cell?_setCell_other _ _ _ _ (by intro e; injection e with e1 e2; exact hj e2.symm)]; exact c j v e
  have blk : ∀ k, k ≠ sb → (w1.setCell ⟨sb, 2, none⟩ v').heap[k]? = w1.heap[k]? := fun k h => Below.heap_setCell w1 ⟨sb, 2, none⟩ v' k h
  refine ⟨⟨c _ _ S.c2, f 2⟩, ⟨oth 0 _ (by omega) S.c0, oth 1 _ (by omega) S.c1, World.cell?_setCell_same _ _ _ (c _ _ S.c2), fun j => by rw [World.frozen?_setCell]; exact f j, ?_, S.ls, S.ll, S.nl, ?_⟩, ?_, hmw⟩
  · rw [List.length_append, ← ptC_add]
    refine owns_blocks ho fun k e => blk k ?_
    have := (ho.lt k e).1; have := S.ls; omega
  · have := S.bs; simp; omega
  · exact ⟨hg.os, hg.tape, hg.output, by simp; omega, fun k hkk h0 h4 => (blk k h0).trans (hk k hkk h4)⟩
end
end Go.Proofs.YtccnliihdhnckaaGreatDoor
