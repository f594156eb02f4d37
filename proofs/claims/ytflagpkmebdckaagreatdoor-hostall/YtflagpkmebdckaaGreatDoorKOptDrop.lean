/-
  Package opt: ops without dead ones.
-/
import Derived.Laws.ResultCell
import Derived.Test.YtflagpkmebdckaaGreatDoorKKDecode
import Derived.Test.YtflagpkmebdckaaGreatDoorKBack
namespace Go.Proofs.YtflagpkmebdckaaGreatDoor
open Go.RowKit Go.Maps Go.Shelf
open Num
set_option linter.unusedVariables false
attribute [local go_sem] Oper.semAt_some
/-- ops that are kept, so far: the last first -/
structure DpAt (n₀ kb nb : Nat) (W : World) (s : List Opx) : Prop where
  v : ∃ vk, RowIs W kb 52 1 (fun _ => vk) ∧ W.ownsRow n₀ 139 6 vk (dropD s).length (opL (dropD s).reverse)
  nd : NeedAt W nb (needN (dropD s))
theorem own_kept {A B : World} {row : Option Nat} {base : Nat} {e : TypeId} {size n : Nat} {v : Value} {xs : List Value} (h : A.ownsRow base e size v n xs) (hg : A.grownBy B row) (hr : ∀ r, row = some r → ∃ o : Obj, A.heap[r]? = some o ∧ o.isCells = false) : B.ownsRow base e size v n xs := by
  refine ⟨h.1, ?_⟩
  rcases h.2 with hn | ⟨g, cap, cur, hv, hb, hgg, rest⟩
  · exact .inl hn
  · refine .inr ⟨g, cap, cur, hv, hb, (hg.block g (Array.getElem?_eq_some_iff.1 hgg).1 ?_).trans hgg, rest⟩
    intro e
    obtain ⟨o, h1, h2⟩ := hr g e.symm
    rw [hgg] at h1
    cases h1
    cases h2
theorem own_below {A B : World} {base : Nat} {e : TypeId} {size n : Nat} {v : Value} {xs : List Value} (h : A.ownsRow base e size v n xs) (hb : Below A.heap.size A B) : B.ownsRow base e size v n xs := by
  refine ⟨h.1, ?_⟩
  rcases h.2 with hn | ⟨g, cap, cur, hv, hbb, hgg, rest⟩
  · exact .inl hn
  · exact .inr ⟨g, cap, cur, hv, hbb, (hb.block g (Array.getElem?_eq_some_iff.1 hgg).1).trans hgg, rest⟩
theorem own_lt {A : World} {base : Nat} {e : TypeId} {size n : Nat} {v : Value} {xs : List Value} (h : A.ownsRow base e size v n xs) {k : Nat} (hk : v.ownBlock = some k) : base ≤ k ∧ k < A.heap.size := by
  rcases h.2 with ⟨hv, _⟩ | ⟨g, cap, cur, hv, hb, hgg, rest⟩
  · rw [hv] at hk; cases hk
  · rw [hv] at hk; cases hk; exact ⟨hb, (Array.getElem?_eq_some_iff.1 hgg).1⟩
theorem dropD_cons_spare {o : Opx} {l : List Opx} (h : spareB (needN (dropD l)) o = true) : dropD (o :: l) = dropD l := by show (if _ then _ else _) = _; rw [if_pos h]
theorem dropD_cons_keep {o : Opx} {l : List Opx} (h : spareB (needN (dropD l)) o = false) : dropD (o :: l) = o :: dropD l := by show (if _ then _ else _) = _; rw [if_neg (by rw [h]; simp)]
set_option maxRecDepth 100000 in
set_option maxHeartbeats 4000000 in
theorem withoutDead_any {w : World} {b off cap : Nat} {l : List Opx} (HC : Hid (OpsC w b off l)) (hbl : b < w.heap.size) (hl : l.length ≤ 1000000) (hOW : Hid (∀ o ∈ l, o.okW)) (hE : endL l) :
    Calls Tryz.prog 74 #[.slice (some ⟨b, off, none⟩) l.length cap] w fun e w' => ∃ g cap', e = .returned (.slice (some ⟨g, 0, none⟩) (dropD l).length cap') ∧ (dropD l).length ≤ cap' ∧ OpsRw w' g (dropD l) ∧ w.heap.size ≤ g ∧ Below w.heap.size w w' := by
  have HE : Hid (0 < (dropD l).length) := by
    obtain ⟨o, h1, h2⟩ := hE
    have := dropD_last h1 h2
    show 0 < _
    cases hd : dropD l with
    | nil => rw [hd] at this; cases this
    | cons x y => simp
  obtain ⟨i0, hi, iz0, iz1, iz2⟩ := info_parts infoOp
  clear hE
  refine (callsIn_wide (n := 4)).1 ?_
  refine callsIn_of_wp_marks Tryz.func74 rfl trivial ?_ rfl
  simp only [Tryz.ntmps74, List.size_toArray, List.length_cons, List.length_nil, Nat.reduceAdd, Nat.reduceSub, Array.replicate_succ, Array.replicate_zero, List.push_toArray, List.append_toArray, List.nil_append, List.cons_append]
  refine wpIn_wide.2 ?_
  have hnd : ((w.alloc (.cells #[.slice none 0 0] 52)).alloc (.cells (ndA fun _ => false) 226)).heap[w.heap.size + 1]? = some (.cells (ndA fun _ => false) 226 (0, 0)) := by
    have := heap_alloc_new (w.alloc (.cells #[.slice none 0 0] 52)) (.cells (ndA fun _ => false) 226)
    simpa using this
  have hst : (storeCells ⟨w.heap.size + 1, 0, none⟩ (ndA fun _ => false).toList).run Tryz.prog ((w.alloc (.cells #[.slice none 0 0] 52)).alloc (.cells (ndA fun _ => false) 226)) = .ok () (((w.alloc (.cells #[.slice none 0 0] 52)).alloc (.cells (ndA fun _ => false) 226)).setRow (w.heap.size + 1) (ndA fun _ => false)) := by
    have := run_storeCells_from (P := Tryz.prog) (w.heap.size + 1) 226 (ndA fun _ => false).toList 0 (ndA fun _ => false) _ hnd (by simp) (fun v hv => (Array.all_eq_true_iff_forall_mem.1 (ndA_one fun _ => false)) v (by simpa using hv))
    simpa using this
  have HND : Hid (_) := hnd
  clear hnd
  go_upto_region 3 with (first | (refine wpList_buildNd rfl rfl ?_) | (refine wpList_allocNd rfl rfl ?_))
  have N1 : NeedAt (((w.alloc (.cells #[.slice none 0 0] 52)).alloc (.cells (ndA fun _ => false) 226)).setRow (w.heap.size + 1) (ndA fun _ => false)) (w.heap.size + 1) (fun _ => false) := nd_row (setRow_heap _ _ _ _ _ _ HND.out)
  have G1 : Below w.heap.size w (((w.alloc (.cells #[.slice none 0 0] 52)).alloc (.cells (ndA fun _ => false) 226)).setRow (w.heap.size + 1) (ndA fun _ => false)) := below_setRow' (((Below.refl _ _).alloc (Nat.le_refl _) _).alloc (by simp) _) (by omega) _
  have C1 : RowIs (((w.alloc (.cells #[.slice none 0 0] 52)).alloc (.cells (ndA fun _ => false) 226)).setRow (w.heap.size + 1) (ndA fun _ => false)) w.heap.size 52 1 (fun _ => .slice none 0 0) := by
    refine ⟨#[.slice none 0 0], ?_, rfl, fun j hj => (by cases j with | zero => rfl | succ k => omega)⟩
    rw [setRow_other _ _ _ _ (by omega), Below.heap_alloc _ _ _ (by simp)]
    exact heap_alloc_new w _
  have hz2 : (((w.alloc (.cells #[.slice none 0 0] 52)).alloc (.cells (ndA fun _ => false) 226)).setRow (w.heap.size + 1) (ndA fun _ => false)).heap.size = w.heap.size + 2 := by simp [World.setRow]
  generalize ((w.alloc (.cells #[.slice none 0 0] 52)).alloc (.cells (ndA fun _ => false) 226)).setRow (w.heap.size + 1) (ndA fun _ => false) = V at *
  clear HND hst
  go_wp2_with (go_at_call 135; refine (callsIn_wide.1 (back_in Fence.wide 3 trivial rfl _ _ _ _)).mono ?_; rintro e w' ⟨rfl, rfl⟩)
  rename_i K0 hK0
  have HK0 : Hid (∀ (a : Act) (w : World), _ → K0 a w) := hK0
  clear hK0
  obtain ⟨p, hp⟩ := oqs_of l hOW.out
  have HP : Hid (oqs p = l) := hp
  have hpl : p.length ≤ 1000000 := by rw [← hp] at hl; simpa [oqs] using hl
  clear hp
  have bN := Boxed.new V 52 (.slice (some ⟨b, off, none⟩) l.length cap)
  rw [hz2] at bN
  have N2 : NeedAt (V.alloc (.cells #[.slice (some ⟨b, off, none⟩) l.length cap] 52)) (w.heap.size + 1) (fun _ => false) := RowIs.stays N1 ((Below.refl _ _).alloc (Nat.le_refl _) _)
  have C2 : RowIs (V.alloc (.cells #[.slice (some ⟨b, off, none⟩) l.length cap] 52)) w.heap.size 52 1 (fun _ => .slice none 0 0) := RowIs.stays C1 ((Below.refl _ _).alloc (Nat.le_refl _) _)
  have B2 : Below w.heap.size w (V.alloc (.cells #[.slice (some ⟨b, off, none⟩) l.length cap] 52)) := G1.alloc (by omega) _
  have hz3 : (V.alloc (.cells #[.slice (some ⟨b, off, none⟩) l.length cap] 52)).heap.size = w.heap.size + 3 := by simp [hz2]
  have hO : OpsC (V.alloc (.cells #[.slice (some ⟨b, off, none⟩) l.length cap] 52)) b off l := HC.out.block (B2.block b hbl)
  have hcS := bN.cell
  clear N1 C1 G1 bN
  generalize V.alloc (.cells #[.slice (some ⟨b, off, none⟩) l.length cap] 52) = U at *
  refine (wpIn_wide (n := 4)).1 ?_
  refine wpIn_rangeFunc_ownH (n := 4) rfl (by decide) (gf := 202) (lb := #[.pointer (some ⟨w.heap.size + 2, 0, none⟩)]) rfl trivial (enters_of Tryz.func202 (by kernel_rfl) rfl)
    (back_stops Fence.wide 3 trivial rfl (by decide) (w.heap.size + 2) (w.heap.size + 3) w.heap.size (w.heap.size + 1) b off cap p hpl U (by omega) (by omega) (by omega) (by omega) ⟨by omega, by omega, by omega, by omega⟩ l HP.out hcS hO) KpO.trans (KpO.put (by omega)) (Below.refl _ _) (fun _ => rfl)
    (fun pre W => DpAt (w.heap.size + 3) w.heap.size (w.heap.size + 1) W (cameL pre) ∧ Below w.heap.size w W ∧ w.heap.size + 3 ≤ W.heap.size)
    (fun c pre W => False)
    (OwnFrom.and (Own.from (fun s A B row hs hg hr => ⟨by obtain ⟨vk, h1, h2⟩ := hs.v; exact ⟨vk, row_kept h1 hg hr, own_kept h2 hg hr⟩, row_kept hs.nd hg hr⟩) _) (OwnFrom.and (ownFrom_below (Nat.le_refl _) (by omega)) (fun s A B row hs hg hr => Nat.le_trans hs hg.size)))
    (fun c => fun s A B row hs hg hr => hs)
    ⟨⟨⟨_, C2, World.ownsRow_nil _ _ _ _⟩, N2⟩, B2, by omega⟩
    (fun y a' W => ∃ Bx : Nat, w.heap.size + 3 ≤ Bx ∧ BoxO W Bx y.2.1 ∧ (∃ vk : Value, W.cell? ⟨w.heap.size, 0, none⟩ = some vk ∧ vk.ownBlock ≠ some Bx) ∧ a' = { tmps := #[.slice (some ⟨b, off, none⟩) l.length cap, undef, .slice none 0 0, .pointer (some ⟨w.heap.size, 0, none⟩), .pointer (some ⟨w.heap.size + 1, 0, none⟩), undef, .pointer (some ⟨Bx, 0, none⟩), .agg (ndA fun _ => false), .slice (some ⟨b, off, none⟩) l.length cap, .func (.func 202) #[] #[.pointer (some ⟨w.heap.size + 2, 0, none⟩)], .int .i64 (y.1 : Int), opV y.2.1, undef, undef, undef, undef, undef, undef, undef, undef, undef, undef, undef, undef], defers := [] })
    (fun y a' s A B row hs hg hr => by
      obtain ⟨Bx, h1, h2, ⟨vk, h3, h4⟩, h5⟩ := hs
      have hr' : ∀ r, row = some r → ∃ o : Obj, A.heap[r]? = some o ∧ o.isCells = false := fun r e => (hr r e).2
      exact ⟨Bx, h1, ⟨cell_kept h2.c0 hg hr', cell_kept h2.c1 hg hr', cell_kept h2.c2 hg hr', cell_kept h2.c3 hg hr', cell_kept h2.c4 hg hr', cell_kept h2.c5 hg hr'⟩, ⟨vk, cell_kept h3 hg hr', h4⟩, h5⟩) ?assign ?body ?done ?stop
  case assign =>
    rintro lp pre y W K hi' hK
    obtain ⟨⟨⟨vk, i1, i2⟩, i3⟩, i5, i6⟩ := hi'
    have hb := (Below.refl W.heap.size W).alloc (Nat.le_refl _) (.cells #[.string y.2.1.s, .int .i64 y.2.1.d, .int .i64 y.2.1.a, .int .i64 y.2.1.b, .int .u32 y.2.1.i, .int .i64 y.2.1.t] 139)
    have j1 := i1.stays hb
    have HJ : Hid (_ ∧ _ ∧ _) := ⟨own_below i2 hb, RowIs.stays i3 hb, j1⟩
    have hne : vk.ownBlock ≠ some W.heap.size := fun e => by have := (own_lt i2 e).2; omega
    unfold enO opV
    clear i1 i2 i3 j1
    gi_wp2
    exact hK _ _ ((KeepsOthers.alloc _ _).from _) (KpO.of_below hb i6) ⟨⟨⟨vk, HJ.out.2.2, HJ.out.1⟩, HJ.out.2.1⟩, i5.alloc (Nat.le_trans (Nat.le_refl _) i5.size) _, by simp; omega⟩ ⟨W.heap.size, i6, BoxO.new W y.2.1, ⟨vk, HJ.out.2.2.cell (j := 0) (by omega), hne⟩, rfl⟩
  case body =>
    rintro lo pre y a' W hl' ⟨r, hr⟩ ⟨⟨⟨vk, i1, i2⟩, i3⟩, i5, i6⟩ ⟨Bx, hBx, bx, ⟨vk', hvk, hne⟩, rfl⟩ hlt
    obtain rfl : vk = vk' := by have := i1.cell (j := 0) (by omega); rw [this] at hvk; exact Option.some.inj hvk
    have hbs : Bx < W.heap.size := bx.lt
    have BX : Hid (BoxO W Bx y.2.1) := bx
    obtain ⟨k0, k1, k2, k3, k4, k5⟩ := bx
    have hsp := spare_any i3 y.2.1 y.2.2.w0 y.2.2.w1
    have hdc : cameL (pre ++ [y]) = y.2.1 :: cameL pre := came_snoc pre y
    have HD1 : Hid (spareB (needN (dropD (cameL pre))) y.2.1 = true → dropD (cameL (pre ++ [y])) = dropD (cameL pre)) := fun h => by rw [hdc]; exact dropD_cons_spare h
    have HD2 : Hid (spareB (needN (dropD (cameL pre))) y.2.1 = false → dropD (cameL (pre ++ [y])) = y.2.1 :: dropD (cameL pre)) := fun h => by rw [hdc]; exact dropD_cons_keep h
    have hdl : (dropD (cameL pre)).length ≤ 1000000 := by
      have h1 := dropD_len (cameL pre)
      have h2 : (cameL pre).length = pre.length := by simp [cameL]
      omega
    have OKY : Hid y.2.1.okW := y.2.2
    generalize spareB (needN (dropD (cameL pre))) y.2.1 = sb at *
    have I1 : Hid (RowIs W w.heap.size 52 1 (fun _ => vk)) := i1
    have I2 : Hid (W.ownsRow (w.heap.size + 3) 139 6 vk (dropD (cameL pre)).length (opL (dropD (cameL pre)).reverse)) := i2
    have I3 : Hid (NeedAt W (w.heap.size + 1) (needN (dropD (cameL pre)))) := i3
    have I5 : Hid (Below w.heap.size w W) := i5
    have HNE : Hid (vk.ownBlock ≠ some Bx) := hne
    clear i1 i2 i3 i5 hdc hvk hne
    unfold opV at hsp ⊢
    gi_wp2_with fail
    refine ⟨trivial, ?_⟩
    refine (CallsIn.inRound lo (callsIn_wide.2 hsp)).mono ?_
    rintro e W1 ⟨rfl, hb1⟩
    have BX1 : Hid (BoxO W1 Bx y.2.1) := BX.out.block (hb1.block Bx hbs)
    have hbs1 : Bx < W1.heap.size := by have := hb1.size; omega
    have J1 : Hid (RowIs W1 w.heap.size 52 1 (fun _ => vk)) := I1.out.stays hb1
    have J2 : Hid (W1.ownsRow (w.heap.size + 3) 139 6 vk (dropD (cameL pre)).length (opL (dropD (cameL pre)).reverse)) := own_below I2.out hb1
    have J3 : Hid (NeedAt W1 (w.heap.size + 1) (needN (dropD (cameL pre)))) := RowIs.stays I3.out hb1
    have J5 : Hid (Below w.heap.size w W1) := I5.out.trans (hb1.mono I5.out.size)
    have J6 : w.heap.size + 3 ≤ W1.heap.size := by have := hb1.size; omega
    have JK : Hid (KpO (w.heap.size + 3) w.heap.size (w.heap.size + 1) W W1) := KpO.of_below hb1 i6
    have JF : Hid (KeepsFrom U.heap.size W W1) := KeepsFrom.of_grownBy (row := none) ⟨hb1.os, hb1.tape, hb1.output, hb1.size, fun k hk _ => hb1.block k hk⟩ (by simp)
    clear hsp hb1 I1 I2 I3 I5 k0 k1 k2 k3 k4 k5
    cases sb with
    | true =>
      have HD : Hid (dropD (cameL (pre ++ [y])) = dropD (cameL pre)) := HD1.out rfl
      clear HD1 HD2
      gi_wp2
      refine ⟨JF.out, JK.out, ⟨⟨vk, J1.out, ?_⟩, ?_⟩, J5.out, J6⟩
      · rw [HD.out]; exact J2.out
      · rw [HD.out]; exact J3.out
    | false =>
      obtain ⟨k0, k1, k2, k3, k4, k5⟩ := BX1.out
      have c1 := J1.out.cell (j := 0) (by omega)
      have f1 := J1.out.fz 0
      have hzk : w.heap.size < W1.heap.size := by omega
      have hnews : ∀ (j : Nat) (u : Value), (opC y.2.1)[j]? = some u → (W1.alloc (.cells #[.string y.2.1.s, .int .i64 y.2.1.d, .int .i64 y.2.1.a, .int .i64 y.2.1.b, .int .u32 y.2.1.i, .int .i64 y.2.1.t] 139)).cell? ((⟨W1.heap.size, 0, none⟩ : Addr).add j) = some u := by
        intro j u hj
        rw [add_lit, cell_of_row _ _ _ _ _ _ (heap_alloc_new W1 _)]
        simpa [opC] using hj
      have HD : Hid (dropD (cameL (pre ++ [y])) = y.2.1 :: dropD (cameL pre)) := HD2.out rfl
      clear HD1 HD2
      have HKB : Hid (∀ w3 : World, (W1.alloc (.cells #[.string y.2.1.s, .int .i64 y.2.1.d, .int .i64 y.2.1.a, .int .i64 y.2.1.b, .int .u32 y.2.1.i, .int .i64 y.2.1.t] 139)).grownBy w3 vk.ownBlock → w3.heap[w.heap.size]? = W1.heap[w.heap.size]? ∧ w3.heap[Bx]? = W1.heap[Bx]? ∧ w3.heap[w.heap.size + 1]? = W1.heap[w.heap.size + 1]?) := by
        intro w3 hg
        have hne2 : ∀ k, vk.ownBlock = some k → w.heap.size + 3 ≤ k := fun k e => (own_lt J2.out e).1
        refine ⟨(hg.block _ (by simp; omega) (fun e => by have := hne2 _ e.symm; omega)).trans (Below.heap_alloc _ _ _ (by omega)), (hg.block _ (by simp; omega) (fun e => HNE.out e.symm)).trans (Below.heap_alloc _ _ _ (by omega)), (hg.block _ (by simp; omega) (fun e => by have := hne2 _ e.symm; omega)).trans (Below.heap_alloc _ _ _ (by omega))⟩
      gi_wp2_with (gi_at_builtin; refine wpListIn_append_own _ rfl _ _ 52 rfl (w.heap.size + 3) 139 i0 _ 6 56 Tryz.underlying52 hi iz0 iz1 iz2 rfl (by decide) vk (dropD (cameL pre)).length (opL (dropD (cameL pre)).reverse) rfl (J2.out.alloc _) ⟨W1.heap.size, 0, none⟩ 1 1 (opC y.2.1) rfl rfl hnews (by simp [opC, Value.oneCell']) (by unfold maxLen; omega) (by omega) (by simp; omega) ?_; intro v' w3 ho hg hm; obtain ⟨g', cap', rfl⟩ := own_pos ho; obtain ⟨q1, q2, q3⟩ := HKB.out w3 hg; have c3 := (World.cell?_of_block (a := ⟨w.heap.size, 0, none⟩) q1).trans c1; have f3 := (World.frozen?_of_block (a := ⟨w.heap.size, 0, none⟩) q1).trans f1; obtain ⟨m0, m1, m2, m3, m4, m5⟩ := BX1.out.block q2; have hz3 : W1.heap.size ≤ w3.heap.size := (by have := hg.size; simp at this; omega))
      have HO : Hid (w3.ownsRow (w.heap.size + 3) 139 6 (.slice (some ⟨g', 0, none⟩) ((dropD (cameL pre)).length + 1) cap') ((dropD (cameL pre)).length + 1) (opL (dropD (cameL pre)).reverse ++ opC y.2.1)) := ho
      have hne2 : Hid (∀ k, vk.ownBlock = some k → w.heap.size + 3 ≤ k) := fun k e => (own_lt J2.out e).1
      have R4 : Hid (RowIs (w3.setCell ⟨w.heap.size, 0, none⟩ (.slice (some ⟨g', 0, none⟩) ((dropD (cameL pre)).length + 1) cap')) w.heap.size 52 1 (fun _ => .slice (some ⟨g', 0, none⟩) ((dropD (cameL pre)).length + 1) cap')) := (RowIs.block J1.out q1).put 0 _ _ rfl (fun j hj hn => by omega)
      have N4 : Hid (NeedAt (w3.setCell ⟨w.heap.size, 0, none⟩ (.slice (some ⟨g', 0, none⟩) ((dropD (cameL pre)).length + 1) cap')) (w.heap.size + 1) (needN (dropD (cameL pre)))) := RowIs.block J3.out ((Below.heap_setCell w3 ⟨w.heap.size, 0, none⟩ _ (w.heap.size + 1) (by show w.heap.size + 1 ≠ w.heap.size; omega)).trans q3)
      have O4 : Hid ((w3.setCell ⟨w.heap.size, 0, none⟩ (.slice (some ⟨g', 0, none⟩) ((dropD (cameL pre)).length + 1) cap')).ownsRow (w.heap.size + 3) 139 6 (.slice (some ⟨g', 0, none⟩) ((dropD (cameL pre)).length + 1) cap') ((dropD (cameL pre)).length + 1) (opL (dropD (cameL pre)).reverse ++ opC y.2.1)) := owns_blocks HO.out (fun k hk => Below.heap_setCell w3 ⟨w.heap.size, 0, none⟩ _ k (by have := (own_lt HO.out hk).1; show k ≠ w.heap.size; omega))
      have K4 : Hid (KpO (w.heap.size + 3) w.heap.size (w.heap.size + 1) W (w3.setCell ⟨w.heap.size, 0, none⟩ (.slice (some ⟨g', 0, none⟩) ((dropD (cameL pre)).length + 1) cap'))) := by
        refine JK.out.trans (KpO.trans (KpO.trans (KpO.of_below ((Below.refl _ W1).alloc (Nat.le_refl _) _) J6) ⟨hg.os, hg.tape, hg.output, hg.size, fun k hk _ _ => hg.block k (by simp; omega) (fun e => by have := hne2.out k e.symm; omega)⟩) (KpO.of_grown (b := w.heap.size) (grown_set (w := w3) ⟨w.heap.size, 0, none⟩ _) (by omega) (.inl rfl)))
      have F4 : Hid (KeepsFrom U.heap.size W (w3.setCell ⟨w.heap.size, 0, none⟩ (.slice (some ⟨g', 0, none⟩) ((dropD (cameL pre)).length + 1) cap'))) := by
        refine JF.out.trans (((KeepsOthers.alloc W1 _).trans ((KeepsOthers.of_grownBy hg (fun j o e ho' => ?_)).trans (KeepsOthers.setCell w3 ⟨w.heap.size, 0, none⟩ _))).from _)
        rcases (J2.out.alloc (.cells #[.string y.2.1.s, .int .i64 y.2.1.d, .int .i64 y.2.1.a, .int .i64 y.2.1.b, .int .u32 y.2.1.i, .int .i64 y.2.1.t] 139)).2 with ⟨hv, _⟩ | ⟨g, cp, cur, hv, _, hgg, _⟩
        · rw [hv] at e; cases e
        · rw [hv] at e; cases e; rw [hgg] at ho'; cases ho'; rfl
      have B4 : Hid (Below w.heap.size w (w3.setCell ⟨w.heap.size, 0, none⟩ (.slice (some ⟨g', 0, none⟩) ((dropD (cameL pre)).length + 1) cap'))) := ((J5.out.alloc (by omega) _).grown hg (by simp; omega) (fun k e => by have := hne2.out k e; omega)).setCell (p := ⟨w.heap.size, 0, none⟩) (Nat.le_refl _) _
      have Z4 : w.heap.size + 3 ≤ (w3.setCell ⟨w.heap.size, 0, none⟩ (.slice (some ⟨g', 0, none⟩) ((dropD (cameL pre)).length + 1) cap')).heap.size := by simp [World.setCell]; omega
      clear J1 J2 J3 J5 JK JF ho hg hm q1 q2 q3 c3 f3 m0 m1 m2 m3 m4 m5 HKB HNE hne2 BX1 BX c1 f1 hnews k0 k1 k2 k3 k4 k5 HO
      generalize w3.setCell ⟨w.heap.size, 0, none⟩ (.slice (some ⟨g', 0, none⟩) ((dropD (cameL pre)).length + 1) cap') = W4 at *
      refine ⟨trivial, ?_⟩
      refine (CallsIn.inRound lo (callsIn_wide.2 (pass_any N4.out y.2.1 OKY.out.w0 OKY.out.w1 OKY.out.r))).mono ?_
      rintro e W5 ⟨rfl, hN5, hg5⟩
      have R5 := RowIs.block R4.out (hg5.block w.heap.size (RowIs.lt R4.out) (by intro e; have := Option.some.inj e; omega))
      have O5 := owns_blocks O4.out (fun k hk => hg5.block k (own_lt O4.out hk).2 (by intro e; have := Option.some.inj e; have := (own_lt O4.out hk).1; omega))
      have F5 := F4.out.trans (KeepsFrom.of_grownBy (B := U.heap.size) hg5 (fun j e => by have := Option.some.inj e; omega))
      have K5 := K4.out.trans (KpO.of_grown hg5 Z4 (.inr (.inl rfl)))
      have B5 := below_of_grown B4.out hg5 (Nat.le_refl _) (by omega)
      have Z5 := Nat.le_trans Z4 hg5.size
      have H5 : Hid (_ ∧ _ ∧ _) := ⟨R5, O5, hN5⟩
      clear R5 O5 hN5 hg5
      gi_wp2
      refine ⟨F5, K5, ⟨⟨_, H5.out.1, ?_⟩, ?_⟩, B5, Z5⟩
      · rw [HD.out, List.reverse_cons, opL_snoc]; exact H5.out.2.1
      · rw [HD.out]; exact H5.out.2.2
  case done =>
    rintro D ys W hD rfl ⟨⟨⟨vk, h1, h2⟩, h3⟩, hB, hS⟩ hK
    rw [came_all, HP.out] at h2
    obtain ⟨n, hn⟩ : ∃ n, (dropD l).length = n + 1 := ⟨(dropD l).length - 1, by have := HE.out; omega⟩
    have h2' := h2
    rw [hn] at h2'
    obtain ⟨g, cap', hv, hge⟩ := own_posg h2'
    rw [← hn] at hv
    subst hv
    have hcp : (dropD l).length ≤ cap' := by
      rcases h2.2 with ⟨hv, _⟩ | ⟨_, _, _, hv, _, _, r1, _⟩
      · cases hv
      · cases hv; exact r1
    have hll : (dropD l).length ≤ 1000000 := Nat.le_trans (dropD_len l) hl
    have hR : OpsRw W g (dropD l).reverse := rw_of_row (n := (dropD l).length) (cap := cap') (base := w.heap.size + 3) (by rw [List.length_reverse]; exact h2)
    have hrv := reverse_any (cap := cap') hR (by rw [List.length_reverse]; omega) (by rw [List.length_reverse]; exact hcp)
    rw [List.length_reverse, List.reverse_reverse] at hrv
    have hDg : D ≠ g := by
      intro e
      subst e
      rcases h2.2 with ⟨hv, _⟩ | ⟨_, _, _, hv, _, hgg, _⟩
      · cases hv
      · cases hv; rw [hK] at hgg; cases hgg
    have c1 := h1.cell (j := 0) (by omega)
    have H1 : Hid (RowIs W w.heap.size 52 1 (fun _ => .slice (some ⟨g, 0, none⟩) (dropD l).length cap')) := h1
    have HBb : Hid (Below w.heap.size w W) := hB
    have HKD : Hid (W.heap[D]? = some (.deferred (some []))) := hK
    clear h1 h2 h2' h3 hB hK hR hn
    refine HK0.out _ _ ?_
    refine (wpIn_wide (n := 4)).1 ?_
    gi_wp2_with fail
    refine ⟨trivial, ?_⟩
    refine (callsIn_wide.2 hrv).mono ?_
    rintro e W5 ⟨rfl, hR5, hg5⟩
    have H5 := RowIs.block H1.out (hg5.block w.heap.size (RowIs.lt H1.out) (by intro e; have := Option.some.inj e; omega))
    have c5 := H5.cell (j := 0) (by omega)
    have hK5 : W5.heap[D]? = some (.deferred (some [])) := (hg5.block D (Array.getElem?_eq_some_iff.1 HKD.out).1 (by intro e; exact hDg (Option.some.inj e))).trans HKD.out
    have B5 := below_of_grown HBb.out hg5 (Nat.le_refl _) (by omega)
    have HR5 : Hid (OpsRw W5 g (dropD l)) := hR5
    clear hrv hR5 hg5 c1 H5
    gi_wp2
    refine ⟨by simp, .inl ⟨_, _, rfl, run_takeDeferred hK5, ?_⟩⟩
    refine ⟨.slice (some ⟨g, 0, none⟩) (dropD l).length cap', ?_, ⟨g, cap', rfl, hcp, HR5.out.block ((grownBy_putObj' W5 D (.deferred none)).block g (HR5.out.lt HE.out) (by intro e; exact hDg (Option.some.inj e).symm)), by omega, B5.trans (belowK_b (w := w) (Nat.le_refl _) W5 D _ _ (by omega) hK5 rfl rfl)⟩⟩
    simp [results, Tryz.f74, go_sem]
  case stop =>
    rintro D c pre W hD ⟨k, hk, rfl⟩ hF hK
    exact hF.elim
end Go.Proofs.YtflagpkmebdckaaGreatDoor
/-
  Package opt: Opt.
-/
namespace Go.Proofs.YtflagpkmebdckaaGreatDoor
open Go.RowKit Go.Maps
open Num
set_option linter.unusedVariables false
theorem results_cell1 {fn : Func} {p u : Tmp} {ty : TypeId} {A : Addr} {x : Value} (h : fn.results = #[.cell p ty, .tmp u]) (tmps : Array Value) (P : Program) (w : World) (hp : tmps.getD p undef = .pointer (some A)) (hl : (loadVar ty A).run P w = .ok x w) :
    (results fn tmps).run P w = .ok (.tuple #[x, tmps.getD u undef]) w := by
  rw [results_cell_tmp h, hp]
  simp [asAddr, Result.andThen, hl]
theorem code_load {w : World} {B : Nat} {a b c : Value} (z0 : w.cell? ⟨B, 0, none⟩ = some a) (z1 : w.cell? ⟨B, 1, none⟩ = some b) (z2 : w.cell? ⟨B, 2, none⟩ = some c) : (loadVar 54 ⟨B, 0, none⟩).run Tryz.prog w = .ok (.agg #[a, b, c]) w := by
  simp [go_sem, z0, z1, z2]
/-- Opt's own two variables: the code (block cb), what it hands back (block rb) -/
structure OBox (W : World) (cb rb : Nat) (pc many : Int) (v : Value) : Prop where
  k0 : W.cell? ⟨cb, 0, none⟩ = some (.int .u32 pc)
  k1 : W.cell? ⟨cb, 1, none⟩ = some (.int .i64 many)
  k2 : W.cell? ⟨cb, 2, none⟩ = some v
  z0 : W.cell? ⟨rb, 0, none⟩ = some (.int .u32 0)
  z1 : W.cell? ⟨rb, 1, none⟩ = some (.int .i64 0)
  z2 : W.cell? ⟨rb, 2, none⟩ = some (.slice none 0 0)
  fk : ∀ j, W.frozen? ⟨cb, j, none⟩ = false
  fz : ∀ j, W.frozen? ⟨rb, j, none⟩ = false
theorem OBox.block {W W' : World} {cb rb : Nat} {pc many : Int} {v : Value} (O : OBox W cb rb pc many v) (h1 : W'.heap[cb]? = W.heap[cb]?) (h2 : W'.heap[rb]? = W.heap[rb]?) : OBox W' cb rb pc many v := by
  have c1 : ∀ j, W'.cell? ⟨cb, j, none⟩ = W.cell? ⟨cb, j, none⟩ := fun j => World.cell?_of_block (a := ⟨cb, j, none⟩) h1
  have c2 : ∀ j, W'.cell? ⟨rb, j, none⟩ = W.cell? ⟨rb, j, none⟩ := fun j => World.cell?_of_block (a := ⟨rb, j, none⟩) h2
  have f1 : ∀ j, W'.frozen? ⟨cb, j, none⟩ = W.frozen? ⟨cb, j, none⟩ := fun j => World.frozen?_of_block (a := ⟨cb, j, none⟩) h1
  have f2 : ∀ j, W'.frozen? ⟨rb, j, none⟩ = W.frozen? ⟨rb, j, none⟩ := fun j => World.frozen?_of_block (a := ⟨rb, j, none⟩) h2
  exact ⟨(c1 0).trans O.k0, (c1 1).trans O.k1, (c1 2).trans O.k2, (c2 0).trans O.z0, (c2 1).trans O.z1, (c2 2).trans O.z2, fun j => (f1 j).trans (O.fk j), fun j => (f2 j).trans (O.fz j)⟩
theorem OBox.put {W : World} {cb rb : Nat} {pc many : Int} {v : Value} (O : OBox W cb rb pc many v) (hne : cb ≠ rb) (v' : Value) : OBox (W.setCell ⟨cb, 2, none⟩ v') cb rb pc many v' := by
  have hb : (W.setCell ⟨cb, 2, none⟩ v').heap[rb]? = W.heap[rb]? := Below.heap_setCell _ _ _ _ (by show rb ≠ cb; omega)
  have c2 : ∀ j, (W.setCell ⟨cb, 2, none⟩ v').cell? ⟨rb, j, none⟩ = W.cell? ⟨rb, j, none⟩ := fun j => World.cell?_of_block (a := ⟨rb, j, none⟩) hb
  refine ⟨by rw [set_other (by omega)]; exact O.k0, by rw [set_other (by omega)]; exact O.k1, set_same (by rw [O.k2]; rfl), (c2 0).trans O.z0, (c2 1).trans O.z1, (c2 2).trans O.z2, fun j => by simp only [World.frozen?_setCell]; exact O.fk j, fun j => by simp only [World.frozen?_setCell]; exact O.fz j⟩
theorem OBox.new (w : World) (pc many : Int) (v : Value) : OBox ((w.alloc (.cells #[.int .u32 pc, .int .i64 many, v] 54)).alloc (.cells #[.int .u32 0, .int .i64 0, .slice none 0 0] 54)) w.heap.size (w.heap.size + 1) pc many v := by
  refine ⟨by simp, by simp, by simp, by simp, by simp, by simp, fun j => by simp, fun j => by simp⟩
theorem OBox.lt {W : World} {cb rb : Nat} {pc many : Int} {v : Value} (O : OBox W cb rb pc many v) : cb < W.heap.size ∧ rb < W.heap.size := ⟨World.block_lt_of_cell? _ _ O.k0, World.block_lt_of_cell? _ _ O.z0⟩
theorem put3 {w : World} {B : Nat} {u0 u1 u2 v0 v1 v2 : Value} (z0 : w.cell? ⟨B, 0, none⟩ = some u0) (z1 : w.cell? ⟨B, 1, none⟩ = some u1) (z2 : w.cell? ⟨B, 2, none⟩ = some u2) : (((w.setCell ⟨B, 0, none⟩ v0).setCell ⟨B, 1, none⟩ v1).setCell ⟨B, 2, none⟩ v2).cell? ⟨B, 0, none⟩ = some v0 ∧ (((w.setCell ⟨B, 0, none⟩ v0).setCell ⟨B, 1, none⟩ v1).setCell ⟨B, 2, none⟩ v2).cell? ⟨B, 1, none⟩ = some v1 ∧ (((w.setCell ⟨B, 0, none⟩ v0).setCell ⟨B, 1, none⟩ v1).setCell ⟨B, 2, none⟩ v2).cell? ⟨B, 2, none⟩ = some v2 := by
  refine ⟨?_, ?_, ?_⟩
  · rw [set_other (by omega), set_other (by omega)]; exact set_same (by rw [z0]; rfl)
  · rw [set_other (by omega)]; exact set_same (by rw [set_other (by omega), z1]; rfl)
  · exact set_same (by rw [set_other (by omega), set_other (by omega), z2]; rfl)
/-- what Opt hands back of a code that is well -/
def OptPost (w : World) (pc many : Int) (l : List Opx) (e : Ending) (w' : World) : Prop :=
  ∃ g cap, e = .returned (.tuple #[.agg #[.int .u32 pc, .int .i64 many, .slice (some ⟨g, 0, none⟩) l.length cap], .nilIface]) ∧ l.length ≤ cap ∧ OpsRw w' g l ∧ w.heap.size ≤ g ∧ Below w.heap.size w w' ∧ ∀ o ∈ l, o.ok
set_option maxRecDepth 100000 in
set_option maxHeartbeats 4000000 in
theorem opt_0 (pe : Nat → Addr) {w : World} (E : Eg pe w) {v : Value} {l : List Opx} (A : OpsIn w v l) (hl : l.length ≤ 1000000) (pc many : Int) (m0 : -9223372036854775808 ≤ many) (m1 : many ≤ 9223372036854775807) (hf : codeF many l = (0, -1)) :
    Calls Tryz.prog 28 #[.agg #[.int .u32 pc, .int .i64 many, v], .int .i64 0] w fun e w' => OptPost w pc many (optL 0 l) e w' := by
  have hB0 : Below w.heap.size w ((w.alloc (.cells #[.int .u32 pc, .int .i64 many, v] 54)).alloc (.cells #[.int .u32 0, .int .i64 0, .slice none 0 0] 54)) := ((Below.refl _ _).alloc (Nat.le_refl _) _).alloc (by simp) _
  have hck := ccheck_ok pe (E.stays hB0) (A.stays hB0) (by omega) pc many m0 m1 hf
  have O0 := OBox.new w pc many v
  have AH : Hid (OpsIn w v l) := A
  have WH : Hid (Well many l) := codeF_well.1 hf
  have hpos : 0 < l.length := List.length_pos_iff.2 WH.out.ne
  have HL : Hid (optL 0 l = l) := rfl
  obtain ⟨ao, cap, rfl, _⟩ := A.sh
  clear E A hf
  go_enter Tryz.func28, Tryz.ntmps28
  go_wp2_with fail
  generalize (w.alloc (.cells #[.int .u32 pc, .int .i64 many, .slice ao l.length cap] 54)).alloc (.cells #[.int .u32 0, .int .i64 0, .slice none 0 0] 54) = V at *
  refine hck.mono ?_
  rintro e w1 ⟨rfl, hb1⟩
  have O1 := O0.block (hb1.block _ O0.lt.1) (hb1.block _ O0.lt.2)
  have HB1 : Hid (Below w.heap.size w w1) := hB0.trans (hb1.mono (by have := hB0.size; omega))
  have hz1 : w.heap.size + 1 < w1.heap.size := O1.lt.2
  have hcl := clone_any (AH.out.stays HB1.out) hl hpos
  have OH1 : Hid (OBox w1 w.heap.size (w.heap.size + 1) pc many (.slice ao l.length cap)) := O1
  obtain ⟨k0, k1, k2, z0, z1, z2, fk, fz⟩ := O1
  clear hck hb1 O0
  go_wp2_with fail
  refine hcl.mono ?_
  rintro e w2 ⟨g, cp, rfl, hcp, hR2, hge, hb2⟩
  have O2 : OBox w2 w.heap.size (w.heap.size + 1) pc many (.slice ao l.length cap) := OH1.out.block (hb2.block _ (by omega)) (hb2.block _ (by omega))
  have hz2 : w1.heap.size ≤ w2.heap.size := hb2.size
  have HB2 : Hid (Below w.heap.size w w2) := HB1.out.trans (hb2.mono (by omega))
  have O3 : Hid (OBox (w2.setCell ⟨w.heap.size, 2, none⟩ (.slice (some ⟨g, 0, none⟩) l.length cp)) w.heap.size (w.heap.size + 1) pc many (.slice (some ⟨g, 0, none⟩) l.length cp)) := O2.put (by omega) _
  have R3 : Hid (OpsRw (w2.setCell ⟨w.heap.size, 2, none⟩ (.slice (some ⟨g, 0, none⟩) l.length cp)) g l) := hR2.block (Below.heap_setCell _ _ _ _ (by show g ≠ w.heap.size; omega))
  have B3 : Hid (Below w.heap.size w (w2.setCell ⟨w.heap.size, 2, none⟩ (.slice (some ⟨g, 0, none⟩) l.length cp))) := HB2.out.setCell (p := ⟨w.heap.size, 2, none⟩) (Nat.le_refl _) _
  have hz3 : w2.heap.size ≤ (w2.setCell ⟨w.heap.size, 2, none⟩ (.slice (some ⟨g, 0, none⟩) l.length cp)).heap.size := by simp [World.setCell]
  obtain ⟨k0, k1, k2, z0, z1, z2, fk, fz⟩ := O2
  have hzz2 : w.heap.size < w2.heap.size := by omega
  clear hcl hR2 hb2 OH1
  go_upto_region 7 with fail
  generalize w2.setCell ⟨w.heap.size, 2, none⟩ (.slice (some ⟨g, 0, none⟩) l.length cp) = w3 at *
  clear k0 k1 k2 z0 z1 z2 fk fz
  obtain ⟨k0, k1, k2, z0, z1, z2, fk, fz⟩ := O3.out
  have hzz3 : w.heap.size + 1 < w3.heap.size := by omega
  go_wp2
  obtain ⟨y0, y1, y2⟩ := put3 (v0 := .int .u32 pc) (v1 := .int .i64 many) (v2 := .slice (some ⟨g, 0, none⟩) l.length cp) z0 z1 z2
  refine bodyPost_ret (results_cell1 (A := ⟨w.heap.size + 1, 0, none⟩) rfl _ _ _ rfl (code_load y0 y1 y2)) rfl ?_
  refine ⟨g, cp, by rw [HL.out]; rfl, by rw [HL.out]; exact hcp, ?_, by omega, ?_, by rw [HL.out]; exact AH.out.ok⟩
  · rw [HL.out]
    exact R3.out.block (((Below.heap_setCell _ ⟨w.heap.size + 1, 2, none⟩ _ g (by show g ≠ w.heap.size + 1; omega)).trans (Below.heap_setCell _ ⟨w.heap.size + 1, 1, none⟩ _ g (by show g ≠ w.heap.size + 1; omega))).trans (Below.heap_setCell _ ⟨w.heap.size + 1, 0, none⟩ _ g (by show g ≠ w.heap.size + 1; omega)))
  · exact ((B3.out.setCell (p := ⟨w.heap.size + 1, 0, none⟩) (by show _ ≤ w.heap.size + 1; omega) _).setCell (p := ⟨w.heap.size + 1, 1, none⟩) (by show _ ≤ w.heap.size + 1; omega) _).setCell (p := ⟨w.heap.size + 1, 2, none⟩) (by show _ ≤ w.heap.size + 1; omega) _
set_option maxRecDepth 100000 in
set_option maxHeartbeats 4000000 in
theorem opt_1 (pe : Nat → Addr) {w : World} (E : Eg pe w) {v : Value} {l : List Opx} (A : OpsIn w v l) (hl : l.length ≤ 1000000) (pc many : Int) (m0 : -9223372036854775808 ≤ many) (m1 : many ≤ 9223372036854775807) (hf : codeF many l = (0, -1)) :
    Calls Tryz.prog 28 #[.agg #[.int .u32 pc, .int .i64 many, v], .int .i64 1] w fun e w' => OptPost w pc many (optL 1 l) e w' := by
  have hB0 : Below w.heap.size w ((w.alloc (.cells #[.int .u32 pc, .int .i64 many, v] 54)).alloc (.cells #[.int .u32 0, .int .i64 0, .slice none 0 0] 54)) := ((Below.refl _ _).alloc (Nat.le_refl _) _).alloc (by simp) _
  have hck := ccheck_ok pe (E.stays hB0) (A.stays hB0) (by omega) pc many m0 m1 hf
  have O0 := OBox.new w pc many v
  have AH : Hid (OpsIn w v l) := A
  have WH : Hid (Well many l) := codeF_well.1 hf
  have hpos : 0 < l.length := List.length_pos_iff.2 WH.out.ne
  have HL : Hid (optL 1 l = workF fx0 l) := rfl
  obtain ⟨ao, cap, rfl, _⟩ := A.sh
  clear E A hf
  go_enter Tryz.func28, Tryz.ntmps28
  go_wp2_with fail
  generalize (w.alloc (.cells #[.int .u32 pc, .int .i64 many, .slice ao l.length cap] 54)).alloc (.cells #[.int .u32 0, .int .i64 0, .slice none 0 0] 54) = V at *
  refine hck.mono ?_
  rintro e w1 ⟨rfl, hb1⟩
  have O1 := O0.block (hb1.block _ O0.lt.1) (hb1.block _ O0.lt.2)
  have HB1 : Hid (Below w.heap.size w w1) := hB0.trans (hb1.mono (by have := hB0.size; omega))
  have hz1 : w.heap.size + 1 < w1.heap.size := O1.lt.2
  have hcl := clone_any (AH.out.stays HB1.out) hl hpos
  have OH1 : Hid (OBox w1 w.heap.size (w.heap.size + 1) pc many (.slice ao l.length cap)) := O1
  obtain ⟨k0, k1, k2, z0, z1, z2, fk, fz⟩ := O1
  clear hck hb1 O0
  go_wp2_with fail
  refine hcl.mono ?_
  rintro e w2 ⟨g, cp, rfl, hcp, hR2, hge, hb2⟩
  have O2 : OBox w2 w.heap.size (w.heap.size + 1) pc many (.slice ao l.length cap) := OH1.out.block (hb2.block _ (by omega)) (hb2.block _ (by omega))
  have hz2 : w1.heap.size ≤ w2.heap.size := hb2.size
  have HB2 : Hid (Below w.heap.size w w2) := HB1.out.trans (hb2.mono (by omega))
  have O3 : Hid (OBox (w2.setCell ⟨w.heap.size, 2, none⟩ (.slice (some ⟨g, 0, none⟩) l.length cp)) w.heap.size (w.heap.size + 1) pc many (.slice (some ⟨g, 0, none⟩) l.length cp)) := O2.put (by omega) _
  have R3 : Hid (OpsRw (w2.setCell ⟨w.heap.size, 2, none⟩ (.slice (some ⟨g, 0, none⟩) l.length cp)) g l) := hR2.block (Below.heap_setCell _ _ _ _ (by show g ≠ w.heap.size; omega))
  have B3 : Hid (Below w.heap.size w (w2.setCell ⟨w.heap.size, 2, none⟩ (.slice (some ⟨g, 0, none⟩) l.length cp))) := HB2.out.setCell (p := ⟨w.heap.size, 2, none⟩) (Nat.le_refl _) _
  have hz3 : w2.heap.size ≤ (w2.setCell ⟨w.heap.size, 2, none⟩ (.slice (some ⟨g, 0, none⟩) l.length cp)).heap.size := by simp [World.setCell]
  obtain ⟨k0, k1, k2, z0, z1, z2, fk, fz⟩ := O2
  have hzz2 : w.heap.size < w2.heap.size := by omega
  clear hcl hR2 hb2 OH1
  go_upto_region 7 with fail
  generalize w2.setCell ⟨w.heap.size, 2, none⟩ (.slice (some ⟨g, 0, none⟩) l.length cp) = w3 at *
  clear k0 k1 k2 z0 z1 z2 fk fz
  obtain ⟨k0, k1, k2, z0, z1, z2, fk, fz⟩ := O3.out
  have hzz3 : w.heap.size + 1 < w3.heap.size := by omega
  have hwk := workOut_any (cap := cp) R3.out (by omega) hcp AH.out.ok hpos
  clear R3
  go_wp2_with fail
  refine hwk.mono ?_
  rintro e w4 ⟨rfl, hR4, hok4, hg4⟩
  have O4 : OBox w4 w.heap.size (w.heap.size + 1) pc many (.slice (some ⟨g, 0, none⟩) l.length cp) := O3.out.block (hg4.block _ (by omega) (by intro e; have := Option.some.inj e; omega)) (hg4.block _ (by omega) (by intro e; have := Option.some.inj e; omega))
  have B4 : Hid (Below w.heap.size w w4) := below_of_grown B3.out hg4 (Nat.le_refl _) (by omega)
  have hz4 : w3.heap.size ≤ w4.heap.size := hg4.size
  have R4 : Hid (OpsRw w4 g (workF fx0 l)) := hR4
  have OK4 : Hid (∀ o ∈ workF fx0 l, o.ok) := hok4
  have hzz4 : w.heap.size + 1 < w4.heap.size := by omega
  have HWL : Hid ((workF fx0 l).length = l.length) := workF_len l fx0
  clear hwk hR4 hok4 hg4 O3 k0 k1 k2 z0 z1 z2 fk fz
  have O4H : Hid (OBox w4 w.heap.size (w.heap.size + 1) pc many (.slice (some ⟨g, 0, none⟩) l.length cp)) := O4
  obtain ⟨k0, k1, k2, z0, z1, z2, fk, fz⟩ := O4
  go_wp2
  obtain ⟨y0, y1, y2⟩ := put3 (v0 := .int .u32 pc) (v1 := .int .i64 many) (v2 := .slice (some ⟨g, 0, none⟩) l.length cp) z0 z1 z2
  refine bodyPost_ret (results_cell1 (A := ⟨w.heap.size + 1, 0, none⟩) rfl _ _ _ rfl (code_load y0 y1 y2)) rfl ?_
  refine ⟨g, cp, by rw [HL.out, HWL.out]; rfl, by rw [HL.out, HWL.out]; exact hcp, ?_, by omega, ?_, by rw [HL.out]; exact OK4.out⟩
  · rw [HL.out]
    exact R4.out.block (((Below.heap_setCell _ ⟨w.heap.size + 1, 2, none⟩ _ g (by show g ≠ w.heap.size + 1; omega)).trans (Below.heap_setCell _ ⟨w.heap.size + 1, 1, none⟩ _ g (by show g ≠ w.heap.size + 1; omega))).trans (Below.heap_setCell _ ⟨w.heap.size + 1, 0, none⟩ _ g (by show g ≠ w.heap.size + 1; omega)))
  · exact ((B4.out.setCell (p := ⟨w.heap.size + 1, 0, none⟩) (by show _ ≤ w.heap.size + 1; omega) _).setCell (p := ⟨w.heap.size + 1, 1, none⟩) (by show _ ≤ w.heap.size + 1; omega) _).setCell (p := ⟨w.heap.size + 1, 2, none⟩) (by show _ ≤ w.heap.size + 1; omega) _
set_option maxRecDepth 100000 in
set_option maxHeartbeats 4000000 in
theorem opt_2 (pe : Nat → Addr) {w : World} (E : Eg pe w) {v : Value} {l : List Opx} (A : OpsIn w v l) (hl : l.length ≤ 1000000) (pc many : Int) (m0 : -9223372036854775808 ≤ many) (m1 : many ≤ 9223372036854775807) (hf : codeF many l = (0, -1)) :
    Calls Tryz.prog 28 #[.agg #[.int .u32 pc, .int .i64 many, v], .int .i64 2] w fun e w' => OptPost w pc many (optL 2 l) e w' := by
  have hB0 : Below w.heap.size w ((w.alloc (.cells #[.int .u32 pc, .int .i64 many, v] 54)).alloc (.cells #[.int .u32 0, .int .i64 0, .slice none 0 0] 54)) := ((Below.refl _ _).alloc (Nat.le_refl _) _).alloc (by simp) _
  have hck := ccheck_ok pe (E.stays hB0) (A.stays hB0) (by omega) pc many m0 m1 hf
  have O0 := OBox.new w pc many v
  have AH : Hid (OpsIn w v l) := A
  have WH : Hid (Well many l) := codeF_well.1 hf
  have hpos : 0 < l.length := List.length_pos_iff.2 WH.out.ne
  have HL : Hid (optL 2 l = dropD (workF fx0 l)) := rfl
  obtain ⟨ao, cap, rfl, _⟩ := A.sh
  clear E A hf
  go_enter Tryz.func28, Tryz.ntmps28
  go_wp2_with fail
  generalize (w.alloc (.cells #[.int .u32 pc, .int .i64 many, .slice ao l.length cap] 54)).alloc (.cells #[.int .u32 0, .int .i64 0, .slice none 0 0] 54) = V at *
  refine hck.mono ?_
  rintro e w1 ⟨rfl, hb1⟩
  have O1 := O0.block (hb1.block _ O0.lt.1) (hb1.block _ O0.lt.2)
  have HB1 : Hid (Below w.heap.size w w1) := hB0.trans (hb1.mono (by have := hB0.size; omega))
  have hz1 : w.heap.size + 1 < w1.heap.size := O1.lt.2
  have hcl := clone_any (AH.out.stays HB1.out) hl hpos
  have OH1 : Hid (OBox w1 w.heap.size (w.heap.size + 1) pc many (.slice ao l.length cap)) := O1
  obtain ⟨k0, k1, k2, z0, z1, z2, fk, fz⟩ := O1
  clear hck hb1 O0
  go_wp2_with fail
  refine hcl.mono ?_
  rintro e w2 ⟨g, cp, rfl, hcp, hR2, hge, hb2⟩
  have O2 : OBox w2 w.heap.size (w.heap.size + 1) pc many (.slice ao l.length cap) := OH1.out.block (hb2.block _ (by omega)) (hb2.block _ (by omega))
  have hz2 : w1.heap.size ≤ w2.heap.size := hb2.size
  have HB2 : Hid (Below w.heap.size w w2) := HB1.out.trans (hb2.mono (by omega))
  have O3 : Hid (OBox (w2.setCell ⟨w.heap.size, 2, none⟩ (.slice (some ⟨g, 0, none⟩) l.length cp)) w.heap.size (w.heap.size + 1) pc many (.slice (some ⟨g, 0, none⟩) l.length cp)) := O2.put (by omega) _
  have R3 : Hid (OpsRw (w2.setCell ⟨w.heap.size, 2, none⟩ (.slice (some ⟨g, 0, none⟩) l.length cp)) g l) := hR2.block (Below.heap_setCell _ _ _ _ (by show g ≠ w.heap.size; omega))
  have B3 : Hid (Below w.heap.size w (w2.setCell ⟨w.heap.size, 2, none⟩ (.slice (some ⟨g, 0, none⟩) l.length cp))) := HB2.out.setCell (p := ⟨w.heap.size, 2, none⟩) (Nat.le_refl _) _
  have hz3 : w2.heap.size ≤ (w2.setCell ⟨w.heap.size, 2, none⟩ (.slice (some ⟨g, 0, none⟩) l.length cp)).heap.size := by simp [World.setCell]
  obtain ⟨k0, k1, k2, z0, z1, z2, fk, fz⟩ := O2
  have hzz2 : w.heap.size < w2.heap.size := by omega
  clear hcl hR2 hb2 OH1
  go_upto_region 7 with fail
  generalize w2.setCell ⟨w.heap.size, 2, none⟩ (.slice (some ⟨g, 0, none⟩) l.length cp) = w3 at *
  clear k0 k1 k2 z0 z1 z2 fk fz
  obtain ⟨k0, k1, k2, z0, z1, z2, fk, fz⟩ := O3.out
  have hzz3 : w.heap.size + 1 < w3.heap.size := by omega
  have hwk := workOut_any (cap := cp) R3.out (by omega) hcp AH.out.ok hpos
  clear R3
  go_wp2_with fail
  refine hwk.mono ?_
  rintro e w4 ⟨rfl, hR4, hok4, hg4⟩
  have O4 : OBox w4 w.heap.size (w.heap.size + 1) pc many (.slice (some ⟨g, 0, none⟩) l.length cp) := O3.out.block (hg4.block _ (by omega) (by intro e; have := Option.some.inj e; omega)) (hg4.block _ (by omega) (by intro e; have := Option.some.inj e; omega))
  have B4 : Hid (Below w.heap.size w w4) := below_of_grown B3.out hg4 (Nat.le_refl _) (by omega)
  have hz4 : w3.heap.size ≤ w4.heap.size := hg4.size
  have R4 : Hid (OpsRw w4 g (workF fx0 l)) := hR4
  have OK4 : Hid (∀ o ∈ workF fx0 l, o.ok) := hok4
  have hzz4 : w.heap.size + 1 < w4.heap.size := by omega
  have HWL : Hid ((workF fx0 l).length = l.length) := workF_len l fx0
  clear hwk hR4 hok4 hg4 O3 k0 k1 k2 z0 z1 z2 fk fz
  have O4H : Hid (OBox w4 w.heap.size (w.heap.size + 1) pc many (.slice (some ⟨g, 0, none⟩) l.length cp)) := O4
  obtain ⟨k0, k1, k2, z0, z1, z2, fk, fz⟩ := O4
  have hwd := withoutDead_any (w := w4) (b := g) (off := 0) (cap := cp) (l := workF fx0 l) (fun i o hi j u hj => by rw [Nat.zero_add]; exact R4.out.c i o hi j u hj) (by have := R4.out.lt (by rw [HWL.out]; exact hpos); exact this) (by rw [HWL.out]; exact hl) (fun o ho => okW_of (wellL_mem (WH.out.work fx0).ops o ho) (OK4.out o ho)) (WH.out.work fx0).last
  rw [HWL.out] at hwd
  go_wp2_with fail
  refine hwd.mono ?_
  rintro e w5 ⟨g5, c5, rfl, hc5, hR5, hge5, hb5⟩
  have O5 : OBox w5 w.heap.size (w.heap.size + 1) pc many (.slice (some ⟨g, 0, none⟩) l.length cp) := O4H.out.block (hb5.block _ (by omega)) (hb5.block _ (by omega))
  have hz5 : w4.heap.size ≤ w5.heap.size := hb5.size
  have B5 : Hid (Below w.heap.size w w5) := B4.out.trans (hb5.mono (by omega))
  have O6 : Hid (OBox (w5.setCell ⟨w.heap.size, 2, none⟩ (.slice (some ⟨g5, 0, none⟩) (dropD (workF fx0 l)).length c5)) w.heap.size (w.heap.size + 1) pc many (.slice (some ⟨g5, 0, none⟩) (dropD (workF fx0 l)).length c5)) := O5.put (by omega) _
  have R6 : Hid (OpsRw (w5.setCell ⟨w.heap.size, 2, none⟩ (.slice (some ⟨g5, 0, none⟩) (dropD (workF fx0 l)).length c5)) g5 (dropD (workF fx0 l))) := hR5.block (Below.heap_setCell _ _ _ _ (by show g5 ≠ w.heap.size; omega))
  have B6 : Hid (Below w.heap.size w (w5.setCell ⟨w.heap.size, 2, none⟩ (.slice (some ⟨g5, 0, none⟩) (dropD (workF fx0 l)).length c5))) := B5.out.setCell (p := ⟨w.heap.size, 2, none⟩) (Nat.le_refl _) _
  have hz6 : w5.heap.size ≤ (w5.setCell ⟨w.heap.size, 2, none⟩ (.slice (some ⟨g5, 0, none⟩) (dropD (workF fx0 l)).length c5)).heap.size := by simp [World.setCell]
  have OK6 : Hid (∀ o ∈ dropD (workF fx0 l), o.ok) := fun o ho => OK4.out o ((dropD_sub _).subset ho)
  clear k0 k1 k2 z0 z1 z2 fk fz O4H
  obtain ⟨k0, k1, k2, z0, z1, z2, fk, fz⟩ := O5
  have hzz5 : w.heap.size < w5.heap.size := by omega
  clear hwd hR5 hb5
  go_upto_region 11 with fail
  generalize w5.setCell ⟨w.heap.size, 2, none⟩ (.slice (some ⟨g5, 0, none⟩) (dropD (workF fx0 l)).length c5) = w6 at *
  clear k0 k1 k2 z0 z1 z2 fk fz
  obtain ⟨k0, k1, k2, z0, z1, z2, fk, fz⟩ := O6.out
  have hzz6 : w.heap.size + 1 < w6.heap.size := by omega
  go_wp2
  obtain ⟨y0, y1, y2⟩ := put3 (v0 := .int .u32 pc) (v1 := .int .i64 many) (v2 := .slice (some ⟨g5, 0, none⟩) (dropD (workF fx0 l)).length c5) z0 z1 z2
  refine bodyPost_ret (results_cell1 (A := ⟨w.heap.size + 1, 0, none⟩) rfl _ _ _ rfl (code_load y0 y1 y2)) rfl ?_
  refine ⟨g5, c5, by rw [HL.out]; rfl, by rw [HL.out]; exact hc5, ?_, by omega, ?_, by rw [HL.out]; exact OK6.out⟩
  · rw [HL.out]
    exact R6.out.block (((Below.heap_setCell _ ⟨w.heap.size + 1, 2, none⟩ _ g5 (by show g5 ≠ w.heap.size + 1; omega)).trans (Below.heap_setCell _ ⟨w.heap.size + 1, 1, none⟩ _ g5 (by show g5 ≠ w.heap.size + 1; omega))).trans (Below.heap_setCell _ ⟨w.heap.size + 1, 0, none⟩ _ g5 (by show g5 ≠ w.heap.size + 1; omega)))
  · exact ((B6.out.setCell (p := ⟨w.heap.size + 1, 0, none⟩) (by show _ ≤ w.heap.size + 1; omega) _).setCell (p := ⟨w.heap.size + 1, 1, none⟩) (by show _ ≤ w.heap.size + 1; omega) _).setCell (p := ⟨w.heap.size + 1, 2, none⟩) (by show _ ≤ w.heap.size + 1; omega) _
end Go.Proofs.YtflagpkmebdckaaGreatDoor
