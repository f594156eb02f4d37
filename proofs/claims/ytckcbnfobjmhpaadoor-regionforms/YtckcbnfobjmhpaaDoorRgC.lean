/-
  A region is formed.
-/
import Derived.Deep.MidRow
import Derived.Test.YtckcbnfobjmhpaaDoorRgB
namespace Go.Proofs.YtckcbnfobjmhpaaDoor
open Go.RowKit Go.Maps
open Num
set_option linter.unusedVariables false
theorem lenP_stop {kd : Nat → Nat} {M most n st : Nat} (h : lkP kd M most n st = false) (f : Nat) : lenP kd M most f n st = n := by
  cases f with
  | zero => rfl
  | succ f => rw [lenP, if_neg (by simp [h])]
theorem lenP_one {kd : Nat → Nat} {M most n st : Nat} (h : lkP kd M most n st = true) (h2 : kd n ≠ 2) : lenP kd M most (most - n) n st = lenP kd M most (most - (n + 1)) (n + 1) (stP kd n st) := by
  have := (lkP_iff.1 h).1
  rw [show most - n = (most - (n + 1)) + 1 by omega, lenP, if_pos h, if_neg h2]
theorem lenP_no {kd : Nat → Nat} {M most n st : Nat} (h : lkP kd M most n st = true) (h2 : kd n = 2) (h3 : ¬ (lkP kd M most (n + 1) st = true ∧ kd (n + 1) ≠ 2)) : lenP kd M most (most - n) n st = n := by
  have := (lkP_iff.1 h).1
  rw [show most - n = (most - (n + 1)) + 1 by omega, lenP, if_pos h, if_pos h2, if_neg h3]
theorem lenP_two {kd : Nat → Nat} {M most n st : Nat} (h : lkP kd M most n st = true) (h2 : kd n = 2) (h3 : lkP kd M most (n + 1) st = true ∧ kd (n + 1) ≠ 2) : lenP kd M most (most - n) n st = n + 2 := by
  have := (lkP_iff.1 h).1
  rw [show most - n = (most - (n + 1)) + 1 by omega, lenP, if_pos h, if_pos h2, if_pos h3]
/-- a region with nothing in it -/
abbrev reg0 : Value := .agg #[.int .u32 0, .slice none 0 0, .slice none 0 0]
structure RZ (w : World) (rb : Nat) : Prop where
  r0 : w.cell? ⟨rb, 0, none⟩ = some (.int .u32 0)
  r1 : w.cell? ⟨rb, 1, none⟩ = some (.slice none 0 0)
  r2 : w.cell? ⟨rb, 2, none⟩ = some (.slice none 0 0)
  fz : ∀ j, w.frozen? ⟨rb, j, none⟩ = false
theorem RZ.stays {w w' : World} {rb C : Nat} (z : RZ w rb) (h : Below C w w') (hC : rb < C) : RZ w' rb := by
  have c : ∀ j, w'.cell? ⟨rb, j, none⟩ = w.cell? ⟨rb, j, none⟩ := fun j => h.cell (p := ⟨rb, j, none⟩) hC
  exact ⟨(c 0).trans z.r0, (c 1).trans z.r1, (c 2).trans z.r2, fun j => (h.frozen (p := ⟨rb, j, none⟩) hC).trans (z.fz j)⟩
theorem RZ.alloc (w : World) : RZ (w.alloc (.cells #[.int .u32 0, .slice none 0 0, .slice none 0 0] 51)) w.heap.size :=
  ⟨by simp, by simp, by simp, fun j => by simp⟩
theorem reg_load {w : World} {B : Nat} {a b c : Value} (h0 : w.cell? ⟨B, 0, none⟩ = some a) (h1 : w.cell? ⟨B, 1, none⟩ = some b) (h2 : w.cell? ⟨B, 2, none⟩ = some c) : (loadVar 51 ⟨B, 0, none⟩).run Tryd.prog w = .ok (.agg #[a, b, c]) w :=
  run_loadVar_mid w B 0 51 [a, b, c] _ (fun j v hv => by
    have hj : j < 3 := (List.getElem?_eq_some_iff.1 hv).1
    have : j = 0 ∨ j = 1 ∨ j = 2 := by omega
    rcases this with rfl | rfl | rfl
    · injection hv with e; subst e; exact h0
    · injection hv with e; subst e; exact h1
    · injection hv with e; subst e; exact h2) Tryd.underlying51 rfl (by kernel_rfl)
def put3 (W : World) (B : Nat) (a b c : Value) : World := ((W.setCell ⟨B, 0, none⟩ a).setCell ⟨B, 1, none⟩ b).setCell ⟨B, 2, none⟩ c
theorem put3_load {W : World} {B : Nat} {a b c : Value} (z : RZ W B) : (loadVar 51 ⟨B, 0, none⟩).run Tryd.prog (put3 W B a b c) = .ok (.agg #[a, b, c]) (put3 W B a b c) ∧ (loadVar 51 ⟨B, 0, none⟩).run Tryd.prog (put3 W B a b c).drew = .ok (.agg #[a, b, c]) (put3 W B a b c).drew := by
  have oo : ∀ (W : World) (i j : Nat) (x : Value), i ≠ j → (W.setCell ⟨B, j, none⟩ x).cell? ⟨B, i, none⟩ = W.cell? ⟨B, i, none⟩ := fun W i j x hij => World.cell?_setCell_other _ _ _ _ (by intro e; injection e with e1 e2; exact hij e2.symm)
  have h0 : (put3 W B a b c).cell? ⟨B, 0, none⟩ = some a := by
    unfold put3
    rw [oo _ 0 2 _ (by omega), oo _ 0 1 _ (by omega)]; exact World.cell?_setCell_same _ _ _ z.r0
  have h1 : (put3 W B a b c).cell? ⟨B, 1, none⟩ = some b := by
    unfold put3
    rw [oo _ 1 2 _ (by omega)]; exact World.cell?_setCell_same _ _ _ (by rw [oo _ 1 0 _ (by omega)]; exact z.r1)
  have h2 : (put3 W B a b c).cell? ⟨B, 2, none⟩ = some c := by
    unfold put3
    exact World.cell?_setCell_same _ _ _ (by rw [oo _ 2 1 _ (by omega), oo _ 2 0 _ (by omega)]; exact z.r2)
  generalize put3 W B a b c = V at *
  exact ⟨reg_load h0 h1 h2, reg_load (by simpa using h0) (by simpa using h1) (by simpa using h2)⟩
theorem put3_heap {W : World} {B : Nat} {a b c : Value} (k : Nat) (h : k ≠ B) : (put3 W B a b c).heap[k]? = W.heap[k]? := by
  unfold put3
  rw [Below.heap_setCell _ _ _ k h, Below.heap_setCell _ _ _ k h, Below.heap_setCell _ _ _ k h]
theorem RZ.set {W : World} {B b j : Nat} {x : Value} (z : RZ W B) (h : B ≠ b) : RZ (W.setCell ⟨b, j, none⟩ x) B := by
  have oo : ∀ i, (W.setCell ⟨b, j, none⟩ x).cell? ⟨B, i, none⟩ = W.cell? ⟨B, i, none⟩ := fun i => World.cell?_setCell_other _ _ _ _ (by intro e; injection e with e1 e2; exact h e1.symm)
  exact ⟨(oo 0).trans z.r0, (oo 1).trans z.r1, (oo 2).trans z.r2, fun i => by rw [World.frozen?_setCell]; exact z.fz i⟩
theorem below_put3 {w W : World} {B : Nat} {a b c : Value} {C : Nat} (h : Below C w W) (hB : C ≤ B) : Below C w (put3 W B a b c) := ((h.setCell hB _).setCell hB _).setCell hB _
section
variable {w : World} {sb bp bw bh N : Nat} {m : Nat → Int} {wt ht : Int → Bool} {ps pa pf pk pb pn : Addr}
set_option maxRecDepth 100000 in
set_option maxHeartbeats 4000000 in
theorem form_nil (E : Er ps pa pf w) (pc most : Int) : Calls Tryd.prog 22 #[.pointer none, .int .u32 pc, .int .i64 most] w fun e w' => e = .returned (.tuple #[reg0, .iface 192 (.pointer (some ps))]) ∧ Below w.heap.size w w' := by
  have hb : Below w.heap.size w (w.alloc (.cells #[.int .u32 0, .slice none 0 0, .slice none 0 0] 51)) := (Below.refl _ _).alloc (Nat.le_refl _) _
  have hck := check_nil ps pa pf (E.stays2 hb) pc most
  clear E
  go_enter Tryd.func22, Tryd.ntmps22
  go_wp2_with fail
  refine hck.mono ?_
  rintro e wk ⟨rfl, hwk⟩
  rw [hwk]; clear hwk wk hck
  go_wp2
  exact bodyPost_ret (results_cell1 Tryd.results22 _ _ _ (A := ⟨w.heap.size, 0, none⟩) rfl (reg_load (by simp) (by simp) (by simp))) rfl ⟨rfl, hb⟩
set_option maxRecDepth 100000 in
set_option maxHeartbeats 4000000 in
theorem form_bad (E : Er ps pa pf w) (T : K.Tb pk pb w) (pc most : Int) (h0 : 0 ≤ pc) (h1 : pc < 4294967296) (h : fchk pc most ≠ 0) : Calls Tryd.prog 22 #[.pointer (some ⟨sb, 0, none⟩), .int .u32 pc, .int .i64 most] w fun e w' => e = .returned (.tuple #[reg0, .iface 192 (.pointer (some (ferr ps pb pa pf pn (fchk pc most))))]) ∧ Below w.heap.size w w' := by
  have hb : Below w.heap.size w (w.alloc (.cells #[.int .u32 0, .slice none 0 0, .slice none 0 0] 51)) := (Below.refl _ _).alloc (Nat.le_refl _) _
  have hck := check_bad ps pa pf pk pb pn (E.stays2 hb) (T.stays hb (Nat.le_refl _)) sb pc most h0 h1 h
  generalize ferr ps pb pa pf pn (fchk pc most) = er at *
  clear E T h
  go_enter Tryd.func22, Tryd.ntmps22
  go_wp2_with fail
  refine hck.mono ?_
  rintro e wk ⟨rfl, hwk⟩
  rw [hwk]; clear hwk wk hck
  go_wp2
  exact bodyPost_ret (results_cell1 Tryd.results22 _ _ _ (A := ⟨w.heap.size, 0, none⟩) rfl (reg_load (by simp) (by simp) (by simp))) rfl ⟨rfl, hb⟩
/-- what is formed -/
structure RegAt (base : Nat) (w : World) (v : Value) (pc : Int) (m : Nat → Int) (len : Nat) (vi vp : Value) : Prop where
  eq : v = .agg #[.int .u32 pc, vi, vp]
  ri : w.ownsRow base 65 5 vi len (insL m pc len)
  rp : w.ownsRow base 3 1 vp (cntP pc len) (pgV (pc / 256) (cntP pc len))
theorem owns_base {w : World} {base base' : Nat} {e : TypeId} {size n : Nat} {v : Value} {xs : List Value} (h : w.ownsRow base e size v n xs) (hb : base' ≤ base) : w.ownsRow base' e size v n xs := by
  refine ⟨h.1, ?_⟩
  rcases h.2 with h | ⟨g, cap, cur, h1, h2, h3⟩
  · exact Or.inl h
  · exact Or.inr ⟨g, cap, cur, h1, by omega, h3⟩
theorem RegAt.blocks {base : Nat} {w w' : World} {v : Value} {pc : Int} {m : Nat → Int} {len : Nat} {vi vp : Value} (h : RegAt base w v pc m len vi vp) (hb : Below w.heap.size w w') : RegAt base w' v pc m len vi vp :=
  ⟨h.eq, owns_blocks h.ri (fun k e => hb.block k (owns_lt h.ri k e).2), owns_blocks h.rp (fun k e => hb.block k (owns_lt h.rp k e).2)⟩
/-- how long what is on its way may still become -/
def mLen (fb : Nat) (w : World) : Nat := match w.cell? ⟨fb, 1, none⟩ with | some (.slice _ n _) => 30 - n | _ => 0
theorem FAt.mlen {w0 w : World} {fb : Nat} {pc : Int} {sb most n st : Nat} {m : Nat → Int} {vi : Value} (F : FAt w0 w fb pc sb most n st m vi) : mLen fb w = 30 - n := by
  obtain ⟨p, c, rfl⟩ := F.len
  unfold mLen; rw [F.c1]
theorem FAt.start {w1 : World} {pc : Int} {sb most : Nat} (m : Nat → Int) : FAt w1 (w1.alloc (.cells #[.int .u32 pc, .slice none 0 0, .slice none 0 0, .pointer (some ⟨sb, 0, none⟩), .int .i64 most, .int .i64 0] 97)) w1.heap.size pc sb most 0 0 m (.slice none 0 0) :=
  ⟨by simp, by simp, by simp, by simp, by simp, by simp, fun j => by simp, ⟨rfl, Or.inl ⟨rfl, rfl⟩⟩, (Below.refl _ _).alloc (Nat.le_refl _) _, Nat.le_refl _, fun k h => by cases h⟩
theorem goOn_any {w0 w : World} {fb : Nat} {pc : Int} {most n st : Nat} {vi : Value} (G : Gd ps pa pf pk pb w0 sb bp bw bh N m wt ht pc most) (F : FAt w0 w fb pc sb most n st m vi) (S : Sofar (kdAt m pc) (many pc) most n st) :
    Calls Tryd.prog 46 #[.pointer (some ⟨fb, 0, none⟩)] w fun e w' =>
      (e = .returned (.bool true) ∧ lkP (kdAt m pc) (many pc) most n st = true ∧ kdAt m pc n ≠ 2 ∧ ∃ vi', FAt w0 w' fb pc sb most (n + 1) (stP (kdAt m pc) n st) m vi') ∨
      (e = .returned (.bool false) ∧ ∃ st' vi', FAt w0 w' fb pc sb most (lenP (kdAt m pc) (many pc) most (most - n) n st) st' m vi') := by
  by_cases h : lkP (kdAt m pc) (many pc) most n st = true
  · by_cases h2 : kdAt m pc n = 2
    · by_cases h3 : lkP (kdAt m pc) (many pc) most (n + 1) st = true
      · by_cases h4 : kdAt m pc (n + 1) = 2
        · refine (goOn_br G F S.room S.stores h h2 h3 h4).mono ?_
          rintro e w' ⟨rfl, F'⟩
          rw [lenP_no h h2 (by simp [h4])]
          exact Or.inr ⟨rfl, _, _, F'⟩
        · refine (goOn_two G F S.room S.stores h h2 h3 h4).mono ?_
          rintro e w' ⟨rfl, st', vi', F'⟩
          rw [lenP_two h h2 ⟨h3, h4⟩]
          exact Or.inr ⟨rfl, _, _, F'⟩
      · refine (goOn_no G F S.room S.stores h h2 (by simpa using h3)).mono ?_
        rintro e w' ⟨rfl, F'⟩
        rw [lenP_no h h2 (by simp [h3])]
        exact Or.inr ⟨rfl, _, _, F'⟩
    · refine (goOn_one G F S.room S.stores h h2).mono ?_
      rintro e w' ⟨rfl, vi', F'⟩
      exact Or.inl ⟨rfl, h, h2, _, F'⟩
  · have h' : lkP (kdAt m pc) (many pc) most n st = false := by simpa using h
    refine (goOn_stop G F S.room S.stores h').mono ?_
    rintro e w' ⟨rfl, F'⟩
    rw [lenP_stop h']
    exact Or.inr ⟨rfl, _, _, F'⟩
/-- what holds from round to round -/
structure FR (w1 wr : World) (fb : Nat) (pc : Int) (sb most : Nat) (m : Nat → Int) (n : Nat) : Prop where
  h : ∃ st vi, FAt w1 wr fb pc sb most n st m vi ∧ Sofar (kdAt m pc) (many pc) most n st ∧ lenP (kdAt m pc) (many pc) most (most - n) n st = lenR (kdAt m pc) (many pc) most
set_option maxRecDepth 100000 in
set_option maxHeartbeats 8000000 in
theorem form_loop (E : Er ps pa pf w) (T : K.Tb pk pb w) (R : RamIs w sb bp bw bh N m wt ht) (pc : Int) (h0 : 0 ≤ pc) (h1 : pc < 16384) (h4 : pc % 4 = 0) (most : Nat) (m0 : 1 ≤ most) (m1 : most ≤ 24) (hN : w.cell? ⟨0, 0, none⟩ = some (.iface 192 (.pointer (some pn)))) :
    Calls Tryd.prog 22 #[.pointer (some ⟨sb, 0, none⟩), .int .u32 pc, .int .i64 most] w fun e w' => Below w.heap.size w w' ∧
      ((lenR (kdAt m pc) (many pc) most = 0 ∧ e = .returned (.tuple #[reg0, .iface 192 (.pointer (some pn))])) ∨
       (1 ≤ lenR (kdAt m pc) (many pc) most ∧ ∃ v vi vp, e = .returned (.tuple #[v, .nilIface]) ∧ RegAt w.heap.size w' v pc m (lenR (kdAt m pc) (many pc) most) vi vp)) := by
  have hb : Below w.heap.size w (w.alloc (.cells #[.int .u32 0, .slice none 0 0, .slice none 0 0] 51)) := (Below.refl _ _).alloc (Nat.le_refl _) _
  have hck := fun W => check_good (w := W) sb pc most h0 h1 h4 (by omega) (by omega)
  have G : Hid (Gd ps pa pf pk pb (w.alloc (.cells #[.int .u32 0, .slice none 0 0, .slice none 0 0] 51)) sb bp bw bh N m wt ht pc most) := ⟨E.stays2 hb, T.stays hb (Nat.le_refl _), R.stays hb (Nat.le_refl _), h0, h1, h4, m1⟩
  have Z : Hid (RZ (w.alloc (.cells #[.int .u32 0, .slice none 0 0, .slice none 0 0] 51)) w.heap.size) := RZ.alloc w
  have hN1 : Hid ((w.alloc (.cells #[.int .u32 0, .slice none 0 0, .slice none 0 0] 51)).cell? ⟨0, 0, none⟩ = some (.iface 192 (.pointer (some pn)))) := K.cell_stays hb (Nat.le_refl _) hN
  have hrb : w.heap.size < (w.alloc (.cells #[.int .u32 0, .slice none 0 0, .slice none 0 0] 51)).heap.size := by simp
  have hB : Hid (Below w.heap.size w (w.alloc (.cells #[.int .u32 0, .slice none 0 0, .slice none 0 0] 51))) := hb
  have hzz : 0 < w.heap.size := World.block_lt_of_cell? _ _ hN
  clear E T R hN hb
  go_enter Tryd.func22, Tryd.ntmps22
  go_wp2_with fail
  refine (hck _).mono ?_
  rintro e wk ⟨rfl, hwk⟩
  rw [hwk]; clear hwk wk hck
  generalize w.alloc (.cells #[.int .u32 0, .slice none 0 0, .slice none 0 0] 51) = w1 at *
  have F0 : Hid _ := FAt.start (w1 := w1) (pc := pc) (sb := sb) (most := most) m
  go_wp2
  generalize w1.alloc (.cells #[.int .u32 pc, .slice none 0 0, .slice none 0 0, .pointer (some ⟨sb, 0, none⟩), .int .i64 most, .int .i64 0] 97) = w2 at *
  have hrb1 : Hid (w.heap.size < w1.heap.size) := hrb
  have hbw1 : Hid (∀ W, Below w1.heap.size w1 W → Below w.heap.size w W) := fun W h => hB.out.trans (h.mono hB.out.size)
  generalize hfbe : w1.heap.size = fb at F0 hrb ⊢
  have hfb : fb ≤ w2.heap.size := Nat.le_of_lt F0.out.lt
  go_loopw [] (fun wr => ∃ n, FR w1 wr fb pc sb most m n) (fun wr => mLen fb wr)
  case atStart => exact ⟨0, ⟨0, _, F0.out, Sofar.start _ _ _, rfl⟩⟩
  case round =>
    clear F0
    obtain ⟨n, st, vi, F, S, hL⟩ := hrel
    have hgo := goOn_any G.out F S
    rw [hL] at hgo
    have hmn := F.mlen
    have hroom := S.room
    have SH : Hid _ := S
    have hLH : Hid _ := hL
    clear F S hL
    go_wp2_with fail
    refine hgo.mono ?_
    rintro e w3 (⟨rfl, hl, h2, vi', F'⟩ | ⟨rfl, st', vi', F'⟩)
    · have FR' : Hid (FR w1 w3 fb pc sb most m (n + 1)) := (⟨_, _, F', SH.out.next hl h2, (lenP_one hl h2).symm.trans hLH.out⟩ : FR w1 w3 fb pc sb most m (n + 1))
      have hm3 := F'.mlen
      clear F' hgo hl h2
      go_wp2
      go_roundw
      case rel => exact ⟨_, FR'.out⟩
      case measure => omega
    · obtain ⟨L, hLe⟩ : ∃ L, L = lenR (kdAt m pc) (many pc) most := ⟨_, rfl⟩
      have hreg := lenR_reg (kdAt m pc) (many pc) most
      rw [← hLe] at F' hreg
      have hL24 : L ≤ 24 := by have := hreg.room; omega
      have hLL : Hid (L = lenR (kdAt m pc) (many pc) most) := hLe
      have FH : Hid _ := F'
      have hB3 : Hid (Below w.heap.size w w3) := hB.out.trans (F'.be.mono hB.out.size)
      have Z3 : Hid (RZ w3 w.heap.size) := Z.out.stays F'.be hrb1.out
      have c1 := F'.c1
      obtain ⟨p, c, rfl⟩ := F'.len
      clear F' hgo hLe hreg SH hLH
      have hN3 : w3.cell? ⟨0, 0, none⟩ = some (.iface 192 (.pointer (some pn))) := K.cell_stays FH.out.be (Nat.le_refl _) hN1.out
      have hz0 : 0 < w.heap.size := hzz
      have hne : w.heap.size ≠ 0 := by omega
      obtain ⟨r0, r1, r2, rf⟩ := Z3.out
      have rf0 := rf 0
      have rf1 := rf 1
      have rf2 := rf 2
      by_cases hz : L = 0
      · subst hz
        clear FH Z G
        go_wp2_with fail
        go_region
        all_goals
          go_wp2
          exact bodyPost_ret (results_cell1 Tryd.results22 _ _ _ (A := ⟨w.heap.size, 0, none⟩) rfl (put3_load Z3.out).2) rfl ⟨(below_put3 hB3.out (Nat.le_refl _)).drew, Or.inl ⟨hLL.out.symm, rfl⟩⟩
      · have hLz : ((L : Int) == 0) = false := by simp; omega
        have hL1 : 1 ≤ L := by omega
        have hpg := pagesOf_any (w := w3) pc h0 h1 p L c none 0 0 hL1 hL24
        obtain ⟨k, hk⟩ : ∃ k, cntP pc L = k + 1 := ⟨cntP pc L - 1, by unfold cntP; omega⟩
        rw [hk] at hpg
        have c0 := FH.out.c0
        have c2 := FH.out.c2
        have f2 := FH.out.fz 2
        clear Z G hz
        go_wp2_with fail
        refine hpg.mono ?_
        rintro e w4 ⟨vp, rfl, hrow, hb4⟩
        obtain ⟨g', cap', rfl⟩ := owns_pos hrow
        have F4 := FH.out.stays hb4
        have hf1 := F4.c1
        have hf0 := F4.c0
        have hf2 := F4.c2
        have hz2 := F4.fz 2
        clear hpg c0 c2 f2 r0 r1 r2 rf rf0 rf1 rf2 hN3
        have Z4 := Z3.out.stays hb4 (by have := FH.out.lt; omega)
        obtain ⟨r0, r1, r2, rf⟩ := Z4
        have rf0 := rf 0
        have rf1 := rf 1
        have rf2 := rf 2
        have hne2 : fb ≠ w.heap.size := by omega
        have hne3 : w.heap.size ≠ fb := by omega
        have ZS : Hid (RZ (w4.setCell ⟨fb, 2, none⟩ (.slice (some ⟨g', 0, none⟩) (k + 1) cap')) w.heap.size) := RZ.set ⟨r0, r1, r2, rf⟩ hne3
        have hfw3 : fb < w3.heap.size := FH.out.lt
        have hrp : Hid (∀ i, i ≠ fb → i ≠ w.heap.size → (put3 (w4.setCell ⟨fb, 2, none⟩ (.slice (some ⟨g', 0, none⟩) (k + 1) cap')) w.heap.size (.int .u32 pc) (.slice p L c) (.slice (some ⟨g', 0, none⟩) (k + 1) cap')).heap[i]? = w4.heap[i]?) := fun i h1 h2 => (put3_heap i h2).trans (Below.heap_setCell _ _ _ i h1)
        have hBF : Hid (Below w.heap.size w (put3 (w4.setCell ⟨fb, 2, none⟩ (.slice (some ⟨g', 0, none⟩) (k + 1) cap')) w.heap.size (.int .u32 pc) (.slice p L c) (.slice (some ⟨g', 0, none⟩) (k + 1) cap'))) :=
          below_put3 ((hB3.out.trans (hb4.mono hB3.out.size)).setCell (show w.heap.size ≤ fb by omega) _) (Nat.le_refl _)
        have hri : Hid (w4.ownsRow w1.heap.size 65 5 (.slice p L c) L (insL m pc L) ∧ ∀ i, (Value.slice p L c).ownBlock = some i → i ≠ fb ∧ i ≠ w.heap.size) := ⟨F4.row, fun i e => ⟨F4.vb i e, by have := (owns_lt F4.row i e).1; have := hrb1.out; omega⟩⟩
        have hrpg : Hid (w4.ownsRow w3.heap.size 3 1 (.slice (some ⟨g', 0, none⟩) (k + 1) cap') (k + 1) (pgV (pc / 256) (k + 1))) := hrow
        have hbase : w.heap.size ≤ w3.heap.size := hB3.out.size
        have hw1 : w.heap.size ≤ w1.heap.size := by have := hrb1.out; omega
        clear hb4 hrow F4 FH
        go_wp2
        refine bodyPost_ret (results_cell1 Tryd.results22 _ _ _ (A := ⟨w.heap.size, 0, none⟩) rfl (put3_load ZS.out).1) rfl ⟨hBF.out, Or.inr ⟨by rw [← hLL.out]; exact hL1, .agg #[.int .u32 pc, .slice p L c, .slice (some ⟨g', 0, none⟩) (k + 1) cap'], .slice p L c, .slice (some ⟨g', 0, none⟩) (k + 1) cap', rfl, ?_⟩⟩
        rw [← hLL.out]
        refine ⟨rfl, owns_base (owns_blocks hri.out.1 (fun i e => hrp.out i (hri.out.2 i e).1 (hri.out.2 i e).2)) hw1, ?_⟩
        rw [hk]
        exact owns_base (owns_blocks hrpg.out (fun i e => hrp.out i (by have := (owns_lt hrpg.out i e).1; omega) (by have := (owns_lt hrpg.out i e).1; omega))) hbase
end
end Go.Proofs.YtckcbnfobjmhpaaDoor
/-
  Instructions that are the same.
-/
namespace Go.Proofs.YtckcbnfobjmhpaaDoor
open Go.RowKit Go.Maps
open Num
set_option linter.unusedVariables false
/-- instructions from a place of memory on lie in a block -/
def InsAt (w : World) (g o : Nat) (f : Nat → Int) (n : Nat) : Prop := ∀ i q, i < n → q < 5 → w.cell? ⟨g, o + i * 5 + q, none⟩ = (insC (f i))[q]?
theorem InsAt.stays {w w' : World} {g o n : Nat} {f : Nat → Int} (h : InsAt w g o f n) (hn : 0 < n) (hb : Below w.heap.size w w') : InsAt w' g o f n := fun i q hi hq => by
  have h0 := h i q hi hq
  have : ∃ u, (insC (f i))[q]? = some u := ⟨_, List.getElem?_eq_getElem (by simpa [insC] using hq)⟩
  obtain ⟨u, hu⟩ := this
  rw [hu] at h0 ⊢
  exact K.cell_stays hb (Nat.le_refl _) h0
theorem InsAt.drewN {w : World} {g o n : Nat} {f : Nat → Int} (h : InsAt w g o f n) (k : Nat) : InsAt (w.drewN k) g o f n := h
theorem InsAt.of_row {w : World} {base g : Nat} {pc : Int} {m : Nat → Int} {n c : Nat} (h : w.ownsRow base 65 5 (.slice (some ⟨g, 0, none⟩) n c) n (insL m pc n)) : InsAt w g 0 (wAt m pc) n := fun i q hi hq => by
  have : ∃ u, (insC (wAt m pc i))[q]? = some u := ⟨_, List.getElem?_eq_getElem (by simpa [insC] using hq)⟩
  obtain ⟨u, hu⟩ := this
  have h1 := h.cells (g := g) rfl (i * 5 + q) u (by rw [insL_get m pc n i q hi hq]; exact hu)
  rw [add_lit] at h1
  rw [hu, Nat.zero_add]; exact h1
theorem InsAt.part {w : World} {g o n : Nat} {f : Nat → Int} (h : InsAt w g o f n) (a k : Nat) (hk : a + k ≤ n) : InsAt w g (o + a * 5) (fun i => f (a + i)) k := fun i q hi hq => by
  have := h (a + i) q (by omega) hq
  rw [← this]; congr 2; rw [Nat.add_mul]; omega
set_option maxRecDepth 100000 in
set_option maxHeartbeats 4000000 in
theorem sameIns_eq (w : World) (ga oa gb ob n ca cb : Nat) (f : Nat → Int) (hn : n ≤ 10000) (ha : InsAt w ga oa f n) (hb : InsAt w gb ob f n) :
    Calls Tryd.prog 27 #[.slice (some ⟨ga, oa, none⟩) n ca, .slice (some ⟨gb, ob, none⟩) n cb] w fun e w' => e = .returned (.bool true) ∧ ∃ k, w' = w.drewN k := by
  have hn' : (n : Int) ≤ 10000 := by omega
  go_enter Tryd.func27, Tryd.ntmps27
  go_wp2
  go_loopw [5] (fun i wr => ∃ j q : Nat, j ≤ n ∧ i = .int .i64 j ∧ wr = w.drewN q) (fun i _ => n - (intOf i).toNat)
  case atStart => exact ⟨0, 0, Nat.zero_le _, rfl, rfl⟩
  case round =>
    obtain ⟨j, q, hj, rfl, rfl⟩ := hrel
    by_cases hlt : j < n
    · have a0 := ha j 0 hlt (by omega)
      have a1 := ha j 1 hlt (by omega)
      have a2 := ha j 2 hlt (by omega)
      have a3 := ha j 3 hlt (by omega)
      have a4 := ha j 4 hlt (by omega)
      have b0 := hb j 0 hlt (by omega)
      have b1 := hb j 1 hlt (by omega)
      have b2 := hb j 2 hlt (by omega)
      have b3 := hb j 3 hlt (by omega)
      have b4 := hb j 4 hlt (by omega)
      have hlt' : (j : Int) < n := by omega
      clear ha hb
      simp only [insC, List.getElem?_cons_zero, List.getElem?_cons_succ, Nat.add_zero] at a0 a1 a2 a3 a4 b0 b1 b2 b3 b4
      generalize Tab.xs (Tab.sh (decK (f j))) (f j) = i1 at *
      generalize Tab.xt (Tab.sh (decK (f j))) (f j) = i2 at *
      generalize Tab.xd (Tab.sh (decK (f j))) (f j) = i3 at *
      generalize Tab.xm (Tab.sh (decK (f j))) (f j) = i4 at *
      generalize decK (f j) = i0 at *
      go_wp2_with fail
      go_quiet (fail)
      go_wp2
      go_roundw
      case rel => exact ⟨j + 1, q + nq, by omega, by go_num, by simp⟩
      case measure => simp [intOf]; omega
    · clear ha hb
      go_wp2
      go_ret
      exact ⟨rfl, q, rfl⟩
theorem sameIns_nil (w : World) (pa pb : Option Addr) (ca cb : Nat) :
    Calls Tryd.prog 27 #[.slice pa 0 ca, .slice pb 0 cb] w fun e w' => e = .returned (.bool true) ∧ w' = w := by
  go_enter Tryd.func27, Tryd.ntmps27
  go_wp2
  go_loopw [5] (fun i wr => i = .int .i64 0 ∧ wr = w) (fun _ _ => 0)
  case atStart => exact ⟨rfl, rfl⟩
  case round =>
    obtain ⟨rfl, rfl⟩ := hrel
    go_wp2
    go_ret
    exact ⟨rfl, rfl⟩
end Go.Proofs.YtckcbnfobjmhpaaDoor
/-
  Form, whatever it is asked of; the closed fact; an instruction's word again.
-/
namespace Go.Proofs.YtckcbnfobjmhpaaDoor
open Go.RowKit Go.Maps
open Num
set_option linter.unusedVariables false
theorem owns_cap {w : World} {base : Nat} {e : TypeId} {size n g cap : Nat} {xs : List Value} (h : w.ownsRow base e size (.slice (some ⟨g, 0, none⟩) n cap) n xs) : n ≤ cap := by
  rcases h.2 with ⟨h, _⟩ | ⟨g', cap', cur, h1, _, _, h2, _⟩
  · cases h
  · injection h1 with _ _ h3; omega
/-- which error Form has -/
def fE (m : Nat → Int) (pc most : Int) : Nat := if fchk pc most ≠ 0 then fchk pc most else if lenR (kdAt m pc) (many pc) most.toNat = 0 then 5 else 0
theorem fchk_ok {pc most : Int} (h : fchk pc most = 0) : 1 ≤ most ∧ most ≤ 24 ∧ pc % 4 = 0 ∧ pc < 16384 := by
  unfold fchk at h
  split at h
  · cases h
  · split at h
    · cases h
    · split at h
      · cases h
      · rename_i a b c; exact ⟨by omega, by omega, by omega, by omega⟩
/-- the program's variables, as it lays them -/
structure Vs (ps pa pf pk pb pn : Addr) (w : World) : Prop where
  E : Er ps pa pf w
  T : K.Tb pk pb w
  n : w.cell? ⟨0, 0, none⟩ = some (.iface 192 (.pointer (some pn)))
theorem Vs.stays {ps pa pf pk pb pn : Addr} {w w' : World} (h : Vs ps pa pf pk pb pn w) (hb : Below w.heap.size w w') : Vs ps pa pf pk pb pn w' :=
  ⟨h.E.stays2 hb, h.T.stays hb (Nat.le_refl _), K.cell_stays hb (Nat.le_refl _) h.n⟩
section
variable {w : World} {sb bp bw bh N : Nat} {m : Nat → Int} {wt ht : Int → Bool} {ps pa pf pk pb pn : Addr}
/-- a region as a value: its instructions lie in g, its pages in h -/
structure RegV (w : World) (pc : Int) (m : Nat → Int) (L g c h k c2 : Nat) : Prop where
  ins : InsAt w g 0 (wAt m pc) L
  pos : 1 ≤ L
  cnt : cntP pc L = k
  pgs : ∀ i, i < k → w.cell? ⟨h, i, none⟩ = some (.int .i64 (pc / 256 + i))
  kp : 1 ≤ k
  lc : L ≤ c
  kc : k ≤ c2
theorem RegV.stays {pc : Int} {L g c h k c2 : Nat} {w' : World} (r : RegV w pc m L g c h k c2) (hb : Below w.heap.size w w') : RegV w' pc m L g c h k c2 :=
  ⟨r.ins.stays r.pos hb, r.pos, r.cnt, fun i hi => K.cell_stays hb (Nat.le_refl _) (r.pgs i hi), r.kp, r.lc, r.kc⟩
theorem pgV_get (a : Int) (k i : Nat) (h : i < k) : (pgV a k)[i]? = some (.int .i64 (a + i)) := by simp [pgV, List.getElem?_map, List.getElem?_range h]
theorem form_any (V : Vs ps pa pf pk pb pn w) (R : RamIs w sb bp bw bh N m wt ht) (pc most : Int) (h0 : 0 ≤ pc) (h1 : pc < 4294967296) :
    Calls Tryd.prog 22 #[.pointer (some ⟨sb, 0, none⟩), .int .u32 pc, .int .i64 most] w fun e w' => Below w.heap.size w w' ∧
      ((fE m pc most ≠ 0 ∧ e = .returned (.tuple #[reg0, .iface 192 (.pointer (some (ferr ps pb pa pf pn (fE m pc most))))])) ∨
       (fE m pc most = 0 ∧ ∃ g c h k c2, e = .returned (.tuple #[.agg #[.int .u32 pc, .slice (some ⟨g, 0, none⟩) (lenR (kdAt m pc) (many pc) most.toNat) c, .slice (some ⟨h, 0, none⟩) k c2], .nilIface]) ∧ RegV w' pc m (lenR (kdAt m pc) (many pc) most.toNat) g c h k c2)) := by
  by_cases hc : fchk pc most = 0
  · obtain ⟨m0, m1, p4, p1⟩ := fchk_ok hc
    have hcast : ((most.toNat : Nat) : Int) = most := by omega
    have hf := form_loop (pn := pn) V.E V.T R pc h0 p1 p4 most.toNat (by omega) (by omega) V.n
    rw [hcast] at hf
    refine hf.mono ?_
    rintro e w' ⟨hb, ⟨hl, rfl⟩ | ⟨hl, v, vi, vp, rfl, RA⟩⟩
    · have hE : fE m pc most = 5 := by unfold fE; rw [if_neg (by simp [hc]), if_pos hl]
      exact ⟨hb, Or.inl ⟨by omega, by rw [hE]; rfl⟩⟩
    · have hE : fE m pc most = 0 := by unfold fE; rw [if_neg (by simp [hc]), if_neg (by omega)]
      refine ⟨hb, Or.inr ⟨hE, ?_⟩⟩
      obtain ⟨he, hri, hrp⟩ := RA
      generalize hL : lenR (kdAt m pc) (many pc) most.toNat = L at *
      obtain ⟨L', rfl⟩ : ∃ L', L = L' + 1 := ⟨L - 1, by omega⟩
      obtain ⟨k', hk⟩ : ∃ k', cntP pc (L' + 1) = k' + 1 := ⟨cntP pc (L' + 1) - 1, by unfold cntP; omega⟩
      rw [hk] at hrp
      obtain ⟨g, c, rfl⟩ := owns_pos hri
      obtain ⟨h, c2, rfl⟩ := owns_pos hrp
      subst he
      refine ⟨g, c, h, k' + 1, c2, rfl, InsAt.of_row hri, by omega, hk, fun i hi => ?_, by omega, owns_cap hri, owns_cap hrp⟩
      have h2 := hrp.cells (g := h) rfl i _ (pgV_get (pc / 256) (k' + 1) i hi)
      rw [add_lit] at h2; exact h2
  · have hE : fE m pc most = fchk pc most := by unfold fE; rw [if_pos hc]
    refine (form_bad (pn := pn) V.E V.T pc most h0 h1 hc).mono ?_
    rintro e w' ⟨rfl, hb⟩
    exact ⟨hb, Or.inl ⟨by rw [hE]; exact hc, by rw [hE]⟩⟩
theorem dec_pos {v : Int} (h : knd v ≠ 3) : 1 ≤ decK v := by
  rcases Nat.eq_zero_or_pos (decK v) with e | e
  · unfold knd at h; rw [e] at h; exact absurd rfl h
  · exact e
theorem decK_xw {v : Int} (h : 1 ≤ decK v) : Tab.xw (decK v) v = v := by
  unfold decK at h ⊢
  cases hf : (List.range 54).find? (fun k => decide (1 ≤ k ∧ Tab.xw k v = v)) with
  | none => rw [hf] at h; simp at h
  | some j =>
    have hj := List.find?_some hf
    simp only [decide_eq_true_eq] at hj
    exact hj.2
theorem encode_v (T : K.Tb pk pb w) (v : Int) (h0 : 0 ≤ v) (h1 : v < 4294967296) (hk : knd v ≠ 3) : Calls Tryd.prog 32 #[insV v] w fun e w' => e = .returned (.tuple #[.int .u32 v, .nilIface]) ∧ Below w.heap.size w w' := by
  have hk1 := dec_pos hk
  have hk2 := decK_lt v
  obtain ⟨⟨a0, a1⟩, ⟨b0, b1⟩, ⟨c0, c1⟩, d0, d1⟩ := K.x_rng (Tab.sh (decK v)) v h0 h1
  have h := K.encode_any pk pb (decK v) hk1 hk2 (Tab.xs (Tab.sh (decK v)) v) (Tab.xt (Tab.sh (decK v)) v) (Tab.xd (Tab.sh (decK v)) v) (Tab.xm (Tab.sh (decK v)) v) d0 (by omega) (by omega) (by omega) (by omega) (by omega) (by omega) (by omega) w T
  rw [K.encR_ok (Tab.ok_of (Tab.sh (decK v)) (Tab.sh_all _ hk2) v h0 h1).1] at h
  have hx : Tab.enc (decK v) (Tab.xs (Tab.sh (decK v)) v) (Tab.xt (Tab.sh (decK v)) v) (Tab.xd (Tab.sh (decK v)) v) (Tab.xm (Tab.sh (decK v)) v) = v := decK_xw hk1
  rw [hx] at h
  exact h
theorem formed_len : lenR (kdAt (mw [604045319, 12]) 0) (many 0) (5 : Int).toNat = 1 := by decide +kernel
theorem formed_fE : fE (mw [604045319, 12]) 0 5 = 0 := by decide +kernel
set_option maxRecDepth 100000 in
set_option maxHeartbeats 4000000 in
theorem formed_any (V : Vs ps pa pf pk pb pn w) : Calls Tryd.prog 21 #[] w fun e w' => e = .returned (.bool true) ∧ Below w.heap.size w w' := by
  have bA : Below w.heap.size w (w.alloc (.cells #[.int .u32 604045319, .int .u32 12] 23)) := (Below.refl _ _).alloc (Nat.le_refl _) _
  have X : WordsIn (w.alloc (.cells #[.int .u32 604045319, .int .u32 12] 23)) (.slice (some ⟨w.heap.size, 0, none⟩) 2 2) [604045319, 12] := by
    refine ⟨⟨_, 2, rfl, by simp, fun _ => ⟨w.heap.size, 0, rfl, fun i hi => ?_⟩⟩, mw_wf _ (by simp)⟩
    have : i = 0 ∨ i = 1 := by simp at hi; omega
    rcases this with rfl | rfl <;> simp
  have hnw := new_ex X (by decide)
  have VH : Hid (Vs ps pa pf pk pb pn w) := V
  have BH : Hid (Below w.heap.size w (w.alloc (.cells #[.int .u32 604045319, .int .u32 12] 23))) := bA
  clear V bA X
  go_enter Tryd.func21, Tryd.ntmps21
  go_wp2_with fail
  refine hnw.mono ?_
  rintro e w1 ⟨sb, bp, bw, bh, rfl, R, hb, l1, l2⟩
  clear hnw
  have B1 : Hid (Below w.heap.size w w1) := BH.out.trans (hb.mono BH.out.size)
  have hf := form_any (VH.out.stays B1.out) R 0 5 (by omega) (by omega)
  rw [formed_fE, formed_len] at hf
  clear R hb
  go_wp2_with fail
  refine hf.mono ?_
  rintro e w2 ⟨hb2, ⟨h, _⟩ | ⟨_, g, c, h, k, c2, rfl, RV⟩⟩
  · exact absurd rfl h
  clear hf
  have B2 : Hid (Below w.heap.size w w2) := B1.out.trans (hb2.mono B1.out.size)
  clear hb2
  have hle := fun W => len_any (w := W) 0 (some ⟨g, 0, none⟩) 1 c (some ⟨h, 0, none⟩) k c2 (by omega)
  have hen := fun W => ends_few (w := W) 0 (some ⟨g, 0, none⟩) 1 c (some ⟨h, 0, none⟩) k c2 (by omega)
  clear RV
  go_wp2_with fail
  refine (hle _).mono ?_
  rintro e w3 ⟨rfl, hb3⟩
  have hA : Below w2.heap.size w2 (w2.alloc (.cells #[.int .u32 0, .slice (some ⟨g, 0, none⟩) 1 c, .slice (some ⟨h, 0, none⟩) k c2] 51)) := (Below.refl _ _).alloc (Nat.le_refl _) _
  have hB3 : Below w2.heap.size w2 w3 := hA.trans (hb3.mono hA.size)
  have q0 : w3.cell? ⟨w2.heap.size, 0, none⟩ = some (.int .u32 0) := by rw [hb3.cell (by simp)]; simp
  have q1 : w3.cell? ⟨w2.heap.size, 1, none⟩ = some (.slice (some ⟨g, 0, none⟩) 1 c) := by rw [hb3.cell (by simp)]; simp
  have q2 : w3.cell? ⟨w2.heap.size, 2, none⟩ = some (.slice (some ⟨h, 0, none⟩) k c2) := by rw [hb3.cell (by simp)]; simp
  have B3 : Hid (Below w.heap.size w w3) := B2.out.trans (hB3.mono B2.out.size)
  clear hA hB3 hb3 hle
  go_wp2_with fail
  refine (hen _).mono ?_
  rintro e w4 ⟨rfl, hb4⟩
  go_wp2
  go_ret
  exact ⟨rfl, B3.out.trans (hb4.mono B3.out.size)⟩
end
end Go.Proofs.YtckcbnfobjmhpaaDoor
