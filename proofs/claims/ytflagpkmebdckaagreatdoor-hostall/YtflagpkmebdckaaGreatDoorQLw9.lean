/-
  How a region ends; what it leaves for.
-/
import Derived.Deep.RegionWith
import Derived.Test.YtflagpkmebdckaaGreatDoorQLw8
import Derived.Test.YtflagpkmebdckaaGreatDoorKLw7
namespace Go.Proofs.YtflagpkmebdckaaGreatDoor.Low
open Go.RowKit Go.Maps
open Num
set_option linter.unusedVariables false
section
variable {w : World}
set_option maxHeartbeats 1000000 in
theorem lenR_any (pc : Int) (p : Option Addr) (n c : Nat) (q : Option Addr) (l2 c2 : Nat) (hn : n ≤ 10000) : Calls Tryz.prog 112 #[.agg #[.int .u32 pc, .slice p n c, .slice q l2 c2]] w fun e w' => e = .returned (.int .i64 (4 * n)) ∧ Below w.heap.size w w' := by
  have hn' : (n : Int) ≤ 10000 := by omega
  go_enter Tryz.func112, Tryz.ntmps112
  go_wp2
  go_ret
  exact ⟨rfl, (Below.refl _ _).alloc (Nat.le_refl _) _⟩
set_option maxHeartbeats 4000000 in
theorem endsR_few (pc : Int) (p : Option Addr) (n c : Nat) (q : Option Addr) (l2 c2 : Nat) (hn : n < 2) : Calls Tryz.prog 113 #[.agg #[.int .u32 pc, .slice p n c, .slice q l2 c2]] w fun e w' => e = .returned (.string ⟨#[111, 110]⟩) ∧ Below w.heap.size w w' := by
  have hn' : decide (2 ≤ (n : Int)) = false := by simp; omega
  go_enter Tryz.func113, Tryz.ntmps113
  go_wp2
  go_ret
  exact ⟨rfl, (Below.refl _ _).alloc (Nat.le_refl _) _⟩
set_option maxRecDepth 100000 in
set_option maxHeartbeats 4000000 in
theorem endsR_in (pc : Int) (b off n c : Nat) (q : Option Addr) (l2 c2 : Nat) (hn : 2 ≤ n) (hn1 : n ≤ 24) (x : Ix) (hc : w.cell? ⟨b, off + (n - 2) * 5, none⟩ = some (.int .i64 x.k)) : Calls Tryz.prog 113 #[.agg #[.int .u32 pc, .slice (some ⟨b, off, none⟩) n c, .slice q l2 c2]] w fun e w' => (x.kd = 2 → e = .returned (.string ⟨#[98, 114, 97, 110, 99, 104]⟩)) ∧ (x.kd ≠ 2 → e = .returned (.string ⟨#[111, 110]⟩)) ∧ Below w.heap.size w w' := by
  have hn' : decide (2 ≤ (n : Int)) = true := by simp; omega
  have hgl : b < w.heap.size := World.block_lt_of_cell? _ _ hc
  have hc' : (w.alloc (.cells #[.int .u32 pc, .slice (some ⟨b, off, none⟩) n c, .slice q l2 c2] 59)).cell? ⟨b, off + (n - 2) * 5, none⟩ = some (.int .i64 x.k) := by
    rw [World.cell?_alloc_lt _ _ _ hgl]; exact hc
  have hki := fun W => kdI x W
  have hkk := kd_le x
  generalize Ix.kd x = kd at *
  generalize Ix.k x = k at *
  have e1 : (n : Int) - 2 = ((n - 2 : Nat) : Int) := by omega
  have hlt : ((n - 2 : Nat) : Int) < n := by omega
  rcases hkk with rfl | rfl | rfl | rfl | rfl | rfl
  · rw [show Tab.kwL.getD 0 [] = [] from rfl] at hki
    go_enter Tryz.func113, Tryz.ntmps113
    go_wp2_with fail
    refine (hki _).mono ?_
    rintro e wk ⟨rfl, hwk⟩
    rw [hwk]; clear hwk wk hki
    go_wp2
    go_ret
    exact ⟨fun h => absurd h (by decide), fun _ => rfl, (Below.refl _ _).alloc (Nat.le_refl _) _⟩
  · rw [show Tab.kwL.getD 1 [] = [115, 117, 109] from rfl] at hki
    go_enter Tryz.func113, Tryz.ntmps113
    go_wp2_with fail
    refine (hki _).mono ?_
    rintro e wk ⟨rfl, hwk⟩
    rw [hwk]; clear hwk wk hki
    go_wp2
    go_ret
    exact ⟨fun h => absurd h (by decide), fun _ => rfl, (Below.refl _ _).alloc (Nat.le_refl _) _⟩
  · rw [show Tab.kwL.getD 2 [] = [98, 114, 97, 110, 99, 104] from rfl] at hki
    go_enter Tryz.func113, Tryz.ntmps113
    go_wp2_with fail
    refine (hki _).mono ?_
    rintro e wk ⟨rfl, hwk⟩
    rw [hwk]; clear hwk wk hki
    go_wp2
    go_ret
    exact ⟨fun _ => rfl, fun h => absurd rfl h, (Below.refl _ _).alloc (Nat.le_refl _) _⟩
  · rw [show Tab.kwL.getD 3 [] = [116, 114, 97, 112] from rfl] at hki
    go_enter Tryz.func113, Tryz.ntmps113
    go_wp2_with fail
    refine (hki _).mono ?_
    rintro e wk ⟨rfl, hwk⟩
    rw [hwk]; clear hwk wk hki
    go_wp2
    go_ret
    exact ⟨fun h => absurd h (by decide), fun _ => rfl, (Below.refl _ _).alloc (Nat.le_refl _) _⟩
  · rw [show Tab.kwL.getD 4 [] = [108, 111, 97, 100] from rfl] at hki
    go_enter Tryz.func113, Tryz.ntmps113
    go_wp2_with fail
    refine (hki _).mono ?_
    rintro e wk ⟨rfl, hwk⟩
    rw [hwk]; clear hwk wk hki
    go_wp2
    go_ret
    exact ⟨fun h => absurd h (by decide), fun _ => rfl, (Below.refl _ _).alloc (Nat.le_refl _) _⟩
  · rw [show Tab.kwL.getD 5 [] = [115, 116, 111, 114, 101] from rfl] at hki
    go_enter Tryz.func113, Tryz.ntmps113
    go_wp2_with fail
    refine (hki _).mono ?_
    rintro e wk ⟨rfl, hwk⟩
    rw [hwk]; clear hwk wk hki
    go_wp2
    go_ret
    exact ⟨fun h => absurd h (by decide), fun _ => rfl, (Below.refl _ _).alloc (Nat.le_refl _) _⟩
end
/-- a code on its way, and its region in a box -/
structure LR (w0 w W : World) (lb rb : Nat) (pc many at_ : Int) (l : List Opx) (v0 v : Value) (c0 c1 c2 : Value) : Prop where
  f : LAt w0 W lb pc many at_ l v
  kp : LKept w W lb v0 v
  c0 : W.cell? ⟨rb, 0, none⟩ = some c0
  c1 : W.cell? ⟨rb, 1, none⟩ = some c1
  c2 : W.cell? ⟨rb, 2, none⟩ = some c2
  n1 : rb ≠ lb
  n2 : v.ownBlock ≠ some rb
section
variable {w0 w W : World} {lb rb : Nat} {pc many at_ : Int} {l l' : List Opx} {v0 v : Value} {u0 u1 u2 : Value}
theorem LR.pure (B : LR w0 w W lb rb pc many at_ l v0 v u0 u1 u2) {W' : World} (h : Below W.heap.size W W') : LR w0 w W' lb rb pc many at_ l v0 v u0 u1 u2 :=
  ⟨B.f.stays h, B.kp.behind h, K.cell_stays h (Nat.le_refl _) B.c0, K.cell_stays h (Nat.le_refl _) B.c1, K.cell_stays h (Nat.le_refl _) B.c2, B.n1, B.n2⟩
theorem LR.add (B : LR w0 w W lb rb pc many at_ l v0 v u0 u1 u2) {W' : World} {v' : Value} (F : LAt w0 W' lb pc many at_ l' v') (L : LKept W W' lb v v') : LR w0 w W' lb rb pc many at_ l' v0 v' u0 u1 u2 :=
  ⟨F, B.kp.trans L, L.cell B.c0 B.n1 B.n2, L.cell B.c1 B.n1 B.n2, L.cell B.c2 B.n1 B.n2, B.n1, (L.keep rb (World.block_lt_of_cell? _ _ B.c0) B.n1 B.n2).2⟩
theorem LR.done (B : LR w0 w W lb rb pc many at_ l v0 v u0 u1 u2) : LP w0 w lb pc many at_ l v0 (.returned (.tuple #[])) W := ⟨rfl, _, B.f, B.kp⟩
end
theorem LR.start {w0 w : World} {lb : Nat} {pc many at_ : Int} {l : List Opx} {v : Value} (F : LAt w0 w lb pc many at_ l v) (p : Int) (ao : Option Addr) (n c : Nat) (q : Option Addr) (l2 c2 : Nat) : LR w0 w (w.alloc (.cells #[.int .u32 p, .slice ao n c, .slice q l2 c2] 59)) lb w.heap.size pc many at_ l v v (.int .u32 p) (.slice ao n c) (.slice q l2 c2) :=
  have hA : Below w.heap.size w (w.alloc (.cells #[.int .u32 p, .slice ao n c, .slice q l2 c2] 59)) := (Below.refl _ _).alloc (Nat.le_refl _) _
  ⟨F.stays hA, LKept.ahead hA (LKept.refl _ _ _), by simp, by simp, by simp, F.lne, F.vlt⟩
section
variable {w0 w : World} {lb : Nat} {pc many at_ : Int} {l : List Opx} {v : Value}
set_option maxRecDepth 100000 in
set_option maxHeartbeats 8000000 in
theorem leave_any (F : LAt w0 w lb pc many at_ l v) (hn : l.length ≤ 900) (p0 : 0 ≤ pc) (p1 : pc < 4294967296) {rv : Value} {li : List Ix} (A : InsIn w0 rv li) (R : RegOk li) (ha : at_ = (li.length : Int) - 1) (q : Option Addr) (l2 c2 : Nat) :
    Calls Tryz.prog 59 #[.pointer (some ⟨lb, 0, none⟩), .agg #[.int .u32 pc, rv, .slice q l2 c2]] w (LP w0 w lb pc many at_ (l ++ leaveL pc li) v) := by
  have r0 := R.l0
  have r1 := R.l1
  obtain ⟨ao, cap, rfl, hcap, hh⟩ := A.sh
  obtain ⟨b, off, rfl, hcell⟩ := hh (by omega)
  have hli : li.length ≤ 24 := r1
  have hli' : (li.length : Int) ≤ 24 := by omega
  have B : Hid _ := LR.start F pc (some ⟨b, off, none⟩) li.length cap q l2 c2
  have hbe : ∀ (i : Nat) (o : Ix), li[i]? = some o → ∀ W, Below w0.heap.size w0 W → (W.cell? ⟨b, off + i * 5, none⟩ = some (.int .i64 o.k) ∧ W.cell? ⟨b, off + i * 5 + 1, none⟩ = some (.int .i64 o.s) ∧ W.cell? ⟨b, off + i * 5 + 2, none⟩ = some (.int .i64 o.t) ∧ W.cell? ⟨b, off + i * 5 + 3, none⟩ = some (.int .i64 o.d) ∧ W.cell? ⟨b, off + i * 5 + 4, none⟩ = some (.int .u32 o.m)) := fun i o hi W hB =>
    ix_cells (fun k u hk => K.cell_stays hB (Nat.le_refl _) (hcell i o hi k u hk))
  have HC : Hid _ := hbe
  have hLen := fun W => lenR_any (w := W) pc (some ⟨b, off, none⟩) li.length cap q l2 c2 (by omega)
  clear F hcell hh hbe
  have hbeh : Hid (IntKind.u32.wrap (pc + IntKind.u32.wrap (4 * (li.length : Int))) = lo (pc + 4 * li.length)) := by
    show _ = _
    show (pc + (4 * (li.length : Int)) % 4294967296) % 4294967296 = (pc + 4 * li.length) % 4294967296
    omega
  generalize hbh : lo (pc + 4 * (li.length : Int)) = be at *
  have hlb : leaveL pc li = match lastBr li with
    | some i => leaveB i (tgI i (lo (pc + 4 * ((li.length : Int) - 2)))) be at_
    | none => [opx 26 0 0 0 be at_] := by unfold leaveL; rw [hbh, ← ha]; cases lastBr li <;> rfl
  rw [hlb]
  clear hlb
  by_cases h2 : li.length < 2
  · have e : lastBr li = none := by unfold lastBr; rw [if_neg (by omega)]
    rw [e]
    clear e
    go_enter Tryz.func59, Tryz.ntmps59
    go_upto_region 1 with fail
    generalize hW : w.alloc (.cells #[.int .u32 pc, .slice (some ⟨b, off, none⟩) li.length cap, .slice q l2 c2] 59) = W at B ⊢
    generalize hib : w.heap.size = rb at B ⊢
    clear hW hib
    have c0 := B.out.c0; have c1 := B.out.c1; have c2' := B.out.c2
    refine wp_region_phase 7 [(0, 0), (1, 1), (2, 1), (3, 2), (4, 0), (5, 0), (6, 0)] (fun W => W.cell? ⟨rb, 0, none⟩ = some (.int .u32 pc) ∧ W.cell? ⟨rb, 1, none⟩ = some (.slice (some ⟨b, off, none⟩) li.length cap) ∧ W.cell? ⟨rb, 2, none⟩ = some (.slice q l2 c2)) (by kernel_rfl) (by kernel_rfl) (fun _ _ _ d _ h => by cases d <;> exact h) ⟨c0, c1, c2'⟩ ?_
    repeat (first | (refine wpPlanZ_free (by rfl) (by rfl) (fun W => by (go_simp; try with_reducible rfl)) (fun K hK => ?_); go_simp; refine hK _ ?_; clear hK K) | (refine wpPlanZ_quiet (by rfl) (by rfl) (fun W hW => by (obtain ⟨d0, d1, d2⟩ := hW; go_simp; try with_reducible rfl)) (fun K hK => ?_); go_simp; refine hK _ ?_; clear hK K))
    refine wpPlanZ_serial (by rfl) (by rfl) (fun K hK => ?_)
    go_simp
    refine (hLen _).mono ?_
    rintro e W1 ⟨rfl, hb⟩
    have B1 : Hid _ := (B.out.pure ((Below.refl _ _).drew)).pure hb
    clear c0 c1 c2' hb B
    have B : Hid _ := B1.out
    clear B1
    have c0 := B.out.c0; have c1 := B.out.c1; have c2' := B.out.c2
    refine hK _ _ (fun _ => ⟨c0, c1, c2'⟩) ?_
    clear hK K
    repeat (first | (refine wpPlanZ_free (by rfl) (by rfl) (fun W => by (go_simp; try with_reducible rfl)) (fun K hK => ?_); go_simp; refine hK _ ?_; clear hK K) | (refine wpPlanZ_quiet (by rfl) (by rfl) (fun W hW => by (obtain ⟨d0, d1, d2⟩ := hW; go_simp; try with_reducible rfl)) (fun K hK => ?_); go_simp; refine hK _ ?_; clear hK K))
    refine wpPlanZ_nil ?_
    go_wp2_with fail
    refine (endsR_few pc (some ⟨b, off, none⟩) li.length cap q l2 c2 h2).mono ?_
    rintro e W2 ⟨rfl, hb⟩
    have B2 : Hid _ := B.out.pure hb
    clear c0 c1 c2' hb B
    have B : Hid _ := B2.out
    clear B2
    have c0 := B.out.c0; have c1 := B.out.c1; have c2' := B.out.c2
    rw [hbeh.out]
    go_wp2_with fail
    refine (out_any B.out.f (by omega) be).mono ?_
    rintro e W3 ⟨rfl, v3, F3, L3⟩
    have B3 : Hid _ := B.out.add F3 L3
    clear c0 c1 c2' B F3 L3
    have B : Hid _ := B3.out
    clear B3
    have c0 := B.out.c0; have c1 := B.out.c1; have c2' := B.out.c2
    clear c0 c1 c2'
    go_wp2
    go_end0
    have := B.out.done
    exact this
  have hx : li[li.length - 2]? = some li[li.length - 2] := List.getElem?_eq_getElem (by omega)
  have hbx := A.bd li[li.length - 2] (List.getElem_mem (by omega))
  have hI := (insB_ok (R.ins _ _ hx)).1
  have e : lastBr li = if (li[li.length - 2]).kd = 2 then some li[li.length - 2] else none := by unfold lastBr; rw [if_pos (by omega), hx]
  rw [e]
  clear e
  have HX : Hid _ := HC.out _ _ hx
  clear HC hx
  generalize li[li.length - 2] = x at *
  by_cases hk : x.kd = 2
  · rw [if_pos hk]
    have hk8 := kd_2 x.n hI.k2 (by rw [← hI.kd]; exact hk)
    have hkk := hI.kk
    obtain ⟨k, s, t, d, m⟩ := x
    obtain ⟨n, rfl⟩ : ∃ n : Nat, k = n := ⟨k.toNat, hkk⟩
    have hm0 := hbx.m0
    have hm1 := hbx.m1
    simp only at hm0 hm1
    have hk8' : n = 31 ∨ n = 32 ∨ n = 33 ∨ n = 34 ∨ n = 7 ∨ n = 8 ∨ n = 29 ∨ n = 30 := by simpa [Ix.n] using hk8
    clear hk8 hbx hI hkk
    have hpc : Hid (IntKind.u32.wrap (pc + IntKind.u32.wrap (4 * IntKind.u32.wrap ((li.length : Int) - 2))) = lo (pc + 4 * ((li.length : Int) - 2))) := by
      show _ = _
      show (pc + (4 * (((li.length : Int) - 2) % 4294967296)) % 4294967296) % 4294967296 = (pc + 4 * ((li.length : Int) - 2)) % 4294967296
      omega
    have hT := fun W => targetC_any (w := W) n s t d m (lo (pc + 4 * ((li.length : Int) - 2))) hm0 hm1
    show Calls _ _ _ _ (LP w0 w lb pc many at_ (l ++ leaveB ⟨n, s, t, d, m⟩ (tgI ⟨n, s, t, d, m⟩ (lo (pc + 4 * ((li.length : Int) - 2)))) be at_) v)
    have HTG : Hid (tgI ⟨n, s, t, d, m⟩ ((pc + 4 * ((li.length - 2 : Nat) : Int)) % 4294967296) = tgI ⟨n, s, t, d, m⟩ (lo (pc + 4 * ((li.length : Int) - 2)))) := by
      show _ = _
      have e : ((li.length - 2 : Nat) : Int) = (li.length : Int) - 2 := by omega
      rw [e]; rfl
    generalize htg : tgI ⟨n, s, t, d, m⟩ (lo (pc + 4 * ((li.length : Int) - 2))) = tg at *
    have e1 : (li.length : Int) - 2 = ((li.length - 2 : Nat) : Int) := by omega
    have hlt : ((li.length - 2 : Nat) : Int) < li.length := by omega
    clear htg
    go_enter Tryz.func59, Tryz.ntmps59
    go_upto_region 1 with fail
    generalize hW : w.alloc (.cells #[.int .u32 pc, .slice (some ⟨b, off, none⟩) li.length cap, .slice q l2 c2] 59) = W at B ⊢
    generalize hib : w.heap.size = rb at B ⊢
    clear hW hib
    have c0 := B.out.c0; have c1 := B.out.c1; have c2' := B.out.c2
    refine wp_region_phase 7 [(0, 0), (1, 1), (2, 1), (3, 2), (4, 0), (5, 0), (6, 0)] (fun W => W.cell? ⟨rb, 0, none⟩ = some (.int .u32 pc) ∧ W.cell? ⟨rb, 1, none⟩ = some (.slice (some ⟨b, off, none⟩) li.length cap) ∧ W.cell? ⟨rb, 2, none⟩ = some (.slice q l2 c2)) (by kernel_rfl) (by kernel_rfl) (fun _ _ _ d _ h => by cases d <;> exact h) ⟨c0, c1, c2'⟩ ?_
    repeat (first | (refine wpPlanZ_free (by rfl) (by rfl) (fun W => by (go_simp; try with_reducible rfl)) (fun K hK => ?_); go_simp; refine hK _ ?_; clear hK K) | (refine wpPlanZ_quiet (by rfl) (by rfl) (fun W hW => by (obtain ⟨d0, d1, d2⟩ := hW; go_simp; try with_reducible rfl)) (fun K hK => ?_); go_simp; refine hK _ ?_; clear hK K))
    refine wpPlanZ_serial (by rfl) (by rfl) (fun K hK => ?_)
    go_simp
    refine (hLen _).mono ?_
    rintro e W1 ⟨rfl, hb⟩
    have B1 : Hid _ := (B.out.pure ((Below.refl _ _).drew)).pure hb
    clear c0 c1 c2' hb B
    have B : Hid _ := B1.out
    clear B1
    have c0 := B.out.c0; have c1 := B.out.c1; have c2' := B.out.c2
    refine hK _ _ (fun _ => ⟨c0, c1, c2'⟩) ?_
    clear hK K
    repeat (first | (refine wpPlanZ_free (by rfl) (by rfl) (fun W => by (go_simp; try with_reducible rfl)) (fun K hK => ?_); go_simp; refine hK _ ?_; clear hK K) | (refine wpPlanZ_quiet (by rfl) (by rfl) (fun W hW => by (obtain ⟨d0, d1, d2⟩ := hW; go_simp; try with_reducible rfl)) (fun K hK => ?_); go_simp; refine hK _ ?_; clear hK K))
    refine wpPlanZ_nil ?_
    go_wp2_with fail
    refine (endsR_in pc b off li.length cap q l2 c2 (by omega) hli ⟨n, s, t, d, m⟩ (HX.out _ B.out.f.be).1).mono ?_
    rintro e W2 ⟨hy, hnn, hb⟩
    obtain rfl := (hy hk)
    clear hy hnn
    have B2 : Hid _ := B.out.pure hb
    clear c0 c1 c2' hb B
    have B : Hid _ := B2.out
    clear B2
    have c0 := B.out.c0; have c1 := B.out.c1; have c2' := B.out.c2
    rw [hbeh.out]
    obtain ⟨y0, y1, y2, y3, y4⟩ := HX.out _ B.out.f.be
    go_upto_region 6 with fail
    have B3 : Hid _ := B.out.pure ((Below.refl _ _).alloc (Nat.le_refl _) (.cells #[.int .i64 n, .int .i64 s, .int .i64 t, .int .i64 d, .int .u32 m] 113))
    clear c0 c1 c2' B y0 y1 y2 y3 y4
    have i0 : (W2.alloc (.cells #[.int .i64 n, .int .i64 s, .int .i64 t, .int .i64 d, .int .u32 m] 113)).cell? ⟨W2.heap.size, 0, none⟩ = some (.int .i64 n) := by simp
    have i1 : (W2.alloc (.cells #[.int .i64 n, .int .i64 s, .int .i64 t, .int .i64 d, .int .u32 m] 113)).cell? ⟨W2.heap.size, 1, none⟩ = some (.int .i64 s) := by simp
    have i2 : (W2.alloc (.cells #[.int .i64 n, .int .i64 s, .int .i64 t, .int .i64 d, .int .u32 m] 113)).cell? ⟨W2.heap.size, 2, none⟩ = some (.int .i64 t) := by simp
    have i3 : (W2.alloc (.cells #[.int .i64 n, .int .i64 s, .int .i64 t, .int .i64 d, .int .u32 m] 113)).cell? ⟨W2.heap.size, 3, none⟩ = some (.int .i64 d) := by simp
    have i4 : (W2.alloc (.cells #[.int .i64 n, .int .i64 s, .int .i64 t, .int .i64 d, .int .u32 m] 113)).cell? ⟨W2.heap.size, 4, none⟩ = some (.int .u32 m) := by simp
    generalize W2.alloc (.cells #[.int .i64 n, .int .i64 s, .int .i64 t, .int .i64 d, .int .u32 m] 113) = W3 at *
    generalize W2.heap.size = ib at *
    have B : Hid _ := B3.out
    clear B3
    have c0 := B.out.c0; have c1 := B.out.c1; have c2' := B.out.c2
    go_wp2_with fail
    refine (targetC_any n s t d m _ hm0 hm1).mono ?_
    rintro e W4 ⟨rfl, hb⟩
    rw [HTG.out]
    have B4 : Hid _ := B.out.pure hb
    have j0 := K.cell_stays hb (Nat.le_refl _) i0
    clear c0 c1 c2' hb B i0 i1 i2 i3 i4 hT HTG hLen
    have B : Hid _ := B4.out
    clear B4
    have c0 := B.out.c0; have c1 := B.out.c1; have c2' := B.out.c2
    rcases hk8' with rfl | rfl | rfl | rfl | rfl | rfl | rfl | rfl
    · go_wp2_with fail
      refine (either_any B.out.f (by omega) be tg).mono ?_
      rintro e W5 ⟨rfl, v5, F5, L5⟩
      have B5 : Hid _ := B.out.add F5 L5
      clear c0 c1 c2' B F5 L5 j0
      go_wp2
      go_end0
      have := B5.out.done
      exact this
    · go_wp2_with fail
      refine (either_any B.out.f (by omega) tg be).mono ?_
      rintro e W5 ⟨rfl, v5, F5, L5⟩
      have B5 : Hid _ := B.out.add F5 L5
      clear c0 c1 c2' B F5 L5 j0
      go_wp2
      go_end0
      have := B5.out.done
      exact this
    · go_wp2_with fail
      refine (either_any B.out.f (by omega) be tg).mono ?_
      rintro e W5 ⟨rfl, v5, F5, L5⟩
      have B5 : Hid _ := B.out.add F5 L5
      clear c0 c1 c2' B F5 L5 j0
      go_wp2
      go_end0
      have := B5.out.done
      exact this
    · go_wp2_with fail
      refine (either_any B.out.f (by omega) tg be).mono ?_
      rintro e W5 ⟨rfl, v5, F5, L5⟩
      have B5 : Hid _ := B.out.add F5 L5
      clear c0 c1 c2' B F5 L5 j0
      go_wp2
      go_end0
      have := B5.out.done
      exact this
    · go_wp2_with fail
      refine (add_any B.out.f (by omega) ⟨#[111, 117, 116, 114]⟩ 0 35 0 0 0).mono ?_
      rintro e W5 ⟨rfl, v5, F5, L5⟩
      have B5 : Hid _ := B.out.add F5 L5
      clear c0 c1 c2' B F5 L5 j0
      go_wp2
      go_end0
      have := B5.out.done
      exact this
    · go_wp2_with fail
      refine (add_any B.out.f (by omega) ⟨#[111, 117, 116, 114]⟩ 0 35 0 0 0).mono ?_
      rintro e W5 ⟨rfl, v5, F5, L5⟩
      have B5 : Hid _ := B.out.add F5 L5
      clear c0 c1 c2' B F5 L5 j0
      go_wp2
      go_end0
      have := B5.out.done
      exact this
    · go_wp2_with fail
      refine (out_any B.out.f (by omega) tg).mono ?_
      rintro e W5 ⟨rfl, v5, F5, L5⟩
      have B5 : Hid _ := B.out.add F5 L5
      clear c0 c1 c2' B F5 L5 j0
      go_wp2
      go_end0
      have := B5.out.done
      exact this
    · go_wp2_with fail
      refine (out_any B.out.f (by omega) tg).mono ?_
      rintro e W5 ⟨rfl, v5, F5, L5⟩
      have B5 : Hid _ := B.out.add F5 L5
      clear c0 c1 c2' B F5 L5 j0
      go_wp2
      go_end0
      have := B5.out.done
      exact this
  · rw [if_neg hk]
    go_enter Tryz.func59, Tryz.ntmps59
    go_upto_region 1 with fail
    generalize hW : w.alloc (.cells #[.int .u32 pc, .slice (some ⟨b, off, none⟩) li.length cap, .slice q l2 c2] 59) = W at B ⊢
    generalize hib : w.heap.size = rb at B ⊢
    clear hW hib
    have c0 := B.out.c0; have c1 := B.out.c1; have c2' := B.out.c2
    refine wp_region_phase 7 [(0, 0), (1, 1), (2, 1), (3, 2), (4, 0), (5, 0), (6, 0)] (fun W => W.cell? ⟨rb, 0, none⟩ = some (.int .u32 pc) ∧ W.cell? ⟨rb, 1, none⟩ = some (.slice (some ⟨b, off, none⟩) li.length cap) ∧ W.cell? ⟨rb, 2, none⟩ = some (.slice q l2 c2)) (by kernel_rfl) (by kernel_rfl) (fun _ _ _ d _ h => by cases d <;> exact h) ⟨c0, c1, c2'⟩ ?_
    repeat (first | (refine wpPlanZ_free (by rfl) (by rfl) (fun W => by (go_simp; try with_reducible rfl)) (fun K hK => ?_); go_simp; refine hK _ ?_; clear hK K) | (refine wpPlanZ_quiet (by rfl) (by rfl) (fun W hW => by (obtain ⟨d0, d1, d2⟩ := hW; go_simp; try with_reducible rfl)) (fun K hK => ?_); go_simp; refine hK _ ?_; clear hK K))
    refine wpPlanZ_serial (by rfl) (by rfl) (fun K hK => ?_)
    go_simp
    refine (hLen _).mono ?_
    rintro e W1 ⟨rfl, hb⟩
    have B1 : Hid _ := (B.out.pure ((Below.refl _ _).drew)).pure hb
    clear c0 c1 c2' hb B
    have B : Hid _ := B1.out
    clear B1
    have c0 := B.out.c0; have c1 := B.out.c1; have c2' := B.out.c2
    refine hK _ _ (fun _ => ⟨c0, c1, c2'⟩) ?_
    clear hK K
    repeat (first | (refine wpPlanZ_free (by rfl) (by rfl) (fun W => by (go_simp; try with_reducible rfl)) (fun K hK => ?_); go_simp; refine hK _ ?_; clear hK K) | (refine wpPlanZ_quiet (by rfl) (by rfl) (fun W hW => by (obtain ⟨d0, d1, d2⟩ := hW; go_simp; try with_reducible rfl)) (fun K hK => ?_); go_simp; refine hK _ ?_; clear hK K))
    refine wpPlanZ_nil ?_
    go_wp2_with fail
    refine (endsR_in pc b off li.length cap q l2 c2 (by omega) hli x (HX.out _ B.out.f.be).1).mono ?_
    rintro e W2 ⟨hy, hnn, hb⟩
    obtain rfl := (hnn hk)
    clear hy hnn
    have B2 : Hid _ := B.out.pure hb
    clear c0 c1 c2' hb B
    have B : Hid _ := B2.out
    clear B2
    have c0 := B.out.c0; have c1 := B.out.c1; have c2' := B.out.c2
    rw [hbeh.out]
    go_wp2_with fail
    refine (out_any B.out.f (by omega) be).mono ?_
    rintro e W3 ⟨rfl, v3, F3, L3⟩
    have B3 : Hid _ := B.out.add F3 L3
    clear c0 c1 c2' B F3 L3
    have B : Hid _ := B3.out
    clear B3
    have c0 := B.out.c0; have c1 := B.out.c1; have c2' := B.out.c2
    clear c0 c1 c2'
    go_wp2
    go_end0
    have := B.out.done
    exact this
end
end Go.Proofs.YtflagpkmebdckaaGreatDoor.Low
