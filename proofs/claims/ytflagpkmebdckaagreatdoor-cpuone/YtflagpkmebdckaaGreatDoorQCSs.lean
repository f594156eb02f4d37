/-
  CpuSteps: any state, any memory: step by step.
-/
import Derived.Test.YtflagpkmebdckaaGreatDoorKStep
namespace Go.Proofs.YtflagpkmebdckaaGreatDoor
open Go.RowKit Go.Maps
open Num
set_option linter.unusedVariables false
theorem st_allocX (S : St) (w : World) : StAt (w.alloc (.cells (stA S) 25)) w.heap.size S :=
  ⟨fun j hj => by rw [World.cell?_alloc_at _ _ _ _ rfl]; exact stA_get S hj, fun j => by simp⟩
theorem al_below (w : World) (o : Obj) : Below w.heap.size w (w.alloc o) := (Below.refl _ _).alloc (Nat.le_refl _) _
theorem putR0_ok {S : St} (o : S.ok) : (S.putR 0 0).ok := St.putR_ok o 0 ⟨by omega, by omega⟩
set_option maxRecDepth 100000 in
set_option maxHeartbeats 16000000 in
theorem steps_any (ps pa pf pk pn : Addr) {w : World} (E : Er ps pa pf w) (T : K.Tb pk pn w) (S : St) (ok : 0 ≤ S.ct → S.ct ≤ 1099511627776 → S.ok) (h0 : -9223372036854775808 ≤ S.ct) (h1 : S.ct ≤ 9223372036854775807) {v : Value} {xs : List Int} (X : WordsIn w v xs) (hlen : (xs.length : Int) ≤ 9223372036854775807) (n : Int) (n0 : -9223372036854775808 ≤ n) (n1 : n ≤ 9223372036854775807) :
    Calls Tryz.prog 4 #[.agg (stA S), v, .int .i64 n] w fun e w' => e = .returned (.bool true) ∧ Below w.heap.size w w' := by
  have A0 := st_allocX S w
  have hal := al_below w (.cells (stA S) 25)
  have hst := stepped_any ps pa pf pk pn (E.stays hal) (T.stays hal (Nat.le_refl _))
  have EH : Hid (Er ps pa pf w) := E
  have TH : Hid (K.Tb pk pn w) := T
  have XH : Hid (WordsIn w v xs) := X
  obtain ⟨ao, cap, rfl, _⟩ := X.sh
  have hsb : w.heap.size < (w.alloc (.cells (stA S) 25)).heap.size := by simp
  clear E T X
  generalize hSA : stA S = SA at *
  clear hSA
  go_enter Tryz.func4, Tryz.ntmps4
  go_wp2_with fail
  generalize w.alloc (.cells SA 25) = wz at *
  refine hst.mono ?_
  rintro e w1 ⟨rfl, b1⟩
  clear hst
  have A1 := A0.stays b1
  have hb1 : Below w.heap.size w w1 := hal.trans (b1.mono hal.size)
  have q42 := A1.told.2.2.2.2.2.2.2.2.2.2
  by_cases t0 : (300 : Int) < xs.length
  · go_wp2
    go_ret
    exact ⟨rfl, hb1⟩
  by_cases t3 : n < 0
  · go_wp2
    go_ret
    exact ⟨rfl, hb1⟩
  by_cases t4 : 60 < n
  · go_wp2
    go_ret
    exact ⟨rfl, hb1⟩
  by_cases t1 : S.ct < 0
  · go_wp2
    go_ret
    exact ⟨rfl, hb1⟩
  by_cases t2 : 1099511627776 < S.ct
  · go_wp2
    go_ret
    exact ⟨rfl, hb1⟩
  have u1 : 0 ≤ S.ct := by omega
  have u2 : S.ct ≤ 1099511627776 := by omega
  have oS := putR0_ok (ok u1 u2)
  clear ok
  have q0 := A1.reg (i := 0) (by omega)
  have f0 := A1.fz 0
  have A2 : StAt (w1.setCell ⟨w.heap.size, 0, none⟩ (.int .u32 0)) w.heap.size (S.putR 0 0) := A1.putR 0 (by omega) 0
  have K2 : Kept w1 (w1.setCell ⟨w.heap.size, 0, none⟩ (.int .u32 0)) (· = w.heap.size) := (Kept.refl w1 _).put 0 _
  have r0 : (S.putR 0 0).r 0 = 0 := rfl
  have ec : (S.putR 0 0).ct = S.ct := rfl
  go_upto_region 5 with fail
  generalize w1.setCell ⟨w.heap.size, 0, none⟩ (.int .u32 0) = w2 at *
  have hb2 : Below w.heap.size w w2 := K2.below hb1 (Nat.le_refl _) (fun k hk e => by omega)
  rw [← ec] at u1 u2
  clear q0 q42 f0 A1 A0 K2 b1 hb1 hal hsb t1 t2 h0 h1 ec
  generalize S.putR 0 0 = S0 at *
  have l2 := load_st A2
  go_upto_region 6 with (first | (refine wpList_loadT 25 _ (by rfl) w.heap.size _ (by rfl) (by rfl) l2 ?_) | (refine wpList_allocSt rfl rfl ?_) | (refine wpList_storeSt rfl _ _ rfl (stA zS) (stA S0) rfl rfl (stA_size _) (stA_size _) (stA_one _) ?_))
  have c3 := al_below w2 (.cells (stA S0) 25)
  have X3 := st_allocX S0 w2
  have A3 := A2.stays c3
  have hb3 : Below w.heap.size w (w2.alloc (.cells (stA S0) 25)) := hb2.trans (c3.mono hb2.size)
  have q3 : w.heap.size < w2.heap.size := A2.lt
  clear A2 l2 hb2 c3
  generalize w2.alloc (.cells (stA S0) 25) = w3 at *
  generalize w2.heap.size = sx at *
  have l3 := load_st A3
  go_upto_region 7 with (first | (refine wpList_loadT 25 _ (by rfl) w.heap.size _ (by rfl) (by rfl) l3 ?_) | (refine wpList_allocSt rfl rfl ?_) | (refine wpList_storeSt rfl _ _ rfl (stA zS) (stA S0) rfl rfl (stA_size _) (stA_size _) (stA_one _) ?_))
  have c4 := al_below w3 (.cells (stA S0) 25)
  have Y4 := st_allocX S0 w3
  have X4 := X3.stays c4
  have A4 := A3.stays c4
  have hb4 : Below w.heap.size w (w3.alloc (.cells (stA S0) 25)) := hb3.trans (c4.mono hb3.size)
  have q4 : sx < w3.heap.size := X3.lt
  clear A3 X3 l3 hb3 c4
  generalize w3.alloc (.cells (stA S0) 25) = w4 at *
  generalize w3.heap.size = sy at *
  have q5 : sy < w4.heap.size := Y4.lt
  have XI : WordsIn w4 (.slice ao xs.length cap) xs := XH.out.stays hb4
  go_wp2_with fail
  refine (newBus_all XI (by omega)).mono ?_
  rintro e w5 ⟨bb, rb, bp, bw, bh, rfl, NB, b5, lb⟩
  have A5 := A4.stays b5
  have X5 := X4.stays b5
  have Y5 := Y4.stays b5
  have hb5 : Below w.heap.size w w5 := hb4.trans (b5.mono hb4.size)
  have XI5 : WordsIn w5 (.slice ao xs.length cap) xs := XH.out.stays hb5
  have z5 := b5.size
  have B5 : BusIs w5 w5.heap.size bb rb bp bw bh 64 (mw xs) F0 F0 [] 0 [] (.slice none 0 0) (.slice none 0 0) := NB.is
  have bl5 : bb < w5.heap.size ∧ rb < w5.heap.size ∧ bp < w5.heap.size ∧ bw < w5.heap.size ∧ bh < w5.heap.size := by have := B5.lb; have := B5.ls; have := B5.lp; have := B5.lw; have := B5.lh; have := B5.bs; omega
  have z0 := hb4.size
  have M5 : Hid (Mach w w5 w5.heap.size sx bb rb bp bw bh 64 S0 ⟨mw xs, [], 0, []⟩ (.slice none 0 0) (.slice none 0 0)) :=
    ⟨X5, oS, B5, ⟨by show (0:Int) ≤ 0; omega, by show (0:Int) < _; omega⟩, by omega, by omega, by omega, by omega, by omega, by omega, hb5, by omega, by omega, by omega, by omega⟩
  clear NB B5 X5 X4 A4 Y4 XI
  go_wp2_with fail
  refine (newDBus_any XI5 (by omega)).mono ?_
  rintro e w6 ⟨db, rb', gb, kb, hb, rfl, D6, b6, k1, k2, k3, k4, k5⟩
  have A6 := A5.stays b6
  have Y6 := Y5.stays b6
  have hb6 : Below w.heap.size w w6 := hb5.trans (b6.mono hb5.size)
  have M6 := M5.out.stays b6
  have z6 := b6.size
  have TW : Hid (Twn w w6 w5.heap.size sx bb rb bp bw bh 64 S0 ⟨mw xs, [], 0, []⟩ (.slice none 0 0) (.slice none 0 0) w6.heap.size sy db rb' gb kb hb S0 ⟨mw xs, [], 0, []⟩ (.slice none 0 0)) := by
    refine ⟨M6, ⟨Y6, oS, r0, D6, ⟨by show (0:Int) ≤ 0; omega, by show (0:Int) < _; omega⟩, ⟨by omega, by omega, by omega, by omega, by omega, by omega⟩, hb6, by omega, by omega, by omega, by omega⟩, fun k hk hq => ?_⟩
    rcases hk with h | h | h | h | h | h | h | h
    · rcases hq with g | g | g | g | g | g | g
      all_goals first | omega | (simp [Value.ownBlock] at g)
    · rcases hq with g | g | g | g | g | g | g
      all_goals first | omega | (simp [Value.ownBlock] at g)
    · rcases hq with g | g | g | g | g | g | g
      all_goals first | omega | (simp [Value.ownBlock] at g)
    · rcases hq with g | g | g | g | g | g | g
      all_goals first | omega | (simp [Value.ownBlock] at g)
    · rcases hq with g | g | g | g | g | g | g
      all_goals first | omega | (simp [Value.ownBlock] at g)
    · rcases hq with g | g | g | g | g | g | g
      all_goals first | omega | (simp [Value.ownBlock] at g)
    · simp [Value.ownBlock] at h
    · simp [Value.ownBlock] at h
  have lx := load_st TW.out.M.a
  have ls := load_st A6
  clear M5 M6 D6 A5 Y5 Y6 XI5 hb5 b5 b6
  have hn1 := step_nil (.pointer (some ⟨bb, 0, none⟩)) w6
  have hn2 := step_nobus sx w6
  go_wp2_with fail
  refine hn1.mono ?_
  rintro e w7 ⟨rfl, hw7⟩
  rw [hw7]
  clear hw7 w7 hn1
  go_wp2_with fail
  refine hn2.mono ?_
  rintro e w7 ⟨rfl, hw7⟩
  rw [hw7]
  clear hw7 w7 hn2
  go_upto_region 11 with (first | (refine wpList_loadT 25 _ (by rfl) sx _ (by rfl) (by rfl) lx ?_) | (refine wpList_loadT 25 _ (by rfl) w.heap.size _ (by rfl) (by rfl) ls ?_) | (refine wpList_execW (.bool false) (by rfl) (exec_neq rfl rfl rfl _ (neq_st S0 _)) ?_))
  clear lx ls A6 XH hb4 hb6 lb bl5 k1 k2 k3 k4 k5 z5 z6 z0 q3 q4 q5
  generalize w5.heap.size = ba at *
  generalize w6.heap.size = bd at *
  go_wp2_with fail
  go_loopw [12] (fun i wr => ∃ (j N' : Nat) (S' : St) (b' : Bs) (vo' vt' vd' : Value), (j : Int) ≤ n ∧ i = .int .i64 j ∧ N' ≤ 64 + 2 * j ∧ b'.out.length ≤ j ∧ b'.tr.length ≤ j ∧ S'.ct = S0.ct + j ∧ Hid (Twn w wr ba sx bb rb bp bw bh N' S' b' vo' vt' bd sy db rb' gb kb hb S' b' vd')) (fun i _ => n.toNat - (intOf i).toNat)
  case atStart => exact ⟨0, 64, S0, _, _, _, _, by omega, rfl, by omega, by simp, by simp, by simp, TW.out⟩
  case round =>
    obtain ⟨j, N', S', b', vo', vt', vd', hj, rfl, hN, ho, htr, hct, TR⟩ := hrel
    clear TW
    by_cases hlt : (j : Int) < n
    · have hs1 := step_any ps pa pf pk pn EH.out TH.out TR.out.M (by omega) (by omega) (by unfold maxLen; omega) (by omega)
      have hs2 := fun (W : World) (X : DMch w W bd sy db rb' gb kb hb S' b' vd') => stepD_any X (by omega) (by omega) (by omega)
      have e1 := stepP_ct TR.out.M.ok b'
      have e2 := stepP_out TR.out.M.ok b'
      generalize stepP S' b' = x at *
      obtain ⟨x1, x2, x3⟩ := x
      simp only at hs1 hs2 e1 e2
      have hx : (x1 != x1) = false := by simp
      go_wp2_with fail
      refine hs1.mono ?_
      rintro e w7 ⟨rfl, N7, vo7, vt7, hN7, M7, K7, mo, mt⟩
      have T7 : Hid (Twn w w7 ba sx bb rb bp bw bh N7 x2 x3 vo7 vt7 bd sy db rb' gb kb hb S' b' vd') := TR.out.first M7 K7 mo mt
      have hs3 := hs2 w7 T7.out.D
      clear hs1 hs2 M7 K7 mo mt TR
      go_wp2_with fail
      refine hs3.mono ?_
      rintro e w8 ⟨rfl, vd8, D8, K8, md⟩
      have T8 : Hid (Twn w w8 ba sx bb rb bp bw bh N7 x2 x3 vo7 vt7 bd sy db rb' gb kb hb x2 x3 vd8) := T7.out.second D8 K8 md
      have lx := load_st T8.out.M.a
      have ly := load_st T8.out.D.a
      clear hs3 D8 K8 md T7
      go_wp2_with (first | (refine wpList_loadT 25 _ (by rfl) sx _ (by rfl) (by rfl) lx ?_) | (refine wpList_loadT 25 _ (by rfl) sy _ (by rfl) (by rfl) ly ?_) | (refine wpList_execW (.bool false) (by rfl) (exec_neq rfl rfl rfl _ (neq_st x2 _)) ?_))
      go_roundw
      case rel => exact ⟨j + 1, N7, x2, x3, vo7, vt7, vd8, by omega, by go_num, by omega, by omega, by omega, by rw [e1, hct]; omega, T8.out⟩
      case measure => simp [intOf]; omega
    · have ha := asBus_any TR.out.M.B.seen TR.out.D.B (by omega)
      have hbr := TR.out.M.be
      go_wp2_with fail
      refine ha.mono ?_
      rintro e w7 ⟨rfl, b7⟩
      go_wp2
      go_ret
      exact ⟨rfl, hbr.trans (b7.mono hbr.size)⟩
end Go.Proofs.YtflagpkmebdckaaGreatDoor
