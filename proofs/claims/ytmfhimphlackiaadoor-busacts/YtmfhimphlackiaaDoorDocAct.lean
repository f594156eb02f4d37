/-
  The document's bus: its loads and stores.
-/
import Derived.Test.YtmfhimphlackiaaDoorDocDev
import Derived.Test.YtmfhimphlackiaaDoorDocBus
namespace Go.Proofs.YtmfhimphlackiaaDoor
open Go.RowKit Go.Maps
open Num
set_option linter.unusedVariables false
theorem outS_add (out : List Int) (x : Int) : outS out ++ ⟨#[UInt8.ofNat x.toNat]⟩ = outS (out ++ [x]) := by
  apply ByteArray.ext
  simp [outS, strOfNums]
theorem hcell (n : Int) (w : World) : ∀ i, i < 1 → (w.alloc (.cells #[.int .u8 n] 5)).cell? ⟨w.heap.size, 0 + i, none⟩ = some (.int .u8 ([n].getD i 0)) := by
  intro i hi
  have h : i = 0 := by omega
  subst h; simp
set_option maxRecDepth 100000 in
set_option maxHeartbeats 1000000 in
theorem byte_any (n : Int) (h0 : 0 ≤ n) (h1 : n < 256) (w : World) : Calls Tryd.prog 58 #[.int .i64 n] w fun e w' => e = .returned (.string ⟨#[UInt8.ofNat n.toNat]⟩) ∧ w' = w.alloc (.cells #[.int .u8 n] 5) := by
  have hcv : (convert 99 9 (.slice (some ⟨w.heap.size, 0, none⟩) 1 1)).run Tryd.prog (w.alloc (.cells #[.int .u8 n] 5)) = .ok (.string ⟨#[UInt8.ofNat n.toNat]⟩) (w.alloc (.cells #[.int .u8 n] 5)) := by
    have := run_convert_bytes_arg (P := Tryd.prog) (w.alloc (.cells #[.int .u8 n] 5)) 99 5 Tryd.underlying99 Tryd.underlying5 w.heap.size 0 1 1 [n] rfl (hcell n w) 9 Tryd.underlying9
    rw [this]; rfl
  go_enter Tryd.func58, Tryd.ntmps58
  go_wp2
  go_ret
  exact ⟨rfl, rfl⟩
section
variable {w : World} {base db rb gb kb : Nat} {m : Nat → Int} {out : List Int} {lamp : Int} {tr : List Acc} {vt : Value}
set_option maxRecDepth 100000 in
set_option maxHeartbeats 1000000 in
theorem dbstore_mem (B : DBus w base db rb gb kb m out lamp tr vt) (a s v c : Int) (h0 : 0 ≤ a) (ha : a < 16384) (v0 : 0 ≤ v) (v1 : v < 4294967296) (hc : chk a s = 0) :
    Calls Tryd.prog 32 #[.pointer (some ⟨db, 0, none⟩), .int .u32 a, .int .i64 s, .int .u32 v, .int .i64 c] w fun e w' => e = .returned (.int .i64 0) ∧ DBus w' base db rb gb kb (upd m a s v) out lamp tr vt ∧ w.grownBy w' (some gb) := by
  have hst := dstore_ok B.D a s v h0 (by omega) v0 v1 hc rfl
  have c0 := B.c0
  have BH : Hid (DBus w base db rb gb kb m out lamp tr vt) := B
  clear B hc
  go_enter Tryd.func32, Tryd.ntmps32
  go_wp2_with fail
  refine hst.mono ?_
  rintro e w2 ⟨rfl, D2, G2⟩
  clear hst
  go_wp2
  go_ret
  exact ⟨rfl, BH.out.own D2 G2, G2⟩
set_option maxRecDepth 100000 in
set_option maxHeartbeats 1000000 in
theorem dbstore_low (B : DBus w base db rb gb kb m out lamp tr vt) (a s v c : Int) (h0 : 0 ≤ a) (ha : a < 16384) (s0 : -9223372036854775808 ≤ s) (s1 : s ≤ 9223372036854775807) (hc : chk a s ≠ 0) :
    Calls Tryd.prog 32 #[.pointer (some ⟨db, 0, none⟩), .int .u32 a, .int .i64 s, .int .u32 v, .int .i64 c] w fun e w' => e = .returned (.int .i64 (rc a s)) ∧ w' = w := by
  have hst := dstore_no w (.pointer (some ⟨rb, 0, none⟩)) a s v h0 (by omega) s0 s1 hc
  have c0 := B.c0
  clear B hc
  generalize rc a s = r at *
  go_enter Tryd.func32, Tryd.ntmps32
  go_wp2_with fail
  refine hst.mono ?_
  rintro e w2 ⟨rfl, rfl⟩
  clear hst
  go_wp2
  go_ret
  exact ⟨rfl, rfl⟩
set_option maxRecDepth 100000 in
set_option maxHeartbeats 1000000 in
theorem dbstore_high (w : World) (p : Value) (a s v c : Int) (ha : 16384 ≤ a) (h1 : a < 4294967296) (s0 : -9223372036854775808 ≤ s) (s1 : s ≤ 9223372036854775807) (hd : dev a s = false) (hc : chk a s ≠ 0) :
    Calls Tryd.prog 32 #[p, .int .u32 a, .int .i64 s, .int .u32 v, .int .i64 c] w fun e w' => e = .returned (.int .i64 (rc a s)) ∧ w' = w := by
  have hst := devErr_any a s ha h1 s0 s1 w
  rw [if_neg (by rw [hd]; decide)] at hst
  have hp := rc_no hc
  clear hc hd
  generalize rc a s = r at *
  go_enter Tryd.func32, Tryd.ntmps32
  go_wp2_with fail
  refine hst.mono ?_
  rintro e w2 ⟨rfl, rfl⟩
  clear hst
  go_wp2
  go_ret
  exact ⟨rfl, rfl⟩
set_option maxRecDepth 100000 in
set_option maxHeartbeats 2000000 in
theorem dbstore_dev (B : DBus w base db rb gb kb m out lamp tr vt) (a s v c : Int) (h0 : 0 ≤ a) (h1 : a < 4294967296) (s0 : -9223372036854775808 ≤ s) (s1 : s ≤ 9223372036854775807) (v0 : 0 ≤ v) (v1 : v < 4294967296) (hn : out.length ≤ 1000) (hn2 : tr.length ≤ 1000) (hd : dev a s = true) :
    Calls Tryd.prog 32 #[.pointer (some ⟨db, 0, none⟩), .int .u32 a, .int .i64 s, .int .u32 v, .int .i64 c] w fun e w' => e = .returned (.int .i64 0) ∧ ∃ vt', DBus w' base db rb gb kb m (outN out a v) (lampN lamp a v) (tr ++ [⟨c, true, a, v⟩]) vt' ∧ DTurned w w' db gb vt ∧ Moved w vt vt' := by
  obtain ⟨i0, hi, hz0, hz1, hz2⟩ := info_parts info55
  have ha : 16384 ≤ a := by unfold dev at hd; simp at hd; omega
  have hst := devErr_any a s ha h1 s0 s1 w
  rw [if_pos hd] at hst
  clear hd
  have BH : Hid (DBus w base db rb gb kb m out lamp tr vt) := B
  clear B
  go_enter Tryd.func32, Tryd.ntmps32
  go_wp2_with fail
  refine hst.mono ?_
  rintro e w' ⟨rfl, rfl⟩
  clear hst
  by_cases hA : a = 65536
  · have HO : Hid (outN out a v = out ++ [v % 256] ∧ lampN lamp a v = lamp) := ⟨by unfold outN; rw [if_pos hA], by unfold lampN; rw [if_neg (by omega)]⟩
    have e1 : (a == 65536) = true := by simpa using hA
    clear hA
    have c1 := BH.out.c1
    have f1 := BH.out.fz 1
    have hpa : ∀ W : World, Calls Tryd.prog 49 #[.int .u32 v, .int .i64 0, .int .i64 8] W fun e w' => e = .returned (.int .i64 (v % 256)) ∧ w' = W := by
      intro W
      have := part_any v 0 8 v0 v1 (by omega) (by omega) (by omega) (by omega) W
      rwa [pw8, show pw 0 = 1 by decide, Int.ediv_one] at this
    have hby := fun W => byte_any (v % 256) (by omega) (by omega) W
    obtain ⟨l, hl, hll⟩ : ∃ l : List UInt8, outS out = ⟨l.toArray⟩ ∧ (l.length : Int) ≤ 1000 := ⟨out.map fun n => UInt8.ofNat n.toNat, rfl, by simp; omega⟩
    have HL : Hid (outS out = ⟨l.toArray⟩) := hl
    have hdb : db < w'.heap.size := BH.out.lt (Or.inl rfl)
    rw [hl] at c1
    clear hl
    go_upto_region 8 with fail
    go_region_with (first | (go_at_call 49; refine (hpa _).mono ?_; rintro e w2 ⟨rfl, rfl⟩) | (go_at_call 58; refine (hby _).mono ?_; rintro e w2 ⟨rfl, rfl⟩))
    all_goals
      have hS : (⟨l.toArray⟩ : ByteArray) ++ ⟨#[UInt8.ofNat (v % 256).toNat]⟩ = outS (out ++ [v % 256]) := by rw [← HL.out]; exact outS_add out _
      rw [hS]
      have P1 := BH.out.putOut (v % 256)
      have hA : Below (w'.setCell ⟨db, 1, none⟩ (.string (outS (out ++ [v % 256])))).heap.size (w'.setCell ⟨db, 1, none⟩ (.string (outS (out ++ [v % 256])))) (((w'.setCell ⟨db, 1, none⟩ (.string (outS (out ++ [v % 256])))).alloc (.cells #[.int .u8 (v % 256)] 5)).drew) := below_drew ((Below.refl _ _).alloc (Nat.le_refl _) _)
      have B1 : Hid (DBus (((w'.setCell ⟨db, 1, none⟩ (.string (outS (out ++ [v % 256])))).alloc (.cells #[.int .u8 (v % 256)] 5)).drew) base db rb gb kb m (out ++ [v % 256]) lamp tr vt) := P1.1.stays hA
      have T1 : Hid (DTurned w' (((w'.setCell ⟨db, 1, none⟩ (.string (outS (out ++ [v % 256])))).alloc (.cells #[.int .u8 (v % 256)] 5)).drew) db gb vt) := by
        have t := P1.2
        exact ⟨hA.os.trans t.os, hA.tape.trans t.tape, hA.output.trans t.output, Nat.le_trans t.size hA.size, fun k hk h0 h1 h2 => (hA.block k (by have := t.size; omega)).trans (t.block k hk h0 h1 h2)⟩
      clear P1 hA hS hpa hby c1 f1 HL hll
      generalize ((w'.setCell ⟨db, 1, none⟩ (.string (outS (out ++ [v % 256])))).alloc (.cells #[.int .u8 (v % 256)] 5)).drew = w1 at *
      clear BH
      have c3 := B1.out.c3
      have hbs : base ≤ w1.heap.size := B1.out.bs
      have hnews := acc_cells w1 ⟨c, true, a, v⟩
      go_wp2_with (at_builtin; refine wpList_append_moved rfl _ _ 63 rfl base 98 i0 (.agg #[.int .i64 0, .bool false, .int .u32 0, .int .u32 0]) 4 24 Tryd.underlying63 hi hz0 hz1 hz2 rfl (by decide) vt tr.length (tr.flatMap accC) rfl (B1.out.rt.alloc _) ⟨w1.heap.size, 0, none⟩ 1 1 (accC ⟨c, true, a, v⟩) rfl rfl hnews (by simp [Value.oneCell', accC]) (by unfold maxLen; omega) (by omega) (by simp; omega) ?_; intro v' w2 ho hg hm; obtain ⟨g', cap', rfl⟩ := owns_pos ho; have hp := B1.out.putTr ho hg hm; obtain ⟨⟨hc1, hf1⟩, hp2⟩ := hp)
      go_ret
      exact ⟨rfl, _, by rw [HO.out.1, HO.out.2]; exact hp2.1, T1.out.trans hp2.2.1 (Moved.refl _ _), fun k hk => (hp2.2.2 k hk).imp id (fun h => Nat.le_trans T1.out.size h)⟩
  · have e1 : (a == 65536) = false := by simpa using hA
    by_cases hB : a = 65544
    · have HO : Hid (outN out a v = out ∧ lampN lamp a v = v) := ⟨by unfold outN; rw [if_neg hA], by unfold lampN; rw [if_pos hB]⟩
      have e2 : (a == 65544) = true := by simpa using hB
      clear hA hB
      have c2 := BH.out.c2
      have f2 := BH.out.fz 2
      go_upto_region 11 with fail
      have B1 : Hid (DBus (w'.setCell ⟨db, 2, none⟩ (.int .u32 v)) base db rb gb kb m out v tr vt) := (BH.out.putLamp v).1
      have T1 : Hid (DTurned w' (w'.setCell ⟨db, 2, none⟩ (.int .u32 v)) db gb vt) := (BH.out.putLamp v).2
      clear c2 f2
      generalize w'.setCell ⟨db, 2, none⟩ (.int .u32 v) = w1 at *
      clear BH
      have c3 := B1.out.c3
      have hbs : base ≤ w1.heap.size := B1.out.bs
      have hnews := acc_cells w1 ⟨c, true, a, v⟩
      go_wp2_with (at_builtin; refine wpList_append_moved rfl _ _ 63 rfl base 98 i0 (.agg #[.int .i64 0, .bool false, .int .u32 0, .int .u32 0]) 4 24 Tryd.underlying63 hi hz0 hz1 hz2 rfl (by decide) vt tr.length (tr.flatMap accC) rfl (B1.out.rt.alloc _) ⟨w1.heap.size, 0, none⟩ 1 1 (accC ⟨c, true, a, v⟩) rfl rfl hnews (by simp [Value.oneCell', accC]) (by unfold maxLen; omega) (by omega) (by simp; omega) ?_; intro v' w2 ho hg hm; obtain ⟨g', cap', rfl⟩ := owns_pos ho; have hp := B1.out.putTr ho hg hm; obtain ⟨⟨hc1, hf1⟩, hp2⟩ := hp)
      go_ret
      exact ⟨rfl, _, by rw [HO.out.1, HO.out.2]; exact hp2.1, T1.out.trans hp2.2.1 (Moved.refl _ _), fun k hk => (hp2.2.2 k hk).imp id (fun h => Nat.le_trans T1.out.size h)⟩
    · have HO : Hid (outN out a v = out ∧ lampN lamp a v = lamp) := ⟨by unfold outN; rw [if_neg hA], by unfold lampN; rw [if_neg hB]⟩
      have e2 : (a == 65544) = false := by simpa using hB
      clear hA hB
      go_upto_region 11 with fail
      obtain ⟨w1, hw1⟩ : ∃ w1, w1 = w' := ⟨_, rfl⟩
      have B1 : Hid (DBus w1 base db rb gb kb m out lamp tr vt) := by rw [hw1]; exact BH.out
      have T1 : Hid (DTurned w' w1 db gb vt) := by rw [hw1]; exact DTurned.refl _ _ _ _
      rw [← hw1]
      clear hw1
      clear BH
      have c3 := B1.out.c3
      have hbs : base ≤ w1.heap.size := B1.out.bs
      have hnews := acc_cells w1 ⟨c, true, a, v⟩
      go_wp2_with (at_builtin; refine wpList_append_moved rfl _ _ 63 rfl base 98 i0 (.agg #[.int .i64 0, .bool false, .int .u32 0, .int .u32 0]) 4 24 Tryd.underlying63 hi hz0 hz1 hz2 rfl (by decide) vt tr.length (tr.flatMap accC) rfl (B1.out.rt.alloc _) ⟨w1.heap.size, 0, none⟩ 1 1 (accC ⟨c, true, a, v⟩) rfl rfl hnews (by simp [Value.oneCell', accC]) (by unfold maxLen; omega) (by omega) (by simp; omega) ?_; intro v' w2 ho hg hm; obtain ⟨g', cap', rfl⟩ := owns_pos ho; have hp := B1.out.putTr ho hg hm; obtain ⟨⟨hc1, hf1⟩, hp2⟩ := hp)
      go_ret
      exact ⟨rfl, _, by rw [HO.out.1, HO.out.2]; exact hp2.1, T1.out.trans hp2.2.1 (Moved.refl _ _), fun k hk => (hp2.2.2 k hk).imp id (fun h => Nat.le_trans T1.out.size h)⟩
set_option maxRecDepth 100000 in
set_option maxHeartbeats 1000000 in
theorem dbload_mem (B : DBus w base db rb gb kb m out lamp tr vt) (a s c : Int) (sgn : Bool) (h0 : 0 ≤ a) (ha : a < 16384) (hc : chk a s = 0) :
    Calls Tryd.prog 33 #[.pointer (some ⟨db, 0, none⟩), .int .u32 a, .int .i64 s, .bool sgn, .int .i64 c] w fun e w' => e = .returned (.tuple #[.int .u32 (ld m a s sgn), .int .i64 0]) ∧ w' = w := by
  have hst := dload_ok B.D a s sgn h0 (by omega) hc
  have c0 := B.c0
  clear B hc
  go_enter Tryd.func33, Tryd.ntmps33
  go_wp2_with fail
  refine hst.mono ?_
  rintro e w2 ⟨rfl, rfl⟩
  clear hst
  go_wp2
  go_ret2
  exact ⟨rfl, rfl⟩
set_option maxRecDepth 100000 in
set_option maxHeartbeats 1000000 in
theorem dbload_low (B : DBus w base db rb gb kb m out lamp tr vt) (a s c : Int) (sgn : Bool) (h0 : 0 ≤ a) (ha : a < 16384) (s0 : -9223372036854775808 ≤ s) (s1 : s ≤ 9223372036854775807) (hc : chk a s ≠ 0) :
    Calls Tryd.prog 33 #[.pointer (some ⟨db, 0, none⟩), .int .u32 a, .int .i64 s, .bool sgn, .int .i64 c] w fun e w' => e = .returned (.tuple #[.int .u32 0, .int .i64 (rc a s)]) ∧ w' = w := by
  have hst := dload_no w (.pointer (some ⟨rb, 0, none⟩)) a s sgn h0 (by omega) s0 s1 hc
  have c0 := B.c0
  clear B hc
  generalize rc a s = r at *
  go_enter Tryd.func33, Tryd.ntmps33
  go_wp2_with fail
  refine hst.mono ?_
  rintro e w2 ⟨rfl, rfl⟩
  clear hst
  go_wp2
  go_ret2
  exact ⟨rfl, rfl⟩
set_option maxRecDepth 100000 in
set_option maxHeartbeats 1000000 in
theorem dbload_high (w : World) (p : Value) (a s c : Int) (sgn : Bool) (ha : 16384 ≤ a) (h1 : a < 4294967296) (s0 : -9223372036854775808 ≤ s) (s1 : s ≤ 9223372036854775807) (hd : dev a s = false) (hc : chk a s ≠ 0) :
    Calls Tryd.prog 33 #[p, .int .u32 a, .int .i64 s, .bool sgn, .int .i64 c] w fun e w' => e = .returned (.tuple #[.int .u32 0, .int .i64 (rc a s)]) ∧ w' = w := by
  have hst := devErr_any a s ha h1 s0 s1 w
  rw [if_neg (by rw [hd]; decide)] at hst
  have hp := rc_no hc
  clear hc hd
  generalize rc a s = r at *
  go_enter Tryd.func33, Tryd.ntmps33
  go_wp2_with fail
  refine hst.mono ?_
  rintro e w2 ⟨rfl, rfl⟩
  clear hst
  go_wp2
  go_ret2
  exact ⟨rfl, rfl⟩
set_option maxRecDepth 100000 in
set_option maxHeartbeats 2000000 in
theorem dbload_dev (B : DBus w base db rb gb kb m out lamp tr vt) (a s c : Int) (sgn : Bool) (h0 : 0 ≤ a) (h1 : a < 4294967296) (s0 : -9223372036854775808 ≤ s) (s1 : s ≤ 9223372036854775807) (q0 : -9223372036854775808 ≤ c) (q1 : c ≤ 9223372036854775807) (hn2 : tr.length ≤ 1000) (hd : dev a s = true) :
    Calls Tryd.prog 33 #[.pointer (some ⟨db, 0, none⟩), .int .u32 a, .int .i64 s, .bool sgn, .int .i64 c] w fun e w' => e = .returned (.tuple #[.int .u32 (devV a c lamp), .int .i64 0]) ∧ ∃ vt', DBus w' base db rb gb kb m out lamp (tr ++ [⟨c, false, a, devV a c lamp⟩]) vt' ∧ DTurned w w' db gb vt ∧ Moved w vt vt' := by
  obtain ⟨i0, hi, hz0, hz1, hz2⟩ := info_parts info55
  have ha : 16384 ≤ a := by unfold dev at hd; simp at hd; omega
  have hst := devErr_any a s ha h1 s0 s1 w
  rw [if_pos hd] at hst
  clear hd
  have hwd := word_any c q0 q1 w
  have BH : Hid (DBus w base db rb gb kb m out lamp tr vt) := B
  have c2 := B.c2
  have c3 := B.c3
  have hbs : base ≤ w.heap.size := B.bs
  clear B
  by_cases hA : a = 65540
  · have HV : Hid (devV a c lamp = lo c) := by show _ = _; unfold devV lo; rw [if_pos hA]
    have e1 : (a == 65540) = true := by simpa using hA
    have hnews := acc_cells w ⟨c, false, a, lo c⟩
    rw [HV.out]
    clear hA
    generalize lo c = dv at *
    go_enter Tryd.func33, Tryd.ntmps33
    go_wp2_with fail
    refine hst.mono ?_
    rintro e w' ⟨rfl, rfl⟩
    clear hst
    go_wp2_with fail
    refine hwd.mono ?_
    rintro e w'' ⟨rfl, rfl⟩
    clear hwd
    go_wp2_with (at_builtin; refine wpList_append_moved rfl _ _ 63 rfl base 98 i0 (.agg #[.int .i64 0, .bool false, .int .u32 0, .int .u32 0]) 4 24 Tryd.underlying63 hi hz0 hz1 hz2 rfl (by decide) vt tr.length (tr.flatMap accC) rfl (BH.out.rt.alloc _) ⟨_, 0, none⟩ 1 1 (accC ⟨c, false, a, dv⟩) rfl rfl hnews (by simp [Value.oneCell', accC]) (by unfold maxLen; omega) (by omega) (by simp; omega) ?_; intro v' w2 ho hg hm; obtain ⟨g', cap', rfl⟩ := owns_pos ho; have hp := BH.out.putTr ho hg hm; obtain ⟨⟨hc1, hf1⟩, hp2⟩ := hp)
    go_ret2
    exact ⟨rfl, _, hp2.1, hp2.2.1, hp2.2.2⟩
  · have e1 : (a == 65540) = false := by simpa using hA
    by_cases hB : a = 65544
    · have HV : Hid (devV a c lamp = lamp) := by show _ = _; unfold devV; rw [if_neg hA, if_pos hB]
      have e2 : (a == 65544) = true := by simpa using hB
      have hnews := acc_cells w ⟨c, false, a, lamp⟩
      rw [HV.out]
      clear hA hB hwd
      go_enter Tryd.func33, Tryd.ntmps33
      go_wp2_with fail
      refine hst.mono ?_
      rintro e w' ⟨rfl, rfl⟩
      clear hst
      go_wp2_with (at_builtin; refine wpList_append_moved rfl _ _ 63 rfl base 98 i0 (.agg #[.int .i64 0, .bool false, .int .u32 0, .int .u32 0]) 4 24 Tryd.underlying63 hi hz0 hz1 hz2 rfl (by decide) vt tr.length (tr.flatMap accC) rfl (BH.out.rt.alloc _) ⟨_, 0, none⟩ 1 1 (accC ⟨c, false, a, lamp⟩) rfl rfl hnews (by simp [Value.oneCell', accC]) (by unfold maxLen; omega) (by omega) (by simp; omega) ?_; intro v' w2 ho hg hm; obtain ⟨g', cap', rfl⟩ := owns_pos ho; have hp := BH.out.putTr ho hg hm; obtain ⟨⟨hc1, hf1⟩, hp2⟩ := hp)
      go_ret2
      exact ⟨rfl, _, hp2.1, hp2.2.1, hp2.2.2⟩
    · have HV : Hid (devV a c lamp = 0) := by show _ = _; unfold devV; rw [if_neg hA, if_neg hB]
      have e2 : (a == 65544) = false := by simpa using hB
      have hnews := acc_cells w ⟨c, false, a, 0⟩
      rw [HV.out]
      clear hA hB hwd
      go_enter Tryd.func33, Tryd.ntmps33
      go_wp2_with fail
      refine hst.mono ?_
      rintro e w' ⟨rfl, rfl⟩
      clear hst
      go_wp2_with (at_builtin; refine wpList_append_moved rfl _ _ 63 rfl base 98 i0 (.agg #[.int .i64 0, .bool false, .int .u32 0, .int .u32 0]) 4 24 Tryd.underlying63 hi hz0 hz1 hz2 rfl (by decide) vt tr.length (tr.flatMap accC) rfl (BH.out.rt.alloc _) ⟨_, 0, none⟩ 1 1 (accC ⟨c, false, a, 0⟩) rfl rfl hnews (by simp [Value.oneCell', accC]) (by unfold maxLen; omega) (by omega) (by simp; omega) ?_; intro v' w2 ho hg hm; obtain ⟨g', cap', rfl⟩ := owns_pos ho; have hp := BH.out.putTr ho hg hm; obtain ⟨⟨hc1, hf1⟩, hp2⟩ := hp)
      go_ret2
      exact ⟨rfl, _, hp2.1, hp2.2.1, hp2.2.2⟩
end
end Go.Proofs.YtmfhimphlackiaaDoor
