/-
  Package asm's Parse: a text is read along its operation's form.
-/
import Derived.Test.YtccnliihdhnckaaGreatDoorKText
import Derived.Test.YtccnliihdhnckaaGreatDoorKEr9
namespace Go.Proofs.YtccnliihdhnckaaGreatDoor
open Go.RowKit Go.Shelf Go.Joins
open Num Tab Fm Txt
set_option linter.unusedVariables false
theorem idx_blank (l : List UInt8) : Lib.index l [32] = if l.any (· == 32) then ((l.takeWhile isWord).length : Int) else -1 := by
  induction l with
  | nil => rfl
  | cons b l ih =>
    rw [Lib.index, ih]
    by_cases h : b = 32
    · subst h; simp [isWord, List.isPrefixOf]
    · have h1 : ([32] : List UInt8).isPrefixOf (b :: l) = false := by simp [List.isPrefixOf]; exact fun e => h e.symm
      have h2 : isWord b = true := by unfold isWord; simpa using h
      have h3 : (b == 32) = false := by simpa using h
      rw [h1]
      simp only [Bool.false_eq_true, if_false, List.any_cons, h3, Bool.false_or, List.takeWhile_cons, h2, if_true, List.length_cons]
      split
      · rw [if_neg (by simp)]
        simp
      · rfl
theorem cut_blank (l : List UInt8) : (Lib.cut l [32]).1 = l.takeWhile isWord := by
  unfold Lib.cut
  rw [idx_blank]
  by_cases h : l.any (· == 32) = true
  · rw [if_pos h, if_pos (by omega)]
    have e : l.takeWhile isWord ++ l.dropWhile isWord = l := List.takeWhile_append_dropWhile
    simp only [Int.toNat_natCast]
    calc l.take (l.takeWhile isWord).length = (l.takeWhile isWord ++ l.dropWhile isWord).take (l.takeWhile isWord).length := by rw [e]
      _ = l.takeWhile isWord := List.take_left' rfl
  · rw [if_neg h, if_neg (by omega)]
    have : ∀ c ∈ l, isWord c = true := by
      intro c hc
      unfold isWord
      rw [Bool.not_eq_true, List.any_eq_false] at h
      have := h c hc
      simpa using this
    show l = _
    have := (take_all isWord l [] this (fun c hc => by simp at hc)).1
    rw [List.append_nil] at this
    exact this.symm
theorem cutF_any (l : List UInt8) (hl : l.length < 4294967281) (w : World) (b : Lb w) :
    Calls Tryz.prog 34 #[.string ⟨l.toArray⟩, .string ⟨#[32]⟩] w fun e w' => ∃ (r : ByteArray), e = .returned (.tuple #[.string ⟨(l.takeWhile isWord).toArray⟩, .string r, .bool (Lib.cut l [32]).2.2]) ∧ ∃ n, w' = w.drewN n := by
  obtain ⟨m, hm⟩ := b.mx
  have h := Any.strings_Cut Tryz.l145 ⟨l.toArray⟩ ⟨#[32]⟩ m w (by show l.toArray.size < _; simpa using hl) hm
  refine Calls.mono h ?_
  rintro e w' ⟨he, n, hw⟩
  refine ⟨⟨(Lib.cut l [32]).2.1.toArray⟩, ?_, n, hw⟩
  rw [← cut_blank]
  exact he
theorem ext_drop (l : List UInt8) : (⟨l.toArray⟩ : ByteArray).extract (l.takeWhile isWord).length l.length = ⟨(l.dropWhile isWord).toArray⟩ := by
  apply ByteArray.ext
  have e : l.takeWhile isWord ++ l.dropWhile isWord = l := List.takeWhile_append_dropWhile
  have : (l.drop (l.takeWhile isWord).length) = l.dropWhile isWord := by
    calc l.drop (l.takeWhile isWord).length = (l.takeWhile isWord ++ l.dropWhile isWord).drop (l.takeWhile isWord).length := by rw [e]
      _ = l.dropWhile isWord := List.drop_left' rfl
  have hlen : l.length = (l.takeWhile isWord).length + (l.dropWhile isWord).length := by rw [← List.length_append, e]
  simp [ByteArray.data_extract, this]
  exact List.take_of_length_le (by omega)
theorem Lb.drewN {w : World} (b : Lb w) (n : Nat) : Lb (w.drewN n) := b.stays (B := w.heap.size) ⟨rfl, rfl, rfl, Nat.le_refl _, fun _ _ => rfl⟩ (Nat.le_refl _)
theorem ZAt.size {B : Nat} {w : World} (z : ZAt B w) : B < w.heap.size := cell_lt z.z0
theorem ZAt.more {B : Nat} {w : World} (z : ZAt B w) (o : Obj) : ZAt B (w.alloc o) := z.stays ((Below.refl w.heap.size w).alloc (Nat.le_refl _) o) z.size
theorem ZAt.drew {B : Nat} {w : World} (z : ZAt B w) : ZAt B w.drew := z.stays (C := w.heap.size) ⟨rfl, rfl, rfl, Nat.le_refl _, fun _ _ => rfl⟩ z.size
theorem zset {B : Nat} {w : World} {k : Nat} {v : Value} (hk : w.cell? ⟨B, k, none⟩ = some v) (j : Nat) : (w.setCell ⟨B, k, none⟩ v).cell? ⟨B, j, none⟩ = w.cell? ⟨B, j, none⟩ := by
  by_cases h : j = k
  · subst h; rw [World.cell?_setCell_same _ _ _ hk, hk]
  · rw [World.cell?_setCell_other _ _ _ _ (by intro e; injection e with e1 e2; exact h e2.symm)]
theorem ZAt.set {B : Nat} {w : World} (z : ZAt B w) {k : Nat} {v : Value} (hk : w.cell? ⟨B, k, none⟩ = some v) : ZAt B (w.setCell ⟨B, k, none⟩ v) :=
  ⟨(zset hk 0).trans z.z0, (zset hk 1).trans z.z1, (zset hk 2).trans z.z2, (zset hk 3).trans z.z3, (zset hk 4).trans z.z4, fun j => by simpa using z.fz j⟩
theorem ZAt.zeros {B : Nat} {w : World} (z : ZAt B w) : ZAt B (((((w.setCell ⟨B, 0, none⟩ (.int .i64 0)).setCell ⟨B, 1, none⟩ (.int .i64 0)).setCell ⟨B, 2, none⟩ (.int .i64 0)).setCell ⟨B, 3, none⟩ (.int .i64 0)).setCell ⟨B, 4, none⟩ (.int .u32 0)) := by
  have a := z.set z.z0
  have b := a.set a.z1
  have c := b.set b.z2
  have d := c.set c.z3
  exact d.set d.z4
theorem below_zeros {B : Nat} {w W : World} (hW : Below B w W) : Below B w (((((W.setCell ⟨B, 0, none⟩ (.int .i64 0)).setCell ⟨B, 1, none⟩ (.int .i64 0)).setCell ⟨B, 2, none⟩ (.int .i64 0)).setCell ⟨B, 3, none⟩ (.int .i64 0)).setCell ⟨B, 4, none⟩ (.int .u32 0)) :=
  ((((hW.setCell (Nat.le_refl _) _).setCell (Nat.le_refl _) _).setCell (Nat.le_refl _) _).setCell (Nat.le_refl _) _).setCell (Nat.le_refl _) _
theorem readL_rng {c : UInt8} {r r1 : List UInt8} {n : Int} (h : readL c r = some (n, r1)) : -9223372036854775808 ≤ n ∧ n ≤ 9223372036854775807 ∧ r1.length ≤ r.length := by
  unfold readL at h
  split at h
  · split at h
    · obtain ⟨e, a, b⟩ := (readReg_iff _ _ _).mp h
      refine ⟨by omega, by omega, ?_⟩
      rw [e, List.length_append]; omega
    · obtain ⟨e, a, b⟩ := (readNum_iff _ _ _).mp h
      refine ⟨by omega, by omega, ?_⟩
      rw [e, List.length_append]; omega
  · cases hs : strip [c] r with
    | none => rw [hs] at h; simp at h
    | some q =>
      rw [hs] at h
      simp at h
      have := strip_one hs
      rw [this, ← h.1, ← h.2]; simp
theorem PInv.start {w W : World} (hS : W.heap.size = w.heap.size + 1) (hZ : ZAt w.heap.size W) (hW : Below w.heap.size w W) (o : Int) (l : List UInt8) :
    PInv w ((W.alloc (.cells #[.int .i64 o, .int .i64 0, .int .i64 0, .int .i64 0, .int .u32 0] 24)).iter ⟨l.toArray⟩ 0) l 0 o ⟨0, 0, 0, 0⟩ := by
  have hA : Below W.heap.size W (W.alloc (.cells #[.int .i64 o, .int .i64 0, .int .i64 0, .int .i64 0, .int .u32 0] 24)) := (Below.refl _ _).alloc (Nat.le_refl _) _
  have hI : Below (W.alloc (.cells #[.int .i64 o, .int .i64 0, .int .i64 0, .int .i64 0, .int .u32 0] 24)).heap.size (W.alloc (.cells #[.int .i64 o, .int .i64 0, .int .i64 0, .int .i64 0, .int .u32 0] 24)) ((W.alloc (.cells #[.int .i64 o, .int .i64 0, .int .i64 0, .int .i64 0, .int .u32 0] 24)).iter ⟨l.toArray⟩ 0) := (Below.refl _ _).alloc (Nat.le_refl _) _
  have c : ∀ j v, (W.alloc (.cells #[.int .i64 o, .int .i64 0, .int .i64 0, .int .i64 0, .int .u32 0] 24)).cell? ⟨W.heap.size, j, none⟩ = some v → ((W.alloc (.cells #[.int .i64 o, .int .i64 0, .int .i64 0, .int .i64 0, .int .u32 0] 24)).iter ⟨l.toArray⟩ 0).cell? ⟨w.heap.size + 1, j, none⟩ = some v := fun j v h => by
    rw [← hS]; exact cell_stays hI (Nat.le_refl _) h
  refine ⟨?_, (hZ.more _).stays hI (by simp; omega), c 0 _ (by simp), c 1 _ (by simp), c 2 _ (by simp), c 3 _ (by simp), c 4 _ (by simp), fun j => ?_, hW.trans ((hA.mono (by omega)).trans (hI.mono (by simp; omega)))⟩
  · have := World.iter_heap (W.alloc (.cells #[.int .i64 o, .int .i64 0, .int .i64 0, .int .i64 0, .int .u32 0] 24)) ⟨l.toArray⟩ 0
    rw [← hS]
    simpa using this
  · rw [← hS, hI.frozen (p := ⟨W.heap.size, j, none⟩) (by show W.heap.size < _; simp)]
    simp
/-- what Parse answers -/
def prV (S : Nat → Addr) (l : List UInt8) : Value := match parseS l with
  | .name => .tuple #[ins 0 0 0 0 0, .iface 210 (.pointer (some (S 4)))]
  | .text => .tuple #[ins 0 0 0 0 0, .iface 210 (.pointer (some (S 0)))]
  | .bound => .tuple #[ins 0 0 0 0 0, .iface 210 (.pointer (some (S 1)))]
  | .ok k f => .tuple #[ins k f.s f.t f.d f.m, .nilIface]
set_option maxHeartbeats 2000000 in
theorem parse_any (S : Nat → Addr) (l : List UInt8) (hl : l.length < 4294967281) (w : World) (EE : Er9 S w) (b : Lb w) :
    Calls Tryz.prog 11 #[.string ⟨l.toArray⟩] w fun e w' => e = .returned (prV S l) ∧ Below w.heap.size w w' := by
  have HB : Hid (Lb w) := b
  have HE : Hid (Er9 S w) := EE
  have hsz : 14 < w.heap.size := by obtain ⟨m, hm⟩ := b.mx; exact cell_lt hm
  clear b EE
  have hA : Below w.heap.size w (w.alloc (.cells #[.int .i64 0, .int .i64 0, .int .i64 0, .int .i64 0, .int .u32 0] 24)) := (Below.refl _ _).alloc (Nat.le_refl _) _
  have LA := HB.out.stays hA (Nat.le_refl _)
  have HLA : Hid (Lb (w.alloc (.cells #[.int .i64 0, .int .i64 0, .int .i64 0, .int .i64 0, .int .u32 0] 24))) := LA
  clear LA
  go_enter Tryz.func11, Tryz.ntmps11
  go_wp2_with fail
  refine (cutF_any l hl _ HLA.out).mono ?_
  rintro e w1 ⟨r, rfl, n1, rfl⟩
  go_wp2_with fail
  refine (oper_nm (l.takeWhile isWord) _ (HLA.out.drewN n1)).mono ?_
  rintro e w2 ⟨rfl, n2, rfl⟩
  have hZ : ZAt w.heap.size (((w.alloc (.cells #[.int .i64 0, .int .i64 0, .int .i64 0, .int .i64 0, .int .u32 0] 24)).drewN n1).drewN n2) := (ZAt.alloc w).stays (C := (w.alloc (.cells #[.int .i64 0, .int .i64 0, .int .i64 0, .int .i64 0, .int .u32 0] 24)).heap.size) ⟨rfl, rfl, rfl, Nat.le_refl _, fun _ _ => rfl⟩ (by simp)
  have hW : Below w.heap.size w (((w.alloc (.cells #[.int .i64 0, .int .i64 0, .int .i64 0, .int .i64 0, .int .u32 0] 24)).drewN n1).drewN n2) := below_drewN (below_drewN hA _) _
  have hS : (((w.alloc (.cells #[.int .i64 0, .int .i64 0, .int .i64 0, .int .i64 0, .int .u32 0] 24)).drewN n1).drewN n2).heap.size = w.heap.size + 1 := by simp
  clear hA HLA
  generalize ((w.alloc (.cells #[.int .i64 0, .int .i64 0, .int .i64 0, .int .i64 0, .int .u32 0] 24)).drewN n1).drewN n2 = W at *
  have hz1 : 1 < W.heap.size := by omega
  have hz2 : 2 < W.heap.size := by omega
  have hzw : w.heap.size < W.heap.size := by omega
  have HS : Hid (W.heap.size = w.heap.size + 1) := hS
  clear hS
  have hk := opOf_lt (l.takeWhile isWord)
  have HP : Hid (parseS l = if opOf (l.takeWhile isWord) = 0 then .name else fin (opOf (l.takeWhile isWord)) (pgo (form (opOf (l.takeWhile isWord))) (l.dropWhile isWord) (some ⟨0, 0, 0, 0⟩))) := rfl
  generalize opOf (l.takeWhile isWord) = k at *
  have hn : W.cell? ⟨1, 0, none⟩ = some (.iface 210 (.pointer (some (S 4)))) := cell_stays hW (Nat.le_refl _) HE.out.c4
  have ht : W.cell? ⟨2, 0, none⟩ = some (.iface 210 (.pointer (some (S 0)))) := cell_stays hW (Nat.le_refl _) HE.out.c0
  by_cases hk0 : k = 0
  · subst hk0
    obtain ⟨z0, z1, z2, z3, z4, zf⟩ := hZ
    have HV : Hid (prV S l = .tuple #[ins 0 0 0 0 0, .iface 210 (.pointer (some (S 4)))]) := by show prV S l = _; unfold prV; rw [HP.out]; rfl
    have hZ : ZAt w.heap.size W := ⟨z0, z1, z2, z3, z4, zf⟩
    go_wp2_with fail
    go_region
    all_goals
      go_wp2
      refine (?key : ∀ X, ZAt w.heap.size X → Below w.heap.size w X → bodyPost Tryz.prog Tryz.f11 _ Exit.ret _ X) _ ?h1 ?h2
      case key =>
        intro X z b
        obtain ⟨z0, z1, z2, z3, z4, zf⟩ := z
        exact bodyPost_ret (v := .tuple #[ins 0 0 0 0 0, .iface 210 (.pointer (some (S 4)))]) (by simp [results, Tryz.results11, go_sem, z0, z1, z2, z3, z4]) rfl ⟨by rw [HV.out], b⟩
      case h1 => exact (hZ.zeros.more _).drew
      case h2 => exact ((below_zeros hW).alloc (by simp; omega) _).drew
  · have hk1 : 1 ≤ k := by omega
    have HP2 : Hid (parseS l = fin k (pgo (form k) (l.dropWhile isWord) (some ⟨0, 0, 0, 0⟩))) := by show parseS l = _; rw [HP.out, if_neg hk0]
    clear HP
    have k0 : (0 : Int) < k := by omega
    have k1 : (k : Int) < 54 := by omega
    have kn : ((k : Int) == 0) = false := by simp; omega
    have hlen : (l.takeWhile isWord).length ≤ l.length := (List.takeWhile_prefix isWord).length_le
    go_wp2_with (go_at_call 26; refine (form_nat k hk _).mono ?_; rintro e w' ⟨rfl, rfl⟩)
    rw [HS.out, ext_drop]
    clear hn ht hz1 hz2 hzw
    go_loopw [8, 9] (fun a b wr => ∃ (p : Nat) (r : List UInt8) (acc : Option F) (f : F), p ≤ (form k).length ∧ a = .string ⟨r.toArray⟩ ∧ b = .bool acc.isSome ∧ r.length ≤ l.length ∧ Hid (pgo (form k) (l.dropWhile isWord) (some ⟨0, 0, 0, 0⟩) = pgo ((form k).drop p) r acc) ∧ Hid (∀ g, acc = some g → f = g) ∧ PInv w wr (form k) p k f) (fun _ _ wr => (form k).length - wr.iterPos (w.heap.size + 1 + 1))
    case atStart => exact ⟨0, _, some ⟨0, 0, 0, 0⟩, ⟨0, 0, 0, 0⟩, Nat.zero_le _, rfl, rfl, (List.dropWhile_suffix isWord).length_le, rfl, fun g h => by injection h, PInv.start HS.out hZ hW k _⟩
    case round =>
      obtain ⟨p, r, acc, f, hp, rfl, rfl, hrl, HG, HA, E⟩ := hrel
      by_cases hpl : p < (form k).length
      · have hc128 : (form k)[p].toNat < 128 := form_ascii k hk _ (List.getElem_mem hpl)
        have hnx := fun ty => dec_at (form k) p hpl _ rfl hc128 wr (w.heap.size + 1 + 1) E.it ty
        have hdr : (form k).drop p = (form k)[p] :: (form k).drop (p + 1) := List.drop_eq_getElem_cons hpl
        rw [hdr] at HG
        clear hdr
        generalize (form k)[p] = c at hc128 hnx HG
        have E2 := E.next (p + 1)
        generalize wr.iterAt (w.heap.size + 1 + 1) ⟨(form k).toArray⟩ (p + 1) = wr2 at hnx E2
        cases hr : readL c r with
        | none =>
          have hv : rdV c r = .tuple #[.int .i64 0, .string ⟨(bhd c r).toArray⟩, .bool false] := by unfold rdV; rw [hr]
          have HV : Hid (prV S l = .tuple #[ins 0 0 0 0 0, .iface 210 (.pointer (some (S 0)))]) := by
            show prV S l = _
            unfold prV
            rw [HP2.out, HG.out, pgo, hr]
            rfl
          clear hr
          go_wp2_with fail
          refine (read_any c hc128 r (by omega) _ (HB.out.stays E2.bel (Nat.le_refl _))).mono ?_
          rintro e w4 ⟨rfl, hb⟩
          rw [hv]
          have E4 := E2.grow hb
          have ht : w4.cell? ⟨2, 0, none⟩ = some (.iface 210 (.pointer (some (S 0)))) := cell_stays E4.bel (Nat.le_refl _) HE.out.c0
          have hZ4 := E4.z
          have hb4 := E4.bel
          obtain ⟨z0, z1, z2, z3, z4, zf⟩ := E4.z
          go_wp2_with fail
          go_region
          all_goals
            go_wp2
            refine (?key : ∀ X, ZAt w.heap.size X → Below w.heap.size w X → bodyPost Tryz.prog Tryz.f11 _ Exit.ret _ X) _ ?h1 ?h2
            case key =>
              intro X z b
              obtain ⟨z0, z1, z2, z3, z4, zf⟩ := z
              exact bodyPost_ret (v := .tuple #[ins 0 0 0 0 0, .iface 210 (.pointer (some (S 0)))]) (by simp [results, Tryz.results11, go_sem, z0, z1, z2, z3, z4]) rfl ⟨by rw [HV.out], b⟩
            case h1 => first | exact hZ4.zeros.drew | exact hZ4.drew.zeros | exact hZ4.zeros
            case h2 => first | exact (below_zeros hb4).drew | exact below_zeros hb4.drew | exact below_zeros hb4
        | some x =>
          obtain ⟨n, r1⟩ := x
          have hv : rdV c r = .tuple #[.int .i64 n, .string ⟨r1.toArray⟩, .bool true] := by unfold rdV; rw [hr]
          obtain ⟨n0, n1, hrl1⟩ := readL_rng hr
          have HG2 : Hid (pgo (form k) (l.dropWhile isWord) (some ⟨0, 0, 0, 0⟩) = pgo ((form k).drop (p + 1)) r1 (put c n acc)) := by
            show pgo (form k) _ _ = _
            rw [HG.out, pgo, hr]
          clear hr HG
          go_wp2_with fail
          refine (read_any c hc128 r (by omega) _ (HB.out.stays E2.bel (Nat.le_refl _))).mono ?_
          rintro e w4 ⟨rfl, hb⟩
          rw [hv]
          have E4 := E2.grow hb
          have hpc := put_inv E4 c n n0 n1
          cases hpu : put c n (some f) with
          | none =>
            rw [hpu] at hpc
            have HN : Hid (put c n acc = none) := by
              show put c n acc = none
              cases acc with
              | none => rfl
              | some g => rw [← HA.out g rfl]; exact hpu
            clear hpu
            go_wp2_with (go_at_call 37; refine hpc.mono ?_; rintro e w5 ⟨f', rfl, hf, E5⟩)
            refine ⟨⟨p + 1, r1, none, f', by omega, rfl, rfl, by omega, ?_, (fun g h => by cases h), E5⟩, ?_⟩
            · show pgo (form k) _ _ = _
              rw [HG2.out, HN.out]
            · rw [iterPos_of E5.it, iterPos_of E.it]
              omega
          | some g2 =>
            rw [hpu] at hpc
            have HN : Hid (acc.isSome = (put c n acc).isSome ∧ ∀ g, put c n acc = some g → g2 = g) := by
              show acc.isSome = (put c n acc).isSome ∧ ∀ g, put c n acc = some g → g2 = g
              cases acc with
              | none => exact ⟨rfl, fun g h => by cases h⟩
              | some g =>
                rw [← HA.out g rfl, hpu]
                exact ⟨rfl, fun g h => by injection h⟩
            clear hpu
            go_wp2_with (go_at_call 37; refine hpc.mono ?_; rintro e w5 ⟨f', rfl, hf, E5⟩)
            refine ⟨⟨p + 1, r1, put c n acc, f', by omega, rfl, by rw [HN.out.1], by omega, HG2, ?_, E5⟩, ?_⟩
            · intro g h
              rw [hf g2 rfl]
              exact HN.out.2 g h
            · rw [iterPos_of E5.it, iterPos_of E.it]
              omega
      · obtain rfl : p = (form k).length := by omega
        have hs : ¬ (form k).length < (ByteArray.mk (form k).toArray).size := by simp [ByteArray.size]
        have hnx := fun ty => Lib.run_next_end_at (P := Tryz.prog) wr _ _ _ ty E.it hs
        have hbel := E.bel
        have HQ : Hid (parseS l = fin k (some (r, acc))) := by
          show parseS l = _
          rw [HP2.out, HG.out, List.drop_length, pgo]
        have ht : wr.cell? ⟨2, 0, none⟩ = some (.iface 210 (.pointer (some (S 0)))) := cell_stays E.bel (Nat.le_refl _) HE.out.c0
        have hbd : wr.cell? ⟨3, 0, none⟩ = some (.iface 210 (.pointer (some (S 1)))) := cell_stays E.bel (Nat.le_refl _) HE.out.c1
        have hZ4 := E.z
        have hb4 := E.bel
        obtain ⟨z0, z1, z2, z3, z4, zf⟩ := E.z
        cases r with
        | cons x r =>
          have HV : Hid (prV S l = .tuple #[ins 0 0 0 0 0, .iface 210 (.pointer (some (S 0)))]) := by
            show prV S l = _
            unfold prV
            rw [HQ.out]
            rfl
          go_wp2_with fail
          go_region
          all_goals
            go_wp2
            refine (?key : ∀ X, ZAt w.heap.size X → Below w.heap.size w X → bodyPost Tryz.prog Tryz.f11 _ Exit.ret _ X) _ ?h1 ?h2
            case key =>
              intro X z b
              obtain ⟨z0, z1, z2, z3, z4, zf⟩ := z
              exact bodyPost_ret (v := .tuple #[ins 0 0 0 0 0, .iface 210 (.pointer (some (S 0)))]) (by simp [results, Tryz.results11, go_sem, z0, z1, z2, z3, z4]) rfl ⟨by rw [HV.out], b⟩
            case h1 => first | exact hZ4.zeros.drew | exact hZ4.drew.zeros | exact hZ4.zeros
            case h2 => first | exact (below_zeros hb4).drew | exact below_zeros hb4.drew | exact below_zeros hb4
        | nil =>
          cases acc with
          | none =>
            have HV : Hid (prV S l = .tuple #[ins 0 0 0 0 0, .iface 210 (.pointer (some (S 1)))]) := by
              show prV S l = _
              unfold prV
              rw [HQ.out]
              rfl
            go_wp2_with fail
            go_region
            all_goals
              go_wp2
              refine (?key : ∀ X, ZAt w.heap.size X → Below w.heap.size w X → bodyPost Tryz.prog Tryz.f11 _ Exit.ret _ X) _ ?h1 ?h2
              case key =>
                intro X z b
                obtain ⟨z0, z1, z2, z3, z4, zf⟩ := z
                exact bodyPost_ret (v := .tuple #[ins 0 0 0 0 0, .iface 210 (.pointer (some (S 1)))]) (by simp [results, Tryz.results11, go_sem, z0, z1, z2, z3, z4]) rfl ⟨by rw [HV.out], b⟩
              case h1 => first | exact hZ4.zeros.drew | exact hZ4.drew.zeros | exact hZ4.zeros
              case h2 => first | exact (below_zeros hb4).drew | exact below_zeros hb4.drew | exact below_zeros hb4
          | some g =>
            have hfg := HA.out g rfl
            subst hfg
            have HV : Hid (prV S l = .tuple #[ins k f.s f.t f.d f.m, .nilIface]) := by
              show prV S l = _
              unfold prV
              rw [HQ.out]
              rfl
            obtain ⟨q0, q1, q2, q3, q4⟩ := (⟨E.c0, E.c1, E.c2, E.c3, E.c4⟩ : _ ∧ _ ∧ _ ∧ _ ∧ _)
            go_wp2
            exact bodyPost_ret (v := .tuple #[ins k f.s f.t f.d f.m, .nilIface]) (by simp [results, Tryz.results11, go_sem, z0, z1, z2, z3, z4]) rfl ⟨by rw [HV.out], ((((hb4.setCell (Nat.le_refl _) _).setCell (Nat.le_refl _) _).setCell (Nat.le_refl _) _).setCell (Nat.le_refl _) _).setCell (Nat.le_refl _) _⟩
end Go.Proofs.YtccnliihdhnckaaGreatDoor
