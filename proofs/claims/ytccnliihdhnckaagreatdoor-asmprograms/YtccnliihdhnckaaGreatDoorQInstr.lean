/-
  A line that is an instruction.
-/
import Derived.Deep.RegionLaw
import Derived.Great.Walk
import Derived.Deep.Cut
import Derived.Test.YtccnliihdhnckaaGreatDoorQPlain
namespace Go.Proofs.YtccnliihdhnckaaGreatDoor
open Go.RowKit Go.Shelf Go.Joins
open Num Tab Fm Txt
set_option linter.unusedVariables false
theorem cutT_len (l : List UInt8) : (cutT l).length ≤ l.length + 1 := by
  unfold cutT
  split
  · simp; omega
  · omega
theorem step_append_moved {P : Program} {ops : Array Oper} {o : Oper} {a : Act} {w : World} {K : Act → World → Prop} {Q : Exit → Act → World → Prop} {E : Prop} (hgd : o.guard = none) (s x : Operand) (t : TypeId)
    (ho : o.op = .call { callee := .builtin .append, args := #[s, x], argTypes := #[t, t] })
    (base : Nat) (e : TypeId) (i : TypeInfo) (z : Value) (size bytes : Nat) (ht : P.underlying t = some (.slice e)) (hi : P.info? e = some i) (hz : i.zero = some z)
    (hsize : i.size = size) (hby : i.bytes = bytes) (hzs : z.cells.size = size) (hsz : 0 < size)
    (v : Value) (n : Nat) (xs : List Value) (hs : a.eval s = v) (hown : w.ownsRow base e size v n xs)
    (ad : Addr) (m c : Nat) (news : List Value) (hx : a.eval x = .slice (some ad) m c) (hl : news.length = m * size) (hnews : ∀ j u, news[j]? = some u → w.cell? (ad.add j) = some u) (h1 : ∀ u ∈ news, u.oneCell' = true)
    (h63 : n + m ≤ maxLen) (hbytes : (n + m) * bytes ≤ 140737488355328) (hbase : base ≤ w.heap.size)
    (h : ∀ v' w', w'.ownsRow base e size v' (n + m) (xs ++ news) → w.grownBy w' v.ownBlock → Moved w v v' → K (a.put o.dst v') w') : if Region.wanted o (yielded ops a.tmps) = true then Oper.wp P o a w K Q else E := by
  have hw : Region.wanted o (yielded ops a.tmps) = true := by simp [Region.wanted, hgd]
  rw [if_pos hw]
  obtain ⟨v', w', hr, h2, h3, h4⟩ := run_append_moved (P := P) w base t o.type e i z size bytes ht hi hz hsize hby hzs hsz v n xs hown ad m c news hl hnews h1 h63 hbytes hbase
  unfold Oper.wp execOp
  simp only [ho, resolve, invoke, builtin, Sem.run_bind, Sem.run_pure, Result.andThen_ok, List.map_toArray, List.map_cons, List.map_nil, hs, hx, hr]
  exact h v' w' h2 h3 h4
section
variable {w : World} {base sb lb : Nat} {org : Int} {ps : List Pt} {vp : Value}
set_option maxRecDepth 100000 in
set_option maxHeartbeats 1000000 in
theorem instr_ok (E : Nat → Addr) (EE : Er9 E w) (S : SrcIs w base sb lb org ps vp) (b : Lb w) (at_ : Int) (l : List UInt8) (hl : l.length ≤ 1000) (hp : ps.length ≤ 10000) (k : Nat) (f : F) (hw : parseS (cutT l) = .ok k f) :
    Calls Tryz.prog 75 #[.pointer (some ⟨sb, 0, none⟩), .int .i64 at_, .string ⟨l.toArray⟩] w fun e w' => e = .returned .nilIface ∧ ∃ vp', SrcIs w' base sb lb org (ps ++ [⟨at_, 0, k, f, cutN l⟩]) vp' ∧ (∃ w1, Below w.heap.size w w1 ∧ STurned w1 w' sb vp) ∧ Moved w vp vp' := by
  obtain ⟨i0, hi, hz0, hz1, hz2⟩ := info_parts info93
  have hcu := cutName_any l hl w b
  have hct := cutT_len l
  have HB : Hid (Lb w) := b
  have HE : Hid (Er9 E w) := EE
  have SH : Hid (SrcIs w base sb lb org ps vp) := S
  have hv : prV E (cutT l) = .tuple #[ins k f.s f.t f.d f.m, .nilIface] := by unfold prV; rw [hw]
  have hpa := fun (W : World) (h : Below w.heap.size w W) => parse_any E (cutT l) (by omega) W (HE.out.stays h) (HB.out.stays h (Nat.le_refl _))
  rw [hv] at hpa
  clear S b EE hv hw
  generalize cutT l = tx at *
  generalize cutN l = nm at *
  obtain ⟨fs, ft, fd, fm⟩ := f
  go_enter Tryz.func75, Tryz.ntmps75
  go_wp2_with fail
  refine hcu.mono ?_
  rintro e w1 ⟨rfl, hb1⟩
  clear hcu
  go_wp2_with fail
  refine (hpa _ hb1).mono ?_
  rintro e w2 ⟨rfl, hb2⟩
  clear hpa
  have hb : Below w.heap.size w w2 := hb1.trans (hb2.mono hb1.size)
  have S1 : Hid (SrcIs w2 base sb lb org ps vp) := SH.out.stays hb
  have c2 := S1.out.c2
  have hsb : sb < w2.heap.size := by have := S1.out.ls; have := S1.out.bs; omega
  clear hb1 hb2 SH
  have hA : Below w2.heap.size w2 (w2.alloc (.cells #[.int .i64 k, .int .i64 fs, .int .i64 ft, .int .i64 fd, .int .u32 fm] 24)) := (Below.refl _ _).alloc (Nat.le_refl _) _
  have S3 : Hid (SrcIs (w2.alloc (.cells #[.int .i64 k, .int .i64 fs, .int .i64 ft, .int .i64 fd, .int .u32 fm] 24)) base sb lb org ps vp) := S1.out.stays hA
  have hB3 : Hid (Below w.heap.size w (w2.alloc (.cells #[.int .i64 k, .int .i64 fs, .int .i64 ft, .int .i64 fd, .int .u32 fm] 24))) := hb.trans (hA.mono hb.size)
  have hbs := S3.out.bs
  clear hA S1 hb
  delta ins
  go_upto_region 5 with fail
  have d0 : (w2.alloc (.cells #[.int .i64 k, .int .i64 fs, .int .i64 ft, .int .i64 fd, .int .u32 fm] 24)).cell? ⟨w2.heap.size, 0, none⟩ = some (.int .i64 k) := by simp
  have d1 : (w2.alloc (.cells #[.int .i64 k, .int .i64 fs, .int .i64 ft, .int .i64 fd, .int .u32 fm] 24)).cell? ⟨w2.heap.size, 1, none⟩ = some (.int .i64 fs) := by simp
  have d2 : (w2.alloc (.cells #[.int .i64 k, .int .i64 fs, .int .i64 ft, .int .i64 fd, .int .u32 fm] 24)).cell? ⟨w2.heap.size, 2, none⟩ = some (.int .i64 ft) := by simp
  have d3 : (w2.alloc (.cells #[.int .i64 k, .int .i64 fs, .int .i64 ft, .int .i64 fd, .int .u32 fm] 24)).cell? ⟨w2.heap.size, 3, none⟩ = some (.int .i64 fd) := by simp
  have d4 : (w2.alloc (.cells #[.int .i64 k, .int .i64 fs, .int .i64 ft, .int .i64 fd, .int .u32 fm] 24)).cell? ⟨w2.heap.size, 4, none⟩ = some (.int .u32 fm) := by simp
  generalize w2.alloc (.cells #[.int .i64 k, .int .i64 fs, .int .i64 ft, .int .i64 fd, .int .u32 fm] 24) = W3 at *
  have c2' := S3.out.c2
  have S4 : Hid (SrcIs W3.drew base sb lb org ps vp) := S3.out.stays (Below.refl _ _).drew
  have hnews := pt_cells W3.drew ⟨at_, 0, k, ⟨fs, ft, fd, fm⟩, nm⟩
  have hsz : W3.drew.heap.size = W3.heap.size := rfl
  have hsb3 : sb < W3.heap.size := by have := S3.out.ls; have := S3.out.bs; omega
  have hvb : w2.heap.size < W3.heap.size := World.block_lt_of_cell? _ _ d0
  go_region_law (refine step_append_moved rfl _ _ 85 rfl base 93 i0 _ 8 72 Tryz.underlying85 hi hz0 hz1 hz2 rfl (by decide) vp ps.length (ps.flatMap ptC) rfl (S4.out.rp.alloc _) ⟨W3.heap.size, 0, none⟩ 1 1 (ptC ⟨at_, 0, k, ⟨fs, ft, fd, fm⟩, nm⟩) rfl rfl hnews (pt_one _) (by unfold maxLen; omega) (by omega) (by simp; omega) ?_; intro v' w4 ho hg hm; obtain ⟨g', cap', rfl⟩ := owns_pos ho; have hp2 := S4.out.putPart ho hg hm; obtain ⟨⟨hc1, hf1⟩, hp3⟩ := hp2)
  all_goals
    go_wp2
    go_ret
    exact ⟨rfl, _, hp3.1, ⟨_, hB3.out.drew, hp3.2.1⟩, fun k hk => (hp3.2.2 k hk).imp id (fun h => Nat.le_trans hB3.out.size h)⟩
end
end Go.Proofs.YtccnliihdhnckaaGreatDoor
