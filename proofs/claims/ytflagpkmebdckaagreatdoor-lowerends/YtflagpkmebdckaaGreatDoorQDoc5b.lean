
import Derived.Test.YtflagpkmebdckaaGreatDoorKKDecode
namespace Go.Proofs.YtflagpkmebdckaaGreatDoor
open Go.RowKit
open Num
set_option linter.unusedVariables false
set_option maxRecDepth 100000
set_option maxHeartbeats 16000000
theorem opError_over1 (o:Opx) (ok:o.ok) (many:Int) (w:World) (hk:21≤kn o.s∧kn o.s≤21):Calls Tryz.prog 66 #[opV o,.int .i64 many] w fun e w'=>e=.returned (.int .i64 (opE o many))∧Below w.heap.size w w':=by
 have hf:=fun w=>foA o.s w
 have hd:=fun w=>ioF (kn o.s) 68 w
 have ha:=fun w=>ioF (kn o.s) 65 w
 have hb:=fun w=>ioF (kn o.s) 66 w
 have hn:=fun w=>ioF (kn o.s) 73 w
 have hl:=kn_lt o.s
 rw[fld_D _ hl,show decide (rD (kn o.s)≠0)=false by unfold rD;rw[if_neg (by omega),if_neg (by omega)];rfl]at hd
 rw[fld_A _ hl,show decide (rA (kn o.s)≠0)=true by unfold rA;rw[if_pos (by omega)];rfl]at ha
 rw[fld_B _ hl,show decide (rB (kn o.s)≠0)=true by unfold rB;rw[if_pos (by omega)];rfl]at hb
 rw[fld_I _ hl,show rI (kn o.s)=false by unfold rI;simp;omega]at hn
 have e24:(o.s.toList==[115,116,111,114,101])=false:=by rw[show (o.s.toList==[115,116,111,114,101])=_ from kn_eq o.s 24 (by omega) (by omega)];simp;omega
 have e23:(o.s.toList==[108,111,97,100])=false:=by rw[show (o.s.toList==[108,111,97,100])=_ from kn_eq o.s 23 (by omega) (by omega)];simp;omega
 have ene:((⟨(fldL (kn o.s)).toArray⟩:ByteArray).toList==[])=false:=by
  rw[ByteArray.toList_eq]
  have:fldL (kn o.s)≠[]:=by
   have h27:∀ k,k<28→1≤k→fldL k≠[]:=by decide
   exact h27 _ hl (by omega)
  cases hfl:fldL (kn o.s) with
  | nil=>exact absurd hfl this
  | cons x y=>rfl
 have HB:Hid (bndB o many=decide (0≤o.t∧o.t<many∧0≤o.a∧o.a<64∧0≤o.b∧o.b<64)):=by
  show _=_
  unfold bndB alw rD rA rB Opx.k
  rw[Bool.eq_iff_iff]
  have hk':=hk
  have e0:kn o.s=21:=by omega
  rw[e0];simp
  try omega
 have HS:Hid (shpB o=decide (o.d=0∧o.i=0)):=by
  show _=_
  unfold shpB rD rA rB rI Opx.k
  rw[Bool.eq_iff_iff]
  have e0:kn o.s=21:=by omega
  rw[e0];simp
  try omega
 have H0:o.k≠0:=by unfold Opx.k;omega
 have H2:Hid (¬ (0≤o.t∧o.t<many∧0≤o.a∧o.a<64∧0≤o.b∧o.b<64)→opE o many=2):=fun h=>opE_2 H0 (by rw[HB.out];simpa using h)
 have H3:Hid ((0≤o.t∧o.t<many∧0≤o.a∧o.a<64∧0≤o.b∧o.b<64)→¬ (o.d=0∧o.i=0)→opE o many=3):=fun h h2=>opE_3 H0 (by rw[HB.out];simpa using h) (by rw[HS.out];simpa using h2)
 have H4:Hid ((0≤o.t∧o.t<many∧0≤o.a∧o.a<64∧0≤o.b∧o.b<64)→(o.d=0∧o.i=0)→opE o many=0):=fun h h2=>opE_0 H0 (by rw[HB.out];simpa using h) (by rw[HS.out];simpa using h2)
 obtain ⟨R,hR⟩:∃ R,opE o many=R:=⟨_,rfl⟩
 rw[hR]at H2 H3 H4 ⊢
 have OB:Hid (Below w.heap.size w (w.alloc (.cells #[.string o.s,.int .i64 o.d,.int .i64 o.a,.int .i64 o.b,.int .u32 o.i,.int .i64 o.t] 139))):=(Below.refl _ _).alloc (Nat.le_refl _) _
 clear HB HS H0 hR hk hl
 generalize (⟨(fldL (kn o.s)).toArray⟩:ByteArray)=fs at *
 unfold opV
 have bx:=BoxOd.new w o
 have hz0:w.heap.size<(w.alloc (.cells #[.string o.s,.int .i64 o.d,.int .i64 o.a,.int .i64 o.b,.int .u32 o.i,.int .i64 o.t] 139)).heap.size:=by simp
 go_enter Tryz.func66,Tryz.ntmps66
 go_upto_region 1 with fail
 generalize w.alloc (.cells #[.string o.s,.int .i64 o.d,.int .i64 o.a,.int .i64 o.b,.int .u32 o.i,.int .i64 o.t] 139)=V at *
 obtain ⟨k0,k1,k2,k3,k4,k5⟩:=bx
 go_wp2_with fail
 refine (hf _).mono ?_
 rintro e w1 ⟨rfl,hw⟩
 rw[hw]
 clear hw w1
 go_wp2_with fail
 refine (hd _).mono ?_
 rintro e w1 ⟨rfl,hw⟩
 rw[hw]
 clear hw w1
 go_wp2_with fail
 refine (ha _).mono ?_
 rintro e w1 ⟨rfl,hw⟩
 rw[hw]
 clear hw w1
 go_wp2_with fail
 refine (hb _).mono ?_
 rintro e w1 ⟨rfl,hw⟩
 rw[hw]
 clear hw w1
 go_wp2_with fail
 refine (hn _).mono ?_
 rintro e w1 ⟨rfl,hw⟩
 rw[hw]
 clear hw w1 hf hd ha hb hn ene
 go_wp2
 all_goals
  go_ret
  refine ⟨?_,OB.out⟩
  have a2:=H2.out
  have a3:=H3.out
  have a4:=H4.out
  clear H2 H3 H4
  refine ret_int ?_
  first
  | omega
  | (simp at a2 a4;omega)
  | (simp at a2 a4 ⊢;omega)
  | (simp_all<;>omega)
theorem opError_over2 (o:Opx) (ok:o.ok) (many:Int) (w:World) (hk:22≤kn o.s∧kn o.s≤22):Calls Tryz.prog 66 #[opV o,.int .i64 many] w fun e w'=>e=.returned (.int .i64 (opE o many))∧Below w.heap.size w w':=by
 have hf:=fun w=>foA o.s w
 have hd:=fun w=>ioF (kn o.s) 68 w
 have ha:=fun w=>ioF (kn o.s) 65 w
 have hb:=fun w=>ioF (kn o.s) 66 w
 have hn:=fun w=>ioF (kn o.s) 73 w
 have hl:=kn_lt o.s
 rw[fld_D _ hl,show decide (rD (kn o.s)≠0)=false by unfold rD;rw[if_neg (by omega),if_neg (by omega)];rfl]at hd
 rw[fld_A _ hl,show decide (rA (kn o.s)≠0)=true by unfold rA;rw[if_pos (by omega)];rfl]at ha
 rw[fld_B _ hl,show decide (rB (kn o.s)≠0)=true by unfold rB;rw[if_pos (by omega)];rfl]at hb
 rw[fld_I _ hl,show rI (kn o.s)=false by unfold rI;simp;omega]at hn
 have e24:(o.s.toList==[115,116,111,114,101])=false:=by rw[show (o.s.toList==[115,116,111,114,101])=_ from kn_eq o.s 24 (by omega) (by omega)];simp;omega
 have e23:(o.s.toList==[108,111,97,100])=false:=by rw[show (o.s.toList==[108,111,97,100])=_ from kn_eq o.s 23 (by omega) (by omega)];simp;omega
 have ene:((⟨(fldL (kn o.s)).toArray⟩:ByteArray).toList==[])=false:=by
  rw[ByteArray.toList_eq]
  have:fldL (kn o.s)≠[]:=by
   have h27:∀ k,k<28→1≤k→fldL k≠[]:=by decide
   exact h27 _ hl (by omega)
  cases hfl:fldL (kn o.s) with
  | nil=>exact absurd hfl this
  | cons x y=>rfl
 have HB:Hid (bndB o many=decide (0≤o.t∧o.t<many∧0≤o.a∧o.a<64∧0≤o.b∧o.b<64)):=by
  show _=_
  unfold bndB alw rD rA rB Opx.k
  rw[Bool.eq_iff_iff]
  have hk':=hk
  have e0:kn o.s=22:=by omega
  rw[e0];simp
  try omega
 have HS:Hid (shpB o=decide (o.d=0∧o.i=0)):=by
  show _=_
  unfold shpB rD rA rB rI Opx.k
  rw[Bool.eq_iff_iff]
  have e0:kn o.s=22:=by omega
  rw[e0];simp
  try omega
 have H0:o.k≠0:=by unfold Opx.k;omega
 have H2:Hid (¬ (0≤o.t∧o.t<many∧0≤o.a∧o.a<64∧0≤o.b∧o.b<64)→opE o many=2):=fun h=>opE_2 H0 (by rw[HB.out];simpa using h)
 have H3:Hid ((0≤o.t∧o.t<many∧0≤o.a∧o.a<64∧0≤o.b∧o.b<64)→¬ (o.d=0∧o.i=0)→opE o many=3):=fun h h2=>opE_3 H0 (by rw[HB.out];simpa using h) (by rw[HS.out];simpa using h2)
 have H4:Hid ((0≤o.t∧o.t<many∧0≤o.a∧o.a<64∧0≤o.b∧o.b<64)→(o.d=0∧o.i=0)→opE o many=0):=fun h h2=>opE_0 H0 (by rw[HB.out];simpa using h) (by rw[HS.out];simpa using h2)
 obtain ⟨R,hR⟩:∃ R,opE o many=R:=⟨_,rfl⟩
 rw[hR]at H2 H3 H4 ⊢
 have OB:Hid (Below w.heap.size w (w.alloc (.cells #[.string o.s,.int .i64 o.d,.int .i64 o.a,.int .i64 o.b,.int .u32 o.i,.int .i64 o.t] 139))):=(Below.refl _ _).alloc (Nat.le_refl _) _
 clear HB HS H0 hR hk hl
 generalize (⟨(fldL (kn o.s)).toArray⟩:ByteArray)=fs at *
 unfold opV
 have bx:=BoxOd.new w o
 have hz0:w.heap.size<(w.alloc (.cells #[.string o.s,.int .i64 o.d,.int .i64 o.a,.int .i64 o.b,.int .u32 o.i,.int .i64 o.t] 139)).heap.size:=by simp
 go_enter Tryz.func66,Tryz.ntmps66
 go_upto_region 1 with fail
 generalize w.alloc (.cells #[.string o.s,.int .i64 o.d,.int .i64 o.a,.int .i64 o.b,.int .u32 o.i,.int .i64 o.t] 139)=V at *
 obtain ⟨k0,k1,k2,k3,k4,k5⟩:=bx
 go_wp2_with fail
 refine (hf _).mono ?_
 rintro e w1 ⟨rfl,hw⟩
 rw[hw]
 clear hw w1
 go_wp2_with fail
 refine (hd _).mono ?_
 rintro e w1 ⟨rfl,hw⟩
 rw[hw]
 clear hw w1
 go_wp2_with fail
 refine (ha _).mono ?_
 rintro e w1 ⟨rfl,hw⟩
 rw[hw]
 clear hw w1
 go_wp2_with fail
 refine (hb _).mono ?_
 rintro e w1 ⟨rfl,hw⟩
 rw[hw]
 clear hw w1
 go_wp2_with fail
 refine (hn _).mono ?_
 rintro e w1 ⟨rfl,hw⟩
 rw[hw]
 clear hw w1 hf hd ha hb hn ene
 go_wp2
 all_goals
  go_ret
  refine ⟨?_,OB.out⟩
  have a2:=H2.out
  have a3:=H3.out
  have a4:=H4.out
  clear H2 H3 H4
  refine ret_int ?_
  first
  | omega
  | (simp at a2 a4;omega)
  | (simp at a2 a4 ⊢;omega)
  | (simp_all<;>omega)
theorem opError_if (o:Opx) (ok:o.ok) (many:Int) (w:World) (hk:25≤kn o.s∧kn o.s≤25):Calls Tryz.prog 66 #[opV o,.int .i64 many] w fun e w'=>e=.returned (.int .i64 (opE o many))∧Below w.heap.size w w':=by
 have hf:=fun w=>foA o.s w
 have hd:=fun w=>ioF (kn o.s) 68 w
 have ha:=fun w=>ioF (kn o.s) 65 w
 have hb:=fun w=>ioF (kn o.s) 66 w
 have hn:=fun w=>ioF (kn o.s) 73 w
 have hl:=kn_lt o.s
 rw[fld_D _ hl,show decide (rD (kn o.s)≠0)=false by unfold rD;rw[if_neg (by omega),if_neg (by omega)];rfl]at hd
 rw[fld_A _ hl,show decide (rA (kn o.s)≠0)=true by unfold rA;rw[if_pos (by omega)];rfl]at ha
 rw[fld_B _ hl,show decide (rB (kn o.s)≠0)=false by unfold rB;rw[if_neg (by omega),if_neg (by omega)];rfl]at hb
 rw[fld_I _ hl,show rI (kn o.s)=true by unfold rI;simp;omega]at hn
 have e24:(o.s.toList==[115,116,111,114,101])=false:=by rw[show (o.s.toList==[115,116,111,114,101])=_ from kn_eq o.s 24 (by omega) (by omega)];simp;omega
 have e23:(o.s.toList==[108,111,97,100])=false:=by rw[show (o.s.toList==[108,111,97,100])=_ from kn_eq o.s 23 (by omega) (by omega)];simp;omega
 have ene:((⟨(fldL (kn o.s)).toArray⟩:ByteArray).toList==[])=false:=by
  rw[ByteArray.toList_eq]
  have:fldL (kn o.s)≠[]:=by
   have h27:∀ k,k<28→1≤k→fldL k≠[]:=by decide
   exact h27 _ hl (by omega)
  cases hfl:fldL (kn o.s) with
  | nil=>exact absurd hfl this
  | cons x y=>rfl
 have HB:Hid (bndB o many=decide (0≤o.t∧o.t<many∧0≤o.a∧o.a<64)):=by
  show _=_
  unfold bndB alw rD rA rB Opx.k
  rw[Bool.eq_iff_iff]
  have hk':=hk
  have e0:kn o.s=25:=by omega
  rw[e0];simp
  try omega
 have HS:Hid (shpB o=decide (o.d=0∧o.b=0)):=by
  show _=_
  unfold shpB rD rA rB rI Opx.k
  rw[Bool.eq_iff_iff]
  have e0:kn o.s=25:=by omega
  rw[e0];simp
  try omega
 have H0:o.k≠0:=by unfold Opx.k;omega
 have H2:Hid (¬ (0≤o.t∧o.t<many∧0≤o.a∧o.a<64)→opE o many=2):=fun h=>opE_2 H0 (by rw[HB.out];simpa using h)
 have H3:Hid ((0≤o.t∧o.t<many∧0≤o.a∧o.a<64)→¬ (o.d=0∧o.b=0)→opE o many=3):=fun h h2=>opE_3 H0 (by rw[HB.out];simpa using h) (by rw[HS.out];simpa using h2)
 have H4:Hid ((0≤o.t∧o.t<many∧0≤o.a∧o.a<64)→(o.d=0∧o.b=0)→opE o many=0):=fun h h2=>opE_0 H0 (by rw[HB.out];simpa using h) (by rw[HS.out];simpa using h2)
 obtain ⟨R,hR⟩:∃ R,opE o many=R:=⟨_,rfl⟩
 rw[hR]at H2 H3 H4 ⊢
 have OB:Hid (Below w.heap.size w (w.alloc (.cells #[.string o.s,.int .i64 o.d,.int .i64 o.a,.int .i64 o.b,.int .u32 o.i,.int .i64 o.t] 139))):=(Below.refl _ _).alloc (Nat.le_refl _) _
 clear HB HS H0 hR hk hl
 generalize (⟨(fldL (kn o.s)).toArray⟩:ByteArray)=fs at *
 unfold opV
 have bx:=BoxOd.new w o
 have hz0:w.heap.size<(w.alloc (.cells #[.string o.s,.int .i64 o.d,.int .i64 o.a,.int .i64 o.b,.int .u32 o.i,.int .i64 o.t] 139)).heap.size:=by simp
 go_enter Tryz.func66,Tryz.ntmps66
 go_upto_region 1 with fail
 generalize w.alloc (.cells #[.string o.s,.int .i64 o.d,.int .i64 o.a,.int .i64 o.b,.int .u32 o.i,.int .i64 o.t] 139)=V at *
 obtain ⟨k0,k1,k2,k3,k4,k5⟩:=bx
 go_wp2_with fail
 refine (hf _).mono ?_
 rintro e w1 ⟨rfl,hw⟩
 rw[hw]
 clear hw w1
 go_wp2_with fail
 refine (hd _).mono ?_
 rintro e w1 ⟨rfl,hw⟩
 rw[hw]
 clear hw w1
 go_wp2_with fail
 refine (ha _).mono ?_
 rintro e w1 ⟨rfl,hw⟩
 rw[hw]
 clear hw w1
 go_wp2_with fail
 refine (hb _).mono ?_
 rintro e w1 ⟨rfl,hw⟩
 rw[hw]
 clear hw w1
 go_wp2_with fail
 refine (hn _).mono ?_
 rintro e w1 ⟨rfl,hw⟩
 rw[hw]
 clear hw w1 hf hd ha hb hn ene
 go_wp2
 all_goals
  go_ret
  refine ⟨?_,OB.out⟩
  have a2:=H2.out
  have a3:=H3.out
  have a4:=H4.out
  clear H2 H3 H4
  refine ret_int ?_
  first
  | omega
  | (simp at a2 a4;omega)
  | (simp at a2 a4 ⊢;omega)
  | (simp_all<;>omega)
theorem opError_out (o:Opx) (ok:o.ok) (many:Int) (w:World) (hk:26≤kn o.s∧kn o.s≤26):Calls Tryz.prog 66 #[opV o,.int .i64 many] w fun e w'=>e=.returned (.int .i64 (opE o many))∧Below w.heap.size w w':=by
 have hf:=fun w=>foA o.s w
 have hd:=fun w=>ioF (kn o.s) 68 w
 have ha:=fun w=>ioF (kn o.s) 65 w
 have hb:=fun w=>ioF (kn o.s) 66 w
 have hn:=fun w=>ioF (kn o.s) 73 w
 have hl:=kn_lt o.s
 rw[fld_D _ hl,show decide (rD (kn o.s)≠0)=false by unfold rD;rw[if_neg (by omega),if_neg (by omega)];rfl]at hd
 rw[fld_A _ hl,show decide (rA (kn o.s)≠0)=false by unfold rA;rw[if_neg (by omega)];rfl]at ha
 rw[fld_B _ hl,show decide (rB (kn o.s)≠0)=false by unfold rB;rw[if_neg (by omega),if_neg (by omega)];rfl]at hb
 rw[fld_I _ hl,show rI (kn o.s)=true by unfold rI;simp;omega]at hn
 have e24:(o.s.toList==[115,116,111,114,101])=false:=by rw[show (o.s.toList==[115,116,111,114,101])=_ from kn_eq o.s 24 (by omega) (by omega)];simp;omega
 have e23:(o.s.toList==[108,111,97,100])=false:=by rw[show (o.s.toList==[108,111,97,100])=_ from kn_eq o.s 23 (by omega) (by omega)];simp;omega
 have ene:((⟨(fldL (kn o.s)).toArray⟩:ByteArray).toList==[])=false:=by
  rw[ByteArray.toList_eq]
  have:fldL (kn o.s)≠[]:=by
   have h27:∀ k,k<28→1≤k→fldL k≠[]:=by decide
   exact h27 _ hl (by omega)
  cases hfl:fldL (kn o.s) with
  | nil=>exact absurd hfl this
  | cons x y=>rfl
 have HB:Hid (bndB o many=decide (0≤o.t∧o.t<many)):=by
  show _=_
  unfold bndB alw rD rA rB Opx.k
  rw[Bool.eq_iff_iff]
  have hk':=hk
  have e0:kn o.s=26:=by omega
  rw[e0];simp
  try omega
 have HS:Hid (shpB o=decide (o.d=0∧o.a=0∧o.b=0)):=by
  show _=_
  unfold shpB rD rA rB rI Opx.k
  rw[Bool.eq_iff_iff]
  have e0:kn o.s=26:=by omega
  rw[e0];simp
  try omega
 have H0:o.k≠0:=by unfold Opx.k;omega
 have H2:Hid (¬ (0≤o.t∧o.t<many)→opE o many=2):=fun h=>opE_2 H0 (by rw[HB.out];simpa using h)
 have H3:Hid ((0≤o.t∧o.t<many)→¬ (o.d=0∧o.a=0∧o.b=0)→opE o many=3):=fun h h2=>opE_3 H0 (by rw[HB.out];simpa using h) (by rw[HS.out];simpa using h2)
 have H4:Hid ((0≤o.t∧o.t<many)→(o.d=0∧o.a=0∧o.b=0)→opE o many=0):=fun h h2=>opE_0 H0 (by rw[HB.out];simpa using h) (by rw[HS.out];simpa using h2)
 obtain ⟨R,hR⟩:∃ R,opE o many=R:=⟨_,rfl⟩
 rw[hR]at H2 H3 H4 ⊢
 have OB:Hid (Below w.heap.size w (w.alloc (.cells #[.string o.s,.int .i64 o.d,.int .i64 o.a,.int .i64 o.b,.int .u32 o.i,.int .i64 o.t] 139))):=(Below.refl _ _).alloc (Nat.le_refl _) _
 clear HB HS H0 hR hk hl
 generalize (⟨(fldL (kn o.s)).toArray⟩:ByteArray)=fs at *
 unfold opV
 have bx:=BoxOd.new w o
 have hz0:w.heap.size<(w.alloc (.cells #[.string o.s,.int .i64 o.d,.int .i64 o.a,.int .i64 o.b,.int .u32 o.i,.int .i64 o.t] 139)).heap.size:=by simp
 go_enter Tryz.func66,Tryz.ntmps66
 go_upto_region 1 with fail
 generalize w.alloc (.cells #[.string o.s,.int .i64 o.d,.int .i64 o.a,.int .i64 o.b,.int .u32 o.i,.int .i64 o.t] 139)=V at *
 obtain ⟨k0,k1,k2,k3,k4,k5⟩:=bx
 go_wp2_with fail
 refine (hf _).mono ?_
 rintro e w1 ⟨rfl,hw⟩
 rw[hw]
 clear hw w1
 go_wp2_with fail
 refine (hd _).mono ?_
 rintro e w1 ⟨rfl,hw⟩
 rw[hw]
 clear hw w1
 go_wp2_with fail
 refine (ha _).mono ?_
 rintro e w1 ⟨rfl,hw⟩
 rw[hw]
 clear hw w1
 go_wp2_with fail
 refine (hb _).mono ?_
 rintro e w1 ⟨rfl,hw⟩
 rw[hw]
 clear hw w1
 go_wp2_with fail
 refine (hn _).mono ?_
 rintro e w1 ⟨rfl,hw⟩
 rw[hw]
 clear hw w1 hf hd ha hb hn ene
 go_wp2
 all_goals
  go_ret
  refine ⟨?_,OB.out⟩
  have a2:=H2.out
  have a3:=H3.out
  have a4:=H4.out
  clear H2 H3 H4
  refine ret_int ?_
  first
  | omega
  | (simp at a2 a4;omega)
  | (simp at a2 a4 ⊢;omega)
  | (simp_all<;>omega)
theorem opError_outr (o:Opx) (ok:o.ok) (many:Int) (w:World) (hk:27≤kn o.s∧kn o.s≤27):Calls Tryz.prog 66 #[opV o,.int .i64 many] w fun e w'=>e=.returned (.int .i64 (opE o many))∧Below w.heap.size w w':=by
 have hf:=fun w=>foA o.s w
 have hd:=fun w=>ioF (kn o.s) 68 w
 have ha:=fun w=>ioF (kn o.s) 65 w
 have hb:=fun w=>ioF (kn o.s) 66 w
 have hn:=fun w=>ioF (kn o.s) 73 w
 have hl:=kn_lt o.s
 rw[fld_D _ hl,show decide (rD (kn o.s)≠0)=false by unfold rD;rw[if_neg (by omega),if_neg (by omega)];rfl]at hd
 rw[fld_A _ hl,show decide (rA (kn o.s)≠0)=true by unfold rA;rw[if_pos (by omega)];rfl]at ha
 rw[fld_B _ hl,show decide (rB (kn o.s)≠0)=false by unfold rB;rw[if_neg (by omega),if_neg (by omega)];rfl]at hb
 rw[fld_I _ hl,show rI (kn o.s)=false by unfold rI;simp;omega]at hn
 have e24:(o.s.toList==[115,116,111,114,101])=false:=by rw[show (o.s.toList==[115,116,111,114,101])=_ from kn_eq o.s 24 (by omega) (by omega)];simp;omega
 have e23:(o.s.toList==[108,111,97,100])=false:=by rw[show (o.s.toList==[108,111,97,100])=_ from kn_eq o.s 23 (by omega) (by omega)];simp;omega
 have ene:((⟨(fldL (kn o.s)).toArray⟩:ByteArray).toList==[])=false:=by
  rw[ByteArray.toList_eq]
  have:fldL (kn o.s)≠[]:=by
   have h27:∀ k,k<28→1≤k→fldL k≠[]:=by decide
   exact h27 _ hl (by omega)
  cases hfl:fldL (kn o.s) with
  | nil=>exact absurd hfl this
  | cons x y=>rfl
 have HB:Hid (bndB o many=decide (0≤o.t∧o.t<many∧0≤o.a∧o.a<64)):=by
  show _=_
  unfold bndB alw rD rA rB Opx.k
  rw[Bool.eq_iff_iff]
  have hk':=hk
  have e0:kn o.s=27:=by omega
  rw[e0];simp
  try omega
 have HS:Hid (shpB o=decide (o.d=0∧o.b=0∧o.i=0)):=by
  show _=_
  unfold shpB rD rA rB rI Opx.k
  rw[Bool.eq_iff_iff]
  have e0:kn o.s=27:=by omega
  rw[e0];simp
  try omega
 have H0:o.k≠0:=by unfold Opx.k;omega
 have H2:Hid (¬ (0≤o.t∧o.t<many∧0≤o.a∧o.a<64)→opE o many=2):=fun h=>opE_2 H0 (by rw[HB.out];simpa using h)
 have H3:Hid ((0≤o.t∧o.t<many∧0≤o.a∧o.a<64)→¬ (o.d=0∧o.b=0∧o.i=0)→opE o many=3):=fun h h2=>opE_3 H0 (by rw[HB.out];simpa using h) (by rw[HS.out];simpa using h2)
 have H4:Hid ((0≤o.t∧o.t<many∧0≤o.a∧o.a<64)→(o.d=0∧o.b=0∧o.i=0)→opE o many=0):=fun h h2=>opE_0 H0 (by rw[HB.out];simpa using h) (by rw[HS.out];simpa using h2)
 obtain ⟨R,hR⟩:∃ R,opE o many=R:=⟨_,rfl⟩
 rw[hR]at H2 H3 H4 ⊢
 have OB:Hid (Below w.heap.size w (w.alloc (.cells #[.string o.s,.int .i64 o.d,.int .i64 o.a,.int .i64 o.b,.int .u32 o.i,.int .i64 o.t] 139))):=(Below.refl _ _).alloc (Nat.le_refl _) _
 clear HB HS H0 hR hk hl
 generalize (⟨(fldL (kn o.s)).toArray⟩:ByteArray)=fs at *
 unfold opV
 have bx:=BoxOd.new w o
 have hz0:w.heap.size<(w.alloc (.cells #[.string o.s,.int .i64 o.d,.int .i64 o.a,.int .i64 o.b,.int .u32 o.i,.int .i64 o.t] 139)).heap.size:=by simp
 go_enter Tryz.func66,Tryz.ntmps66
 go_upto_region 1 with fail
 generalize w.alloc (.cells #[.string o.s,.int .i64 o.d,.int .i64 o.a,.int .i64 o.b,.int .u32 o.i,.int .i64 o.t] 139)=V at *
 obtain ⟨k0,k1,k2,k3,k4,k5⟩:=bx
 go_wp2_with fail
 refine (hf _).mono ?_
 rintro e w1 ⟨rfl,hw⟩
 rw[hw]
 clear hw w1
 go_wp2_with fail
 refine (hd _).mono ?_
 rintro e w1 ⟨rfl,hw⟩
 rw[hw]
 clear hw w1
 go_wp2_with fail
 refine (ha _).mono ?_
 rintro e w1 ⟨rfl,hw⟩
 rw[hw]
 clear hw w1
 go_wp2_with fail
 refine (hb _).mono ?_
 rintro e w1 ⟨rfl,hw⟩
 rw[hw]
 clear hw w1
 go_wp2_with fail
 refine (hn _).mono ?_
 rintro e w1 ⟨rfl,hw⟩
 rw[hw]
 clear hw w1 hf hd ha hb hn ene
 go_wp2
 all_goals
  go_ret
  refine ⟨?_,OB.out⟩
  have a2:=H2.out
  have a3:=H3.out
  have a4:=H4.out
  clear H2 H3 H4
  refine ret_int ?_
  first
  | omega
  | (simp at a2 a4;omega)
  | (simp at a2 a4 ⊢;omega)
  | (simp_all<;>omega)
end Go.Proofs.YtflagpkmebdckaaGreatDoor
