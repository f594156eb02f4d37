
import Derived.Test.YtflagpkmebdckaaGreatDoorKApp
import Derived.Test.YtflagpkmebdckaaGreatDoorKRunPure
import Derived.Test.YtflagpkmebdckaaGreatDoorQRes3
import Derived.Test.YtflagpkmebdckaaGreatDoorQGRead
namespace Go.Proofs.YtflagpkmebdckaaGreatDoor
open Go.RowKit Go.Maps
open Num
set_option linter.unusedVariables false
set_option maxRecDepth 100000
set_option maxHeartbeats 1000000
theorem resultOf_set (wt:Int→Bool) (m:Nat→Int) (xs:Array Value) (x:Nat→Int) (hx:∀ i,i<64→xs[i]?=some (.int .u32 (x i))) (o:Opx) (hk:kn o.s=1) (ha0:0≤o.a) (ha1:o.a<64) (hb0:0≤o.b) (hb1:o.b<64) (mp:Value) (w:World) :
  Calls Tryz.prog 125 #[.agg xs,mp,opV o] w fun e w'=>e=.returned (roV (resZ wt x m o))∧Below w.heap.size w w':=by
 have s23:(o.s.toList==[108,111,97,100])=false:=knF o.s 23 (by omega)
 have s1:(o.s.toList==[115,101,116])=true:=by rw[show (o.s.toList==[115,101,116])=_ from kn_eq o.s 1 (by omega) (by omega)];simpa using hk
 have s2:(o.s.toList==[99,111,112,121])=false:=knF o.s 2 (by omega)
 have s21:(o.s.toList==[111,118,101,114,43])=false:=knF o.s 21 (by omega)
 have s22:(o.s.toList==[111,118,101,114,45])=false:=knF o.s 22 (by omega)
 have s24:(o.s.toList==[115,116,111,114,101])=false:=knF o.s 24 (by omega)
 have s25:(o.s.toList==[105,102])=false:=knF o.s 25 (by omega)
 have s26:(o.s.toList==[111,117,116])=false:=knF o.s 26 (by omega)
 have s27:(o.s.toList==[111,117,116,114])=false:=knF o.s 27 (by omega)
 have HR:Hid (resZ wt x m o=⟨o.i,0,false,false⟩):=by show _=_;unfold resZ Opx.k;rw[hk];simp[valV]
 rw[show roV (resZ wt x m o)=_ from congrArg roV HR.out]
 have RB:=RBx.new w xs x hx o
 unfold opV
 clear HR
 go_enter Tryz.func125,Tryz.ntmps125
 go_upto_region 1 with fail
 generalize (((w.alloc (.cells xs 100)).alloc (.cells #[.string o.s,.int .i64 o.d,.int .i64 o.a,.int .i64 o.b,.int .u32 o.i,.int .i64 o.t] 139)).alloc (.cells #[.int .u32 0,.int .u32 0,.bool false,.bool false] 214))=W at *
 have HRB:Hid (RBx w W x o):=RB
 have ra:=RB.r o.a.toNat (by omega)
 have rb:=RB.r o.b.toNat (by omega)
 obtain ⟨_,_,o0,o1,o2,o3,o4,a0,a1,a2,a3,f0,f1,f2,f3,z⟩:=RB
 clear hx hk
 go_wp2
 obtain ⟨q1,q2⟩:=rsP HRB.out (.int .u32 (o.i)) (.int .u32 (0)) (.bool (false)) (.bool (false))
 refine bodyPost_ret (r1c (A:=⟨w.heap.size+1+1,0,none⟩) rfl _ _ _ rfl q1) rfl ?_
 exact ⟨rfl,q2⟩
theorem resultOf_copy (wt:Int→Bool) (m:Nat→Int) (xs:Array Value) (x:Nat→Int) (hx:∀ i,i<64→xs[i]?=some (.int .u32 (x i))) (o:Opx) (hk:kn o.s=2) (ha0:0≤o.a) (ha1:o.a<64) (hb0:0≤o.b) (hb1:o.b<64) (mp:Value) (w:World) :
  Calls Tryz.prog 125 #[.agg xs,mp,opV o] w fun e w'=>e=.returned (roV (resZ wt x m o))∧Below w.heap.size w w':=by
 have s23:(o.s.toList==[108,111,97,100])=false:=knF o.s 23 (by omega)
 have s1:(o.s.toList==[115,101,116])=false:=knF o.s 1 (by omega)
 have s2:(o.s.toList==[99,111,112,121])=true:=by rw[show (o.s.toList==[99,111,112,121])=_ from kn_eq o.s 2 (by omega) (by omega)];simpa using hk
 have s21:(o.s.toList==[111,118,101,114,43])=false:=knF o.s 21 (by omega)
 have s22:(o.s.toList==[111,118,101,114,45])=false:=knF o.s 22 (by omega)
 have s24:(o.s.toList==[115,116,111,114,101])=false:=knF o.s 24 (by omega)
 have s25:(o.s.toList==[105,102])=false:=knF o.s 25 (by omega)
 have s26:(o.s.toList==[111,117,116])=false:=knF o.s 26 (by omega)
 have s27:(o.s.toList==[111,117,116,114])=false:=knF o.s 27 (by omega)
 have HR:Hid (resZ wt x m o=⟨x o.a.toNat,0,false,false⟩):=by show _=_;unfold resZ Opx.k;rw[hk];simp[valV]
 rw[show roV (resZ wt x m o)=_ from congrArg roV HR.out]
 have RB:=RBx.new w xs x hx o
 unfold opV
 clear HR
 go_enter Tryz.func125,Tryz.ntmps125
 go_upto_region 1 with fail
 generalize (((w.alloc (.cells xs 100)).alloc (.cells #[.string o.s,.int .i64 o.d,.int .i64 o.a,.int .i64 o.b,.int .u32 o.i,.int .i64 o.t] 139)).alloc (.cells #[.int .u32 0,.int .u32 0,.bool false,.bool false] 214))=W at *
 have HRB:Hid (RBx w W x o):=RB
 have ra:=RB.r o.a.toNat (by omega)
 have rb:=RB.r o.b.toNat (by omega)
 obtain ⟨_,_,o0,o1,o2,o3,o4,a0,a1,a2,a3,f0,f1,f2,f3,z⟩:=RB
 clear hx hk
 go_wp2
 obtain ⟨q1,q2⟩:=rsP HRB.out (.int .u32 (x o.a.toNat)) (.int .u32 (0)) (.bool (false)) (.bool (false))
 refine bodyPost_ret (r1c (A:=⟨w.heap.size+1+1,0,none⟩) rfl _ _ _ rfl q1) rfl ?_
 exact ⟨rfl,q2⟩
theorem resultOf_out (wt:Int→Bool) (m:Nat→Int) (xs:Array Value) (x:Nat→Int) (hx:∀ i,i<64→xs[i]?=some (.int .u32 (x i))) (o:Opx) (hk:kn o.s=26) (ha0:0≤o.a) (ha1:o.a<64) (hb0:0≤o.b) (hb1:o.b<64) (mp:Value) (w:World) :
  Calls Tryz.prog 125 #[.agg xs,mp,opV o] w fun e w'=>e=.returned (roV (resZ wt x m o))∧Below w.heap.size w w':=by
 have s23:(o.s.toList==[108,111,97,100])=false:=knF o.s 23 (by omega)
 have s1:(o.s.toList==[115,101,116])=false:=knF o.s 1 (by omega)
 have s2:(o.s.toList==[99,111,112,121])=false:=knF o.s 2 (by omega)
 have s21:(o.s.toList==[111,118,101,114,43])=false:=knF o.s 21 (by omega)
 have s22:(o.s.toList==[111,118,101,114,45])=false:=knF o.s 22 (by omega)
 have s24:(o.s.toList==[115,116,111,114,101])=false:=knF o.s 24 (by omega)
 have s25:(o.s.toList==[105,102])=false:=knF o.s 25 (by omega)
 have s26:(o.s.toList==[111,117,116])=true:=by rw[show (o.s.toList==[111,117,116])=_ from kn_eq o.s 26 (by omega) (by omega)];simpa using hk
 have s27:(o.s.toList==[111,117,116,114])=false:=knF o.s 27 (by omega)
 have HR:Hid (resZ wt x m o=⟨0,o.i,false,true⟩):=by show _=_;unfold resZ Opx.k;rw[hk];rfl
 rw[show roV (resZ wt x m o)=_ from congrArg roV HR.out]
 have RB:=RBx.new w xs x hx o
 unfold opV
 clear HR
 go_enter Tryz.func125,Tryz.ntmps125
 go_upto_region 1 with fail
 generalize (((w.alloc (.cells xs 100)).alloc (.cells #[.string o.s,.int .i64 o.d,.int .i64 o.a,.int .i64 o.b,.int .u32 o.i,.int .i64 o.t] 139)).alloc (.cells #[.int .u32 0,.int .u32 0,.bool false,.bool false] 214))=W at *
 have HRB:Hid (RBx w W x o):=RB
 have ra:=RB.r o.a.toNat (by omega)
 have rb:=RB.r o.b.toNat (by omega)
 obtain ⟨_,_,o0,o1,o2,o3,o4,a0,a1,a2,a3,f0,f1,f2,f3,z⟩:=RB
 clear hx hk
 go_wp2
 obtain ⟨q1,q2⟩:=rsP HRB.out (.int .u32 (0)) (.int .u32 (o.i)) (.bool (false)) (.bool (true))
 refine bodyPost_ret (r1c (A:=⟨w.heap.size+1+1,0,none⟩) rfl _ _ _ rfl q1) rfl ?_
 exact ⟨rfl,q2⟩
theorem resultOf_outr (wt:Int→Bool) (m:Nat→Int) (xs:Array Value) (x:Nat→Int) (hx:∀ i,i<64→xs[i]?=some (.int .u32 (x i))) (o:Opx) (hk:kn o.s=27) (ha0:0≤o.a) (ha1:o.a<64) (hb0:0≤o.b) (hb1:o.b<64) (mp:Value) (w:World) :
  Calls Tryz.prog 125 #[.agg xs,mp,opV o] w fun e w'=>e=.returned (roV (resZ wt x m o))∧Below w.heap.size w w':=by
 have s23:(o.s.toList==[108,111,97,100])=false:=knF o.s 23 (by omega)
 have s1:(o.s.toList==[115,101,116])=false:=knF o.s 1 (by omega)
 have s2:(o.s.toList==[99,111,112,121])=false:=knF o.s 2 (by omega)
 have s21:(o.s.toList==[111,118,101,114,43])=false:=knF o.s 21 (by omega)
 have s22:(o.s.toList==[111,118,101,114,45])=false:=knF o.s 22 (by omega)
 have s24:(o.s.toList==[115,116,111,114,101])=false:=knF o.s 24 (by omega)
 have s25:(o.s.toList==[105,102])=false:=knF o.s 25 (by omega)
 have s26:(o.s.toList==[111,117,116])=false:=knF o.s 26 (by omega)
 have s27:(o.s.toList==[111,117,116,114])=true:=by rw[show (o.s.toList==[111,117,116,114])=_ from kn_eq o.s 27 (by omega) (by omega)];simpa using hk
 have HR:Hid (resZ wt x m o=⟨0,x o.a.toNat,false,true⟩):=by show _=_;unfold resZ Opx.k;rw[hk];rfl
 rw[show roV (resZ wt x m o)=_ from congrArg roV HR.out]
 have RB:=RBx.new w xs x hx o
 unfold opV
 clear HR
 go_enter Tryz.func125,Tryz.ntmps125
 go_upto_region 1 with fail
 generalize (((w.alloc (.cells xs 100)).alloc (.cells #[.string o.s,.int .i64 o.d,.int .i64 o.a,.int .i64 o.b,.int .u32 o.i,.int .i64 o.t] 139)).alloc (.cells #[.int .u32 0,.int .u32 0,.bool false,.bool false] 214))=W at *
 have HRB:Hid (RBx w W x o):=RB
 have ra:=RB.r o.a.toNat (by omega)
 have rb:=RB.r o.b.toNat (by omega)
 obtain ⟨_,_,o0,o1,o2,o3,o4,a0,a1,a2,a3,f0,f1,f2,f3,z⟩:=RB
 clear hx hk
 go_wp2
 obtain ⟨q1,q2⟩:=rsP HRB.out (.int .u32 (0)) (.int .u32 (x o.a.toNat)) (.bool (false)) (.bool (true))
 refine bodyPost_ret (r1c (A:=⟨w.heap.size+1+1,0,none⟩) rfl _ _ _ rfl q1) rfl ?_
 exact ⟨rfl,q2⟩
theorem resultOf_if (wt:Int→Bool) (m:Nat→Int) (xs:Array Value) (x:Nat→Int) (hx:∀ i,i<64→xs[i]?=some (.int .u32 (x i))) (o:Opx) (hk:kn o.s=25) (ha0:0≤o.a) (ha1:o.a<64) (hb0:0≤o.b) (hb1:o.b<64) (mp:Value) (w:World) :
  Calls Tryz.prog 125 #[.agg xs,mp,opV o] w fun e w'=>e=.returned (roV (resZ wt x m o))∧Below w.heap.size w w':=by
 have s23:(o.s.toList==[108,111,97,100])=false:=knF o.s 23 (by omega)
 have s1:(o.s.toList==[115,101,116])=false:=knF o.s 1 (by omega)
 have s2:(o.s.toList==[99,111,112,121])=false:=knF o.s 2 (by omega)
 have s21:(o.s.toList==[111,118,101,114,43])=false:=knF o.s 21 (by omega)
 have s22:(o.s.toList==[111,118,101,114,45])=false:=knF o.s 22 (by omega)
 have s24:(o.s.toList==[115,116,111,114,101])=false:=knF o.s 24 (by omega)
 have s25:(o.s.toList==[105,102])=true:=by rw[show (o.s.toList==[105,102])=_ from kn_eq o.s 25 (by omega) (by omega)];simpa using hk
 have s26:(o.s.toList==[111,117,116])=false:=knF o.s 26 (by omega)
 have s27:(o.s.toList==[111,117,116,114])=false:=knF o.s 27 (by omega)
 have HR:Hid (resZ wt x m o=⟨0,o.i,false,decide (x o.a.toNat≠0)⟩):=by show _=_;unfold resZ Opx.k;rw[hk];rfl
 rw[show roV (resZ wt x m o)=_ from congrArg roV HR.out]
 have RB:=RBx.new w xs x hx o
 unfold opV
 obtain ⟨lv,hlv⟩:∃ b,decide (x o.a.toNat≠0)=b:=⟨_,rfl⟩
 have hlv2:(x o.a.toNat != 0)=lv:=by rw[←hlv,Bool.eq_iff_iff];simp
 rw[hlv]
 clear hlv
 clear HR
 go_enter Tryz.func125,Tryz.ntmps125
 go_upto_region 1 with fail
 generalize (((w.alloc (.cells xs 100)).alloc (.cells #[.string o.s,.int .i64 o.d,.int .i64 o.a,.int .i64 o.b,.int .u32 o.i,.int .i64 o.t] 139)).alloc (.cells #[.int .u32 0,.int .u32 0,.bool false,.bool false] 214))=W at *
 have HRB:Hid (RBx w W x o):=RB
 have ra:=RB.r o.a.toNat (by omega)
 have rb:=RB.r o.b.toNat (by omega)
 obtain ⟨_,_,o0,o1,o2,o3,o4,a0,a1,a2,a3,f0,f1,f2,f3,z⟩:=RB
 clear hx hk
 go_wp2
 obtain ⟨q1,q2⟩:=rsP HRB.out (.int .u32 (0)) (.int .u32 (o.i)) (.bool (false)) (.bool (lv))
 refine bodyPost_ret (r1c (A:=⟨w.heap.size+1+1,0,none⟩) rfl _ _ _ rfl q1) rfl ?_
 exact ⟨rfl,q2⟩
set_option maxHeartbeats 1000000
theorem DRam.ofHeap {w w':World} {rb gb kb:Nat} {m:Nat→Int} {wt:Int→Bool} (D:DRam w rb gb kb m wt) (h:w'.heap=w.heap):DRam w' rb gb kb m wt:=D.blocks fun k _=>by rw[h]
theorem resultOf_loadp {rb gb kb:Nat} (wt:Int→Bool) (m:Nat→Int) (xs:Array Value) (x:Nat→Int) (hx:∀ i,i<64→xs[i]?=some (.int .u32 (x i))) (o:Opx) (hk:kn o.s=23) (ha0:0≤o.a) (ha1:o.a<64) (i0:0≤o.i) (i1:o.i<4294967296) (hxb:∀ i,i<64→0≤x i∧x i<4294967296) (hb:o.b=1∨o.b=2∨o.b=4) (hc:chk (lo (x o.a.toNat+o.i)) (o.b)=0) (w:World) (D:DRam w rb gb kb m wt) :
  Calls Tryz.prog 125 #[.agg xs,.pointer (some ⟨rb,0,none⟩),opV o] w fun e w'=>e=.returned (roV (resZ wt x m o))∧Below w.heap.size w w':=by
 have s23:(o.s.toList==[108,111,97,100])=true:=by rw[show (o.s.toList==[108,111,97,100])=_ from kn_eq o.s 23 (by omega) (by omega)];simpa using hk
 have s1:(o.s.toList==[115,101,116])=false:=knF o.s 1 (by omega)
 have s2:(o.s.toList==[99,111,112,121])=false:=knF o.s 2 (by omega)
 have s21:(o.s.toList==[111,118,101,114,43])=false:=knF o.s 21 (by omega)
 have s22:(o.s.toList==[111,118,101,114,45])=false:=knF o.s 22 (by omega)
 have s24:(o.s.toList==[115,116,111,114,101])=false:=knF o.s 24 (by omega)
 have s25:(o.s.toList==[105,102])=false:=knF o.s 25 (by omega)
 have s26:(o.s.toList==[111,117,116])=false:=knF o.s 26 (by omega)
 have s27:(o.s.toList==[111,117,116,114])=false:=knF o.s 27 (by omega)
 have HR:Hid (resZ wt x m o=⟨ld m (lo (x o.a.toNat+o.i)) (o.b) false,0,false,false⟩):=by show _=_;unfold resZ Opx.k;rw[hk,if_neg (by omega),if_neg (by omega),if_pos rfl,show (if o.b<0 then -o.b else o.b)=o.b from if_neg (by omega),show decide (o.b<0)=false by simp;omega];first|rw[if_pos hc]|rw[if_neg hc]
 rw[show roV (resZ wt x m o)=_ from congrArg roV HR.out]
 clear HR
 have RB:=RBx.new w xs x hx o
 have D0:=D.stays RB.b
 have xa:=hxb o.a.toNat (by omega)
 have hpl:=fun W=>plus3_any (x o.a.toNat) o.i xa.1 xa.2 i0 i1 W
 have A0:=lo_bd (x o.a.toNat+o.i)
 generalize lo (x o.a.toNat+o.i)=A at *
 obtain ⟨A0,A1⟩:=A0
 unfold opV
 have hld:∀ (W:World) (bo:Bool),bo=false→DRam W rb gb kb m wt→Calls Tryz.prog 99 #[.pointer (some ⟨rb,0,none⟩),.int .u32 A,.int .i64 (o.b),.bool bo] W fun e w'=>e=.returned (.tuple #[.int .u32 (ld m A (o.b) false),.int .i64 0])∧w'=W:=fun W bo hbo d=>by subst hbo;exact dload_ok d A (o.b) false A0 A1 hc
 generalize ld m A (o.b) false=vv at *
 clear hc hxb
 go_enter Tryz.func125,Tryz.ntmps125
 go_upto_region 1 with fail
 generalize (((w.alloc (.cells xs 100)).alloc (.cells #[.string o.s,.int .i64 o.d,.int .i64 o.a,.int .i64 o.b,.int .u32 o.i,.int .i64 o.t] 139)).alloc (.cells #[.int .u32 0,.int .u32 0,.bool false,.bool false] 214))=W at *
 have HRB:Hid (RBx w W x o):=RB
 have ra:=RB.r o.a.toNat (by omega)
 obtain ⟨_,_,o0,o1,o2,o3,o4,a0,a1,a2,a3,f0,f1,f2,f3,z⟩:=RB
 have HD0:Hid (DRam W rb gb kb m wt):=D0
 clear hx hk D D0
 have hb1:0≤o.b:=by omega
 have hb2:o.b≤4:=by omega
 clear hb
 go_wp2
 go_quiet ((first|(go_at_call 127;exact Calls.quiet_of_same (hpl _))|(go_at_call 99;exact Calls.quiet_of_same (hld _ _ (by first|rfl|(simp;done)|(simp;omega)) (HD0.out.ofHeap rfl)))))
 go_wp2
 obtain ⟨q1,q2⟩:=rsP (HRB.out.drewN nq) (.int .u32 (vv)) (.int .u32 (0)) (.bool (false)) (.bool (false))
 refine bodyPost_ret (r1c (A:=⟨w.heap.size+1+1,0,none⟩) rfl _ _ _ rfl q1) rfl ?_
 exact ⟨rfl,q2⟩
theorem resultOf_loadp_no {rb gb kb:Nat} (wt:Int→Bool) (m:Nat→Int) (xs:Array Value) (x:Nat→Int) (hx:∀ i,i<64→xs[i]?=some (.int .u32 (x i))) (o:Opx) (hk:kn o.s=23) (ha0:0≤o.a) (ha1:o.a<64) (i0:0≤o.i) (i1:o.i<4294967296) (hxb:∀ i,i<64→0≤x i∧x i<4294967296) (hb:o.b=1∨o.b=2∨o.b=4) (hc:chk (lo (x o.a.toNat+o.i)) (o.b)≠0) (w:World) (D:DRam w rb gb kb m wt) :
  Calls Tryz.prog 125 #[.agg xs,.pointer (some ⟨rb,0,none⟩),opV o] w fun e w'=>e=.returned (roV (resZ wt x m o))∧Below w.heap.size w w':=by
 have s23:(o.s.toList==[108,111,97,100])=true:=by rw[show (o.s.toList==[108,111,97,100])=_ from kn_eq o.s 23 (by omega) (by omega)];simpa using hk
 have s1:(o.s.toList==[115,101,116])=false:=knF o.s 1 (by omega)
 have s2:(o.s.toList==[99,111,112,121])=false:=knF o.s 2 (by omega)
 have s21:(o.s.toList==[111,118,101,114,43])=false:=knF o.s 21 (by omega)
 have s22:(o.s.toList==[111,118,101,114,45])=false:=knF o.s 22 (by omega)
 have s24:(o.s.toList==[115,116,111,114,101])=false:=knF o.s 24 (by omega)
 have s25:(o.s.toList==[105,102])=false:=knF o.s 25 (by omega)
 have s26:(o.s.toList==[111,117,116])=false:=knF o.s 26 (by omega)
 have s27:(o.s.toList==[111,117,116,114])=false:=knF o.s 27 (by omega)
 have HR:Hid (resZ wt x m o=⟨0,0,true,false⟩):=by show _=_;unfold resZ Opx.k;rw[hk,if_neg (by omega),if_neg (by omega),if_pos rfl,show (if o.b<0 then -o.b else o.b)=o.b from if_neg (by omega),show decide (o.b<0)=false by simp;omega];first|rw[if_pos hc]|rw[if_neg hc]
 rw[show roV (resZ wt x m o)=_ from congrArg roV HR.out]
 clear HR
 have RB:=RBx.new w xs x hx o
 have D0:=D.stays RB.b
 have xa:=hxb o.a.toNat (by omega)
 have hpl:=fun W=>plus3_any (x o.a.toNat) o.i xa.1 xa.2 i0 i1 W
 have A0:=lo_bd (x o.a.toNat+o.i)
 generalize lo (x o.a.toNat+o.i)=A at *
 obtain ⟨A0,A1⟩:=A0
 unfold opV
 have hld:∀ (W:World) (bo:Bool),bo=false→DRam W rb gb kb m wt→Calls Tryz.prog 99 #[.pointer (some ⟨rb,0,none⟩),.int .u32 A,.int .i64 (o.b),.bool bo] W fun e w'=>e=.returned (.tuple #[.int .u32 0,.int .i64 (rc A (o.b))])∧w'=W:=fun W bo hbo _=>by subst hbo;exact dload_no W _ A (o.b) false A0 A1 (by omega) (by omega) hc
 have hrc:=rc_no hc
 generalize rc A (o.b)=er at *
 clear hc hxb
 go_enter Tryz.func125,Tryz.ntmps125
 go_upto_region 1 with fail
 generalize (((w.alloc (.cells xs 100)).alloc (.cells #[.string o.s,.int .i64 o.d,.int .i64 o.a,.int .i64 o.b,.int .u32 o.i,.int .i64 o.t] 139)).alloc (.cells #[.int .u32 0,.int .u32 0,.bool false,.bool false] 214))=W at *
 have HRB:Hid (RBx w W x o):=RB
 have ra:=RB.r o.a.toNat (by omega)
 obtain ⟨_,_,o0,o1,o2,o3,o4,a0,a1,a2,a3,f0,f1,f2,f3,z⟩:=RB
 have HD0:Hid (DRam W rb gb kb m wt):=D0
 clear hx hk D D0
 have hb1:0≤o.b:=by omega
 have hb2:o.b≤4:=by omega
 clear hb
 go_wp2
 go_quiet ((first|(go_at_call 127;exact Calls.quiet_of_same (hpl _))|(go_at_call 99;exact Calls.quiet_of_same (hld _ _ (by first|rfl|(simp;done)|(simp;omega)) (HD0.out.ofHeap rfl)))))
 go_wp2
 obtain ⟨q1,q2⟩:=rsP (HRB.out.drewN nq) (.int .u32 (0)) (.int .u32 (0)) (.bool (true)) (.bool (false))
 refine bodyPost_ret (r1c (A:=⟨w.heap.size+1+1,0,none⟩) rfl _ _ _ rfl q1) rfl ?_
 exact ⟨rfl,q2⟩
theorem resultOf_loadn {rb gb kb:Nat} (wt:Int→Bool) (m:Nat→Int) (xs:Array Value) (x:Nat→Int) (hx:∀ i,i<64→xs[i]?=some (.int .u32 (x i))) (o:Opx) (hk:kn o.s=23) (ha0:0≤o.a) (ha1:o.a<64) (i0:0≤o.i) (i1:o.i<4294967296) (hxb:∀ i,i<64→0≤x i∧x i<4294967296) (hb:o.b=-1∨o.b=-2) (hc:chk (lo (x o.a.toNat+o.i)) (-o.b)=0) (w:World) (D:DRam w rb gb kb m wt) :
  Calls Tryz.prog 125 #[.agg xs,.pointer (some ⟨rb,0,none⟩),opV o] w fun e w'=>e=.returned (roV (resZ wt x m o))∧Below w.heap.size w w':=by
 have s23:(o.s.toList==[108,111,97,100])=true:=by rw[show (o.s.toList==[108,111,97,100])=_ from kn_eq o.s 23 (by omega) (by omega)];simpa using hk
 have s1:(o.s.toList==[115,101,116])=false:=knF o.s 1 (by omega)
 have s2:(o.s.toList==[99,111,112,121])=false:=knF o.s 2 (by omega)
 have s21:(o.s.toList==[111,118,101,114,43])=false:=knF o.s 21 (by omega)
 have s22:(o.s.toList==[111,118,101,114,45])=false:=knF o.s 22 (by omega)
 have s24:(o.s.toList==[115,116,111,114,101])=false:=knF o.s 24 (by omega)
 have s25:(o.s.toList==[105,102])=false:=knF o.s 25 (by omega)
 have s26:(o.s.toList==[111,117,116])=false:=knF o.s 26 (by omega)
 have s27:(o.s.toList==[111,117,116,114])=false:=knF o.s 27 (by omega)
 have HR:Hid (resZ wt x m o=⟨ld m (lo (x o.a.toNat+o.i)) (-o.b) true,0,false,false⟩):=by show _=_;unfold resZ Opx.k;rw[hk,if_neg (by omega),if_neg (by omega),if_pos rfl,show (if o.b<0 then -o.b else o.b)=-o.b from if_pos (by omega),show decide (o.b<0)=true by simp;omega];first|rw[if_pos hc]|rw[if_neg hc]
 rw[show roV (resZ wt x m o)=_ from congrArg roV HR.out]
 clear HR
 have RB:=RBx.new w xs x hx o
 have D0:=D.stays RB.b
 have xa:=hxb o.a.toNat (by omega)
 have hpl:=fun W=>plus3_any (x o.a.toNat) o.i xa.1 xa.2 i0 i1 W
 have A0:=lo_bd (x o.a.toNat+o.i)
 generalize lo (x o.a.toNat+o.i)=A at *
 obtain ⟨A0,A1⟩:=A0
 unfold opV
 have hld:∀ W:World,DRam W rb gb kb m wt→Calls Tryz.prog 99 #[.pointer (some ⟨rb,0,none⟩),.int .u32 A,.int .i64 (-o.b),.bool true] W fun e w'=>e=.returned (.tuple #[.int .u32 (ld m A (-o.b) true),.int .i64 0])∧w'=W:=fun W d=>dload_ok d A (-o.b) true A0 A1 hc
 generalize ld m A (-o.b) true=vv at *
 clear hc hxb
 go_enter Tryz.func125,Tryz.ntmps125
 go_upto_region 1 with fail
 generalize (((w.alloc (.cells xs 100)).alloc (.cells #[.string o.s,.int .i64 o.d,.int .i64 o.a,.int .i64 o.b,.int .u32 o.i,.int .i64 o.t] 139)).alloc (.cells #[.int .u32 0,.int .u32 0,.bool false,.bool false] 214))=W at *
 have HRB:Hid (RBx w W x o):=RB
 have ra:=RB.r o.a.toNat (by omega)
 obtain ⟨_,_,o0,o1,o2,o3,o4,a0,a1,a2,a3,f0,f1,f2,f3,z⟩:=RB
 have HD0:Hid (DRam W rb gb kb m wt):=D0
 clear hx hk D D0
 have hb1:o.b<0:=by omega
 have hb2:-o.b≤4:=by omega
 clear hb
 go_wp2
 go_quiet ((first|(go_at_call 127;exact Calls.quiet_of_same (hpl _))|(go_at_call 99;exact Calls.quiet_of_same (hld _ (HD0.out.ofHeap rfl)))))
 go_wp2
 obtain ⟨q1,q2⟩:=rsP (HRB.out.drewN nq) (.int .u32 (vv)) (.int .u32 (0)) (.bool (false)) (.bool (false))
 refine bodyPost_ret (r1c (A:=⟨w.heap.size+1+1,0,none⟩) rfl _ _ _ rfl q1) rfl ?_
 exact ⟨rfl,q2⟩
theorem resultOf_loadn_no {rb gb kb:Nat} (wt:Int→Bool) (m:Nat→Int) (xs:Array Value) (x:Nat→Int) (hx:∀ i,i<64→xs[i]?=some (.int .u32 (x i))) (o:Opx) (hk:kn o.s=23) (ha0:0≤o.a) (ha1:o.a<64) (i0:0≤o.i) (i1:o.i<4294967296) (hxb:∀ i,i<64→0≤x i∧x i<4294967296) (hb:o.b=-1∨o.b=-2) (hc:chk (lo (x o.a.toNat+o.i)) (-o.b)≠0) (w:World) (D:DRam w rb gb kb m wt) :
  Calls Tryz.prog 125 #[.agg xs,.pointer (some ⟨rb,0,none⟩),opV o] w fun e w'=>e=.returned (roV (resZ wt x m o))∧Below w.heap.size w w':=by
 have s23:(o.s.toList==[108,111,97,100])=true:=by rw[show (o.s.toList==[108,111,97,100])=_ from kn_eq o.s 23 (by omega) (by omega)];simpa using hk
 have s1:(o.s.toList==[115,101,116])=false:=knF o.s 1 (by omega)
 have s2:(o.s.toList==[99,111,112,121])=false:=knF o.s 2 (by omega)
 have s21:(o.s.toList==[111,118,101,114,43])=false:=knF o.s 21 (by omega)
 have s22:(o.s.toList==[111,118,101,114,45])=false:=knF o.s 22 (by omega)
 have s24:(o.s.toList==[115,116,111,114,101])=false:=knF o.s 24 (by omega)
 have s25:(o.s.toList==[105,102])=false:=knF o.s 25 (by omega)
 have s26:(o.s.toList==[111,117,116])=false:=knF o.s 26 (by omega)
 have s27:(o.s.toList==[111,117,116,114])=false:=knF o.s 27 (by omega)
 have HR:Hid (resZ wt x m o=⟨0,0,true,false⟩):=by show _=_;unfold resZ Opx.k;rw[hk,if_neg (by omega),if_neg (by omega),if_pos rfl,show (if o.b<0 then -o.b else o.b)=-o.b from if_pos (by omega),show decide (o.b<0)=true by simp;omega];first|rw[if_pos hc]|rw[if_neg hc]
 rw[show roV (resZ wt x m o)=_ from congrArg roV HR.out]
 clear HR
 have RB:=RBx.new w xs x hx o
 have D0:=D.stays RB.b
 have xa:=hxb o.a.toNat (by omega)
 have hpl:=fun W=>plus3_any (x o.a.toNat) o.i xa.1 xa.2 i0 i1 W
 have A0:=lo_bd (x o.a.toNat+o.i)
 generalize lo (x o.a.toNat+o.i)=A at *
 obtain ⟨A0,A1⟩:=A0
 unfold opV
 have hld:∀ W:World,DRam W rb gb kb m wt→Calls Tryz.prog 99 #[.pointer (some ⟨rb,0,none⟩),.int .u32 A,.int .i64 (-o.b),.bool true] W fun e w'=>e=.returned (.tuple #[.int .u32 0,.int .i64 (rc A (-o.b))])∧w'=W:=fun W _=>dload_no W _ A (-o.b) true A0 A1 (by omega) (by omega) hc
 have hrc:=rc_no hc
 generalize rc A (-o.b)=er at *
 clear hc hxb
 go_enter Tryz.func125,Tryz.ntmps125
 go_upto_region 1 with fail
 generalize (((w.alloc (.cells xs 100)).alloc (.cells #[.string o.s,.int .i64 o.d,.int .i64 o.a,.int .i64 o.b,.int .u32 o.i,.int .i64 o.t] 139)).alloc (.cells #[.int .u32 0,.int .u32 0,.bool false,.bool false] 214))=W at *
 have HRB:Hid (RBx w W x o):=RB
 have ra:=RB.r o.a.toNat (by omega)
 obtain ⟨_,_,o0,o1,o2,o3,o4,a0,a1,a2,a3,f0,f1,f2,f3,z⟩:=RB
 have HD0:Hid (DRam W rb gb kb m wt):=D0
 clear hx hk D D0
 have hb1:o.b<0:=by omega
 have hb2:-o.b≤4:=by omega
 clear hb
 go_wp2
 go_quiet ((first|(go_at_call 127;exact Calls.quiet_of_same (hpl _))|(go_at_call 99;exact Calls.quiet_of_same (hld _ (HD0.out.ofHeap rfl)))))
 go_wp2
 obtain ⟨q1,q2⟩:=rsP (HRB.out.drewN nq) (.int .u32 (0)) (.int .u32 (0)) (.bool (true)) (.bool (false))
 refine bodyPost_ret (r1c (A:=⟨w.heap.size+1+1,0,none⟩) rfl _ _ _ rfl q1) rfl ?_
 exact ⟨rfl,q2⟩
theorem resultOf_store {rb gb kb:Nat} (wt:Int→Bool) (m:Nat→Int) (xs:Array Value) (x:Nat→Int) (hx:∀ i,i<64→xs[i]?=some (.int .u32 (x i))) (o:Opx) (hk:kn o.s=24) (ha0:0≤o.a) (ha1:o.a<64) (i0:0≤o.i) (i1:o.i<4294967296) (hxb:∀ i,i<64→0≤x i∧x i<4294967296) (hb0:0≤o.b) (hb1:o.b<64) (hd:o.d=1∨o.d=2∨o.d=4) (hc:chk (lo (x o.a.toNat+o.i)) o.d=0) (w:World) (D:DRam w rb gb kb m wt) :
  Calls Tryz.prog 125 #[.agg xs,.pointer (some ⟨rb,0,none⟩),opV o] w fun e w'=>e=.returned (roV (resZ wt x m o))∧Below w.heap.size w w':=by
 have s23:(o.s.toList==[108,111,97,100])=false:=knF o.s 23 (by omega)
 have s1:(o.s.toList==[115,101,116])=false:=knF o.s 1 (by omega)
 have s2:(o.s.toList==[99,111,112,121])=false:=knF o.s 2 (by omega)
 have s21:(o.s.toList==[111,118,101,114,43])=false:=knF o.s 21 (by omega)
 have s22:(o.s.toList==[111,118,101,114,45])=false:=knF o.s 22 (by omega)
 have s24:(o.s.toList==[115,116,111,114,101])=true:=by rw[show (o.s.toList==[115,116,111,114,101])=_ from kn_eq o.s 24 (by omega) (by omega)];simpa using hk
 have s25:(o.s.toList==[105,102])=false:=knF o.s 25 (by omega)
 have s26:(o.s.toList==[111,117,116])=false:=knF o.s 26 (by omega)
 have s27:(o.s.toList==[111,117,116,114])=false:=knF o.s 27 (by omega)
 have HR:Hid (resZ wt x m o=⟨x o.b.toNat,lo (x o.a.toNat+o.i),wt (lo (x o.a.toNat+o.i)/256),false⟩):=by show _=_;unfold resZ Opx.k;rw[hk,if_neg (by omega),if_neg (by omega),if_neg (by omega),if_pos rfl];first|rw[if_pos hc]|rw[if_neg hc]
 rw[show roV (resZ wt x m o)=_ from congrArg roV HR.out]
 clear HR
 have RB:=RBx.new w xs x hx o
 have D0:=D.stays RB.b
 have xa:=hxb o.a.toNat (by omega)
 have hpl:=fun W=>plus3_any (x o.a.toNat) o.i xa.1 xa.2 i0 i1 W
 have A0:=lo_bd (x o.a.toNat+o.i)
 generalize lo (x o.a.toNat+o.i)=A at *
 obtain ⟨A0,A1⟩:=A0
 unfold opV
 have hre:=fun W=>reach_any A o.d A0 A1 (by omega) (by omega) W
 rw[rc_ok hc]at hre
 have hA2:A<16384:=(chk_ok hc).2.2
 obtain ⟨wb,hwb⟩:∃ b,wt (A/256)=b:=⟨_,rfl⟩
 rw[hwb]
 clear hc hxb
 go_enter Tryz.func125,Tryz.ntmps125
 go_upto_region 1 with fail
 generalize (((w.alloc (.cells xs 100)).alloc (.cells #[.string o.s,.int .i64 o.d,.int .i64 o.a,.int .i64 o.b,.int .u32 o.i,.int .i64 o.t] 139)).alloc (.cells #[.int .u32 0,.int .u32 0,.bool false,.bool false] 214))=W at *
 have HRB:Hid (RBx w W x o):=RB
 have ra:=RB.r o.a.toNat (by omega)
 have rb2:=RB.r o.b.toNat (by omega)
 obtain ⟨_,_,o0,o1,o2,o3,o4,a0,a1,a2,a3,f0,f1,f2,f3,z⟩:=RB
 have HD0:Hid (DRam W rb gb kb m wt):=D0
 have c1:=D0.c1
 have hwc:=D0.wc (A/256).toNat (by omega)
 rw[show (((A/256).toNat:Nat):Int)=A/256 by omega,hwb]at hwc
 clear hwb
 clear hx hk D D0
 go_wp2_with fail
 refine (hpl _).mono ?_
 rintro e w1 ⟨rfl,hw⟩
 rw[hw]
 clear hw w1
 go_wp2_with fail
 refine (hre _).mono ?_
 rintro e w1 ⟨rfl,hw⟩
 rw[hw]
 clear hw w1
 go_wp2
 obtain ⟨q1,q2⟩:=rsP HRB.out (.int .u32 (x o.b.toNat)) (.int .u32 (A)) (.bool (wb)) (.bool (false))
 refine bodyPost_ret (r1c (A:=⟨w.heap.size+1+1,0,none⟩) rfl _ _ _ rfl q1) rfl ?_
 exact ⟨rfl,q2⟩
theorem resultOf_store_no {rb gb kb:Nat} (wt:Int→Bool) (m:Nat→Int) (xs:Array Value) (x:Nat→Int) (hx:∀ i,i<64→xs[i]?=some (.int .u32 (x i))) (o:Opx) (hk:kn o.s=24) (ha0:0≤o.a) (ha1:o.a<64) (i0:0≤o.i) (i1:o.i<4294967296) (hxb:∀ i,i<64→0≤x i∧x i<4294967296) (hb0:0≤o.b) (hb1:o.b<64) (hd:o.d=1∨o.d=2∨o.d=4) (hc:chk (lo (x o.a.toNat+o.i)) o.d≠0) (w:World) (D:DRam w rb gb kb m wt) :
  Calls Tryz.prog 125 #[.agg xs,.pointer (some ⟨rb,0,none⟩),opV o] w fun e w'=>e=.returned (roV (resZ wt x m o))∧Below w.heap.size w w':=by
 have s23:(o.s.toList==[108,111,97,100])=false:=knF o.s 23 (by omega)
 have s1:(o.s.toList==[115,101,116])=false:=knF o.s 1 (by omega)
 have s2:(o.s.toList==[99,111,112,121])=false:=knF o.s 2 (by omega)
 have s21:(o.s.toList==[111,118,101,114,43])=false:=knF o.s 21 (by omega)
 have s22:(o.s.toList==[111,118,101,114,45])=false:=knF o.s 22 (by omega)
 have s24:(o.s.toList==[115,116,111,114,101])=true:=by rw[show (o.s.toList==[115,116,111,114,101])=_ from kn_eq o.s 24 (by omega) (by omega)];simpa using hk
 have s25:(o.s.toList==[105,102])=false:=knF o.s 25 (by omega)
 have s26:(o.s.toList==[111,117,116])=false:=knF o.s 26 (by omega)
 have s27:(o.s.toList==[111,117,116,114])=false:=knF o.s 27 (by omega)
 have HR:Hid (resZ wt x m o=⟨0,0,true,false⟩):=by show _=_;unfold resZ Opx.k;rw[hk,if_neg (by omega),if_neg (by omega),if_neg (by omega),if_pos rfl];first|rw[if_pos hc]|rw[if_neg hc]
 rw[show roV (resZ wt x m o)=_ from congrArg roV HR.out]
 clear HR
 have RB:=RBx.new w xs x hx o
 have D0:=D.stays RB.b
 have xa:=hxb o.a.toNat (by omega)
 have hpl:=fun W=>plus3_any (x o.a.toNat) o.i xa.1 xa.2 i0 i1 W
 have A0:=lo_bd (x o.a.toNat+o.i)
 generalize lo (x o.a.toNat+o.i)=A at *
 obtain ⟨A0,A1⟩:=A0
 unfold opV
 have hre:=fun W=>reach_any A o.d A0 A1 (by omega) (by omega) W
 have hrc:=rc_no hc
 generalize rc A o.d=er at *
 clear hc hxb
 go_enter Tryz.func125,Tryz.ntmps125
 go_upto_region 1 with fail
 generalize (((w.alloc (.cells xs 100)).alloc (.cells #[.string o.s,.int .i64 o.d,.int .i64 o.a,.int .i64 o.b,.int .u32 o.i,.int .i64 o.t] 139)).alloc (.cells #[.int .u32 0,.int .u32 0,.bool false,.bool false] 214))=W at *
 have HRB:Hid (RBx w W x o):=RB
 have ra:=RB.r o.a.toNat (by omega)
 have rb2:=RB.r o.b.toNat (by omega)
 obtain ⟨_,_,o0,o1,o2,o3,o4,a0,a1,a2,a3,f0,f1,f2,f3,z⟩:=RB
 have HD0:Hid (DRam W rb gb kb m wt):=D0
 have c1:=D0.c1
 clear hx hk D D0
 go_wp2_with fail
 refine (hpl _).mono ?_
 rintro e w1 ⟨rfl,hw⟩
 rw[hw]
 clear hw w1
 go_wp2_with fail
 refine (hre _).mono ?_
 rintro e w1 ⟨rfl,hw⟩
 rw[hw]
 clear hw w1
 go_wp2
 obtain ⟨q1,q2⟩:=rsP HRB.out (.int .u32 (0)) (.int .u32 (0)) (.bool (true)) (.bool (false))
 refine bodyPost_ret (r1c (A:=⟨w.heap.size+1+1,0,none⟩) rfl _ _ _ rfl q1) rfl ?_
 exact ⟨rfl,q2⟩
theorem alw_1 {n:Int} (h:alw 1 n=true):0≤n∧n<64:=by simpa [alw] using h
theorem alw_2 {n:Int} (h:alw 2 n=true):1≤n∧n<64:=by simpa [alw] using h
theorem alw_3 {n:Int} (h:alw 3 n=true):n=1∨n=2∨n=4∨n=-1∨n=-2:=by simpa [alw] using h
theorem alw_4 {n:Int} (h:alw 4 n=true):n=1∨n=2∨n=4:=by simpa [alw] using h
theorem opE_flds {o:Opx} {many:Int} (h:opE o many=0):kn o.s≠0∧(0≤o.a∧o.a<64)∧(kn o.s≠23→0≤o.b∧o.b<64)∧(kn o.s=23→o.b=1∨o.b=2∨o.b=4∨o.b=-1∨o.b=-2)∧(1≤kn o.s∧kn o.s≤20∨kn o.s=23→1≤o.d∧o.d<64)∧(kn o.s=24→o.d=1∨o.d=2∨o.d=4):=by
 unfold opE at h
 split at h
 ·omega
 rename_i h0
 split at h
 ·omega
 rename_i h1
 split at h
 ·omega
 rename_i h2
 simp only[bndB,shpB,Opx.k,Bool.not_eq_false,Bool.and_eq_true,Bool.or_eq_true,decide_eq_true_eq]at h0 h1 h2
 obtain ⟨⟨⟨⟨hD,hA⟩,hB⟩,_⟩,_⟩:=h1
 obtain ⟨⟨⟨sD,sA⟩,sB⟩,_⟩:=h2
 have hl:=kn_lt o.s
 refine ⟨h0,?_,?_,?_,?_,?_⟩
 ·by_cases hr:2≤kn o.s∧kn o.s≤25∨kn o.s=27
  ·exact alw_1 (by rw[show (1:Nat)=rA (kn o.s) by unfold rA;rw[if_pos hr]];exact hA)
  ·have:rA (kn o.s)=0:=by unfold rA;rw[if_neg hr]
   omega
 ·intro h23
  by_cases hr:3≤kn o.s∧kn o.s≤22∨kn o.s=24
  ·exact alw_1 (by rw[show (1:Nat)=rB (kn o.s) by unfold rB;rw[if_pos hr]];exact hB)
  ·have:rB (kn o.s)=0:=by unfold rB;rw[if_neg hr,if_neg h23]
   omega
 ·intro h23
  exact alw_3 (by rw[show (3:Nat)=rB (kn o.s) by unfold rB;rw[if_neg (by omega),if_pos h23]];exact hB)
 ·intro hr
  exact alw_2 (by rw[show (2:Nat)=rD (kn o.s) by unfold rD;rw[if_pos hr]];exact hD)
 ·intro h24
  exact alw_4 (by rw[show (4:Nat)=rD (kn o.s) by unfold rD;rw[if_neg (by omega),if_pos h24]];exact hD)
theorem resultOf_any {rb gb kb:Nat} (wt:Int→Bool) (m:Nat→Int) (xs:Array Value) (x:Nat→Int) (hx:∀ i,i<64→xs[i]?=some (.int .u32 (x i))) (hxb:∀ i,i<64→0≤x i∧x i<4294967296) (o:Opx) (ok:o.ok) {many:Int} (h:opE o many=0) (w:World) (D:DRam w rb gb kb m wt) :
  Calls Tryz.prog 125 #[.agg xs,.pointer (some ⟨rb,0,none⟩),opV o] w fun e w'=>e=.returned (roV (resZ wt x m o))∧Below w.heap.size w w':=by
 obtain ⟨h0,⟨a0,a1⟩,hb,hb3,hd,hd4⟩:=opE_flds h
 have hl:=kn_lt o.s
 have hk:kn o.s=1∨kn o.s=2∨(3≤kn o.s∧kn o.s≤16)∨kn o.s=17∨kn o.s=18∨kn o.s=19∨kn o.s=20∨kn o.s=21∨kn o.s=22∨kn o.s=23∨kn o.s=24∨kn o.s=25∨kn o.s=26∨kn o.s=27:=by omega
 by_cases h23:kn o.s=23
 ·have hb':(o.b=-1∨o.b=-2)∨(o.b=1∨o.b=2∨o.b=4):=by have:=hb3 h23;omega
  rcases hb' with hn|hp
  ·by_cases hc:chk (lo (x o.a.toNat+o.i)) (-o.b)=0
   ·exact resultOf_loadn wt m xs x hx o h23 a0 a1 ok.i0 ok.i1 hxb hn hc w D
   ·exact resultOf_loadn_no wt m xs x hx o h23 a0 a1 ok.i0 ok.i1 hxb hn hc w D
  ·by_cases hc:chk (lo (x o.a.toNat+o.i)) o.b=0
   ·exact resultOf_loadp wt m xs x hx o h23 a0 a1 ok.i0 ok.i1 hxb hp hc w D
   ·exact resultOf_loadp_no wt m xs x hx o h23 a0 a1 ok.i0 ok.i1 hxb hp hc w D
 obtain ⟨b0,b1⟩:=hb h23
 rcases hk with hk|hk|hk|hk|hk|hk|hk|hk|hk|hk|hk|hk|hk|hk
 ·exact resultOf_set wt m xs x hx o hk a0 a1 b0 b1 _ w
 ·exact resultOf_copy wt m xs x hx o hk a0 a1 b0 b1 _ w
 ·exact resultOf_sum wt m xs x hx o hk a0 a1 b0 b1 hxb _ w
 ·obtain ⟨d0,d1⟩:=hd (by omega)
  by_cases hz:x o.b.toNat=0
  ·exact resultOf_divz wt m xs x hx o (by omega) a0 a1 b0 b1 hxb (by omega) d1 hz _ w
  ·exact resultOf_divn wt m xs x hx o (by omega) a0 a1 b0 b1 hxb (by omega) d1 hz _ w
 ·obtain ⟨d0,d1⟩:=hd (by omega)
  by_cases hz:x o.b.toNat=0
  ·exact resultOf_divz wt m xs x hx o (by omega) a0 a1 b0 b1 hxb (by omega) d1 hz _ w
  ·exact resultOf_divn wt m xs x hx o (by omega) a0 a1 b0 b1 hxb (by omega) d1 hz _ w
 ·obtain ⟨d0,d1⟩:=hd (by omega)
  by_cases hz:x o.b.toNat=0
  ·exact resultOf_divz wt m xs x hx o (by omega) a0 a1 b0 b1 hxb (by omega) d1 hz _ w
  ·exact resultOf_divn wt m xs x hx o (by omega) a0 a1 b0 b1 hxb (by omega) d1 hz _ w
 ·obtain ⟨d0,d1⟩:=hd (by omega)
  by_cases hz:x o.b.toNat=0
  ·exact resultOf_divz wt m xs x hx o (by omega) a0 a1 b0 b1 hxb (by omega) d1 hz _ w
  ·exact resultOf_divn wt m xs x hx o (by omega) a0 a1 b0 b1 hxb (by omega) d1 hz _ w
 ·exact resultOf_overp wt m xs x hx o hk a0 a1 b0 b1 hxb _ w
 ·exact resultOf_overm wt m xs x hx o hk a0 a1 b0 b1 hxb _ w
 ·exact absurd hk h23
 ·by_cases hc:chk (lo (x o.a.toNat+o.i)) o.d=0
  ·exact resultOf_store wt m xs x hx o hk a0 a1 ok.i0 ok.i1 hxb b0 b1 (hd4 hk) hc w D
  ·exact resultOf_store_no wt m xs x hx o hk a0 a1 ok.i0 ok.i1 hxb b0 b1 (hd4 hk) hc w D
 ·exact resultOf_if wt m xs x hx o hk a0 a1 b0 b1 _ w
 ·exact resultOf_out wt m xs x hx o hk a0 a1 b0 b1 _ w
 ·exact resultOf_outr wt m xs x hx o hk a0 a1 b0 b1 _ w
theorem alloc_belowG (w:World) (b:Obj):Below w.heap.size w (w.alloc b):=(Below.refl _ _).alloc (Nat.le_refl _) _
section
variable {w : World} {base mb stb sb bp bw bh N : Nat} {X : Nat → Int} {p : List Pq} {vi : Value} {m : Nat → Int} {wt ht : Int → Bool}
end
structure Ef where
 r:Int
 v:Int
 a:Int
 s:Int
 sv:Int
 lv:Bool
 to:Int
def efA (e:Ef):Array Value:=#[.int .i64 e.r,.int .u32 e.v,.int .u32 e.a,.int .i64 e.s,.int .u32 e.sv,.bool e.lv,.int .u32 e.to]
def efO (o:Opx) (ro:Ro):Ef:=if o.k=21∨o.k=22 then ⟨0,0,0,0,0,false,0⟩ else if o.k=24 then ⟨0,0,ro.a,o.d,ro.v,false,0⟩ else if 25≤o.k then ⟨0,0,0,0,0,ro.leave,ro.a⟩ else ⟨o.d,ro.v,0,0,0,false,0⟩
def ReadPost (w:World) (o:Opx) (ro:Ro) (e:Ending) (w':World):Prop:=(∃ E:Ef,e=.returned (.tuple #[.agg (efA E),.bool (!ro.trap)])∧(ro.trap=false→E=efO o ro))∧Below w.heap.size w w'
section
variable {w : World} {base mb stb sb bp bw bh N : Nat} {X : Nat → Int} {p : List Pq} {vi : Value} {m : Nat → Int} {wt ht : Int → Bool}
theorem efO_val {o:Opx} (h:o.k≤20) (ro:Ro):efO o ro=⟨o.d,ro.v,0,0,0,false,0⟩:=by
 unfold efO;rw[if_neg (by omega),if_neg (by omega),if_neg (by omega)]
theorem efO_lv {o:Opx} (h:25≤o.k) (ro:Ro):efO o ro=⟨0,0,0,0,0,ro.leave,ro.a⟩:=by unfold efO;rw[if_neg (by omega),if_neg (by omega),if_pos h]
theorem read_val (G:GAt w base mb stb sb X p vi) (k:Nat) (hk:1≤k∧k≤20) (d a b i t:Int) (v:Int) (hv:v=valV k (X a.toNat) (X b.toNat) (X d.toNat) i)
  (hr:∀ W,GAt W base mb stb sb X p vi→Calls Tryz.prog 148 #[.pointer (some ⟨mb,0,none⟩),.agg #[.string (kindS k),.int .i64 d,.int .i64 a,.int .i64 b,.int .u32 i,.int .i64 t]] W fun e w'=>e=.returned (.int .u32 v)∧Below W.heap.size W w') :
  Calls Tryz.prog 78 #[.pointer (some ⟨mb,0,none⟩),opV ⟨kindS k,d,a,b,i,t⟩] w (ReadPost w ⟨kindS k,d,a,b,i,t⟩ (resZ wt X (vw m (pqs p)) ⟨kindS k,d,a,b,i,t⟩)):=by
 have e:(Opx.k ⟨kindS k,d,a,b,i,t⟩)=k:=kn_kind k hk.1 (by omega)
 rw[resZ_val (o:=⟨kindS k,d,a,b,i,t⟩) (by rw[e];omega)]
 refine (read_sum G (kindS k) (kt k 21 (by omega) (by omega) (by omega) (by omega) (by omega)) (kt k 22 (by omega) (by omega) (by omega) (by omega) (by omega)) (kt k 23 (by omega) (by omega) (by omega) (by omega) (by omega)) (kt k 24 (by omega) (by omega) (by omega) (by omega) (by omega)) (kt k 25 (by omega) (by omega) (by omega) (by omega) (by omega)) (kt k 26 (by omega) (by omega) (by omega) (by omega) (by omega)) (kt k 27 (by omega) (by omega) (by omega) (by omega) (by omega)) d a b i t v hr).mono ?_
 rintro e1 w' ⟨rfl,hb⟩
 refine ⟨⟨⟨d,v,0,0,0,false,0⟩,rfl,fun _=>?_⟩,hb⟩
 rw[efO_val (by rw[e];omega)]
 simp only[e]
 rw[hv]
end
end Go.Proofs.YtflagpkmebdckaaGreatDoor
