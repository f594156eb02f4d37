
import Derived.Test.YtflagpkmebdckaaGreatDoorKRunPure
namespace Go.Proofs.YtflagpkmebdckaaGreatDoor
open Go.RowKit Go.Maps
open Num
set_option linter.unusedVariables false
set_option maxRecDepth 100000
set_option maxHeartbeats 8000000
theorem resultOf_divz (wt:Int→Bool) (m:Nat→Int) (xs:Array Value) (x:Nat→Int) (hx:∀ i,i<64→xs[i]?=some (.int .u32 (x i))) (o:Opx) (hk:kn o.s=17∨kn o.s=18∨kn o.s=19∨kn o.s=20) (ha0:0≤o.a) (ha1:o.a<64) (hb0:0≤o.b) (hb1:o.b<64) (hxb:∀ i,i<64→0≤x i∧x i<4294967296) (hd0:0≤o.d) (hd1:o.d<64) (hz:x o.b.toNat=0) (mp:Value) (w:World) :
  Calls Tryz.prog 125 #[.agg xs,mp,opV o] w fun e w'=>e=.returned (roV (resZ wt x m o))∧Below w.heap.size w w':=by
 have s23:(o.s.toList==[108,111,97,100])=false:=knF o.s 23 (by omega)
 have s1:(o.s.toList==[115,101,116])=false:=knF o.s 1 (by omega)
 have s2:(o.s.toList==[99,111,112,121])=false:=knF o.s 2 (by omega)
 have s21:(o.s.toList==[111,118,101,114,43])=false:=knF o.s 21 (by omega)
 have s22:(o.s.toList==[111,118,101,114,45])=false:=knF o.s 22 (by omega)
 have s24:(o.s.toList==[115,116,111,114,101])=false:=knF o.s 24 (by omega)
 have s25:(o.s.toList==[105,102])=false:=knF o.s 25 (by omega)
 have s26:(o.s.toList==[111,117,116])=false:=knF o.s 26 (by omega)
 have s27:(o.s.toList==[111,117,116,114])=false:=knF o.s 27 (by omega)
 have HR:Hid (resZ wt x m o=⟨x o.d.toNat,0,false,false⟩):=by show _=_;rcases hk with hk|hk|hk|hk<;>(unfold resZ Opx.k;rw[hk];simp[valV,hz])
 rw[show roV (resZ wt x m o)=_ from congrArg roV HR.out]
 have RB:=RBx.new w xs x hx o
 unfold opV
 have xa:=hxb o.a.toNat (by omega)
 have xbd:=hxb o.b.toNat (by omega)
 have hd:=fun w=>isDiv_any o.s w
 rw[show dvB (kn o.s)=true by rcases hk with hk|hk|hk|hk<;>(rw[hk];rfl)]at hd
 have s17:(o.s.toList==[113,117,111])=decide (kn o.s=17):=kn_eq o.s 17 (by omega) (by omega)
 have s18:(o.s.toList==[114,101,109])=decide (kn o.s=18):=kn_eq o.s 18 (by omega) (by omega)
 have s20:(o.s.toList==[114,101,109,117])=decide (kn o.s=20):=kn_eq o.s 20 (by omega) (by omega)
 have hv:=fun w=>divOf_0 (x o.a.toNat) (decide (kn o.s=17∨kn o.s=18)) w
 rw[←hz]at hv
 clear hxb hz
 clear HR
 rcases hk with hk|hk|hk|hk
 all_goals
  rw[hk]at s17 s18 s20 hv
  simp only[eq_self,Nat.reduceEqDiff,decide_true,decide_false,or_false,or_true]at s17 s18 s20 hv
  go_enter Tryz.func125,Tryz.ntmps125
  go_upto_region 1 with fail
  generalize (((w.alloc (.cells xs 100)).alloc (.cells #[.string o.s,.int .i64 o.d,.int .i64 o.a,.int .i64 o.b,.int .u32 o.i,.int .i64 o.t] 139)).alloc (.cells #[.int .u32 0,.int .u32 0,.bool false,.bool false] 214))=W at *
  have HRB:Hid (RBx w W x o):=RB
  have ra:=RB.r o.a.toNat (by omega)
  have rb:=RB.r o.b.toNat (by omega)
  obtain ⟨_,_,o0,o1,o2,o3,o4,a0,a1,a2,a3,f0,f1,f2,f3,z⟩:=RB
  clear hx hk
  have rd:=HRB.out.r o.d.toNat (by omega)
  go_wp2_with fail
  refine (hd _).mono ?_
  rintro e w1 ⟨rfl,hw⟩
  rw[hw]
  clear hw w1 hd
  go_wp2_with fail
  refine (hv _).mono ?_
  rintro e w1 ⟨rfl,hw⟩
  rw[hw]
  clear hw w1 hv
  go_wp2
  obtain ⟨q1,q2⟩:=rsP HRB.out (.int .u32 (x o.d.toNat)) (.int .u32 (0)) (.bool (false)) (.bool (false))
  refine bodyPost_ret (r1c (A:=⟨w.heap.size+1+1,0,none⟩) rfl _ _ _ rfl q1) rfl ?_
  exact ⟨rfl,q2⟩
theorem resultOf_divn (wt:Int→Bool) (m:Nat→Int) (xs:Array Value) (x:Nat→Int) (hx:∀ i,i<64→xs[i]?=some (.int .u32 (x i))) (o:Opx) (hk:kn o.s=17∨kn o.s=18∨kn o.s=19∨kn o.s=20) (ha0:0≤o.a) (ha1:o.a<64) (hb0:0≤o.b) (hb1:o.b<64) (hxb:∀ i,i<64→0≤x i∧x i<4294967296) (hd0:0≤o.d) (hd1:o.d<64) (hz:x o.b.toNat≠0) (mp:Value) (w:World) :
  Calls Tryz.prog 125 #[.agg xs,mp,opV o] w fun e w'=>e=.returned (roV (resZ wt x m o))∧Below w.heap.size w w':=by
 have s23:(o.s.toList==[108,111,97,100])=false:=knF o.s 23 (by omega)
 have s1:(o.s.toList==[115,101,116])=false:=knF o.s 1 (by omega)
 have s2:(o.s.toList==[99,111,112,121])=false:=knF o.s 2 (by omega)
 have s21:(o.s.toList==[111,118,101,114,43])=false:=knF o.s 21 (by omega)
 have s22:(o.s.toList==[111,118,101,114,45])=false:=knF o.s 22 (by omega)
 have s24:(o.s.toList==[115,116,111,114,101])=false:=knF o.s 24 (by omega)
 have s25:(o.s.toList==[105,102])=false:=knF o.s 25 (by omega)
 have s26:(o.s.toList==[111,117,116])=false:=knF o.s 26 (by omega)
 have s27:(o.s.toList==[111,117,116,114])=false:=knF o.s 27 (by omega)
 have HR:Hid (resZ wt x m o=⟨if kn o.s=17∨kn o.s=19 then quo (x o.a.toNat) (x o.b.toNat) (decide (kn o.s=17∨kn o.s=18)) else rst (x o.a.toNat) (x o.b.toNat) (decide (kn o.s=17∨kn o.s=18)),0,false,false⟩):=by show _=_;rcases hk with hk|hk|hk|hk<;>(unfold resZ Opx.k;rw[hk];simp[valV,hz])
 rw[show roV (resZ wt x m o)=_ from congrArg roV HR.out]
 have RB:=RBx.new w xs x hx o
 unfold opV
 have xa:=hxb o.a.toNat (by omega)
 have xbd:=hxb o.b.toNat (by omega)
 have hd:=fun w=>isDiv_any o.s w
 rw[show dvB (kn o.s)=true by rcases hk with hk|hk|hk|hk<;>(rw[hk];rfl)]at hd
 have s17:(o.s.toList==[113,117,111])=decide (kn o.s=17):=kn_eq o.s 17 (by omega) (by omega)
 have s18:(o.s.toList==[114,101,109])=decide (kn o.s=18):=kn_eq o.s 18 (by omega) (by omega)
 have s20:(o.s.toList==[114,101,109,117])=decide (kn o.s=20):=kn_eq o.s 20 (by omega) (by omega)
 have hv:=fun w=>divOf_any (x o.a.toNat) (x o.b.toNat) (decide (kn o.s=17∨kn o.s=18)) xa.1 xa.2 (by omega) xbd.2 w
 obtain ⟨vq,hvq⟩:∃ v,quo (x o.a.toNat) (x o.b.toNat) (decide (kn o.s=17∨kn o.s=18))=v:=⟨_,rfl⟩
 obtain ⟨vr,hvr⟩:∃ v,rst (x o.a.toNat) (x o.b.toNat) (decide (kn o.s=17∨kn o.s=18))=v:=⟨_,rfl⟩
 rw[hvq,hvr]at hv
 rw[hvq,hvr]
 clear hvq hvr
 clear hxb hz
 clear HR
 rcases hk with hk|hk|hk|hk
 all_goals
  rw[hk]at s17 s18 s20 hv ⊢
  simp only[eq_self,Nat.reduceEqDiff,decide_true,decide_false,or_false,or_true]at s17 s18 s20 hv ⊢
  go_enter Tryz.func125,Tryz.ntmps125
  go_upto_region 1 with fail
  generalize (((w.alloc (.cells xs 100)).alloc (.cells #[.string o.s,.int .i64 o.d,.int .i64 o.a,.int .i64 o.b,.int .u32 o.i,.int .i64 o.t] 139)).alloc (.cells #[.int .u32 0,.int .u32 0,.bool false,.bool false] 214))=W at *
  have HRB:Hid (RBx w W x o):=RB
  have ra:=RB.r o.a.toNat (by omega)
  have rb:=RB.r o.b.toNat (by omega)
  obtain ⟨_,_,o0,o1,o2,o3,o4,a0,a1,a2,a3,f0,f1,f2,f3,z⟩:=RB
  clear hx hk
  have rd:=HRB.out.r o.d.toNat (by omega)
  go_wp2_with fail
  refine (hd _).mono ?_
  rintro e w1 ⟨rfl,hw⟩
  rw[hw]
  clear hw w1 hd
  go_wp2_with fail
  refine (hv _).mono ?_
  rintro e w1 ⟨rfl,n,hw⟩
  rw[hw]
  clear hw w1 hv
  go_wp2
  obtain ⟨q1,q2⟩:=rsP (HRB.out.drewN n) (.int .u32 _) (.int .u32 (0)) (.bool (false)) (.bool (false))
  refine bodyPost_ret (r1c (A:=⟨w.heap.size+1+1,0,none⟩) rfl _ _ _ rfl q1) rfl ?_
  exact ⟨rfl,q2⟩
end Go.Proofs.YtflagpkmebdckaaGreatDoor
