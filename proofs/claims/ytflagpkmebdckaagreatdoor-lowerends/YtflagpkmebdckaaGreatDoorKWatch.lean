
import Derived.Deep.RegionWith
import Derived.Deep.Cut
import Derived.Test.YtflagpkmebdckaaGreatDoorKNum
namespace Go.Proofs.YtflagpkmebdckaaGreatDoor
open Go.RowKit Go.Maps
open Num
set_option linter.unusedVariables false
set_option maxRecDepth 100000
set_option maxHeartbeats 4000000
theorem below_drew {B:Nat} {w w':World} (h:Below B w w'):Below B w w'.drew:=⟨h.os,h.tape,h.output,h.size,h.block⟩
theorem watched_any {w:World} {sb bp bw bh N:Nat} {m:Nat→Int} {wt ht:Int→Bool} (R:RamIs w sb bp bw bh N m wt ht) (a:Int) (h0:0≤a) (h1:a<4294967296) :
  Calls Tryz.prog 43 #[.pointer (some ⟨sb,0,none⟩),.int .u32 a] w fun e w'=>e=.returned (.bool (wt (a/256)))∧Below w.heap.size w w':=by
 have c1:=R.c1
 have hz:sb<w.heap.size:=World.block_lt_of_cell? _ _ c1
 have hlook:(Instr.lookup 103 (.map (some bw)) (.int .i64 (a/256)) true).run Tryz.prog w.drew=.ok (.tuple #[.agg #[],.bool (wt (a/256))]) w.drew:=by
  have hp:SetAt w.drew bw N wt:=R.ws
  exact hp.look (a/256) (by omega) (by omega)
 have hlook2:(Instr.lookup 103 (.map (some bw)) (.int .i64 (a/256)) true).run Tryz.prog (w.alloc (.cells #[] 107)).drew=.ok (.tuple #[.agg #[],.bool (wt (a/256))]) (w.alloc (.cells #[] 107)).drew:=by
  have hp:SetAt (w.alloc (.cells #[] 107)) bw N wt:=R.ws.kept (World.grownBy_alloc w _ none) (by simp)
  have hp:SetAt (w.alloc (.cells #[] 107)).drew bw N wt:=hp
  exact hp.look (a/256) (by omega) (by omega)
 clear R
 go_enter Tryz.func43,Tryz.ntmps43
 go_wp2_with fail
 go_region_with ((go_at_call 39;refine (pageOf_any _ h0 h1 _).mono ?_;rintro e w' ⟨rfl,rfl⟩))
 all_goals
  go_wp2
  go_ret
  exact ⟨rfl,below_drew ((Below.refl _ _).alloc (Nat.le_refl _) _)⟩
end Go.Proofs.YtflagpkmebdckaaGreatDoor
namespace Go.Proofs.YtflagpkmebdckaaGreatDoor
open Go.RowKit
open Num
set_option linter.unusedVariables false
set_option maxHeartbeats 1000000
theorem sgA (a:Int) (h0:0≤a) (h1:a<4294967296) (w:World) :
  Calls Tryz.prog 153 #[.int .u32 a] w fun e w'=>e=.returned (.int .i64 (sg a))∧w'=w:=by
 by_cases h:2147483648≤a
 ·go_enter Tryz.func153,Tryz.ntmps153
  go_wp2
  go_ret
  exact ⟨ret_int (by unfold sg;rw[if_neg (by omega)]),rfl⟩
 ·go_enter Tryz.func153,Tryz.ntmps153
  go_wp2
  go_ret
  exact ⟨ret_int (by unfold sg;rw[if_pos (by omega)]),rfl⟩
theorem lessOf_any (a b:Int) (s:Bool) (h0:0≤a) (h1:a<4294967296) (g0:0≤b) (g1:b<4294967296) (w:World) :
  Calls Tryz.prog 229 #[.int .u32 a,.int .u32 b,.bool s] w fun e w'=>e=.returned (.bool (lessB a b s))∧w'=w:=by
 cases s
 ·go_enter Tryz.func229,Tryz.ntmps229
  go_wp2
  go_ret
  exact ⟨ret_bool (by simp[lessB,nm]),rfl⟩
 ·go_enter Tryz.func229,Tryz.ntmps229
  go_wp2_with (go_at_call 153;refine (sgA _ (by omega) (by omega) _).mono ?_;rintro e w' ⟨rfl,rfl⟩)
  go_ret
  exact ⟨ret_bool (by simp[lessB,nm]),rfl⟩
theorem wdA (n:Int) (h0:-9223372036854775808≤n) (h1:n≤9223372036854775807) (w:World) :
  Calls Tryz.prog 101 #[.int .i64 n] w fun e w'=>e=.returned (.int .u32 (lo n))∧w'=w:=by
 have ht:=tm n
 have he:Hid (n=4294967296*n.tdiv 4294967296+n.tmod 4294967296):=ht.1
 obtain ⟨hx,ht1,ht2⟩:=ht
 clear hx
 by_cases hn:n.tmod 4294967296<0
 ·go_enter Tryz.func101,Tryz.ntmps101
  go_wp2
  go_ret
  exact ⟨ret_int (by have:=he.out;unfold lo;omega),rfl⟩
 ·go_enter Tryz.func101,Tryz.ntmps101
  go_wp2
  go_ret
  exact ⟨ret_int (by have:=he.out;unfold lo;omega),rfl⟩
theorem isS (n:Int) (w:World) :
  Calls Tryz.prog 187 #[.int .i64 n] w fun e w'=>e=.returned (.bool (!ov n))∧w'=w:=by
 go_enter Tryz.func187,Tryz.ntmps187
 go_wp2
 all_goals
  go_ret
  exact ⟨ret_bool (by unfold ov;rw[Bool.eq_iff_iff];simp;omega),rfl⟩
theorem divOf_0 (a:Int) (s:Bool) (w:World) :
  Calls Tryz.prog 189 #[.int .u32 a,.int .u32 0,.bool s] w fun e w'=>e=.returned (.tuple #[.int .u32 0,.int .u32 0,.bool false])∧w'=w:=by
 go_enter Tryz.func189,Tryz.ntmps189
 go_wp2
 go_ret3
 exact ⟨rfl,rfl⟩
theorem divOf_u (a b:Int) (h0:0≤a) (h1:a<4294967296) (g0:0<b) (g1:b<4294967296) (w:World) :
  Calls Tryz.prog 189 #[.int .u32 a,.int .u32 b,.bool false] w fun e w'=>e=.returned (.tuple #[.int .u32 (quo a b false),.int .u32 (rst a b false),.bool true])∧∃ n,w'=w.drewN n:=by
 have hb:(b==0)=false:=by simp;omega
 have hz:¬ b=0:=by omega
 have d:=ediv_bd (d:=b) h0 (by omega)
 have r0:=Int.emod_nonneg a hz
 have r1:=Int.emod_lt_of_pos a g0
 go_enter Tryz.func189,Tryz.ntmps189
 go_wp2_with fail
 go_quiet ((go_at_call 101;exact Calls.quiet_of_same (wdA _ (by omega) (by omega) _)))
 go_wp2
 go_ret3
 exact ⟨ret_three (by rw[quo_u h0 h1 g0];exact lo_of (quo_bd a b false).1 (quo_bd a b false).2) (by rw[rst_u h0 g0 g1];exact lo_of (rst_bd a b false).1 (rst_bd a b false).2) rfl,_,rfl⟩
theorem wrap64_bd (x:Int):-9223372036854775808≤wrap64 x∧wrap64 x≤9223372036854775807:=by unfold wrap64;omega
theorem tmod_bd {x y:Int} (h0:-2147483648≤x) (h1:x≤2147483647) (g0:-2147483648≤y) (g1:y≤2147483647) (h:¬ y=0):-2147483648≤x.tmod y∧x.tmod y≤2147483648:=by
 have:=Int.natAbs_tmod x y
 have:=Nat.mod_lt x.natAbs (show 0<y.natAbs by omega)
 omega
theorem divOf_s (a b:Int) (h0:0≤a) (h1:a<4294967296) (g0:0<b) (g1:b<4294967296) (w:World) :
  Calls Tryz.prog 189 #[.int .u32 a,.int .u32 b,.bool true] w fun e w'=>e=.returned (.tuple #[.int .u32 (quo a b true),.int .u32 (rst a b true),.bool true])∧∃ n,w'=w.drewN n:=by
 have hb:(b==0)=false:=by simp;omega
 have ha:=sg_bd h0 h1
 have hb:=sg_bd (Int.le_of_lt g0) g1
 have hz:¬ sg b=0:=nm_ne g0 g1 true
 have hq:=wrap64_bd ((sg a).tdiv (sg b))
 have hr:=tmod_bd ha.1 ha.2 hb.1 hb.2 hz
 go_enter Tryz.func189,Tryz.ntmps189
 go_wp2_with (first|(go_at_call 153;refine (sgA _ (by omega) (by omega) _).mono ?_;rintro e w' ⟨rfl,rfl⟩)|(go_at_call 101;refine (wdA _ (by omega) (by omega) _).mono ?_;rintro e w' ⟨rfl,rfl⟩))
 go_ret3
 exact ⟨ret_three (lo_wrap64 _) rfl rfl,0,rfl⟩
theorem shA (k a n:Int) (h0:0≤a) (h1:a<4294967296) (g0:0≤n) (w:World) :
  Calls Tryz.prog 85 #[.int .u8 k,.int .u32 a,.int .u32 n] w fun e w'=>e=.returned (.int .u32 (shf k a n))∧w'=w:=by
 have ha:=sg_bd h0 h1
 go_enter Tryz.func85,Tryz.ntmps85
 go_wp2
 go_loop [7,8] (fun y i=>∃ j:Nat,(j:Int)≤n%32∧i=.int .u32 j∧y=.int .i64 (2^j)) (fun _ i=>32-(intOf i).toNat)
 case atStart=>exact ⟨0,by simp;omega,rfl,rfl⟩
 case round =>
  obtain ⟨j,hj,rfl,rfl⟩:=hrel
  have hp:=two_le (k:=j) (by omega)
  by_cases hlt:(j:Int)<n%32
  ·go_wp2
   go_round
   case rel=>exact ⟨j+1,by omega,by go_num,by rw[Int.pow_succ];go_num⟩
   case measure=>simp[intOf];omega
  ·have hj':j=(n%32).toNat:=by omega
   have hpw:Hid (pw n=2^j):=by rw[hj'];exact rfl
   have hd:=p_div (k:=j) (by omega)
   have hs:=shl_of a (2^j) hp.1 hd.1 hd.2
   obtain ⟨s0,s1,s2,s3,s4⟩:=hs
   have hs4:Hid (a%(4294967296/2^j)*2^j=lo (a*2^j)):=s4
   obtain ⟨hd1,hd2⟩:=hd
   clear s4 hj' hd1
   have e1:=ediv_bd (d:=2^j) h0 hp.1
   by_cases k1:k=60
   ·subst k1
    go_wp2_with (go_at_call 101;refine (wdA _ (by omega) (by omega) _).mono ?_;rintro e w' ⟨rfl,rfl⟩)
    go_ret
    exact ⟨ret_int (by rw[hs4.out,←hpw.out];unfold shf;rw[if_pos rfl];exact lo_of (lo_bd _).1 (lo_bd _).2),rfl⟩
   by_cases k2:k=62
   ·subst k2
    go_wp2_with (go_at_call 101;refine (wdA _ (by omega) (by omega) _).mono ?_;rintro e w' ⟨rfl,rfl⟩)
    go_ret
    exact ⟨ret_int (by rw[lo_of e1.1 (by omega),←hpw.out];unfold shf;rw[if_neg (by decide),if_pos rfl]),rfl⟩
   by_cases k3:k=126
   ·subst k3
    have fin:shf 126 a n=lo (sg a/2^j):=by unfold shf;rw[if_neg (by decide),if_neg (by decide),if_pos rfl,hpw.out]
    have hfin:Hid (shf 126 a n=lo (sg a/2^j)):=fin
    clear fin
    by_cases hn:sg a<0
    ·obtain ⟨dn,de⟩:=down (sg a) (2^j) hn ha.1 hp.1
     have hde:Hid (sg a/2^j=if (sg a).tmod (2^j)=0 then (sg a).tdiv (2^j) else (sg a).tdiv (2^j)-1):=de
     clear de
     by_cases hr:(sg a).tmod (2^j)=0
     ·go_wp2_with (first|(go_at_call 153;refine (sgA _ (by omega) (by omega) _).mono ?_;rintro e w' ⟨rfl,rfl⟩)|(go_at_call 101;refine (wdA _ (by omega) (by omega) _).mono ?_;rintro e w' ⟨rfl,rfl⟩))
      go_ret
      exact ⟨ret_int (by rw[hfin.out,hde.out,if_pos hr]),rfl⟩
     ·go_wp2_with (first|(go_at_call 153;refine (sgA _ (by omega) (by omega) _).mono ?_;rintro e w' ⟨rfl,rfl⟩)|(go_at_call 101;refine (wdA _ (by omega) (by omega) _).mono ?_;rintro e w' ⟨rfl,rfl⟩))
      go_ret
      exact ⟨ret_int (by rw[hfin.out,hde.out,if_neg hr]),rfl⟩
    ·have e2:=ediv_bd (d:=2^j) (show 0≤sg a by omega) hp.1
     go_wp2_with (first|(go_at_call 153;refine (sgA _ (by omega) (by omega) _).mono ?_;rintro e w' ⟨rfl,rfl⟩)|(go_at_call 101;refine (wdA _ (by omega) (by omega) _).mono ?_;rintro e w' ⟨rfl,rfl⟩))
     go_ret
     exact ⟨ret_int (by rw[hfin.out]),rfl⟩
   have f1:(k==60)=false:=by simpa using k1
   have f2:(k==62)=false:=by simpa using k2
   have f3:(k==126)=false:=by simpa using k3
   have e':shf k a n=a:=by unfold shf;rw[if_neg k1,if_neg k2,if_neg k3]
   have e:Hid (shf k a n=a):=e'
   clear e' k1 k2 k3
   go_wp2
   go_ret
   exact ⟨ret_int e.out.symm,rfl⟩
theorem wideOf_out (v bits:Int) (s:Bool) (h:bits<1∨32<bits) (w:World) :
  Calls Tryz.prog 173 #[.int .u32 v,.int .i64 bits,.bool s] w fun e w'=>e=.returned (.int .u32 (wd v bits s))∧w'=w:=by
 have e':wd v bits s=v:=by unfold wd;rw[if_pos h]
 have e:Hid (wd v bits s=v):=e'
 clear e'
 rcases h with h|h
 ·go_enter Tryz.func173,Tryz.ntmps173
  go_wp2
  go_ret
  exact ⟨ret_int e.out.symm,rfl⟩
 ·have h':1≤bits:=by omega
  go_enter Tryz.func173,Tryz.ntmps173
  go_wp2
  go_ret
  exact ⟨ret_int e.out.symm,rfl⟩
theorem wideOf_in (v bits:Int) (s:Bool) (h0:0≤v) (h1:v<4294967296) (g0:1≤bits) (g1:bits≤32) (w:World) :
  Calls Tryz.prog 173 #[.int .u32 v,.int .i64 bits,.bool s] w fun e w'=>e=.returned (.int .u32 (wd v bits s))∧w'=w:=by
 go_enter Tryz.func173,Tryz.ntmps173
 go_wp2
 go_loop [7,8] (fun y i=>∃ j:Nat,(j:Int)≤bits∧i=.int .i64 j∧y=.int .i64 (2^j)) (fun _ i=>32-(intOf i).toNat)
 case atStart=>exact ⟨0,by simp;omega,rfl,rfl⟩
 case round =>
  obtain ⟨j,hj,rfl,rfl⟩:=hrel
  have hp:=two_le (k:=j) (by omega)
  by_cases hlt:(j:Int)<bits
  ·go_wp2
   go_round
   case rel=>exact ⟨j+1,by omega,by go_num,by rw[Int.pow_succ];go_num⟩
   case measure=>simp[intOf];omega
  ·have hj':j=bits.toNat:=by omega
   have hw:wd v bits s=if s=true∧(2:Int)^j≤2*(v%2^j) then lo (v%2^j-2^j) else v%2^j:=by
    unfold wd;rw[if_neg (by omega),hj']
   have hw':Hid (wd v bits s=if s=true∧(2:Int)^j≤2*(v%2^j) then lo (v%2^j-2^j) else v%2^j):=hw
   have r0:=Int.emod_nonneg v (show (2:Int)^j≠0 by omega)
   have r1:=Int.emod_lt_of_pos v (show (0:Int)<2^j by omega)
   clear hw hj'
   cases s
   ·go_wp2_with (go_at_call 101;refine (wdA _ (by omega) (by omega) _).mono ?_;rintro e w' ⟨rfl,rfl⟩)
    go_ret
    exact ⟨ret_int (by rw[hw'.out,if_neg (by simp)];exact lo_of r0 (by omega)),rfl⟩
   ·by_cases hc:(2:Int)^j≤2*(v%2^j)
    ·go_wp2_with (go_at_call 101;refine (wdA _ (by omega) (by omega) _).mono ?_;rintro e w' ⟨rfl,rfl⟩)
     go_ret
     exact ⟨ret_int (by rw[hw'.out,if_pos (by first|exact ⟨rfl,hc⟩|exact ⟨trivial,hc⟩)]),rfl⟩
    ·go_wp2_with (go_at_call 101;refine (wdA _ (by omega) (by omega) _).mono ?_;rintro e w' ⟨rfl,rfl⟩)
     go_ret
     exact ⟨ret_int (by rw[hw'.out,if_neg (by simp;omega)];exact lo_of r0 (by omega)),rfl⟩
theorem wideOf_any (v bits:Int) (s:Bool) (h0:0≤v) (h1:v<4294967296) (w:World) :
  Calls Tryz.prog 173 #[.int .u32 v,.int .i64 bits,.bool s] w fun e w'=>e=.returned (.int .u32 (wd v bits s))∧w'=w:=by
 by_cases h:bits<1∨32<bits
 ·exact wideOf_out v bits s h w
 ·exact wideOf_in v bits s h0 h1 (by omega) (by omega) w
theorem mulOf_u (a b:Int) (h0:0≤a) (h1:a<4294967296) (g0:0≤b) (g1:b<4294967296) (w:World) :
  Calls Tryz.prog 230 #[.int .u32 a,.int .u32 b,.bool false] w fun e w'=>e=.returned (.tuple #[.int .u32 (hi (a*b)),.int .u32 (lo (a*b))])∧w'=w:=by
 have hm:=mul_halves a b (by omega) (by omega) (by omega) (by omega)
 obtain ⟨m1,m2,m3,m4,m5⟩:=hm
 have he:Hid (a*b=65536*(a*(b/65536))+a*(b%65536)):=m5
 clear m5
 go_enter Tryz.func230,Tryz.ntmps230
 go_wp2
 go_ret2
 exact ⟨ret_two (by have:=he.out;unfold hi;omega) (by have:=he.out;unfold lo;omega),rfl⟩
theorem mulOf_pp (a b x y:Int) (h0:0≤a) (h1:a<4294967296) (g0:0≤b) (g1:b<4294967296) (x0:0≤x) (x1:x≤2147483648) (y0:0≤y) (y1:y≤2147483648) (ha:sg a=x) (hb:sg b=y) (w:World) :
  Calls Tryz.prog 230 #[.int .u32 a,.int .u32 b,.bool true] w fun e w'=>e=.returned (.tuple #[.int .u32 (hi (x*y)),.int .u32 (lo (x*y))])∧w'=w:=by
 have hm:=mul_halves x y (by omega) (by omega) (by omega) (by omega)
 obtain ⟨m1,m2,m3,m4,m5⟩:=hm
 have he:Hid (x*y=65536*(x*(y/65536))+x*(y%65536)):=m5
 clear m5
 go_enter Tryz.func230,Tryz.ntmps230
 go_wp2_with (go_at_call 153;refine (sgA _ (by omega) (by omega) _).mono ?_;rintro e w' ⟨rfl,rfl⟩)
 go_ret2
 exact ⟨ret_two (by have:=he.out;unfold hi;omega) (by have:=he.out;unfold lo;omega),rfl⟩
theorem mulOf_nn (a b x y:Int) (h0:0≤a) (h1:a<4294967296) (g0:0≤b) (g1:b<4294967296) (x0:0<x) (x1:x≤2147483648) (y0:0<y) (y1:y≤2147483648) (ha:sg a=-x) (hb:sg b=-y) (w:World) :
  Calls Tryz.prog 230 #[.int .u32 a,.int .u32 b,.bool true] w fun e w'=>e=.returned (.tuple #[.int .u32 (hi (x*y)),.int .u32 (lo (x*y))])∧w'=w:=by
 have hm:=mul_halves x y (by omega) (by omega) (by omega) (by omega)
 obtain ⟨m1,m2,m3,m4,m5⟩:=hm
 have he:Hid (x*y=65536*(x*(y/65536))+x*(y%65536)):=m5
 clear m5
 go_enter Tryz.func230,Tryz.ntmps230
 go_wp2_with (go_at_call 153;refine (sgA _ (by omega) (by omega) _).mono ?_;rintro e w' ⟨rfl,rfl⟩)
 go_ret2
 exact ⟨ret_two (by have:=he.out;unfold hi;omega) (by have:=he.out;unfold lo;omega),rfl⟩
theorem beq_t {z:Int} (h:(z==0)=true):z=0:=by simpa using h
theorem beq_f {z:Int} (h:(z==0)=false):¬ z=0:=by simpa using h
theorem mulOf_np (a b x y:Int) (h0:0≤a) (h1:a<4294967296) (g0:0≤b) (g1:b<4294967296) (x0:0<x) (x1:x≤2147483648) (y0:0≤y) (y1:y≤2147483648) (ha:sg a=-x) (hb:sg b=y) (w:World) :
  Calls Tryz.prog 230 #[.int .u32 a,.int .u32 b,.bool true] w fun e w'=>e=.returned (.tuple #[.int .u32 (hi (-(x*y))),.int .u32 (lo (-(x*y)))])∧w'=w:=by
 have hm:=mul_halves x y (by omega) (by omega) (by omega) (by omega)
 obtain ⟨m1,m2,m3,m4,m5⟩:=hm
 have he:Hid (x*y=65536*(x*(y/65536))+x*(y%65536)):=m5
 clear m5
 have hd:decide (y<0)=false:=by simpa using y0
 go_enter Tryz.func230,Tryz.ntmps230
 go_wp2_with (go_at_call 153;refine (sgA _ (by omega) (by omega) _).mono ?_;rintro e w' ⟨rfl,rfl⟩)
 all_goals
  go_ret2
  exact ⟨ret_two (by have:=he.out;unfold hi;first|omega|(have q:=beq_t ‹(_==(0:Int))=true›;omega)|(have q:=beq_f ‹(_==(0:Int))=false›;omega)) (by have:=he.out;unfold lo;first|omega|(have q:=beq_t ‹(_==(0:Int))=true›;omega)|(have q:=beq_f ‹(_==(0:Int))=false›;omega)),rfl⟩
theorem mulOf_pn (a b x y:Int) (h0:0≤a) (h1:a<4294967296) (g0:0≤b) (g1:b<4294967296) (x0:0≤x) (x1:x≤2147483648) (y0:0<y) (y1:y≤2147483648) (ha:sg a=x) (hb:sg b=-y) (w:World) :
  Calls Tryz.prog 230 #[.int .u32 a,.int .u32 b,.bool true] w fun e w'=>e=.returned (.tuple #[.int .u32 (hi (-(x*y))),.int .u32 (lo (-(x*y)))])∧w'=w:=by
 have hm:=mul_halves x y (by omega) (by omega) (by omega) (by omega)
 obtain ⟨m1,m2,m3,m4,m5⟩:=hm
 have he:Hid (x*y=65536*(x*(y/65536))+x*(y%65536)):=m5
 clear m5
 have hd:decide (x<0)=false:=by simpa using x0
 go_enter Tryz.func230,Tryz.ntmps230
 go_wp2_with (go_at_call 153;refine (sgA _ (by omega) (by omega) _).mono ?_;rintro e w' ⟨rfl,rfl⟩)
 all_goals
  go_ret2
  exact ⟨ret_two (by have:=he.out;unfold hi;first|omega|(have q:=beq_t ‹(_==(0:Int))=true›;omega)|(have q:=beq_f ‹(_==(0:Int))=false›;omega)) (by have:=he.out;unfold lo;first|omega|(have q:=beq_t ‹(_==(0:Int))=true›;omega)|(have q:=beq_f ‹(_==(0:Int))=false›;omega)),rfl⟩
theorem mulOf_any (a b:Int) (s:Bool) (h0:0≤a) (h1:a<4294967296) (g0:0≤b) (g1:b<4294967296) (w:World) :
  Calls Tryz.prog 230 #[.int .u32 a,.int .u32 b,.bool s] w fun e w'=>e=.returned (.tuple #[.int .u32 (hi (nm a s*nm b s)),.int .u32 (lo (nm a s*nm b s))])∧w'=w:=by
 cases s
 ·exact mulOf_u a b h0 h1 g0 g1 w
 ·have ha:=sg_bd h0 h1
  have hb:=sg_bd g0 g1
  show Calls Tryz.prog 230 #[.int .u32 a,.int .u32 b,.bool true] w fun e w'=>e=.returned (.tuple #[.int .u32 (hi (sg a*sg b)),.int .u32 (lo (sg a*sg b))])∧w'=w
  by_cases hx:sg a<0
  ·by_cases hy:sg b<0
   ·have:=mulOf_nn a b (-sg a) (-sg b) h0 h1 g0 g1 (by omega) (by omega) (by omega) (by omega) (by omega) (by omega) w
    rw[Int.neg_mul_neg]at this;exact this
   ·have:=mulOf_np a b (-sg a) (sg b) h0 h1 g0 g1 (by omega) (by omega) (by omega) (by omega) (by omega) rfl w
    rw[Int.neg_mul,Int.neg_neg]at this;exact this
  ·by_cases hy:sg b<0
   ·have:=mulOf_pn a b (sg a) (-sg b) h0 h1 g0 g1 (by omega) (by omega) (by omega) (by omega) rfl (by omega) w
    rw[Int.mul_neg,Int.neg_neg]at this;exact this
   ·exact mulOf_pp a b (sg a) (sg b) h0 h1 g0 g1 (by omega) (by omega) (by omega) (by omega) rfl rfl w
theorem divOf_any (a b:Int) (s:Bool) (h0:0≤a) (h1:a<4294967296) (g0:0<b) (g1:b<4294967296) (w:World) :
  Calls Tryz.prog 189 #[.int .u32 a,.int .u32 b,.bool s] w fun e w'=>e=.returned (.tuple #[.int .u32 (quo a b s),.int .u32 (rst a b s),.bool true])∧∃ n,w'=w.drewN n:=by
 cases s
 ·exact divOf_u a b h0 h1 g0 g1 w
 ·exact divOf_s a b h0 h1 g0 g1 w
end Go.Proofs.YtflagpkmebdckaaGreatDoor
