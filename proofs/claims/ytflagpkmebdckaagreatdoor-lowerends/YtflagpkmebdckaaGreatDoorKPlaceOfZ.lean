
import Derived.Deep.Slices
import Derived.Test.YtflagpkmebdckaaGreatDoorKKDecode
import Derived.Test.YtflagpkmebdckaaGreatDoorKRunPure
import Derived.Test.YtflagpkmebdckaaGreatDoorKEqSt0
import Derived.Test.YtflagpkmebdckaaGreatDoorKKRowOf
import Derived.Test.YtflagpkmebdckaaGreatDoorKLw8
import Derived.Test.YtflagpkmebdckaaGreatDoorKDKb3
namespace Go.Proofs.YtflagpkmebdckaaGreatDoor
open Go.ChangeShapes Go.WideShapes Go.ChangeAt Go.RowKit
set_option linter.unusedVariables false
set_option maxRecDepth 100000
theorem addr_plainZ (b o i:Nat):(⟨b,o,none⟩:Addr).add i=⟨b,o+i,none⟩:=by unfold Addr.add;split<;>simp_all
theorem c30:Tryz.prog.cellsOf 23=32:=by kernel_rfl
theorem c23':Tryz.prog.cellsOf 22=1:=by kernel_rfl
theorem take_one {l:List Value} {k:Nat} {x:Value} (h:(l.drop k).take 1=[x]):l[k]?=some x:=by
 have h2:((l.drop k).take 1)[0]?=some x:=by rw[h];rfl
 rw[List.getElem?_take_of_lt (by omega),List.getElem?_drop]at h2
 simpa using h2
def iv (v:Option Value):Int:=match v with|some (.int _ n)=>n|_=>0
def bv (v:Option Value):Bool:=match v with|some (.bool x)=>x|_=>false
def stOf (cs:Array Value):St:=⟨fun i=>if i<32 then iv cs[i]? else 0,iv cs[32]?,iv cs[33]?,iv cs[34]?,iv cs[35]?,bv cs[36]?,iv cs[37]?,iv cs[38]?,iv cs[39]?,iv cs[40]?,iv cs[41]?,iv cs[42]?⟩
theorem open_st {H:Type} {enc:TypeId × Value→H} {W:World} {base:Nat} {sp:Nat→Bool} {held:Bool} {fuel:Nat} {cs:Array Value} {y:DataW H × List MemPlace} (hsz:cs.size=43) (hf:DataW.trod enc Tryz.prog W base sp held fuel 25 cs.toList=some y) :
  ∃ S:St,cs=stA S∧(0≤S.ct→S.ct≤1099511627776→S.ok)∧-9223372036854775808≤S.ct∧S.ct≤9223372036854775807:=by
 obtain ⟨xs,n,_,hx,hl,hlen,hg⟩:=DataW.trod_struct Tryz.underlying25 hf
 have hget:∀ i (hi:i<12),∃ y,xs[i]?=some y:=fun i hi=>by
  have:i<xs.length:=by rw[hlen];exact hi
  exact ⟨_,List.getElem?_eq_getElem this⟩
 have word:∀ (i o:Nat),(∃ y,DataW.trod enc Tryz.prog W base sp held n 22 ((cs.toList.drop o).take 1)=some y)→∃ z:Int,cs[o]?=some (.int .u32 z)∧u32 z:=by
  intro i o ⟨y,hy⟩
  obtain ⟨z,e,_,w⟩:=DataW.trod_int Tryz.underlying22 hy
  have:=take_one e
  rw[Array.getElem?_toList]at this
  exact ⟨z,this,bd_u32 w⟩
 have hr:∀ i,i<32→∃ z:Int,cs[i]?=some (.int .u32 z)∧u32 z:=by
  obtain ⟨y,hy⟩:=hget 0 (by omega)
  have g:=hg 0 _ rfl
  rw[hy]at g
  obtain ⟨ys,m,_,_,_,hl2,hg2⟩:=DataW.trod_array Tryz.underlying23 g
  intro i hi
  have g2:=hg2 i hi
  have:i<ys.length:=by rw[hl2];exact hi
  rw[List.getElem?_eq_getElem this,c23',Nat.mul_one]at g2
  obtain ⟨z,e,_,w⟩:=DataW.trod_int Tryz.underlying22 g2
  have h1:=take_one e
  rw[List.getElem?_take_of_lt (by show i<Tryz.prog.cellsOf 23;rw[c30];exact hi)]at h1
  rw[List.getElem?_drop]at h1
  exact ⟨z,by simpa using h1,bd_u32 w⟩
 obtain ⟨z32,e32,b32⟩:∃ z:Int,cs[32]?=some (.int .u32 z)∧u32 z:=by
  obtain ⟨y,hy⟩:=hget 1 (by omega)
  exact word 1 32 ⟨y,by have g:=hg 1 _ rfl;rw[hy]at g;exact g⟩
 obtain ⟨z33,e33,b33⟩:∃ z:Int,cs[33]?=some (.int .u32 z)∧u32 z:=by
  obtain ⟨y,hy⟩:=hget 2 (by omega)
  exact word 2 33 ⟨y,by have g:=hg 2 _ rfl;rw[hy]at g;exact g⟩
 obtain ⟨z34,e34,b34⟩:∃ z:Int,cs[34]?=some (.int .u32 z)∧u32 z:=by
  obtain ⟨y,hy⟩:=hget 3 (by omega)
  exact word 3 34 ⟨y,by have g:=hg 3 _ rfl;rw[hy]at g;exact g⟩
 obtain ⟨z35,e35,b35⟩:∃ z:Int,cs[35]?=some (.int .u32 z)∧u32 z:=by
  obtain ⟨y,hy⟩:=hget 4 (by omega)
  exact word 4 35 ⟨y,by have g:=hg 4 _ rfl;rw[hy]at g;exact g⟩
 obtain ⟨z36,e36⟩:∃ z:Bool,cs[36]?=some (.bool z):=by
  obtain ⟨y,hy⟩:=hget 5 (by omega)
  have g:=hg 5 _ rfl
  rw[hy]at g
  obtain ⟨z,e,_⟩:=DataW.trod_bool Tryz.underlying4 g
  have:=take_one (l:=cs.toList) (k:=36) e
  rw[Array.getElem?_toList]at this
  exact ⟨z,this⟩
 obtain ⟨z37,e37,b37⟩:∃ z:Int,cs[37]?=some (.int .u32 z)∧u32 z:=by
  obtain ⟨y,hy⟩:=hget 6 (by omega)
  exact word 6 37 ⟨y,by have g:=hg 6 _ rfl;rw[hy]at g;exact g⟩
 obtain ⟨z38,e38,b38⟩:∃ z:Int,cs[38]?=some (.int .u32 z)∧u32 z:=by
  obtain ⟨y,hy⟩:=hget 7 (by omega)
  exact word 7 38 ⟨y,by have g:=hg 7 _ rfl;rw[hy]at g;exact g⟩
 obtain ⟨z39,e39,b39⟩:∃ z:Int,cs[39]?=some (.int .u32 z)∧u32 z:=by
  obtain ⟨y,hy⟩:=hget 8 (by omega)
  exact word 8 39 ⟨y,by have g:=hg 8 _ rfl;rw[hy]at g;exact g⟩
 obtain ⟨z40,e40,b40⟩:∃ z:Int,cs[40]?=some (.int .u32 z)∧u32 z:=by
  obtain ⟨y,hy⟩:=hget 9 (by omega)
  exact word 9 40 ⟨y,by have g:=hg 9 _ rfl;rw[hy]at g;exact g⟩
 obtain ⟨z41,e41,b41⟩:∃ z:Int,cs[41]?=some (.int .u32 z)∧u32 z:=by
  obtain ⟨y,hy⟩:=hget 10 (by omega)
  exact word 10 41 ⟨y,by have g:=hg 10 _ rfl;rw[hy]at g;exact g⟩
 obtain ⟨z42,e42,b42⟩:∃ z:Int,cs[42]?=some (.int .i64 z)∧(-9223372036854775808≤z∧z≤9223372036854775807):=by
  obtain ⟨y,hy⟩:=hget 11 (by omega)
  have g:=hg 11 _ rfl
  rw[hy]at g
  obtain ⟨z,e,_,w⟩:=DataW.trod_int Tryz.underlying3 g
  have:=take_one (l:=cs.toList) (k:=42) e
  rw[Array.getElem?_toList]at this
  exact ⟨z,this,bd_i64 w⟩
 refine ⟨stOf cs,?_,fun h0 h1=>?_,?_,?_⟩
 ·apply Array.ext_getElem?
  intro j
  by_cases hj:j<43
  ·rw[stA_get _ hj]
   unfold stV
   by_cases h32:j<32
   ·rw[if_pos h32]
    obtain ⟨z,e,_⟩:=hr j h32
    show cs[j]?=some (Value.int .u32 (if j<32 then iv cs[j]? else 0))
    rw[if_pos h32,e];rfl
   ·rw[if_neg h32]
    have hj':j=32∨j=33∨j=34∨j=35∨j=36∨j=37∨j=38∨j=39∨j=40∨j=41∨j=42:=by omega
    rcases hj' with rfl|rfl|rfl|rfl|rfl|rfl|rfl|rfl|rfl|rfl|rfl<;>simp[stOf,e32,e33,e34,e35,e36,e37,e38,e39,e40,e41,e42,iv,bv]
  ·rw[Array.getElem?_eq_none (by omega),Array.getElem?_eq_none (by rw[show (stA (stOf cs)).size=43 by simp[stA,stL]];omega)]
 ·have h0':0≤z42:=by simpa [stOf,e42,iv] using h0
  have h1':z42≤1099511627776:=by simpa [stOf,e42,iv] using h1
  refine ⟨fun i=>?_,?_,?_,?_,?_,?_,?_,?_,?_,?_,?_,?_⟩
  ·show u32 (if i<32 then iv cs[i]? else 0)
   split
   ·rename_i hi
    obtain ⟨z,e,b⟩:=hr i hi
    rw[e];exact b
   ·exact ⟨by omega,by omega⟩
  ·show u32 (iv cs[32]?);rw[e32];exact b32
  ·show u32 (iv cs[33]?);rw[e33];exact b33
  ·show u32 (iv cs[34]?);rw[e34];exact b34
  ·show u32 (iv cs[35]?);rw[e35];exact b35
  ·show u32 (iv cs[37]?);rw[e37];exact b37
  ·show u32 (iv cs[38]?);rw[e38];exact b38
  ·show u32 (iv cs[39]?);rw[e39];exact b39
  ·show u32 (iv cs[40]?);rw[e40];exact b40
  ·show u32 (iv cs[41]?);rw[e41];exact b41
  ·show _≤iv cs[42]?;rw[e42];show _≤z42;omega
  ·show iv cs[42]? < _;rw[e42];show z42<_;omega
 ·show _≤iv cs[42]?;rw[e42];exact b42.1
 ·show iv cs[42]?≤_;rw[e42];exact b42.2
theorem words_raw {H:Type} {enc:TypeId × Value→H} {W:World} {fuel:Nat} {L:List Value} {y:DataW H × List MemPlace} (hf:DataW.trod enc Tryz.prog W 0 (fun _=>true) true fuel 46 L=some y) :
  ∃ (v:Value) (xs:List Int),L=[v]∧WordsIn W v xs∧(xs.length:Int)≤9223372036854775807:=by
 rcases open_ints Tryz.underlying46 Tryz.underlying22 c23' hf with ⟨hcs,hx⟩|⟨a,len,cap,zs,hcs,_,hl,hm,hz,hx,hcell,hwz⟩
 ·exact ⟨.slice none 0 0,[],hcs,⟨⟨none,0,rfl,Nat.le_refl _,fun h=>absurd h (by simp)⟩,mw_wf [] (by simp)⟩,by simp⟩
 ·simp only[if_true]at hz
  have hlen:(zs.take len).length=len:=by simp;omega
  refine ⟨.slice (some a) len cap,zs.take len,hcs,⟨⟨some a,cap,by rw[hlen],by omega,fun hp=>?_⟩,mw_wf _ (fun x hx=>bd_u32 (hwz x (List.mem_of_mem_take hx)))⟩,?_⟩
  ·obtain ⟨b,off,spot⟩:=a
   have hspot:spot=none:=by simpa [Addr.add] using World.cell?_spot (hcell 0 (by omega))
   subst hspot
   refine ⟨b,off,rfl,fun i hi=>?_⟩
   have:=hcell i (by omega)
   rw[addr_plainZ]at this
   rw[this,List.getD_eq_getElem?_getD,List.getD_eq_getElem?_getD,List.getElem?_take_of_lt (by omega)]
  ·unfold maxLen at hm;omega
theorem c29':Tryz.prog.cellsOf 50=45:=by kernel_rfl
theorem open_place {H:Type} {enc:TypeId × Value→H} {W:World} {r:Reach} {b0:Nat} {v:Value} {d:DataW H} {p:List MemPlace} (hv:Value.okWide Tryz.prog W r b0 50 v) (h:DataW.Trod enc Tryz.prog W 0 (fun _=>true) true 50 v d p) :
  ∃ (S:St) (vx:Value) (xs:List Int) (wc:Int),v=.agg (plA S vx wc)∧(0≤S.ct→S.ct≤1099511627776→S.ok)∧WordsIn W vx xs:=by
 obtain ⟨cs,rfl,hsz⟩:=okWide_struct Tryz.underlying50 hv
 rw[c29']at hsz
 obtain ⟨fuel,hf⟩:=h
 obtain ⟨ys,n,_,hx,hl,hlen,hg⟩:=DataW.trod_struct Tryz.underlying50 hf
 have hget:∀ i (hi:i<3),∃ y,ys[i]?=some y:=fun i hi=>by
  have:i<ys.length:=by rw[hlen];exact hi
  exact ⟨_,List.getElem?_eq_getElem this⟩
 obtain ⟨y0,q0⟩:=hget 0 (by omega)
 obtain ⟨y1,q1⟩:=hget 1 (by omega)
 obtain ⟨y2,q2⟩:=hget 2 (by omega)
 have g0:DataW.trod enc Tryz.prog W 0 (fun _=>true) true n 25 ((cs.toList.drop 0).take 43)=some y0:=by have g:=hg 0 _ rfl;rw[q0]at g;exact g
 have g1:DataW.trod enc Tryz.prog W 0 (fun _=>true) true n 46 ((cs.toList.drop 43).take 1)=some y1:=by have g:=hg 1 _ rfl;rw[q1]at g;exact g
 have g2:DataW.trod enc Tryz.prog W 0 (fun _=>true) true n 3 ((cs.toList.drop 44).take 1)=some y2:=by have g:=hg 2 _ rfl;rw[q2]at g;exact g
 have hc:(cs.toList.take 43).toArray.size=43:=by simp;omega
 obtain ⟨S,eS,hok,_,_⟩:=open_st hc (by rw[List.toList_toArray];exact g0)
 obtain ⟨vx,xs,ex,X,_⟩:=words_raw g1
 obtain ⟨wc,ew,_,_⟩:=DataW.trod_int Tryz.underlying3 g2
 have k43:=take_one ex
 have k44:=take_one ew
 refine ⟨S,vx,xs,wc,?_,hok,X⟩
 congr 1
 apply Array.ext_getElem?
 intro j
 by_cases hj:j<45
 ·rw[plA_get _ _ _ _ hj]
  unfold plV
  by_cases h43:j<43
  ·rw[if_pos h43,←stA_get S h43,←eS]
   simp[h43]
  ·rw[if_neg h43]
   by_cases e:j=43
   ·subst e;rw[if_pos rfl,←Array.getElem?_toList];exact k43
   ·obtain rfl:j=44:=by omega
    rw[if_neg (by decide),←Array.getElem?_toList];exact k44
 ·rw[Array.getElem?_eq_none (by omega),Array.getElem?_eq_none (by rw[plA_size];omega)]
end Go.Proofs.YtflagpkmebdckaaGreatDoor
namespace Go.Proofs.YtflagpkmebdckaaGreatDoor.Low
open Num
set_option linter.unusedVariables false
def ResK (k:Nat):Prop:=1≤k∧k≤6∨19≤k∧k≤28∨35≤k∧k≤41
theorem sumP_res {S:St} {k s t d:Nat} {m:Int} (h:ResK k):sumP S k s t d m=if overI k (opA S k s t) (opB S k s t m)=true then (12,S) else (-1,(S.set (opT k t d) (resI S k (opA S k s t) (opB S k s t m))).on):=by
 unfold ResK at h
 unfold sumP
 rw[if_neg (by omega),if_neg (by omega),if_neg (by omega),if_neg (by omega)]
theorem sumL_res {i:Ix} {n:Int} (h:ResK i.n):sumL i n=resL i n:=by
 unfold ResK at h
 unfold sumL
 rw[if_neg (by omega),if_neg (by omega),if_neg (by omega),if_neg (by omega),if_neg (by omega),if_neg (by omega),if_neg (by omega),if_neg (by omega),if_neg (by omega)]
section
variable {wt : Int → Bool} {x m : Nat → Int} {S : St} {i : Ix} {n : Int}
theorem ag_on {T:St} (A:Ag x T) (c:Int):Ag x { T.on with ct:=c }:=A.of rfl rfl rfl
theorem goes_res (A:Ag x S) (I:InsOk i) (h:ResK i.n):Goes wt (resL i n) x m (if (sumP S i.n i.s.toNat i.t.toNat i.d.toNat i.m).1=-1 then some ({ (sumP S i.n i.s.toNat i.t.toNat i.d.toNat i.m).2 with ct:=S.ct+1 },m) else none) n:=by
 have s0:=I.s0;have s1:=I.s1;have t0:=I.t0;have t1:=I.t1;have d0:=I.d0;have d1:=I.d1
 rw[sumP_res h]
 have h':=h
 unfold ResK at h
 -- the registers behind the first op
 have hA:oA i.n i=i.t∧(1≤i.n∧i.n≤6)∨oA i.n i=i.s∧¬ (1≤i.n∧i.n≤6):=by unfold oA;split<;>simp_all
 have hD:(oD i.n i).toNat=opT i.n i.t.toNat i.d.toNat∧0≤oD i.n i∧oD i.n i<32:=by
  unfold oD opT
  by_cases h35:35≤i.n∧i.n≤41
  ·rw[if_pos h35,if_pos (by omega)];omega
  ·rw[if_neg h35,if_neg (by omega)];omega
 obtain ⟨x1,hx1⟩:∃ x1,x1=if oB i.n i=34 then setX x 34 (immI i.n i.m) else x:=⟨_,rfl⟩
 have A1:Ag x1 S:=by
  rw[hx1];split
  ·exact A.other (by omega) _
  ·exact A
 have h35:x1 35=x 35:=by
  rw[hx1];split
  ·rw[setX_at,if_neg (by decide)]
  ·rfl
 have vA:x1 (oA i.n i).toNat=opA S i.n i.s.toNat i.t.toNat:=by
  unfold opA
  rcases hA with ⟨e,hk⟩|⟨e,hk⟩
  ·rw[e,if_pos (by omega)];exact A1.r _ (by omega)
  ·rw[e,if_neg (by omega)];exact A1.r _ (by omega)
 have vB:x1 (oB i.n i).toNat=opB S i.n i.s.toNat i.t.toNat i.m:=by
  unfold opB
  by_cases c1:1≤i.n∧i.n≤3
  ·have e:oB i.n i=34:=by unfold oB;rw[if_pos c1]
   rw[if_pos (by omega),hx1,if_pos e,e];rfl
  ·by_cases c2:4≤i.n∧i.n≤6
   ·have e:oB i.n i=i.s:=by unfold oB;rw[if_neg c1,if_pos c2]
    rw[if_neg (by omega),if_pos (by omega),e];exact A1.r _ (by omega)
   ·by_cases c3:35≤i.n∧i.n≤41
    ·have e:oB i.n i=34:=by unfold oB;rw[if_neg c1,if_neg c2,if_pos c3]
     rw[if_neg (by omega),if_neg (by omega),if_pos (by omega),hx1,if_pos e,e];rfl
    ·have e:oB i.n i=i.t:=by unfold oB;rw[if_neg c1,if_neg c2,if_neg c3]
     rw[if_neg (by omega),if_neg (by omega),if_neg (by omega),e];exact A1.r _ (by omega)
 have hr:=rsK_bd i.n
 generalize opA S i.n i.s.toNat i.t.toNat=a at *
 generalize opB S i.n i.s.toNat i.t.toNat i.m=b at *
 have hset:∀ rest,run1 wt ((if oB i.n i=34 then [opx 1 34 0 0 (immI i.n i.m) n] else [])++rest) x m=run1 wt rest x1 m:=by
  intro rest
  by_cases e:oB i.n i=34
  ·rw[if_pos e,hx1,if_pos e]
   show run1 wt (opx 1 34 0 0 (immI i.n i.m) n :: rest) x m=_
   rw[run1_put (by omega) (by omega) (by omega)];rfl
  ·rw[if_neg e,hx1,if_neg e];rfl
 have hwr:∃ x',(∀ rest,run1 wt (wrO (opx (rsK i.n) (oD i.n i) (oA i.n i) (oB i.n i) 0 n)++rest) x1 m=run1 wt rest x' m)∧Ag x' (S.set (opT i.n i.t.toNat i.d.toNat) (resI S i.n a b))∧x' 35=x1 35:=by
  by_cases e:oD i.n i=0
  ·refine ⟨x1,fun rest=>?_,?_,rfl⟩
   ·have:wrO (opx (rsK i.n) (oD i.n i) (oA i.n i) (oB i.n i) 0 n)=[]:=if_pos e
    rw[this];rfl
   ·have e2:opT i.n i.t.toNat i.d.toNat=0:=by omega
    rw[e2];exact A1.of rfl rfl rfl
  ·refine ⟨setX x1 (oD i.n i) (resI S i.n a b),fun rest=>?_,?_,?_⟩
   ·have:wrO (opx (rsK i.n) (oD i.n i) (oA i.n i) (oB i.n i) 0 n)=[opx (rsK i.n) (oD i.n i) (oA i.n i) (oB i.n i) 0 n]:=if_neg e
    rw[this]
    show run1 wt (opx (rsK i.n) (oD i.n i) (oA i.n i) (oB i.n i) 0 n :: rest) x1 m=_
    rw[run1_put (by omega) (by omega) (by omega),vA,vB,res_val S i.n h]
   ·rw[←hD.1];exact A1.set (by omega) (by omega) _
   ·rw[setX_at,if_neg (by omega)]
 obtain ⟨x',hx',A',k35⟩:=hwr
 have hL:∀ rest,resL i n++rest=if oD i.n i=0∧ovK i.n=0 then rest else (if oB i.n i=34 then [opx 1 34 0 0 (immI i.n i.m) n] else [])++((if ovK i.n=0 then [] else [opx (ovK i.n) 0 (oA i.n i) (oB i.n i) 0 n])++(wrO (opx (rsK i.n) (oD i.n i) (oA i.n i) (oB i.n i) 0 n)++rest)):=by
  intro rest
  unfold resL
  split
  ·rfl
  ·simp only[List.append_assoc]
 rcases ovK_cases i.n with hv|hv
 ·-- it does not trap
  have ho:=over_val i.n a b hv
  have hz:(if overI i.n a b=true then ((12:Int),S) else (-1,(S.set (opT i.n i.t.toNat i.d.toNat) (resI S i.n a b)).on))=(-1,(S.set (opT i.n i.t.toNat i.d.toNat) (resI S i.n a b)).on):=if_neg (by rw[ho];decide)
  rw[hz]
  show Goes wt (resL i n) x m (if (-1:Int)=-1 then some ({ (S.set (opT i.n i.t.toNat i.d.toNat) (resI S i.n a b)).on with ct:=S.ct+1 },m) else none) n
  rw[if_pos rfl]
  by_cases e:oD i.n i=0
  ·refine ⟨x,fun rest=>by rw[hL,if_pos ⟨e,hv⟩],?_,rfl⟩
   have e2:opT i.n i.t.toNat i.d.toNat=0:=by omega
   rw[e2];exact A.of rfl rfl rfl
  ·refine ⟨x',fun rest=>?_,ag_on A' _,k35.trans h35⟩
   rw[hL,if_neg (fun h=>e h.1),hset,if_pos hv]
   exact hx' rest
 ·have ho:=over_some i.n a b hv
  have hov:∀ rest,run1 wt ([opx (ovK i.n) 0 (oA i.n i) (oB i.n i) 0 n]++rest) x1 m=if overI i.n a b=true then .trap n else run1 wt rest x1 m:=by
   intro rest
   show run1 wt (opx (ovK i.n) 0 (oA i.n i) (oB i.n i) 0 n :: rest) x1 m=_
   rw[run1_over hv,vA,vB,ho]
  by_cases hc:overI i.n a b=true
  ·rw[if_pos hc]
   show Goes wt (resL i n) x m (if (12:Int)=-1 then _ else none) n
   rw[if_neg (by decide)]
   intro rest
   rw[hL,if_neg (fun h=>by omega),hset,if_neg (by omega),hov,if_pos hc]
  ·rw[if_neg hc]
   show Goes wt (resL i n) x m (if (-1:Int)=-1 then some ({ (S.set (opT i.n i.t.toNat i.d.toNat) (resI S i.n a b)).on with ct:=S.ct+1 },m) else none) n
   rw[if_pos rfl]
   refine ⟨x',fun rest=>?_,ag_on A' _,k35.trans h35⟩
   rw[hL,if_neg (fun h=>by omega),hset,if_neg (by omega),hov,if_neg hc]
   exact hx' rest
theorem goes_load (A:Ag x S) (I:InsOk i) (hk:46≤i.n∧i.n≤50) (hz:S.r 0=0):Goes wt (ldL i n) x m (if chk (adI S i.n i.s.toNat i.m) (szI i.n)=0 then some ({ (S.set i.t.toNat (ld m (adI S i.n i.s.toNat i.m) (szI i.n) (sgI i.n))).on with ct:=S.ct+1 },m) else none) n:=by
 have s0:=I.s0;have s1:=I.s1;have t0:=I.t0;have t1:=I.t1
 have ad:lo (x i.s.toNat+immI i.n i.m)=adI S i.n i.s.toNat i.m:=by unfold adI;rw[A.r _ (by omega)]
 have hsz:(if (if sgI i.n=true then -szI i.n else szI i.n)<0 then -(if sgI i.n=true then -szI i.n else szI i.n) else (if sgI i.n=true then -szI i.n else szI i.n))=szI i.n∧decide ((if sgI i.n=true then -szI i.n else szI i.n)<0)=sgI i.n:=by
  have hc:i.n=46∨i.n=47∨i.n=48∨i.n=49∨i.n=50:=by omega
  rcases hc with e|e|e|e|e<;>(rw[e];decide)
 have hrun:∀ rest,run1 wt (ldL i n++rest) x m=if chk (adI S i.n i.s.toNat i.m) (szI i.n)=0 then run1 wt rest (setX x (if i.t=0 then 36 else i.t) (ld m (adI S i.n i.s.toNat i.m) (szI i.n) (sgI i.n))) m else .trap n:=by
  intro rest
  show run1 wt (opx 23 (if i.t=0 then 36 else i.t) i.s (if sgI i.n=true then -szI i.n else szI i.n) (immI i.n i.m) n :: rest) x m=_
  rw[run1_load (by split<;>omega),hsz.1,hsz.2,ad]
 by_cases hc:chk (adI S i.n i.s.toNat i.m) (szI i.n)=0
 ·rw[if_pos hc]
  refine ⟨_,fun rest=>by rw[hrun,if_pos hc],?_,?_⟩
  ·by_cases e:i.t=0
   ·rw[if_pos e]
    have e2:i.t.toNat=0:=by omega
    rw[e2]
    exact (A.other (by omega) _).of rfl rfl rfl
   ·rw[if_neg e]
    exact ag_on (A.set (by omega) (by omega) _) _
  ·rw[setX_at,if_neg (by split<;>omega)]
 ·rw[if_neg hc]
  intro rest
  rw[hrun,if_neg hc]
theorem goes_store (A:Ag x S) (I:InsOk i) (hk:51≤i.n∧i.n≤53):Goes wt (stL i n) x m (if chk (adI S i.n i.s.toNat i.m) (szI i.n)=0∧wt (adI S i.n i.s.toNat i.m/256)=false then some ({ S.on with ct:=S.ct+1 },upd m (adI S i.n i.s.toNat i.m) (szI i.n) (S.r i.t.toNat)) else none) n:=by
 have s0:=I.s0;have s1:=I.s1;have t0:=I.t0;have t1:=I.t1
 have ad:lo (x i.s.toNat+immI i.n i.m)=adI S i.n i.s.toNat i.m:=by unfold adI;rw[A.r _ (by omega)]
 have hrun:∀ rest,run1 wt (stL i n++rest) x m=if chk (adI S i.n i.s.toNat i.m) (szI i.n)=0∧wt (adI S i.n i.s.toNat i.m/256)=false then run1 wt rest x (upd m (adI S i.n i.s.toNat i.m) (szI i.n) (S.r i.t.toNat)) else .trap n:=by
  intro rest
  show run1 wt (opx 24 (szI i.n) i.s i.t (immI i.n i.m) n :: rest) x m=_
  rw[run1_store,ad,A.r i.t.toNat (by omega)]
 by_cases hc:chk (adI S i.n i.s.toNat i.m) (szI i.n)=0∧wt (adI S i.n i.s.toNat i.m/256)=false
 ·rw[if_pos hc]
  exact ⟨x,fun rest=>by rw[hrun,if_pos hc],ag_on A _,rfl⟩
 ·rw[if_neg hc]
  intro rest
  rw[hrun,if_neg hc]
end
theorem sg_mod (a:Int):sg a%4294967296=a%4294967296:=by unfold sg;split<;>omega
theorem lo_prod (a b:Int):lo (nm a true*nm b true)=lo (a*b):=by
 unfold lo
 show (sg a*sg b)%4294967296=_
 rw[Int.mul_emod,sg_mod,sg_mod,←Int.mul_emod]
section
variable {wt : Int → Bool} {x m : Nat → Int} {S : St} {i : Ix} {n : Int}
theorem goes_hiLo (A:Ag x S) (I:InsOk i) {h l:Nat} (h0:14≤h) (h1:h≤20) (l0:14≤l) (l1:l≤20) (T:St) (eT:T={ S with hi:=valV h (S.r i.s.toNat) (S.r i.t.toNat) S.hi 0,lo:=valV l (S.r i.s.toNat) (S.r i.t.toNat) S.lo 0 }):Goes wt (hiLoL h l i n) x m (some ({ T.on with ct:=S.ct+1 },m)) n:=by
 have s0:=I.s0;have s1:=I.s1;have t0:=I.t0;have t1:=I.t1
 have A1:=A.putHi (valV h (S.r i.s.toNat) (S.r i.t.toNat) S.hi 0)
 have A2:=A1.putLo (valV l (S.r i.s.toNat) (S.r i.t.toNat) S.lo 0)
 refine ⟨_,fun rest=>?_,A2.of (by rw[eT];rfl) (by rw[eT];rfl) (by rw[eT];rfl),?_⟩
 ·show run1 wt (opx h 32 i.s i.t 0 n :: opx l 33 i.s i.t 0 n :: rest) x m=_
  rw[run1_put (by omega) h1 (by omega),run1_put (by omega) l1 (by omega)]
  have e1:x i.s.toNat=S.r i.s.toNat:=A.r _ (by omega)
  have e2:x i.t.toNat=S.r i.t.toNat:=A.r _ (by omega)
  have e3:x (32:Int).toNat=S.hi:=A.hi
  rw[e1,e2,e3]
  have f1:setX x 32 (valV h (S.r i.s.toNat) (S.r i.t.toNat) S.hi 0) i.s.toNat=S.r i.s.toNat:=A1.r _ (by omega)
  have f2:setX x 32 (valV h (S.r i.s.toNat) (S.r i.t.toNat) S.hi 0) i.t.toNat=S.r i.t.toNat:=A1.r _ (by omega)
  have f3:setX x 32 (valV h (S.r i.s.toNat) (S.r i.t.toNat) S.hi 0) (33:Int).toNat=S.lo:=A1.lo
  rw[f1,f2,f3]
 ·rw[setX_at,if_neg (by decide),setX_at,if_neg (by decide)]
theorem goes_copy (A:Ag x S) (hd:0≤i.d∧i.d<32) (a:Int) (v:Int) (hv:x a.toNat=v):Goes wt (wrO (opx 2 i.d a 0 0 n)) x m (some ({ (S.set i.d.toNat v).on with ct:=S.ct+1 },m)) n:=by
 by_cases e:i.d=0
 ·refine ⟨x,fun rest=>?_,?_,rfl⟩
  ·have:wrO (opx 2 i.d a 0 0 n)=[]:=if_pos e
   rw[this];rfl
  ·have e2:i.d.toNat=0:=by omega
   rw[e2];exact A.of rfl rfl rfl
 ·refine ⟨setX x i.d v,fun rest=>?_,ag_on (A.set (by omega) hd.2 _) _,by rw[setX_at,if_neg (by omega)]⟩
  have:wrO (opx 2 i.d a 0 0 n)=[opx 2 i.d a 0 0 n]:=if_neg e
  rw[this]
  show run1 wt (opx 2 i.d a 0 0 n :: rest) x m=_
  rw[run1_put (by omega) (by omega) (by omega),hv];rfl
theorem kd1':∀ k,k<54→Tab.kdL.getD k 0=1→k∈[1,2,3,4,5,6,11,12,13,14,15,16,17,18,19,20,21,22,23,24,25,26,27,28,35,36,37,38,39,40,41,42]:=by decide
theorem kd1 (k:Nat) (h:k<54) (h1:1≤k) (h2:Tab.kdL.getD k 0=1):1≤k∧k≤6∨11≤k∧k≤28∨35≤k∧k≤42:=by
 have:=kd1' k h h2
 simp only[List.mem_cons,List.not_mem_nil,or_false]at this
 omega
theorem kd4:∀ k,k<54→Tab.kdL.getD k 0=4→46≤k∧k≤50:=by decide
theorem kd5:∀ k,k<54→Tab.kdL.getD k 0=5→51≤k∧k≤53:=by decide
theorem kd2:∀ k,k<54→Tab.kdL.getD k 0=2→k=31∨k=32∨k=33∨k=34∨k=7∨k=8∨k=29∨k=30:=by decide
theorem kdA:∀ k,k<54→Tab.kdL.getD k 0=1∨Tab.kdL.getD k 0=2∨Tab.kdL.getD k 0=3∨Tab.kdL.getD k 0=4∨Tab.kdL.getD k 0=5:=by decide
theorem goes_sum (A:Ag x S) (I:InsOk i) (h1:i.kd=1):Goes wt (sumL i n) x m (if (sumP S i.n i.s.toNat i.t.toNat i.d.toNat i.m).1=-1 then some ({ (sumP S i.n i.s.toNat i.t.toNat i.d.toNat i.m).2 with ct:=S.ct+1 },m) else none) n:=by
 have s0:=I.s0;have s1:=I.s1;have t0:=I.t0;have t1:=I.t1;have d0:=I.d0;have d1:=I.d1
 have hk:=kd1 i.n I.k2 I.k1 (by rw[←I.kd];exact h1)
 by_cases hr:ResK i.n
 ·rw[sumL_res hr];exact goes_res A I hr
 have hc:i.n=11∨i.n=12∨i.n=13∨i.n=14∨i.n=15∨i.n=16∨i.n=17∨i.n=18∨i.n=42:=by unfold ResK at hr;omega
 rcases hc with e|e|e|e|e|e|e|e|e
 ·have e1:sumL i n=wrO (opx 2 i.d 32 0 0 n):=by unfold sumL;rw[e];rfl
  have e2:sumP S i.n i.s.toNat i.t.toNat i.d.toNat i.m=(-1,(S.set i.d.toNat S.hi).on):=by rw[e];rfl
  rw[e1,e2]
  exact goes_copy A ⟨d0,d1⟩ 32 _ A.hi
 ·have e1:sumL i n=[opx 2 32 i.s 0 0 n]:=by unfold sumL;rw[e];rfl
  have e2:sumP S i.n i.s.toNat i.t.toNat i.d.toNat i.m=(-1,St.on { S with hi:=S.r i.s.toNat }):=by rw[e];rfl
  rw[e1,e2]
  refine ⟨_,fun rest=>?_,(A.putHi (S.r i.s.toNat)).of rfl rfl rfl,by rw[setX_at,if_neg (by decide)]⟩
  show run1 wt (opx 2 32 i.s 0 0 n :: rest) x m=_
  rw[run1_put (by omega) (by omega) (by omega),A.r i.s.toNat (by omega)];rfl
 ·have e1:sumL i n=wrO (opx 2 i.d 33 0 0 n):=by unfold sumL;rw[e];rfl
  have e2:sumP S i.n i.s.toNat i.t.toNat i.d.toNat i.m=(-1,(S.set i.d.toNat S.lo).on):=by rw[e];rfl
  rw[e1,e2]
  exact goes_copy A ⟨d0,d1⟩ 33 _ A.lo
 ·have e1:sumL i n=[opx 2 33 i.s 0 0 n]:=by unfold sumL;rw[e];rfl
  have e2:sumP S i.n i.s.toNat i.t.toNat i.d.toNat i.m=(-1,St.on { S with lo:=S.r i.s.toNat }):=by rw[e];rfl
  rw[e1,e2]
  refine ⟨_,fun rest=>?_,(A.putLo (S.r i.s.toNat)).of rfl rfl rfl,by rw[setX_at,if_neg (by decide)]⟩
  show run1 wt (opx 2 33 i.s 0 0 n :: rest) x m=_
  rw[run1_put (by omega) (by omega) (by omega),A.r i.s.toNat (by omega)];rfl
 ·have e1:sumL i n=hiLoL 15 14 i n:=by unfold sumL;rw[e];rfl
  have e2:sumP S i.n i.s.toNat i.t.toNat i.d.toNat i.m=(-1,St.on { S with hi:=hi (nm (S.r i.s.toNat) true*nm (S.r i.t.toNat) true),lo:=lo (nm (S.r i.s.toNat) true*nm (S.r i.t.toNat) true) }):=by rw[e];rfl
  rw[e1,e2]
  exact goes_hiLo A I (by omega) (by omega) (by omega) (by omega) _ (by rw[lo_prod];rfl)
 ·have e1:sumL i n=hiLoL 16 14 i n:=by unfold sumL;rw[e];rfl
  have e2:sumP S i.n i.s.toNat i.t.toNat i.d.toNat i.m=(-1,St.on { S with hi:=hi (S.r i.s.toNat*S.r i.t.toNat),lo:=lo (S.r i.s.toNat*S.r i.t.toNat) }):=by rw[e];rfl
  rw[e1,e2]
  exact goes_hiLo A I (by omega) (by omega) (by omega) (by omega) _ rfl
 ·have e1:sumL i n=hiLoL 18 17 i n:=by unfold sumL;rw[e];rfl
  have e2:sumP S i.n i.s.toNat i.t.toNat i.d.toNat i.m=(-1,if S.r i.t.toNat=0 then S.on else St.on { S with lo:=quo (S.r i.s.toNat) (S.r i.t.toNat) true,hi:=rst (S.r i.s.toNat) (S.r i.t.toNat) true }):=by rw[e];rfl
  rw[e1,e2]
  have e3:(if S.r i.t.toNat=0 then S.on else St.on { S with lo:=quo (S.r i.s.toNat) (S.r i.t.toNat) true,hi:=rst (S.r i.s.toNat) (S.r i.t.toNat) true })=St.on { S with hi:=valV 18 (S.r i.s.toNat) (S.r i.t.toNat) S.hi 0,lo:=valV 17 (S.r i.s.toNat) (S.r i.t.toNat) S.lo 0 }:=by
   by_cases hz:S.r i.t.toNat=0
   ·rw[if_pos hz];simp[valV,hz]
   ·rw[if_neg hz];simp[valV,hz]
  show Goes wt _ x m (some ({ (if S.r i.t.toNat=0 then S.on else St.on { S with lo:=quo (S.r i.s.toNat) (S.r i.t.toNat) true,hi:=rst (S.r i.s.toNat) (S.r i.t.toNat) true }) with ct:=S.ct+1 },m)) n
  rw[e3]
  exact goes_hiLo A I (by omega) (by omega) (by omega) (by omega) _ rfl
 ·have e1:sumL i n=hiLoL 20 19 i n:=by unfold sumL;rw[e];rfl
  have e2:sumP S i.n i.s.toNat i.t.toNat i.d.toNat i.m=(-1,if S.r i.t.toNat=0 then S.on else St.on { S with lo:=quo (S.r i.s.toNat) (S.r i.t.toNat) false,hi:=rst (S.r i.s.toNat) (S.r i.t.toNat) false }):=by rw[e];rfl
  rw[e1,e2]
  have e3:(if S.r i.t.toNat=0 then S.on else St.on { S with lo:=quo (S.r i.s.toNat) (S.r i.t.toNat) false,hi:=rst (S.r i.s.toNat) (S.r i.t.toNat) false })=St.on { S with hi:=valV 20 (S.r i.s.toNat) (S.r i.t.toNat) S.hi 0,lo:=valV 19 (S.r i.s.toNat) (S.r i.t.toNat) S.lo 0 }:=by
   by_cases hz:S.r i.t.toNat=0
   ·rw[if_pos hz];simp[valV,hz]
   ·rw[if_neg hz];simp[valV,hz]
  show Goes wt _ x m (some ({ (if S.r i.t.toNat=0 then S.on else St.on { S with lo:=quo (S.r i.s.toNat) (S.r i.t.toNat) false,hi:=rst (S.r i.s.toNat) (S.r i.t.toNat) false }) with ct:=S.ct+1 },m)) n
  rw[e3]
  exact goes_hiLo A I (by omega) (by omega) (by omega) (by omega) _ rfl
 ·have e1:sumL i n=wrO (opx 1 i.t 0 0 (lo (i.m*65536)) n):=by unfold sumL;rw[e];rfl
  have e2:sumP S i.n i.s.toNat i.t.toNat i.d.toNat i.m=(-1,(S.set i.t.toNat (lo (i.m*65536))).on):=by rw[e];rfl
  rw[e1,e2]
  show Goes wt _ x m (some ({ (S.set i.t.toNat (lo (i.m*65536))).on with ct:=S.ct+1 },m)) n
  by_cases e:i.t=0
  ·refine ⟨x,fun rest=>?_,?_,rfl⟩
   ·have:wrO (opx 1 i.t 0 0 (lo (i.m*65536)) n)=[]:=if_pos e
    rw[this];rfl
   ·have e2:i.t.toNat=0:=by omega
    rw[e2];exact A.of rfl rfl rfl
  ·refine ⟨setX x i.t (lo (i.m*65536)),fun rest=>?_,ag_on (A.set (by omega) (by omega) _) _,by rw[setX_at,if_neg (by omega)]⟩
   have:wrO (opx 1 i.t 0 0 (lo (i.m*65536)) n)=[opx 1 i.t 0 0 (lo (i.m*65536)) n]:=if_neg e
   rw[this]
   show run1 wt (opx 1 i.t 0 0 (lo (i.m*65536)) n :: rest) x m=_
   rw[run1_put (by omega) (by omega) (by omega)];rfl
theorem goes_ins (pc:Int) (A:Ag x S) (I:InsOk i) (hb:i.kd≠2) (hz:S.r 0=0):Goes wt (insX pc i n) x m (stepI wt S m i) n:=by
 have hk:=kdA i.n I.k2
 rw[←I.kd]at hk
 unfold insX stepI
 rw[if_neg hb,if_neg hb]
 rcases hk with h|h|h|h|h
 ·rw[if_neg (show ¬ i.kd=4 by omega),if_neg (show ¬ i.kd=5 by omega),if_neg (show ¬ i.kd=4 by omega),if_neg (show ¬ i.kd=5 by omega)];exact goes_sum A I h
 ·exact absurd h hb
 ·exact absurd h I.nt
 ·rw[if_pos h,if_pos h];exact goes_load A I (kd4 i.n I.k2 (by rw[←I.kd];exact h)) hz
 ·rw[if_neg (show ¬ i.kd=4 by omega),if_pos h,if_neg (show ¬ i.kd=4 by omega),if_pos h];exact goes_store A I (kd5 i.n I.k2 (by rw[←I.kd];exact h))
end
structure Wd (S:St) (m:Nat→Int):Prop where
 r:∀ j,u32 (S.r j)
 hi:u32 S.hi
 lo:u32 S.lo
 m:∀ i,0≤m i∧m i<4294967296
 z:S.r 0=0
theorem u32_0:u32 0:=⟨by omega,by omega⟩
theorem immX_u {k:Nat} {m:Int} (m0:0≤m) (m1:m<4294967296):u32 (immI k m):=immX_bd m0 m1
theorem opA_u {S:St} (h:∀ j,u32 (S.r j)) (k s t:Nat):u32 (opA S k s t):=by unfold opA;split<;>exact h _
theorem opB_u {S:St} (h:∀ j,u32 (S.r j)) (k s t:Nat) {m:Int} (m0:0≤m) (m1:m<4294967296):u32 (opB S k s t m):=by
 unfold opB
 split
 ·exact immX_u m0 m1
 split
 ·exact h _
 split
 ·exact immX_u m0 m1
 ·exact h _
theorem set_r {S:St} {n:Nat} {v:Int} (h:∀ j,u32 (S.r j)) (hv:u32 v):∀ j,u32 ((S.set n v).r j):=by
 intro j
 unfold St.set
 split
 ·exact h j
 ·show u32 (if j=n then v else S.r j)
  split
  ·exact hv
  ·exact h j
theorem set_0 {S:St} {n:Nat} {v:Int} (h:S.r 0=0):(S.set n v).r 0=0:=by
 unfold St.set
 split
 ·exact h
 ·rename_i hn
  show (if 0=n then v else S.r 0)=0
  rw[if_neg (by omega)];exact h
theorem set_hi {S:St} {n:Nat} {v:Int}:(S.set n v).hi=S.hi:=by unfold St.set;split<;>rfl
theorem set_lo {S:St} {n:Nat} {v:Int}:(S.set n v).lo=S.lo:=by unfold St.set;split<;>rfl
theorem ld_u {m:Nat→Int} (h:∀ i,0≤m i∧m i<4294967296) (a s:Int) (g:Bool):u32 (ld m a s g):=by
 unfold ld
 have hm:=h (a/4).toNat
 have hp:(1:Int)≤2^(bhd a s).toNat:=by have:(0:Int)<2^(bhd a s).toNat:=Int.pow_pos (by omega);omega
 exact wd_bd (Int.ediv_nonneg hm.1 (by omega)) (Int.lt_of_le_of_lt (Int.ediv_le_self _ hm.1) hm.2) g
structure Same (S T:St):Prop where
 st:T.st=S.st
 ca:T.ca=S.ca
 ep:T.ep=S.ep
 bd:T.bd=S.bd
 cm:T.cm=S.cm
theorem Same.refl (S:St):Same S S:=⟨rfl,rfl,rfl,rfl,rfl⟩
theorem Same.trans {S T U:St} (a:Same S T) (b:Same T U):Same S U:=⟨b.st.trans a.st,b.ca.trans a.ca,b.ep.trans a.ep,b.bd.trans a.bd,b.cm.trans a.cm⟩
theorem set_same {S:St} {n:Nat} {v:Int}:Same S (S.set n v):=by unfold St.set;split<;>exact ⟨rfl,rfl,rfl,rfl,rfl⟩
structure Stp (S T:St):Prop where
 pc:T.pc=S.nx
 nx:T.nx=lo (S.nx+4)
 sl:T.sl=false
 ct:T.ct=S.ct+1
 sm:Same S T
theorem on_stp {S T:St} (hn:T.nx=S.nx) (hs:Same S T):Stp S { T.on with ct:=S.ct+1 }:=⟨hn,by show lo (T.nx+4)=_;rw[hn],rfl,rfl,⟨hs.st,hs.ca,hs.ep,hs.bd,hs.cm⟩⟩
theorem set_nx {S:St} {n:Nat} {v:Int}:(S.set n v).nx=S.nx:=by unfold St.set;split<;>rfl
theorem sum_stp {S:St} {m:Nat→Int} {i:Ix} (W:Wd S m) (m0:0≤i.m) (m1:i.m<4294967296) (I:InsOk i) (h1:i.kd=1) (he:(sumP S i.n i.s.toNat i.t.toNat i.d.toNat i.m).1=-1):Stp S { (sumP S i.n i.s.toNat i.t.toNat i.d.toNat i.m).2 with ct:=S.ct+1 }∧Wd { (sumP S i.n i.s.toNat i.t.toNat i.d.toNat i.m).2 with ct:=S.ct+1 } m:=by
 have ha:=opA_u W.r i.n i.s.toNat i.t.toNat
 have hb:=opB_u W.r i.n i.s.toNat i.t.toNat m0 m1
 have hk:=kd1 i.n I.k2 I.k1 (by rw[←I.kd];exact h1)
 have hres:¬ (i.n=12∨i.n=14∨i.n=15∨i.n=16∨i.n=17∨i.n=18)→u32 (resI S i.n (opA S i.n i.s.toNat i.t.toNat) (opB S i.n i.s.toNat i.t.toNat i.m)):=by
  intro hn
  by_cases hr:ResK i.n
  ·rw[←res_val S i.n hr _ _ 0 0];exact valV_bd _ ha hb u32_0 u32_0
  ·unfold ResK at hr
   have hc:i.n=11∨i.n=13∨i.n=42:=by omega
   rcases hc with e|e|e
   ·rw[e];exact W.hi
   ·rw[e];exact W.lo
   ·have:resI S i.n (opA S i.n i.s.toNat i.t.toNat) (opB S i.n i.s.toNat i.t.toNat i.m)=shf 60 (opB S i.n i.s.toNat i.t.toNat i.m) 16:=by unfold resI bitsI;rw[e];rfl
    rw[this];exact shf_bd hb.1 hb.2
 generalize opA S i.n i.s.toNat i.t.toNat=a at *
 generalize hbb:opB S i.n i.s.toNat i.t.toNat i.m=b at *
 by_cases c1:i.n=15∨i.n=16
 ·have e:∃ h l,u32 h∧u32 l∧(sumP S i.n i.s.toNat i.t.toNat i.d.toNat i.m).2=St.on { S with hi:=h,lo:=l }:=by
   unfold sumP;rw[if_pos c1];exact ⟨_,_,hi_bd _,lo_bd _,rfl⟩
  obtain ⟨h,l,hh,hl,e⟩:=e
  rw[e]
  exact ⟨on_stp (T:={ S with hi:=h,lo:=l }) rfl ⟨rfl,rfl,rfl,rfl,rfl⟩,⟨W.r,hh,hl,W.m,W.z⟩⟩
 by_cases c2:i.n=17∨i.n=18
 ·have e:∃ h l,u32 h∧u32 l∧(sumP S i.n i.s.toNat i.t.toNat i.d.toNat i.m).2=St.on { S with hi:=h,lo:=l }:=by
   unfold sumP;rw[if_neg c1,if_pos c2]
   by_cases hz:opB S i.n i.s.toNat i.t.toNat i.m=0
   ·exact ⟨S.hi,S.lo,W.hi,W.lo,by rw[if_pos hz]⟩
   ·exact ⟨_,_,rst_bd _ _ _,quo_bd _ _ _,by rw[if_neg hz]⟩
  obtain ⟨h,l,hh,hl,e⟩:=e
  rw[e]
  exact ⟨on_stp (T:={ S with hi:=h,lo:=l }) rfl ⟨rfl,rfl,rfl,rfl,rfl⟩,⟨W.r,hh,hl,W.m,W.z⟩⟩
 by_cases c3:i.n=12
 ·have e:∃ h,u32 h∧(sumP S i.n i.s.toNat i.t.toNat i.d.toNat i.m).2=St.on { S with hi:=h }:=by
   unfold sumP;rw[if_neg c1,if_neg c2,if_pos c3];exact ⟨_,opA_u W.r _ _ _,rfl⟩
  obtain ⟨h,hh,e⟩:=e
  rw[e]
  exact ⟨on_stp (T:={ S with hi:=h }) rfl ⟨rfl,rfl,rfl,rfl,rfl⟩,⟨W.r,hh,W.lo,W.m,W.z⟩⟩
 by_cases c4:i.n=14
 ·have e:∃ h,u32 h∧(sumP S i.n i.s.toNat i.t.toNat i.d.toNat i.m).2=St.on { S with lo:=h }:=by
   unfold sumP;rw[if_neg c1,if_neg c2,if_neg c3,if_pos c4];exact ⟨_,opA_u W.r _ _ _,rfl⟩
  obtain ⟨h,hh,e⟩:=e
  rw[e]
  exact ⟨on_stp (T:={ S with lo:=h }) rfl ⟨rfl,rfl,rfl,rfl,rfl⟩,⟨W.r,W.hi,hh,W.m,W.z⟩⟩
 have e:∃ j v,u32 v∧(sumP S i.n i.s.toNat i.t.toNat i.d.toNat i.m).2=(S.set j v).on:=by
  unfold sumP at he ⊢
  rw[if_neg c1,if_neg c2,if_neg c3,if_neg c4]at he ⊢
  split at he
  ·exact absurd he (by show ¬ (12:Int)=-1;decide)
  ·rename_i ho
   rw[if_neg ho]
   by_cases hr:ResK i.n
   ·exact ⟨_,_,by rw[←res_val S i.n hr _ _ 0 0];exact valV_bd _ (opA_u W.r _ _ _) (opB_u W.r _ _ _ m0 m1) u32_0 u32_0,rfl⟩
   ·refine ⟨_,_,?_,rfl⟩
    unfold ResK at hr
    have hc:i.n=11∨i.n=13∨i.n=42:=by omega
    rcases hc with e|e|e
    ·rw[e];exact W.hi
    ·rw[e];exact W.lo
    ·have:∀ a b,resI S i.n a b=shf 60 b 16:=fun a b=>by unfold resI bitsI;rw[e];rfl
     rw[this];have:=opB_u W.r i.n i.s.toNat i.t.toNat m0 m1;exact shf_bd this.1 this.2
 obtain ⟨j,v,hv,e⟩:=e
 rw[e]
 exact ⟨on_stp (T:=S.set j v) set_nx set_same,⟨set_r W.r hv,by show u32 (S.set j v).hi;rw[set_hi];exact W.hi,by show u32 (S.set j v).lo;rw[set_lo];exact W.lo,W.m,set_0 W.z⟩⟩
theorem stepI_stp {wt:Int→Bool} {S T:St} {m p:Nat→Int} {i:Ix} (W:Wd S m) (m0:0≤i.m) (m1:i.m<4294967296) (I:InsOk i) (hb:i.kd≠2) (h:stepI wt S m i=some (T,p)):Stp S T∧Wd T p:=by
 have hk:=kdA i.n I.k2
 rw[←I.kd]at hk
 unfold stepI at h
 rw[if_neg hb]at h
 rcases hk with h1|h1|h1|h1|h1
 ·rw[if_neg (show ¬ i.kd=4 by omega),if_neg (show ¬ i.kd=5 by omega)]at h
  split at h
  ·rename_i he
   cases h
   exact sum_stp W m0 m1 I h1 he
  ·cases h
 ·exact absurd h1 hb
 ·exact absurd h1 I.nt
 ·rw[if_pos h1]at h
  split at h
  ·cases h
   exact ⟨on_stp (T:=S.set _ _) set_nx set_same,⟨set_r W.r (ld_u W.m _ _ _),by show u32 (S.set _ _).hi;rw[set_hi];exact W.hi,by show u32 (S.set _ _).lo;rw[set_lo];exact W.lo,W.m,set_0 W.z⟩⟩
  ·cases h
 ·rw[if_neg (show ¬ i.kd=4 by omega),if_pos h1]at h
  split at h
  ·rename_i hc
   cases h
   have hok:=chk_ok hc.1
   exact ⟨on_stp rfl (Same.refl S),⟨W.r,W.hi,W.lo,upd_bd _ _ _ _ hok.1 hok.2.1 W.m,W.z⟩⟩
  ·cases h
structure At (S:St) (P n:Int):Prop where
 pc:S.pc=lo (P+4*n)
 nx:S.nx=lo (P+4*(n+1))
theorem At.step {S T:St} {pc n:Int} (A:At S pc n) (h:Stp S T):At T pc (n+1):=by
 refine ⟨by rw[h.pc,A.nx],?_⟩
 rw[h.nx,A.nx];unfold lo;omega
theorem run_plain {wt:Int→Bool} (pc:Int):∀ (l:List Ix) (n:Int) (x m:Nat→Int) (S:St),(∀ i∈l,InsOk i∧i.kd≠2∧0≤i.m∧i.m<4294967296)→Ag x S→Wd S m→At S pc n →
  match stepsI wt l S m with
  | none=>∃ t,∀ rest,run1 wt (insXs pc l n++rest) x m=.trap t
  | some (T,p)=>∃ x',(∀ rest,run1 wt (insXs pc l n++rest) x m=run1 wt rest x' p)∧Ag x' T∧x' 35=x 35∧Wd T p∧At T pc (n+l.length)∧(l=[]∨T.sl=false)∧T.ct=S.ct+l.length∧Same S T
 | [],n,x,m,S,_,A,W,P=>⟨x,fun rest=>rfl,A,rfl,W,by simpa using P,.inl rfl,by simp,Same.refl S⟩
 | i :: l,n,x,m,S,hl,A,W,P=>by
  obtain ⟨I,hb,m0,m1⟩:=hl i (by simp)
  have g:=goes_ins (wt:=wt) (m:=m) (n:=n) pc A I hb W.z
  have e:∀ rest,insXs pc (i :: l) n++rest=insX pc i n++(insXs pc l (n+1)++rest):=fun rest=>by show (insX pc i n++insXs pc l (n+1))++rest=_;rw[List.append_assoc]
  have es:stepsI wt (i :: l) S m=match stepI wt S m i with|some (S',m')=>stepsI wt l S' m'|none=>none:=rfl
  rw[es]
  cases hs:stepI wt S m i with
  | none =>
   rw[hs]at g
   exact ⟨n,fun rest=>by rw[e];exact g _⟩
  | some q =>
   obtain ⟨T,p⟩:=q
   rw[hs]at g
   obtain ⟨x',hx',A',k35⟩:=g
   obtain ⟨hst,W'⟩:=stepI_stp W m0 m1 I hb hs
   have ih:=run_plain (wt:=wt) pc l (n+1) x' p T (fun q hq=>hl q (by simp[hq])) A' W' (P.step hst)
   show match stepsI wt l T p with|none=>_|some (T,p)=>_
   cases hr:stepsI wt l T p with
   | none =>
    rw[hr]at ih
    obtain ⟨t,ht⟩:=ih
    exact ⟨t,fun rest=>by rw[e,hx'];exact ht rest⟩
   | some q =>
    obtain ⟨U,r⟩:=q
    rw[hr]at ih
    obtain ⟨y,hy,B1,B2,B3,B4,B5,B6,B7⟩:=ih
    refine ⟨y,fun rest=>by rw[e,hx'];exact hy rest,B1,B2.trans k35,B3,?_,.inr ?_,?_,hst.sm.trans B7⟩
    ·have:n+1+(l.length:Int)=n+((i :: l).length:Int):=by simp;omega
     rw[←this];exact B4
    ·rcases B5 with e|e
     ·subst e
      have:stepsI wt [] T p=some (T,p):=rfl
      rw[this]at hr;cases hr
      exact hst.sl
     ·exact e
    ·rw[B6,hst.ct];simp;omega
theorem xor_0 {a b:Int} (ha:u32 a) (hb:u32 b):bits .xor .u32 a b≠0↔a≠b:=by
 rw[u32_xor a b ha.1 ha.2 hb.1 hb.2]
 have key:a.toNat ^^^ b.toNat=0↔a.toNat=b.toNat:=by
  constructor
  ·intro h
   have h2:(a.toNat ^^^ b.toNat) ^^^ b.toNat=0 ^^^ b.toNat:=by rw[h]
   rw[Nat.xor_assoc,Nat.xor_self,Nat.xor_zero,Nat.zero_xor]at h2
   exact h2
  ·intro h;rw[h,Nat.xor_self]
 have h1:=ha.1;have h2:=hb.1
 constructor
 ·intro h e;exact h (by rw[key.2 (by rw[e])];rfl)
 ·intro h e
  have:a.toNat ^^^ b.toNat=0:=by omega
  exact h (by have:=key.1 this;omega)
def decI (S:St) (i:Ix) (d:Int):Int:=if i.n=31∨i.n=32 then bits .xor .u32 (S.r i.s.toNat) (S.r i.t.toNat) else if i.n=33∨i.n=34 then (if lessB 0 (S.r i.s.toNat) true=true then 1 else 0) else if i.n=7∨i.n=8 then S.r i.s.toNat else d
def linkS (S:St) (i:Ix) (v:Int):St:=if i.n=30 then S.set 31 v else if i.n=8 then S.set i.d.toNat v else S
theorem run_branch {wt:Int→Bool} {x m:Nat→Int} {S:St} {i:Ix} {n:Int} (pc:Int) (A:Ag x S) (I:InsOk i) (hk:i.n=31∨i.n=32∨i.n=33∨i.n=34∨i.n=7∨i.n=8∨i.n=29∨i.n=30) (hz:S.r 0=0):∃ x',(∀ rest,run1 wt (brL pc i n++rest) x m=run1 wt rest x' m)∧Ag x' (linkS S i (linkI pc n))∧x' 35=decI S i (x 35):=by
 have s0:=I.s0;have s1:=I.s1;have t0:=I.t0;have t1:=I.t1;have d0:=I.d0;have d1:=I.d1
 have xs:x i.s.toNat=S.r i.s.toNat:=A.r _ (by omega)
 have xt:x i.t.toNat=S.r i.t.toNat:=A.r _ (by omega)
 have x0:x 0=0:=by rw[A.r _ (by decide)];exact hz
 have one:∀ (k:Nat) (a b:Int),1≤k→k≤20→∀ rest,run1 wt ([opx k 35 a b 0 n]++rest) x m=run1 wt rest (setX x 35 (valV k (x a.toNat) (x b.toNat) (x (35:Int).toNat) 0)) m:=fun k a b k1 k2 rest=>by
  show run1 wt (opx k 35 a b 0 n :: rest) x m=_
  rw[run1_put k1 k2 (by omega)]
 have A5:∀ v,Ag (setX x 35 v) S:=fun v=>A.other (by omega) v
 have at35:∀ v,setX x 35 v 35=v:=fun v=>by rw[setX_at,if_pos (by decide)]
 rcases hk with e|e|e|e|e|e|e|e
 ·refine ⟨_,fun rest=>by unfold brL;rw[e];simpa using one 7 i.s i.t (by omega) (by omega) rest,(A5 _).of (by unfold linkS;rw[e];rfl) (by unfold linkS;rw[e];rfl) (by unfold linkS;rw[e];rfl),?_⟩
  rw[at35,xs,xt];unfold decI;rw[e];rfl
 ·refine ⟨_,fun rest=>by unfold brL;rw[e];simpa using one 7 i.s i.t (by omega) (by omega) rest,(A5 _).of (by unfold linkS;rw[e];rfl) (by unfold linkS;rw[e];rfl) (by unfold linkS;rw[e];rfl),?_⟩
  rw[at35,xs,xt];unfold decI;rw[e];rfl
 ·refine ⟨_,fun rest=>by unfold brL;rw[e];simpa using one 9 0 i.s (by omega) (by omega) rest,(A5 _).of (by unfold linkS;rw[e];rfl) (by unfold linkS;rw[e];rfl) (by unfold linkS;rw[e];rfl),?_⟩
  rw[at35,xs,x0];unfold decI;rw[e];rfl
 ·refine ⟨_,fun rest=>by unfold brL;rw[e];simpa using one 9 0 i.s (by omega) (by omega) rest,(A5 _).of (by unfold linkS;rw[e];rfl) (by unfold linkS;rw[e];rfl) (by unfold linkS;rw[e];rfl),?_⟩
  rw[at35,xs,x0];unfold decI;rw[e];rfl
 ·refine ⟨_,fun rest=>by unfold brL;rw[e];simpa using one 2 i.s 0 (by omega) (by omega) rest,(A5 _).of (by unfold linkS;rw[e];rfl) (by unfold linkS;rw[e];rfl) (by unfold linkS;rw[e];rfl),?_⟩
  rw[at35,xs];unfold decI;rw[e];rfl
 ·have hL:linkS S i (linkI pc n)=S.set i.d.toNat (linkI pc n):=by unfold linkS;rw[e];rfl
  have hB:brL pc i n=[opx 2 35 i.s 0 0 n]++wrO (opx 1 i.d 0 0 (linkI pc n) n):=by unfold brL;rw[e];rfl
  have hD:decI S i (x 35)=S.r i.s.toNat:=by unfold decI;rw[e];rfl
  rw[hL,hB,hD]
  by_cases hd:i.d=0
  ·have hw:wrO (opx 1 i.d 0 0 (linkI pc n) n)=[]:=if_pos hd
   have e0:i.d.toNat=0:=by omega
   rw[hw,e0]
   refine ⟨_,fun rest=>by rw[List.append_nil];exact one 2 i.s 0 (by omega) (by omega) rest,(A5 _).of rfl rfl rfl,?_⟩
   rw[at35,xs];rfl
  ·have hw:wrO (opx 1 i.d 0 0 (linkI pc n) n)=[opx 1 i.d 0 0 (linkI pc n) n]:=if_neg hd
   rw[hw]
   refine ⟨setX (setX x 35 (valV 2 (x i.s.toNat) (x (0:Int).toNat) (x (35:Int).toNat) 0)) i.d (linkI pc n),fun rest=>?_,(A5 _).set (by omega) d1 _,?_⟩
   ·rw[List.append_assoc,one 2 i.s 0 (by omega) (by omega)]
    show run1 wt (opx 1 i.d 0 0 (linkI pc n) n :: rest) _ m=_
    rw[run1_put (by omega) (by omega) (by omega)];rfl
   ·rw[setX_at,if_neg (by omega),at35,xs];rfl
 ·exact ⟨x,fun rest=>by unfold brL;rw[e];rfl,A.of (by unfold linkS;rw[e];rfl) (by unfold linkS;rw[e];rfl) (by unfold linkS;rw[e];rfl),by unfold decI;rw[e];rfl⟩
 ·have hL:linkS S i (linkI pc n)=S.set 31 (linkI pc n):=by unfold linkS;rw[e];rfl
  have hB:brL pc i n=[opx 1 31 0 0 (linkI pc n) n]:=by unfold brL;rw[e];rfl
  have hD:decI S i (x 35)=x 35:=by unfold decI;rw[e];rfl
  rw[hL,hB,hD]
  refine ⟨setX x 31 (linkI pc n),fun rest=>?_,A.set (d:=31) (by omega) (by omega) _,by rw[setX_at,if_neg (by decide)]⟩
  show run1 wt (opx 1 31 0 0 (linkI pc n) n :: rest) x m=_
  rw[run1_put (by omega) (by omega) (by omega)];rfl
theorem stepsI_app (wt:Int→Bool):∀ (a b:List Ix) (S:St) (m:Nat→Int),stepsI wt (a++b) S m=match stepsI wt a S m with|some (T,p)=>stepsI wt b T p|none=>none
 | [],b,S,m=>rfl
 | i :: a,b,S,m=>by
  show (match stepI wt S m i with|some (S',m')=>stepsI wt (a++b) S' m'|none=>none)=match (match stepI wt S m i with|some (S',m')=>stepsI wt a S' m'|none=>none) with|some (T,p)=>stepsI wt b T p|none=>none
  cases stepI wt S m i with
  | none=>rfl
  | some q=>exact stepsI_app wt a b q.1 q.2
theorem tgI_bd (i:Ix) (a:Int):0≤tgI i a∧tgI i a<4294967296:=by
 unfold tgI
 split
 ·exact u32_or_bd (u32_and_bd (lo_bd _) ⟨by omega,by omega⟩) (lo_bd _)
 ·exact lo_bd _
theorem run_leave {wt:Int→Bool} {x m:Nat→Int} {S:St} {b:Ix} {to be n d:Int} (hS:∀ j,u32 (S.r j)) (hk:b.n=31∨b.n=32∨b.n=33∨b.n=34∨b.n=7∨b.n=8∨b.n=29∨b.n=30) (h35:x 35=decI S b d) (t0:0≤to) (e0:0≤be):run1 wt (leaveB b to be n) x m=.leave ⟨x,m,if b.n=7∨b.n=8 then S.r b.s.toNat else if takenI S b.n b.s.toNat b.t.toNat=true then to else be⟩:=by
 have hx:x (35:Int).toNat=decI S b d:=h35
 have hl:∀ c:Bool,((if c=true then (1:Int) else 0)≠0)↔c=true:=by intro c;cases c<;>simp
 rcases hk with e|e|e|e|e|e|e|e
 ·have eL:leaveB b to be n=[opx 25 0 35 0 be n,opx 26 0 0 0 to n]:=by unfold leaveB;rw[e];rfl
  have eD:decI S b d=bits .xor .u32 (S.r b.s.toNat) (S.r b.t.toNat):=by unfold decI;rw[e];rfl
  have eT:takenI S b.n b.s.toNat b.t.toNat=decide (S.r b.s.toNat=S.r b.t.toNat):=by unfold takenI;rw[e];rfl
  rw[eL,run1_if e0,run1_out t0,hx,eD,eT,if_neg (show ¬ (b.n=7∨b.n=8) by omega)]
  by_cases h:S.r b.s.toNat=S.r b.t.toNat
  ·rw[if_neg (fun hn=>(xor_0 (hS _) (hS _)).1 hn h),if_pos (decide_eq_true h)]
  ·rw[if_pos ((xor_0 (hS _) (hS _)).2 h),if_neg (by simpa using h)]
 ·have eL:leaveB b to be n=[opx 25 0 35 0 to n,opx 26 0 0 0 be n]:=by unfold leaveB;rw[e];rfl
  have eD:decI S b d=bits .xor .u32 (S.r b.s.toNat) (S.r b.t.toNat):=by unfold decI;rw[e];rfl
  have eT:takenI S b.n b.s.toNat b.t.toNat=!decide (S.r b.s.toNat=S.r b.t.toNat):=by unfold takenI;rw[e];rfl
  rw[eL,run1_if t0,run1_out e0,hx,eD,eT,if_neg (show ¬ (b.n=7∨b.n=8) by omega)]
  by_cases h:S.r b.s.toNat=S.r b.t.toNat
  ·rw[if_neg (fun hn=>(xor_0 (hS _) (hS _)).1 hn h),if_neg (by simpa using h)]
  ·rw[if_pos ((xor_0 (hS _) (hS _)).2 h),if_pos (by simpa using h)]
 ·have eL:leaveB b to be n=[opx 25 0 35 0 be n,opx 26 0 0 0 to n]:=by unfold leaveB;rw[e];rfl
  have eD:decI S b d=if lessB 0 (S.r b.s.toNat) true=true then 1 else 0:=by unfold decI;rw[e];rfl
  have eT:takenI S b.n b.s.toNat b.t.toNat=!lessB 0 (S.r b.s.toNat) true:=by unfold takenI;rw[e];rfl
  rw[eL,run1_if e0,run1_out t0,hx,eD,eT,if_neg (show ¬ (b.n=7∨b.n=8) by omega)]
  cases lessB 0 (S.r b.s.toNat) true<;>rfl
 ·have eL:leaveB b to be n=[opx 25 0 35 0 to n,opx 26 0 0 0 be n]:=by unfold leaveB;rw[e];rfl
  have eD:decI S b d=if lessB 0 (S.r b.s.toNat) true=true then 1 else 0:=by unfold decI;rw[e];rfl
  have eT:takenI S b.n b.s.toNat b.t.toNat=lessB 0 (S.r b.s.toNat) true:=by unfold takenI;rw[e];rfl
  rw[eL,run1_if t0,run1_out e0,hx,eD,eT,if_neg (show ¬ (b.n=7∨b.n=8) by omega)]
  cases lessB 0 (S.r b.s.toNat) true<;>rfl
 ·have eL:leaveB b to be n=[opx 27 0 35 0 0 n]:=by unfold leaveB;rw[e];rfl
  have eD:decI S b d=S.r b.s.toNat:=by unfold decI;rw[e];rfl
  rw[eL,run1_outr (by rw[hx,eD];exact (hS _).1),hx,eD,if_pos (.inl e)]
 ·have eL:leaveB b to be n=[opx 27 0 35 0 0 n]:=by unfold leaveB;rw[e];rfl
  have eD:decI S b d=S.r b.s.toNat:=by unfold decI;rw[e];rfl
  rw[eL,run1_outr (by rw[hx,eD];exact (hS _).1),hx,eD,if_pos (.inr e)]
 ·have eL:leaveB b to be n=[opx 26 0 0 0 to n]:=by unfold leaveB;rw[e];rfl
  have eT:takenI S b.n b.s.toNat b.t.toNat=true:=by unfold takenI;rw[e];rfl
  rw[eL,run1_out t0,eT,if_neg (show ¬ (b.n=7∨b.n=8) by omega),if_pos rfl]
 ·have eL:leaveB b to be n=[opx 26 0 0 0 to n]:=by unfold leaveB;rw[e];rfl
  have eT:takenI S b.n b.s.toNat b.t.toNat=true:=by unfold takenI;rw[e];rfl
  rw[eL,run1_out t0,eT,if_neg (show ¬ (b.n=7∨b.n=8) by omega),if_pos rfl]
theorem ag_new {S:St} (hz:S.r 0=0):Ag (nwX (rgS S) 34) S:=by
 refine ⟨fun j hj=>?_,rfl,rfl⟩
 by_cases h:j=0
 ·subst h;exact hz.symm
 ·unfold nwX rgS
  rw[if_pos (by omega),if_pos hj]
def EndsAs (o:Oz) (S:St) (len:Nat) (R:Option (St × (Nat→Int))):Prop :=
 match R with
 | none=>∃ t,o=.trap t
 | some (T,p)=>∃ M,o=.leave M∧M.m=p∧Ag M.x T∧M.lv=T.pc∧T.nx=lo (T.pc+4)∧T.sl=false∧T.ct=S.ct+len∧Same S T∧Wd T p
theorem low_run {wt:Int→Bool} {pc:Int} (p0:0≤pc) (p1:pc<4294967296) {l:List Ix} (R:RegOk l) (bd:∀ i∈l,i.bd) {S:St} {m:Nat→Int} (W:Wd S m) (hpc:S.pc=pc) (hnx:S.nx=lo (pc+4)) (hsl:S.sl=false) :
  EndsAs (run1 wt (lowL pc l) (nwX (rgS S) 34) m) S l.length (stepsI wt l S m):=by
 have A0:=ag_new W.z
 have P0:At S pc 0:=⟨by rw[hpc];unfold lo;omega,by rw[hnx];congr 1⟩
 have l0:=R.l0
 have hins:∀ (j:Nat) (i:Ix),l[j]?=some i→InsOk i∧(i.kd=2→j+2=l.length):=fun j i hj=>insB_ok (R.ins j i hj)
 have hbe:0≤lo (pc+4*l.length):=(lo_bd _).1
 cases hb:lastBr l with
 | none =>
  have hall:∀ i∈l,InsOk i∧i.kd≠2∧0≤i.m∧i.m<4294967296:=by
   intro i hi
   obtain ⟨j,hj⟩:=List.getElem?_of_mem hi
   have h:=hins j i hj
   refine ⟨h.1,fun h2=>?_,(bd i hi).m0,(bd i hi).m1⟩
   have hj2:=h.2 h2
   have hj3:l[l.length-2]?=some i:=by rw[show l.length-2=j by omega];exact hj
   unfold lastBr at hb
   rw[if_pos (by omega),hj3]at hb
   simp only[h2,if_true]at hb
   cases hb
  have eL:leaveL pc l=[opx 26 0 0 0 (lo (pc+4*l.length)) ((l.length:Int)-1)]:=by unfold leaveL;rw[hb]
  have h:=run_plain (wt:=wt) pc l 0 _ m S hall A0 W P0
  unfold lowL
  rw[eL]
  cases hs:stepsI wt l S m with
  | none =>
   rw[hs]at h
   obtain ⟨t,ht⟩:=h
   exact ⟨t,ht _⟩
  | some q =>
   obtain ⟨T,p⟩:=q
   rw[hs]at h
   obtain ⟨x',h1,h2,h3,h4,h5,h6,h7,h8⟩:=h
   refine ⟨⟨x',p,lo (pc+4*l.length)⟩,by rw[h1,run1_out hbe],rfl,h2,?_,?_,?_,h7,h8,h4⟩
   ·show lo (pc+4*l.length)=T.pc
    rw[h5.pc];congr 1;omega
   ·rw[h5.nx,h5.pc];unfold lo;omega
   ·rcases h6 with e|e
    ·rw[e]at l0;simp at l0
    ·exact e
 | some b =>
  have hb2:2≤l.length∧l[l.length-2]?=some b∧b.kd=2:=by
   unfold lastBr at hb
   split at hb
   ·rename_i h2
    split at hb
    ·rename_i i hi
     split at hb
     ·rename_i hk;cases hb;exact ⟨h2,hi,hk⟩
     ·cases hb
    ·cases hb
   ·cases hb
  obtain ⟨hl2,hgb,hkb⟩:=hb2
  obtain ⟨s,hgs⟩:∃ s,l[l.length-1]?=some s:=⟨_,List.getElem?_eq_getElem (by omega)⟩
  obtain ⟨pre,hpre⟩:∃ pre,pre=l.take (l.length-2):=⟨_,rfl⟩
  have hlen:pre.length=l.length-2:=by rw[hpre,List.length_take];omega
  have el:l=pre++[b,s]:=by
   have e1:l.drop (l.length-2)=[b,s]:=by
    have h1:=(List.getElem?_eq_some_iff.1 hgb)
    have h2:=(List.getElem?_eq_some_iff.1 hgs)
    obtain ⟨a1,a2⟩:=h1
    obtain ⟨b1,b2⟩:=h2
    rw[List.drop_eq_getElem_cons a1,a2]
    congr 1
    have e:l.length-2+1=l.length-1:=by omega
    rw[e,List.drop_eq_getElem_cons b1,b2]
    congr 1
    rw[List.drop_eq_nil_iff];omega
   rw[hpre,←e1,List.take_append_drop]
  have hB:=hins _ _ hgb
  have hS:=hins _ _ hgs
  have hsk:s.kd≠2:=fun h=>by have:=hS.2 h;omega
  have hall:∀ i∈pre,InsOk i∧i.kd≠2∧0≤i.m∧i.m<4294967296:=by
   intro i hi
   have hil:i∈l:=by rw[el];exact List.mem_append_left _ hi
   obtain ⟨j,hj⟩:=List.getElem?_of_mem hi
   have hjl:j<pre.length:=(List.getElem?_eq_some_iff.1 hj).1
   have hj':l[j]?=some i:=by rw[hpre,List.getElem?_take_of_lt (by omega)]at hj;exact hj
   have h:=hins j i hj'
   exact ⟨h.1,fun h2=>by have:=h.2 h2;omega,(bd i hil).m0,(bd i hil).m1⟩
  have eI:insXs pc l 0=insXs pc pre 0++(insX pc b ((l.length:Int)-2)++insX pc s ((l.length:Int)-1)):=by
   have hq:insXs pc l 0=insXs pc (pre++[b,s]) 0:=by rw[←el]
   rw[hq,insXs_app]
   congr 1
   have e1:(0:Int)+pre.length=(l.length:Int)-2:=by rw[hlen];omega
   rw[e1]
   show insX pc b ((l.length:Int)-2)++(insX pc s ((l.length:Int)-2+1)++[])=_
   rw[List.append_nil,show (l.length:Int)-2+1=l.length-1 by omega]
  have eL:leaveL pc l=leaveB b (tgI b (lo (pc+4*((l.length:Int)-2)))) (lo (pc+4*l.length)) ((l.length:Int)-1):=by unfold leaveL;rw[hb]
  have hkk:=kd2 b.n hB.1.k2 (by rw[←hB.1.kd];exact hkb)
  have h:=run_plain (wt:=wt) pc pre 0 _ m S hall A0 W P0
  have est:stepsI wt l S m=match stepsI wt pre S m with|some (T,p)=>stepsI wt [b,s] T p|none=>none:=by
   have hq:stepsI wt l S m=stepsI wt (pre++[b,s]) S m:=by rw[←el]
   rw[hq,stepsI_app]
  unfold lowL
  rw[eI,eL,est]
  cases hs:stepsI wt pre S m with
  | none =>
   rw[hs]at h
   obtain ⟨t,ht⟩:=h
   exact ⟨t,by rw[List.append_assoc];exact ht _⟩
  | some q =>
   obtain ⟨S1,p1'⟩:=q
   rw[hs]at h
   obtain ⟨x1,g1,A1,_,W1,P1,hs1,hc1,sm1⟩:=h
   have hsl1:S1.sl=false:=by
    rcases hs1 with e|e
    ·subst e
     have:stepsI wt [] S m=some (S,m):=rfl
     rw[this]at hs;cases hs;exact hsl
    ·exact e
   have en:(0:Int)+pre.length=(l.length:Int)-2:=by rw[hlen];omega
   rw[en]at P1
   -- the branch
   obtain ⟨x2,g2,A2,k2⟩:=run_branch (wt:=wt) (m:=p1') (n:=(l.length:Int)-2) pc A1 hB.1 hkk W1.z
   have hlk:lo (S1.pc+8)=linkI pc ((l.length:Int)-2):=by rw[P1.pc];unfold linkI lo;omega
   have eb:insX pc b ((l.length:Int)-2)=brL pc b ((l.length:Int)-2):=by unfold insX;rw[if_pos hkb]
   obtain ⟨S2,hS2⟩:∃ S2:St,S2={ linkS S1 b (linkI pc ((l.length:Int)-2)) with pc:=S1.nx,nx:=if takenI S1 b.n b.s.toNat b.t.toNat=true then targI S1 b.n b.s.toNat b.m else lo (S1.nx+4),sl:=true,ct:=S1.ct+1 }:=⟨_,rfl⟩
   have hstb:stepI wt S1 p1' b=some (S2,p1'):=by
    unfold stepI
    rw[if_pos hkb,if_neg (by rw[hsl1];decide),hS2]
    unfold branchP linkS
    rw[if_neg (by rw[hsl1];decide),hlk]
   have A2':Ag x2 S2:=A2.of (by rw[hS2]) (by rw[hS2]) (by rw[hS2])
   have W2:Wd S2 p1':=by
    rw[hS2]
    have hr:∀ j,u32 ((linkS S1 b (linkI pc ((l.length:Int)-2))).r j):=by
     unfold linkS;split
     ·exact set_r W1.r (lo_bd _)
     split
     ·exact set_r W1.r (lo_bd _)
     ·exact W1.r
    have hh:(linkS S1 b (linkI pc ((l.length:Int)-2))).hi=S1.hi∧(linkS S1 b (linkI pc ((l.length:Int)-2))).lo=S1.lo∧(linkS S1 b (linkI pc ((l.length:Int)-2))).r 0=0:=by
     unfold linkS;split
     ·exact ⟨set_hi,set_lo,set_0 W1.z⟩
     split
     ·exact ⟨set_hi,set_lo,set_0 W1.z⟩
     ·exact ⟨rfl,rfl,W1.z⟩
    exact ⟨hr,by show u32 (linkS S1 b (linkI pc ((l.length:Int)-2))).hi;rw[hh.1];exact W1.hi,by show u32 (linkS S1 b (linkI pc ((l.length:Int)-2))).lo;rw[hh.2.1];exact W1.lo,W1.m,hh.2.2⟩
   have sm2:Same S1 S2:=by
    rw[hS2]
    have:Same S1 (linkS S1 b (linkI pc ((l.length:Int)-2))):=by
     unfold linkS;split
     ·exact set_same
     split
     ·exact set_same
     ·exact Same.refl _
    exact ⟨this.st,this.ca,this.ep,this.bd,this.cm⟩
   have hsl_mem:s∈l:=List.mem_of_getElem? hgs
   -- the slot
   have g3:=goes_ins (wt:=wt) (m:=p1') (n:=(l.length:Int)-1) pc A2' hS.1 hsk W2.z
   have es2:stepsI wt [b,s] S1 p1'=match stepI wt S2 p1' s with|some (T,p)=>some (T,p)|none=>none:=by
    show (match stepI wt S1 p1' b with|some (S',m')=>stepsI wt [s] S' m'|none=>none)=_
    rw[hstb]
    show (match stepI wt S2 p1' s with|some (S',m')=>stepsI wt [] S' m'|none=>none)=_
    cases stepI wt S2 p1' s<;>rfl
   show EndsAs _ S l.length (stepsI wt [b,s] S1 p1')
   rw[es2]
   have hrun:∀ rest,run1 wt ((insXs pc pre 0++(insX pc b ((l.length:Int)-2)++insX pc s ((l.length:Int)-1)))++rest) (nwX (rgS S) 34) m=run1 wt (insX pc s ((l.length:Int)-1)++rest) x2 p1':=fun rest=>by
    rw[List.append_assoc,g1,List.append_assoc,eb,g2]
   cases hst:stepI wt S2 p1' s with
   | none =>
    rw[hst]at g3
    exact ⟨_,by rw[hrun];exact g3 _⟩
   | some q =>
    obtain ⟨T,p⟩:=q
    rw[hst]at g3
    obtain ⟨x3,g4,A3,k3⟩:=g3
    obtain ⟨st3,W3⟩:=stepI_stp W2 (bd s hsl_mem).m0 (bd s hsl_mem).m1 hS.1 hsk hst
    have hnx2:S2.nx=if b.n=7∨b.n=8 then S1.r b.s.toNat else if takenI S1 b.n b.s.toNat b.t.toNat=true then tgI b (lo (pc+4*((l.length:Int)-2))) else lo (pc+4*l.length):=by
     rw[hS2]
     show (if takenI S1 b.n b.s.toNat b.t.toNat=true then targI S1 b.n b.s.toNat b.m else lo (S1.nx+4))=_
     have hbh:lo (S1.nx+4)=lo (pc+4*l.length):=by rw[P1.nx];unfold lo;omega
     by_cases h78:b.n=7∨b.n=8
     ·have ht:takenI S1 b.n b.s.toNat b.t.toNat=true:=by unfold takenI;rw[if_neg (by omega),if_neg (by omega),if_neg (by omega),if_neg (by omega)]
      rw[if_pos h78,if_pos ht];unfold targI;rw[if_neg (by omega),if_pos h78]
     ·rw[if_neg h78,hbh]
      have htg:targI S1 b.n b.s.toNat b.m=tgI b (lo (pc+4*((l.length:Int)-2))):=by
       unfold targI tgI
       rw[if_neg h78,P1.pc]
      rw[htg]
    refine ⟨⟨x3,p,S2.nx⟩,?_,rfl,A3,st3.pc.symm,?_,st3.sl,?_,(sm1.trans sm2).trans st3.sm,W3⟩
    ·rw[hrun,g4,run_leave W1.r hkk (k3.trans k2) (tgI_bd _ _).1 hbe,←hnx2]
    ·rw[st3.nx,st3.pc]
    ·rw[st3.ct,show S2.ct=S1.ct+1 by rw[hS2],hc1,hlen];omega
end Go.Proofs.YtflagpkmebdckaaGreatDoor.Low
namespace Go.Proofs.YtflagpkmebdckaaGreatDoor
open Num Low
set_option linter.unusedVariables false
def giveUp (wt:Int→Bool) (S:St) (b:Bs) (k s t d:Nat) (m:Int):Prop :=
 0≤(insP S b k s t d m).1∨((insP S b k s t d m).1=-1∧(insP S b k s t d m).2.2.tr≠b.tr)∨(Tab.kind k=[115,116,111,114,101]∧(insP S b k s t d m).1=-1∧dev (adI S k s m) (szI k)=false∧wt (adI S k s m/256)=true)
theorem kd_kind:∀ k,k<54→(Tab.kdL.getD k 0=2↔Tab.kind k=[98,114,97,110,99,104])∧(Tab.kdL.getD k 0=4↔Tab.kind k=[108,111,97,100])∧(Tab.kdL.getD k 0=5↔Tab.kind k=[115,116,111,114,101])∧(Tab.kdL.getD k 0=3↔Tab.kind k=[116,114,97,112])∧(Tab.kdL.getD k 0=1↔Tab.kind k=[115,117,109]):=by decide
theorem bad_or (a s:Int):bad a s=true∨dev a s=true∨(chk a s=0∧dev a s=false):=by
 by_cases hc:chk a s=0
 ·exact Or.inr (Or.inr ⟨hc,dev_chk hc⟩)
 ·cases hd:dev a s with
  | true=>exact Or.inr (Or.inl rfl)
  | false=>exact Or.inl (by simp[bad,hd,hc])
theorem bad_dev {a s:Int} (h:dev a s=true):bad a s=false:=by simp[bad,h]
theorem bad_chk {a s:Int} (h:chk a s=0):bad a s=false:=by simp[bad,h]
theorem no_chk {a s:Int} (h:dev a s=true):chk a s≠0:=fun e=>by rw[dev_chk e]at h;cases h
theorem no_chk' {a s:Int} (h:bad a s=true):chk a s≠0:=fun e=>by rw[bad_chk e]at h;cases h
theorem stepI_ins (wt:Int→Bool) (S:St) (b:Bs) (i:Ix) (hk:0≤i.k∧i.k<54) (h3:i.kd≠3) :
  match stepI wt S b.m i with
  | some (T,p)=>insP S b i.n i.s.toNat i.t.toNat i.d.toNat i.m=(-1,(insP S b i.n i.s.toNat i.t.toNat i.d.toNat i.m).2.1,{ b with m:=p })∧T={ (insP S b i.n i.s.toNat i.t.toNat i.d.toNat i.m).2.1 with ct:=S.ct+1 }∧¬ giveUp wt S b i.n i.s.toNat i.t.toNat i.d.toNat i.m
  | none=>giveUp wt S b i.n i.s.toNat i.t.toNat i.d.toNat i.m:=by
 have hkn:i.n<54:=by unfold Ix.n;omega
 have ekd:i.kd=Tab.kdL.getD i.n 0:=by unfold Ix.kd;rw[if_pos hk]
 obtain ⟨k2,k4,k5,k3,k1⟩:=kd_kind i.n hkn
 rw[←ekd]at k2 k4 k5 k3 k1
 have kr:Tab.kdL.getD i.n 0=1∨Tab.kdL.getD i.n 0=2∨Tab.kdL.getD i.n 0=3∨Tab.kdL.getD i.n 0=4∨Tab.kdL.getD i.n 0=5:=by
  have h:∀ k,k<54→Tab.kdL.getD k 0=1∨Tab.kdL.getD k 0=2∨Tab.kdL.getD k 0=3∨Tab.kdL.getD k 0=4∨Tab.kdL.getD k 0=5:=by decide
  exact h i.n hkn
 rw[←ekd]at kr
 unfold stepI
 by_cases c2:i.kd=2
 ·have hK:=k2.1 c2
  have ei:insP S b i.n i.s.toNat i.t.toNat i.d.toNat i.m=((branchP S i.n i.s.toNat i.t.toNat i.d.toNat i.m).1,(branchP S i.n i.s.toNat i.t.toNat i.d.toNat i.m).2,b):=by unfold insP;rw[if_pos hK]
  have n5:¬ Tab.kind i.n=[115,116,111,114,101]:=by rw[hK];decide
  rw[if_pos c2]
  by_cases hsl:S.sl=true
  ·rw[if_pos hsl]
   show giveUp _ _ _ _ _ _ _ _
   refine Or.inl ?_
   rw[ei]
   show 0≤(branchP S i.n i.s.toNat i.t.toNat i.d.toNat i.m).1
   unfold branchP;rw[if_pos hsl];show (0:Int)≤10;omega
  ·rw[if_neg hsl]
   have e1:(branchP S i.n i.s.toNat i.t.toNat i.d.toNat i.m).1=-1:=by unfold branchP;rw[if_neg hsl]
   rw[e1]at ei
   refine ⟨by rw[ei],by rw[ei],?_⟩
   rintro (h|⟨_,h⟩|⟨h,_⟩)
   ·rw[ei]at h;exact absurd h (by simp)
   ·rw[ei]at h;exact h rfl
   ·exact n5 h
 rw[if_neg c2]
 have nb:¬ Tab.kind i.n=[98,114,97,110,99,104]:=fun h=>c2 (k2.2 h)
 by_cases c4:i.kd=4
 ·have hK:=k4.1 c4
  have n5:¬ Tab.kind i.n=[115,116,111,114,101]:=by rw[hK];decide
  rw[if_pos c4]
  rcases bad_or (adI S i.n i.s.toNat i.m) (szI i.n) with h|h|⟨h,hd⟩
  ·rw[if_neg (no_chk' h)]
   show giveUp _ _ _ _ _ _ _ _
   refine Or.inl ?_
   have ei:(insP S b i.n i.s.toNat i.t.toNat i.d.toNat i.m).1=4:=by unfold insP;rw[if_neg nb,if_pos hK,if_pos h]
   rw[ei];omega
  ·rw[if_neg (no_chk h)]
   show giveUp _ _ _ _ _ _ _ _
   have ei:insP S b i.n i.s.toNat i.t.toNat i.d.toNat i.m=(-1,(S.set i.t.toNat (b.val (adI S i.n i.s.toNat i.m) (szI i.n) (sgI i.n) S.ct)).on,b.got (adI S i.n i.s.toNat i.m) (szI i.n) S.ct):=by unfold insP;rw[if_neg nb,if_pos hK,if_neg (by rw[bad_dev h];decide)]
   refine Or.inr (Or.inl ?_)
   rw[ei]
   refine ⟨rfl,?_⟩
   show (b.got _ _ _).tr≠b.tr
   unfold Bs.got;rw[if_pos h];simp
  ·rw[if_pos h]
   have eg:b.got (adI S i.n i.s.toNat i.m) (szI i.n) S.ct=b:=by unfold Bs.got;rw[if_neg (by rw[hd];decide)]
   have ev:b.val (adI S i.n i.s.toNat i.m) (szI i.n) (sgI i.n) S.ct=ld b.m (adI S i.n i.s.toNat i.m) (szI i.n) (sgI i.n):=by unfold Bs.val;rw[if_neg (by rw[hd];decide),if_pos h]
   have ei:insP S b i.n i.s.toNat i.t.toNat i.d.toNat i.m=(-1,(S.set i.t.toNat (ld b.m (adI S i.n i.s.toNat i.m) (szI i.n) (sgI i.n))).on,b):=by unfold insP;rw[if_neg nb,if_pos hK,if_neg (by rw[bad_chk h];decide),eg,ev]
   refine ⟨by rw[ei],by rw[ei],?_⟩
   rintro (h|⟨_,h⟩|⟨h,_⟩)
   ·rw[ei]at h;exact absurd h (by simp)
   ·rw[ei]at h;exact h rfl
   ·exact n5 h
 rw[if_neg c4]
 have nl:¬ Tab.kind i.n=[108,111,97,100]:=fun h=>c4 (k4.2 h)
 by_cases c5:i.kd=5
 ·have hK:=k5.1 c5
  rw[if_pos c5]
  rcases bad_or (adI S i.n i.s.toNat i.m) (szI i.n) with h|h|⟨h,hd⟩
  ·rw[if_neg (fun e=>no_chk' h e.1)]
   show giveUp _ _ _ _ _ _ _ _
   refine Or.inl ?_
   have ei:(insP S b i.n i.s.toNat i.t.toNat i.d.toNat i.m).1=5:=by unfold insP;rw[if_neg nb,if_neg nl,if_pos hK,if_pos h]
   rw[ei];omega
  ·rw[if_neg (fun e=>no_chk h e.1)]
   show giveUp _ _ _ _ _ _ _ _
   have ei:insP S b i.n i.s.toNat i.t.toNat i.d.toNat i.m=(-1,S.on,b.put (adI S i.n i.s.toNat i.m) (szI i.n) (S.r i.t.toNat) S.ct):=by unfold insP;rw[if_neg nb,if_neg nl,if_pos hK,if_neg (by rw[bad_dev h];decide)]
   refine Or.inr (Or.inl ?_)
   rw[ei]
   refine ⟨rfl,?_⟩
   show (b.put _ _ _ _).tr≠b.tr
   unfold Bs.put;rw[if_pos h];simp
  ·have ep:b.put (adI S i.n i.s.toNat i.m) (szI i.n) (S.r i.t.toNat) S.ct={ b with m:=upd b.m (adI S i.n i.s.toNat i.m) (szI i.n) (S.r i.t.toNat) }:=by unfold Bs.put;rw[if_neg (by rw[hd];decide),if_pos h]
   have ei:insP S b i.n i.s.toNat i.t.toNat i.d.toNat i.m=(-1,S.on,{ b with m:=upd b.m (adI S i.n i.s.toNat i.m) (szI i.n) (S.r i.t.toNat) }):=by unfold insP;rw[if_neg nb,if_neg nl,if_pos hK,if_neg (by rw[bad_chk h];decide),ep]
   cases hw:wt (adI S i.n i.s.toNat i.m/256) with
   | false =>
    rw[if_pos ⟨h,rfl⟩]
    refine ⟨by rw[ei],by rw[ei],?_⟩
    rintro (g|⟨_,g⟩|⟨_,_,_,g⟩)
    ·rw[ei]at g;exact absurd g (by simp)
    ·rw[ei]at g;exact g rfl
    ·rw[hw]at g;cases g
   | true =>
    rw[if_neg (fun e=>by cases e.2)]
    show giveUp _ _ _ _ _ _ _ _
    exact Or.inr (Or.inr ⟨hK,by rw[ei],hd,hw⟩)
 rw[if_neg c5]
 have ns:¬ Tab.kind i.n=[115,116,111,114,101]:=fun h=>c5 (k5.2 h)
 have nt:¬ Tab.kind i.n=[116,114,97,112]:=fun h=>h3 (k3.2 h)
 have ei:insP S b i.n i.s.toNat i.t.toNat i.d.toNat i.m=((sumP S i.n i.s.toNat i.t.toNat i.d.toNat i.m).1,(sumP S i.n i.s.toNat i.t.toNat i.d.toNat i.m).2,b):=by unfold insP;rw[if_neg nb,if_neg nl,if_neg ns,if_neg nt]
 have hc:=(sumP_ct S i.n i.s.toNat i.t.toNat i.d.toNat i.m).2
 by_cases he:(sumP S i.n i.s.toNat i.t.toNat i.d.toNat i.m).1=-1
 ·rw[if_pos he]
  rw[he]at ei
  refine ⟨by rw[ei],by rw[ei],?_⟩
  rintro (h|⟨_,h⟩|⟨h,_⟩)
  ·rw[ei]at h;exact absurd h (by simp)
  ·rw[ei]at h;exact h rfl
  ·exact ns h
 ·rw[if_neg he]
  show giveUp _ _ _ _ _ _ _ _
  refine Or.inl ?_
  rw[ei]
  show 0≤(sumP S i.n i.s.toNat i.t.toNat i.d.toNat i.m).1
  omega
end Go.Proofs.YtflagpkmebdckaaGreatDoor
namespace Go.Proofs.YtflagpkmebdckaaGreatDoor
open Go.RowKit Go.Maps
open Num Low
set_option linter.unusedVariables false
set_option maxRecDepth 100000
set_option maxHeartbeats 4000000
theorem infoIntD:(Tryz.prog.info? 3).map (fun i=>(i.zero,i.size,i.bytes))=some (some (.int .i64 0),1,8):=by kernel_rfl
theorem DMem.unhit {w:World} {rb gb kb hb:Nat} {m:Nat→Int} {wt ht:Int→Bool} (D:DMem w rb gb kb hb m wt ht) (j:Nat) (hj:j<64) (ht':Int→Bool) (h:∀ p:Nat,p<64→ht' p=if p=j then false else ht p):DMem (w.setCell ⟨hb,j,none⟩ (.bool false)) rb gb kb hb m wt ht' :=
 (D.flagH j hj false ht' h).blk fun k _=>rfl
def hitsN (ht:Int→Bool):Nat→Nat
 | 0=>0
 | j+1=>hitsN ht j+if ht j=true then 1 else 0
theorem hitsN_le (ht:Int→Bool):∀ j,hitsN ht j≤j
 | 0=>Nat.le_refl _
 | j+1=>by have:=hitsN_le ht j;simp only[hitsN];split<;>omega
theorem hitsN_zero {ht:Int→Bool} (h:∀ p:Nat,p<64→ht p=false):∀ j,j≤64→hitsN ht j=0
 | 0,_=>rfl
 | j+1,hj=>by simp only[hitsN];rw[hitsN_zero h j (by omega),h j (by omega)];rfl
theorem hitsN_pos {ht:Int→Bool} {p:Nat} (h:ht p=true):∀ j,p<j→0<hitsN ht j
 | 0,hp=>by omega
 | j+1,hp=>by
  simp only[hitsN]
  by_cases e:p=j
  ·subst e;rw[if_pos h];omega
  ·have:=hitsN_pos h j (by omega);omega
theorem own_shape {w:World} {base t n:Nat} {v:Value} {xs:List Value} (h:w.ownsRow base t 1 v n xs):∃ ao cap,v=.slice ao n cap:=by
 rcases h.2 with ⟨e,h0⟩|⟨g,cap,cur,e,_⟩
 ·exact ⟨none,0,by rw[e,h0]⟩
 ·exact ⟨_,cap,e⟩
theorem hitsD_any {w:World} {rb gb kb hb:Nat} {m:Nat→Int} {wt ht:Int→Bool} (D:DMem w rb gb kb hb m wt ht) :
  Calls Tryz.prog 70 #[.pointer (some ⟨rb,0,none⟩)] w fun e w'=>∃ ao cap,e=.returned (.slice ao (hitsN ht 64) cap)∧Kept w w' (·=hb)∧((∀ p:Nat,p<64→ht p=false)→DMem w' rb gb kb hb m wt ht):=by
 obtain ⟨i0,hi,iz0,iz1,iz2⟩:=info_parts infoIntD
 have DH:Hid (DMem w rb gb kb hb m wt ht):=D
 have hlt:hb<w.heap.size:=D.lts (by simp)
 clear D
 go_enter Tryz.func70,Tryz.ntmps70
 go_wp2_with fail
 go_loopw [3,4] (fun v i wr=>∃ (j:Nat) (xs:List Value),j≤64∧i=.int .i64 j∧Hid (wr.ownsRow w.heap.size 3 1 v (hitsN ht j) xs)∧Hid (DMem wr rb gb kb hb m wt (fun p=>decide ((j:Int)≤p)&&ht p))∧Hid (Kept w wr (·=hb))) (fun _ i _=>64-(intOf i).toNat)
 case atStart =>
  refine ⟨0,[],by omega,rfl,World.ownsRow_nil _ _ _ _,DH.out.same (fun _ _=>rfl) (fun p hp=>?_),Kept.refl _ _⟩
  show ht p=(decide (((0:Nat):Int)≤(p:Int))&&ht p)
  rw[show decide (((0:Nat):Int)≤(p:Int))=true by simp];simp
 case round =>
  obtain ⟨j,xs,hj,rfl,OR,DR,KR⟩:=hrel
  by_cases hlt64:j<64
  ·have c2:=DR.out.c2
   have hc:=DR.out.hc j hlt64
   have hf:=DR.out.fh j
   have ed:(decide ((j:Int)≤(j:Int))&&ht j)=ht j:=by simp
   rw[ed]at hc
   have hlt':(j:Int)<64:=by omega
   clear ed
   obtain ⟨ao,cap,hv⟩:=own_shape OR.out
   subst hv
   cases hh:ht j with
   | false =>
    rw[hh]at hc
    have hn:hitsN ht (j+1)=hitsN ht j:=by simp[hitsN,hh]
    have D2:Hid (DMem wr rb gb kb hb m wt (fun p=>decide (((j+1:Nat):Int)≤p)&&ht p)):=DR.out.same (fun _ _=>rfl) (fun p hp=>by
     by_cases e:p=j
     ·subst e;rw[hh];simp
     ·have:decide ((j:Int)≤(p:Int))=decide (((j+1:Nat):Int)≤(p:Int)):=by simp;omega
      rw[this])
    clear hh
    go_wp2
    go_roundw
    case rel=>exact ⟨j+1,xs,by omega,by go_num,by rw[hn];exact OR.out,D2.out,KR.out⟩
    case measure=>simp[intOf];omega
   | true =>
    rw[hh]at hc
    have hn:hitsN ht (j+1)=hitsN ht j+1:=by simp[hitsN,hh]
    have hle:=hitsN_le ht j
    have hz:w.heap.size≤wr.heap.size:=KR.out.size
    have hal:=(Below.refl wr.heap.size wr).alloc (Nat.le_refl _) (.cells #[.int .i64 (j:Int)] 3)
    have O2:Hid ((wr.alloc (.cells #[.int .i64 (j:Int)] 3)).ownsRow w.heap.size 3 1 (.slice ao (hitsN ht j) cap) (hitsN ht j) xs):=OR.out.alloc _
    have hnews:∀ (q:Nat) (u:Value),[Value.int .i64 (j:Int)][q]?=some u→(wr.alloc (.cells #[.int .i64 (j:Int)] 3)).cell? ((⟨wr.heap.size,0,none⟩:Addr).add q)=some u:=by
     intro q u hq
     have:q=0:=by
      have:=(List.getElem?_eq_some_iff.1 hq).1;simp at this;omega
     subst this
     simp at hq;subst hq;simp[Addr.add]
    have fin:∀ (v2:Value) (w2:World),w2.ownsRow w.heap.size 3 1 v2 (hitsN ht j+1) (xs++[.int .i64 (j:Int)])→(wr.alloc (.cells #[.int .i64 (j:Int)] 3)).grownBy w2 (Value.slice ao (hitsN ht j) cap).ownBlock→(∃ a2 c2,v2=.slice a2 (hitsN ht j+1) c2)∧DMem w2 rb gb kb hb m wt (fun p=>decide ((j:Int)≤p)&&ht p)∧Kept w w2 (·=hb):=by
     intro v2 w2 ho hg
     have hb2:∀ k,k<w.heap.size→w2.heap[k]?=wr.heap[k]?:=fun k hk=>(hg.block k (by simp;omega) (fun e=>by have:=(OR.out.lt k e.symm).1;omega)).trans (Below.heap_alloc wr _ k (by omega))
     refine ⟨own_shape ho,DR.out.blk (fun k hk=>hb2 k (DH.out.lts hk)),⟨hg.os.trans KR.out.os,hg.tape.trans KR.out.tape,hg.output.trans KR.out.output,by have:=hg.size;simp at this;omega,fun k hk hx=>(hb2 k hk).trans (KR.out.block k hk hx)⟩⟩
    have hs5:w.heap.size≤(wr.alloc (.cells #[.int .i64 (j:Int)] 3)).heap.size:=by simp;omega
    generalize hq:hitsN ht j=q at *
    clear hh
    go_upto_region 7 with (at_builtin;refine wpList_append_moved rfl _ _ 57 rfl w.heap.size 3 i0 _ 1 8 Tryz.underlying57 hi iz0 iz1 iz2 rfl (by decide) (.slice ao q cap) q xs rfl O2.out ⟨wr.heap.size,0,none⟩ 1 1 [.int .i64 (j:Int)] rfl rfl hnews (by simp[Value.oneCell']) (by unfold maxLen;omega) (by omega) hs5 ?_;intro v2 w2 ho hg hm;obtain ⟨⟨a2,cp2,hv2⟩,D2,K2⟩:=fin v2 w2 ho hg;subst hv2;clear hm)
    have OW:Hid (w2.ownsRow w.heap.size 3 1 (.slice a2 (q+1) cp2) (q+1) (xs++[.int .i64 (j:Int)])):=ho
    have D2H:Hid _:=D2
    have K2H:Hid _:=K2
    clear ho hg fin O2 hnews DR KR OR c2 hc hf D2 K2 hs5 hal hz
    have c2:=D2H.out.c2
    have hc:=D2H.out.hc j hlt64
    have hf:=D2H.out.fh j
    have D3:Hid (DMem (w2.setCell ⟨hb,j,none⟩ (.bool false)) rb gb kb hb m wt (fun p=>decide (((j+1:Nat):Int)≤p)&&ht p)):=D2H.out.unhit j hlt64 _ (fun p hp=>by
     by_cases e:p=j
     ·subst e;rw[if_pos rfl]
      show (decide (((p+1:Nat):Int)≤(p:Int))&&ht p)=false
      rw[show decide (((p+1:Nat):Int)≤(p:Int))=false by simp;omega];rfl
     ·rw[if_neg e]
      have:decide ((j:Int)≤(p:Int))=decide (((j+1:Nat):Int)≤(p:Int)):=by simp;omega
      rw[this])
    have K3:Hid (Kept w (w2.setCell ⟨hb,j,none⟩ (.bool false)) (·=hb)):=K2H.out.put j _
    have O3:Hid ((w2.setCell ⟨hb,j,none⟩ (.bool false)).ownsRow w.heap.size 3 1 (.slice a2 (q+1) cp2) (q+1) (xs++[.int .i64 (j:Int)])):=owns_blocks OW.out (fun k e=>Below.heap_setCell w2 ⟨hb,j,none⟩ _ k (fun e2=>by have:=(OW.out.lt k e).1;simp at e2;omega))
    go_wp2
    go_roundw
    case rel=>exact ⟨j+1,_,by omega,by go_num,by rw[hn];exact O3.out,D3.out,K3.out⟩
    case measure=>simp[intOf];omega
  ·have hlt':¬ (j:Int)<64:=by omega
   obtain rfl:j=64:=by omega
   obtain ⟨ao,cap,hv⟩:=own_shape OR.out
   subst hv
   go_wp2
   go_ret
   refine ⟨⟨ao,cap,rfl⟩,KR.out,fun h=>DR.out.same (fun _ _=>rfl) (fun p hp=>?_)⟩
   show (decide (((64:Nat):Int)≤(p:Int))&&ht p)=ht p
   rw[h p hp];simp
end Go.Proofs.YtflagpkmebdckaaGreatDoor
