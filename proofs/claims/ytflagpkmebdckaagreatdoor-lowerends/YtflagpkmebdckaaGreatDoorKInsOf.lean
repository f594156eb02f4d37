
import Derived.Deep.Slices
import Derived.Deep.RegionWith
import Derived.Test.YtflagpkmebdckaaGreatDoorKEqSt0
import Derived.Test.YtflagpkmebdckaaGreatDoorKDKt
import Derived.Test.YtflagpkmebdckaaGreatDoorQDKs2
import Derived.Test.YtflagpkmebdckaaGreatDoorQDKs3
import Derived.Test.YtflagpkmebdckaaGreatDoorKKMatches
import Derived.Test.YtflagpkmebdckaaGreatDoorKKKinds
import Derived.Test.YtflagpkmebdckaaGreatDoorKLw8
namespace Go.Proofs.YtflagpkmebdckaaGreatDoor
open Go.ChangeShapes Go.WideShapes Go.ChangeAt Go.RowKit Low
set_option linter.unusedVariables false
set_option maxRecDepth 100000
theorem cIns5:Tryz.prog.cellsOf 113=5:=by kernel_rfl
theorem cI3:Tryz.prog.cellsOf 3=1:=by kernel_rfl
theorem cU23:Tryz.prog.cellsOf 22=1:=by kernel_rfl
theorem add_plainI (b o i:Nat):(⟨b,o,none⟩:Addr).add i=⟨b,o+i,none⟩:=by unfold Addr.add;split<;>simp_all
theorem inss_of {H:Type} {enc:TypeId × Value→H} {W:World} {base:Nat} {v:Value} {d:DataW H} {p:List MemPlace} (hv:Value.okWide Tryz.prog W .any base 48 v) (h:DataW.Trod enc Tryz.prog W 0 (fun _=>true) true 48 v d p) :
  ∃ l:List Ix,InsIn W v l∧(l.length:Int)≤9223372036854775807:=by
 obtain ⟨a0,len,cap,rfl⟩:=okWide_slice Tryz.underlying48 hv
 obtain ⟨fuel,hf⟩:=h
 rcases Go.Deep.open_slice Tryz.underlying48 hf with ⟨hcs,hx⟩|⟨a,len',cap',m,n,D,Pl,hcs,_,hl,hm,hmm,_,hx⟩
 ·simp[Value.cells]at hcs
  obtain ⟨rfl,rfl,rfl⟩:=hcs
  exact ⟨[],⟨⟨none,0,rfl,Nat.le_refl _,fun h=>absurd h (by simp)⟩,fun o ho=>by cases ho⟩,by simp⟩
 ·simp[Value.cells]at hcs
  obtain ⟨rfl,rfl,rfl⟩:=hcs
  simp only[if_true]at hmm
  subst hmm
  have each:∀ i,∃ x:Ix,i<len→x.bd∧∀ (j:Nat) (u:Value),(ixC x)[j]?=some u→W.cell? ((a.add (i*5)).add j)=some u:=by
   intro i
   by_cases hi:i<len
   ·obtain ⟨cs',h1,h2⟩:=hx i (by omega)
    rw[cIns5]at h1
    obtain ⟨_,hlen,hcell⟩:=World.cells?_some h1
    obtain ⟨xs,k,hk,hxy,_,hxl,hg⟩:=DataW.trod_struct Tryz.underlying113 h2
    match xs,hxl,cs',hlen with
    | [y0,y1,y2,y3,y4],_,[c0,c1,c2,c3,c4],_ =>
     have g0:=hg 0 _ rfl
     have g1:=hg 1 _ rfl
     have g2:=hg 2 _ rfl
     have g3:=hg 3 _ rfl
     have g4:=hg 4 _ rfl
     simp[cI3,cU23]at g0 g1 g2 g3 g4
     obtain ⟨a0,e0,rfl,w0⟩:=DataW.trod_int Tryz.underlying3 g0
     obtain ⟨a1,e1,rfl,w1⟩:=DataW.trod_int Tryz.underlying3 g1
     obtain ⟨a2,e2,rfl,w2⟩:=DataW.trod_int Tryz.underlying3 g2
     obtain ⟨a3,e3,rfl,w3⟩:=DataW.trod_int Tryz.underlying3 g3
     obtain ⟨a4,e4,rfl,w4⟩:=DataW.trod_int Tryz.underlying22 g4
     simp at e0 e1 e2 e3 e4
     subst e0 e1 e2 e3 e4
     refine ⟨⟨a0,a1,a2,a3,a4⟩,fun _=>⟨⟨(bd_i64 w0).1,(bd_i64 w0).2,(bd_i64 w1).1,(bd_i64 w1).2,(bd_i64 w2).1,(bd_i64 w2).2,(bd_i64 w3).1,(bd_i64 w3).2,(bd_u32 w4).1,(bd_u32 w4).2⟩,fun j u hj=>?_⟩⟩
     have hj5:j<5:=by
      rcases Nat.lt_or_ge j 5 with h|h
      ·exact h
      ·rw[List.getElem?_eq_none (by simpa [ixC] using h)]at hj;cases hj
     rw[hcell j hj5]
     exact hj
   ·exact ⟨⟨0,0,0,0,0⟩,fun h=>absurd h hi⟩
  have hch:=Classical.axiomOfChoice each
  obtain ⟨x,hxx⟩:=hch
  have hll:((List.range len).map x).length=len:=by simp
  have hget:∀ (i:Nat) (o:Ix),((List.range len).map x)[i]?=some o→i<len∧o=x i:=by
   intro i o ho
   have hi:i<len:=by have:=(List.getElem?_eq_some_iff.1 ho).1;simpa using this
   rw[List.getElem?_map,List.getElem?_range hi]at ho
   exact ⟨hi,(Option.some.inj ho).symm⟩
  refine ⟨(List.range len).map x,⟨⟨some a,_,by rw[hll],by rw[hll];exact hl,fun hp=>?_⟩,fun o ho=>?_⟩,by rw[hll];unfold maxLen at hm;omega⟩
  ·obtain ⟨b,off,spot⟩:=a
   have hp':0<len:=by omega
   have hspot:spot=none:=by
    have:=(hxx 0 hp').2 0 _ rfl
    simpa [Addr.add] using World.cell?_spot this
   subst hspot
   refine ⟨b,off,rfl,fun i o ho j u hj=>?_⟩
   obtain ⟨hi,rfl⟩:=hget i o ho
   have:=(hxx i hi).2 j u hj
   rwa [add_plainI,add_plainI]at this
  ·obtain ⟨i,hi,rfl⟩:=List.mem_map.1 ho
   exact (hxx i (List.mem_range.1 hi)).1
end Go.Proofs.YtflagpkmebdckaaGreatDoor
namespace Go.Proofs.YtflagpkmebdckaaGreatDoor
open Go.RowKit Go.Maps
open Num
set_option linter.unusedVariables false
set_option maxRecDepth 100000
set_option maxHeartbeats 8000000
section
variable {w : World} {sb : Nat} {S : St} {k s t d : Nat} {m : Int}
theorem sum_a (A:StAt w sb S) (ok:S.ok) (hs:s<32) (ht:t<32) (hd:d<32) (m0:0≤m) (m1:m<4294967296) (hk:k=11):Calls Tryz.prog 195 #[.pointer (some ⟨sb,0,none⟩),.agg #[.int .i64 k,.int .i64 s,.int .i64 t,.int .i64 d,.int .u32 m]] w fun e w'=>e=.returned (.int .i64 (sumD S k s t d m).1)∧StAt w' sb (sumD S k s t d m).2∧Kept w w' (·=sb):=by
 subst hk
 have D0:Hid (Dq (w.alloc (.cells #[.int .i64 11,.int .i64 s,.int .i64 t,.int .i64 d,.int .u32 m] 113)) w.heap.size sb S 11 s t d m):=Dq.start A ok 11 hs ht hd m0 m1
 have K0:Kept w (w.alloc (.cells #[.int .i64 11,.int .i64 s,.int .i64 t,.int .i64 d,.int .u32 m] 113)) (·=sb):=Kept.of_below _ ((Below.refl _ _).alloc (Nat.le_refl _) _)
 clear A
 go_enter Tryz.func195,Tryz.ntmps195
 go_upto_region 1 with fail
 generalize w.alloc (.cells #[.int .i64 11,.int .i64 s,.int .i64 t,.int .i64 d,.int .u32 m] 113)=W at *
 generalize w.heap.size=ib at *
 have i0:=D0.out.i0
 have i1:=D0.out.i1
 have i2:=D0.out.i2
 have i3:=D0.out.i3
 have i4:=D0.out.i4
 have qs:=D0.out.a.reg D0.out.hs
 have fs:=D0.out.a.fz s
 have hs':(s:Int)<32:=by have:=D0.out.hs;omega
 have qt:=D0.out.a.reg D0.out.ht
 have ft:=D0.out.a.fz t
 have ht':(t:Int)<32:=by have:=D0.out.ht;omega
 clear i0 i3 i4
 go_upto_region 1 with fail
 refine zP 8 [(0,0),(1,0),(2,1),(3,0),(4,0),(5,0),(6,1),(7,0)] (fun W=>Dq W ib sb S 11 s t d m) (by kernel_rfl) (by kernel_rfl) (fun _ _ _ d _ h=>by cases d<;>first|exact h|exact Dq.drew h) D0.out.drew ?_
 repeat (first|(refine zF (by rfl) (by rfl) (fun W=>by (go_simp;try with_reducible rfl)) (fun K hK=>?_);go_simp;refine hK _ ?_;clear hK K)|(refine zQ (by rfl) (by rfl) (fun W hW=>by (have i1:=hW.i1;have qs:=hW.a.reg hW.hs;go_simp;try with_reducible rfl)) (fun K hK=>?_);go_simp;refine hK _ ?_;clear hK K))
 refine zN ?_
 have D1:Hid (Dq W.drew ib sb S 11 s t d m):=D0.out.drew
 have K1:Kept w W.drew (·=sb):=K0.trans (Kept.drew _ _) (fun _ _ h=>h)
 clear qt ft qs fs i1 i2
 generalize W.drew=W1 at *
 clear D0 K0
 have i2:=D1.out.i2
 have qt:=D1.out.a.reg D1.out.ht
 go_upto_region 2 with fail
 refine zP 8 [(0,0),(1,0),(2,1),(3,0),(4,0),(5,0),(6,1),(7,0)] (fun W=>Dq W ib sb S 11 s t d m) (by kernel_rfl) (by kernel_rfl) (fun _ _ _ d _ h=>by cases d<;>first|exact h|exact Dq.drew h) D1.out.drew ?_
 repeat (first|(refine zF (by rfl) (by rfl) (fun W=>by (go_simp;try with_reducible rfl)) (fun K hK=>?_);go_simp;refine hK _ ?_;clear hK K)|(refine zQ (by rfl) (by rfl) (fun W hW=>by (have i2:=hW.i2;have qt:=hW.a.reg hW.ht;go_simp;try with_reducible rfl)) (fun K hK=>?_);go_simp;refine hK _ ?_;clear hK K))
 refine zN ?_
 have D0:Hid (Dq W1.drew ib sb S 11 s t d m):=D1.out.drew
 have K0:Kept w W1.drew (·=sb):=K1.trans (Kept.drew _ _) (fun _ _ h=>h)
 clear qt i2
 generalize W1.drew=W at *
 clear D1 K1 W1
 have i0:=D0.out.i0
 have qd:=D0.out.a.reg D0.out.hd
 have fd:=D0.out.a.fz d
 have hd':(d:Int)<32:=by have:=D0.out.hd;omega
 go_upto_region 5 with fail
 clear i0
 refine zP 10 [(0,0),(1,0),(2,1),(3,0),(4,0),(5,0),(6,1),(7,0),(8,0),(9,0),(10,2)] (fun W=>Dq W ib sb S _ s t d m) (by kernel_rfl) (by kernel_rfl) (fun _ _ _ d _ h=>by cases d<;>first|exact h|exact Dq.drew h) D0.out.drew ?_
 repeat (first|(refine zF (by rfl) (by rfl) (fun W=>by (go_simp;try with_reducible rfl)) (fun K hK=>?_);go_simp;refine hK _ ?_;clear hK K)|(refine zQ (by rfl) (by rfl) (fun W hW=>by (have i3:=hW.i3;have q32:=hW.a.told.1;go_simp;try with_reducible rfl)) (fun K hK=>?_);go_simp;refine hK _ ?_;clear hK K))
 refine zSr (by rfl) (by rfl) (fun K hK=>?_)
 go_simp
 refine hK _ _ (fun h=>absurd h (by decide)) ?_
 clear hK K
 refine zN ?_
 refine ck (R:=fun W'=>StAt W' sb (S.putR d S.hi)∧Kept W W' (·=sb)) ?_ (fun w1 ⟨A1,T1⟩=>?_)
 ·exact ⟨(D0.out.a.putR d D0.out.hd _).drew,(Kept.put (Kept.refl W _) _ _).trans (Kept.drew _ _) (fun _ _ h=>h)⟩
 clear qd fd
 go_wp2
 go_ret
 exact ⟨rfl,A1,K0.trans T1 (fun _ _ h=>h)⟩
theorem sum_b (A:StAt w sb S) (ok:S.ok) (hs:s<32) (ht:t<32) (hd:d<32) (m0:0≤m) (m1:m<4294967296) (hk:k=13):Calls Tryz.prog 195 #[.pointer (some ⟨sb,0,none⟩),.agg #[.int .i64 k,.int .i64 s,.int .i64 t,.int .i64 d,.int .u32 m]] w fun e w'=>e=.returned (.int .i64 (sumD S k s t d m).1)∧StAt w' sb (sumD S k s t d m).2∧Kept w w' (·=sb):=by
 subst hk
 have D0:Hid (Dq (w.alloc (.cells #[.int .i64 13,.int .i64 s,.int .i64 t,.int .i64 d,.int .u32 m] 113)) w.heap.size sb S 13 s t d m):=Dq.start A ok 13 hs ht hd m0 m1
 have K0:Kept w (w.alloc (.cells #[.int .i64 13,.int .i64 s,.int .i64 t,.int .i64 d,.int .u32 m] 113)) (·=sb):=Kept.of_below _ ((Below.refl _ _).alloc (Nat.le_refl _) _)
 clear A
 go_enter Tryz.func195,Tryz.ntmps195
 go_upto_region 1 with fail
 generalize w.alloc (.cells #[.int .i64 13,.int .i64 s,.int .i64 t,.int .i64 d,.int .u32 m] 113)=W at *
 generalize w.heap.size=ib at *
 have i0:=D0.out.i0
 have i1:=D0.out.i1
 have i2:=D0.out.i2
 have i3:=D0.out.i3
 have i4:=D0.out.i4
 have qs:=D0.out.a.reg D0.out.hs
 have fs:=D0.out.a.fz s
 have hs':(s:Int)<32:=by have:=D0.out.hs;omega
 have qt:=D0.out.a.reg D0.out.ht
 have ft:=D0.out.a.fz t
 have ht':(t:Int)<32:=by have:=D0.out.ht;omega
 clear i0 i3 i4
 go_upto_region 1 with fail
 refine zP 8 [(0,0),(1,0),(2,1),(3,0),(4,0),(5,0),(6,1),(7,0)] (fun W=>Dq W ib sb S 13 s t d m) (by kernel_rfl) (by kernel_rfl) (fun _ _ _ d _ h=>by cases d<;>first|exact h|exact Dq.drew h) D0.out.drew ?_
 repeat (first|(refine zF (by rfl) (by rfl) (fun W=>by (go_simp;try with_reducible rfl)) (fun K hK=>?_);go_simp;refine hK _ ?_;clear hK K)|(refine zQ (by rfl) (by rfl) (fun W hW=>by (have i1:=hW.i1;have qs:=hW.a.reg hW.hs;go_simp;try with_reducible rfl)) (fun K hK=>?_);go_simp;refine hK _ ?_;clear hK K))
 refine zN ?_
 have D1:Hid (Dq W.drew ib sb S 13 s t d m):=D0.out.drew
 have K1:Kept w W.drew (·=sb):=K0.trans (Kept.drew _ _) (fun _ _ h=>h)
 clear qt ft qs fs i1 i2
 generalize W.drew=W1 at *
 clear D0 K0
 have i2:=D1.out.i2
 have qt:=D1.out.a.reg D1.out.ht
 go_upto_region 2 with fail
 refine zP 8 [(0,0),(1,0),(2,1),(3,0),(4,0),(5,0),(6,1),(7,0)] (fun W=>Dq W ib sb S 13 s t d m) (by kernel_rfl) (by kernel_rfl) (fun _ _ _ d _ h=>by cases d<;>first|exact h|exact Dq.drew h) D1.out.drew ?_
 repeat (first|(refine zF (by rfl) (by rfl) (fun W=>by (go_simp;try with_reducible rfl)) (fun K hK=>?_);go_simp;refine hK _ ?_;clear hK K)|(refine zQ (by rfl) (by rfl) (fun W hW=>by (have i2:=hW.i2;have qt:=hW.a.reg hW.ht;go_simp;try with_reducible rfl)) (fun K hK=>?_);go_simp;refine hK _ ?_;clear hK K))
 refine zN ?_
 have D0:Hid (Dq W1.drew ib sb S 13 s t d m):=D1.out.drew
 have K0:Kept w W1.drew (·=sb):=K1.trans (Kept.drew _ _) (fun _ _ h=>h)
 clear qt i2
 generalize W1.drew=W at *
 clear D1 K1 W1
 have i0:=D0.out.i0
 have qd:=D0.out.a.reg D0.out.hd
 have fd:=D0.out.a.fz d
 have hd':(d:Int)<32:=by have:=D0.out.hd;omega
 go_upto_region 8 with fail
 clear i0
 refine zP 10 [(0,0),(1,0),(2,1),(3,0),(4,0),(5,0),(6,1),(7,0),(8,0),(9,0),(10,2)] (fun W=>Dq W ib sb S _ s t d m) (by kernel_rfl) (by kernel_rfl) (fun _ _ _ d _ h=>by cases d<;>first|exact h|exact Dq.drew h) D0.out.drew ?_
 repeat (first|(refine zF (by rfl) (by rfl) (fun W=>by (go_simp;try with_reducible rfl)) (fun K hK=>?_);go_simp;refine hK _ ?_;clear hK K)|(refine zQ (by rfl) (by rfl) (fun W hW=>by (have i3:=hW.i3;have q33:=hW.a.told.2.1;go_simp;try with_reducible rfl)) (fun K hK=>?_);go_simp;refine hK _ ?_;clear hK K))
 refine zSr (by rfl) (by rfl) (fun K hK=>?_)
 go_simp
 refine hK _ _ (fun h=>absurd h (by decide)) ?_
 clear hK K
 refine zN ?_
 refine ck (R:=fun W'=>StAt W' sb (S.putR d S.lo)∧Kept W W' (·=sb)) ?_ (fun w1 ⟨A1,T1⟩=>?_)
 ·exact ⟨(D0.out.a.putR d D0.out.hd _).drew,(Kept.put (Kept.refl W _) _ _).trans (Kept.drew _ _) (fun _ _ h=>h)⟩
 clear qd fd
 go_wp2
 go_ret
 exact ⟨rfl,A1,K0.trans T1 (fun _ _ h=>h)⟩
theorem sum_c (A:StAt w sb S) (ok:S.ok) (hs:s<32) (ht:t<32) (hd:d<32) (m0:0≤m) (m1:m<4294967296) (hk:k=12):Calls Tryz.prog 195 #[.pointer (some ⟨sb,0,none⟩),.agg #[.int .i64 k,.int .i64 s,.int .i64 t,.int .i64 d,.int .u32 m]] w fun e w'=>e=.returned (.int .i64 (sumD S k s t d m).1)∧StAt w' sb (sumD S k s t d m).2∧Kept w w' (·=sb):=by
 subst hk
 have D0:Hid (Dq (w.alloc (.cells #[.int .i64 12,.int .i64 s,.int .i64 t,.int .i64 d,.int .u32 m] 113)) w.heap.size sb S 12 s t d m):=Dq.start A ok 12 hs ht hd m0 m1
 have K0:Kept w (w.alloc (.cells #[.int .i64 12,.int .i64 s,.int .i64 t,.int .i64 d,.int .u32 m] 113)) (·=sb):=Kept.of_below _ ((Below.refl _ _).alloc (Nat.le_refl _) _)
 clear A
 go_enter Tryz.func195,Tryz.ntmps195
 go_upto_region 1 with fail
 generalize w.alloc (.cells #[.int .i64 12,.int .i64 s,.int .i64 t,.int .i64 d,.int .u32 m] 113)=W at *
 generalize w.heap.size=ib at *
 have i0:=D0.out.i0
 have i1:=D0.out.i1
 have i2:=D0.out.i2
 have i3:=D0.out.i3
 have i4:=D0.out.i4
 have qs:=D0.out.a.reg D0.out.hs
 have fs:=D0.out.a.fz s
 have hs':(s:Int)<32:=by have:=D0.out.hs;omega
 have qt:=D0.out.a.reg D0.out.ht
 have ft:=D0.out.a.fz t
 have ht':(t:Int)<32:=by have:=D0.out.ht;omega
 clear i0 i3 i4
 go_upto_region 1 with fail
 refine zP 8 [(0,0),(1,0),(2,1),(3,0),(4,0),(5,0),(6,1),(7,0)] (fun W=>Dq W ib sb S 12 s t d m) (by kernel_rfl) (by kernel_rfl) (fun _ _ _ d _ h=>by cases d<;>first|exact h|exact Dq.drew h) D0.out.drew ?_
 repeat (first|(refine zF (by rfl) (by rfl) (fun W=>by (go_simp;try with_reducible rfl)) (fun K hK=>?_);go_simp;refine hK _ ?_;clear hK K)|(refine zQ (by rfl) (by rfl) (fun W hW=>by (have i1:=hW.i1;have qs:=hW.a.reg hW.hs;go_simp;try with_reducible rfl)) (fun K hK=>?_);go_simp;refine hK _ ?_;clear hK K))
 refine zN ?_
 have D1:Hid (Dq W.drew ib sb S 12 s t d m):=D0.out.drew
 have K1:Kept w W.drew (·=sb):=K0.trans (Kept.drew _ _) (fun _ _ h=>h)
 clear qt ft qs fs i1 i2
 generalize W.drew=W1 at *
 clear D0 K0
 have i2:=D1.out.i2
 have qt:=D1.out.a.reg D1.out.ht
 go_upto_region 2 with fail
 refine zP 8 [(0,0),(1,0),(2,1),(3,0),(4,0),(5,0),(6,1),(7,0)] (fun W=>Dq W ib sb S 12 s t d m) (by kernel_rfl) (by kernel_rfl) (fun _ _ _ d _ h=>by cases d<;>first|exact h|exact Dq.drew h) D1.out.drew ?_
 repeat (first|(refine zF (by rfl) (by rfl) (fun W=>by (go_simp;try with_reducible rfl)) (fun K hK=>?_);go_simp;refine hK _ ?_;clear hK K)|(refine zQ (by rfl) (by rfl) (fun W hW=>by (have i2:=hW.i2;have qt:=hW.a.reg hW.ht;go_simp;try with_reducible rfl)) (fun K hK=>?_);go_simp;refine hK _ ?_;clear hK K))
 refine zN ?_
 have D0:Hid (Dq W1.drew ib sb S 12 s t d m):=D1.out.drew
 have K0:Kept w W1.drew (·=sb):=K1.trans (Kept.drew _ _) (fun _ _ h=>h)
 clear qt i2
 generalize W1.drew=W at *
 clear D1 K1 W1
 have i0:=D0.out.i0
 obtain ⟨q32,-,-,-,-,-,-,-,-,-,-⟩:=D0.out.a.told
 have f32:=D0.out.a.fz 32
 have A1:=D0.out.a.putHi (S.r s)
 go_wp2
 go_ret
 exact ⟨rfl,A1,K0.put _ _⟩
theorem sum_d (A:StAt w sb S) (ok:S.ok) (hs:s<32) (ht:t<32) (hd:d<32) (m0:0≤m) (m1:m<4294967296) (hk:k=14):Calls Tryz.prog 195 #[.pointer (some ⟨sb,0,none⟩),.agg #[.int .i64 k,.int .i64 s,.int .i64 t,.int .i64 d,.int .u32 m]] w fun e w'=>e=.returned (.int .i64 (sumD S k s t d m).1)∧StAt w' sb (sumD S k s t d m).2∧Kept w w' (·=sb):=by
 subst hk
 have D0:Hid (Dq (w.alloc (.cells #[.int .i64 14,.int .i64 s,.int .i64 t,.int .i64 d,.int .u32 m] 113)) w.heap.size sb S 14 s t d m):=Dq.start A ok 14 hs ht hd m0 m1
 have K0:Kept w (w.alloc (.cells #[.int .i64 14,.int .i64 s,.int .i64 t,.int .i64 d,.int .u32 m] 113)) (·=sb):=Kept.of_below _ ((Below.refl _ _).alloc (Nat.le_refl _) _)
 clear A
 go_enter Tryz.func195,Tryz.ntmps195
 go_upto_region 1 with fail
 generalize w.alloc (.cells #[.int .i64 14,.int .i64 s,.int .i64 t,.int .i64 d,.int .u32 m] 113)=W at *
 generalize w.heap.size=ib at *
 have i0:=D0.out.i0
 have i1:=D0.out.i1
 have i2:=D0.out.i2
 have i3:=D0.out.i3
 have i4:=D0.out.i4
 have qs:=D0.out.a.reg D0.out.hs
 have fs:=D0.out.a.fz s
 have hs':(s:Int)<32:=by have:=D0.out.hs;omega
 have qt:=D0.out.a.reg D0.out.ht
 have ft:=D0.out.a.fz t
 have ht':(t:Int)<32:=by have:=D0.out.ht;omega
 clear i0 i3 i4
 go_upto_region 1 with fail
 refine zP 8 [(0,0),(1,0),(2,1),(3,0),(4,0),(5,0),(6,1),(7,0)] (fun W=>Dq W ib sb S 14 s t d m) (by kernel_rfl) (by kernel_rfl) (fun _ _ _ d _ h=>by cases d<;>first|exact h|exact Dq.drew h) D0.out.drew ?_
 repeat (first|(refine zF (by rfl) (by rfl) (fun W=>by (go_simp;try with_reducible rfl)) (fun K hK=>?_);go_simp;refine hK _ ?_;clear hK K)|(refine zQ (by rfl) (by rfl) (fun W hW=>by (have i1:=hW.i1;have qs:=hW.a.reg hW.hs;go_simp;try with_reducible rfl)) (fun K hK=>?_);go_simp;refine hK _ ?_;clear hK K))
 refine zN ?_
 have D1:Hid (Dq W.drew ib sb S 14 s t d m):=D0.out.drew
 have K1:Kept w W.drew (·=sb):=K0.trans (Kept.drew _ _) (fun _ _ h=>h)
 clear qt ft qs fs i1 i2
 generalize W.drew=W1 at *
 clear D0 K0
 have i2:=D1.out.i2
 have qt:=D1.out.a.reg D1.out.ht
 go_upto_region 2 with fail
 refine zP 8 [(0,0),(1,0),(2,1),(3,0),(4,0),(5,0),(6,1),(7,0)] (fun W=>Dq W ib sb S 14 s t d m) (by kernel_rfl) (by kernel_rfl) (fun _ _ _ d _ h=>by cases d<;>first|exact h|exact Dq.drew h) D1.out.drew ?_
 repeat (first|(refine zF (by rfl) (by rfl) (fun W=>by (go_simp;try with_reducible rfl)) (fun K hK=>?_);go_simp;refine hK _ ?_;clear hK K)|(refine zQ (by rfl) (by rfl) (fun W hW=>by (have i2:=hW.i2;have qt:=hW.a.reg hW.ht;go_simp;try with_reducible rfl)) (fun K hK=>?_);go_simp;refine hK _ ?_;clear hK K))
 refine zN ?_
 have D0:Hid (Dq W1.drew ib sb S 14 s t d m):=D1.out.drew
 have K0:Kept w W1.drew (·=sb):=K1.trans (Kept.drew _ _) (fun _ _ h=>h)
 clear qt i2
 generalize W1.drew=W at *
 clear D1 K1 W1
 have i0:=D0.out.i0
 obtain ⟨-,q33,-,-,-,-,-,-,-,-,-⟩:=D0.out.a.told
 have f33:=D0.out.a.fz 33
 have A1:=D0.out.a.putLo (S.r s)
 go_wp2
 go_ret
 exact ⟨rfl,A1,K0.put _ _⟩
theorem sum_e (A:StAt w sb S) (ok:S.ok) (hs:s<32) (ht:t<32) (hd:d<32) (m0:0≤m) (m1:m<4294967296) (hk:k=15∨k=16):Calls Tryz.prog 195 #[.pointer (some ⟨sb,0,none⟩),.agg #[.int .i64 k,.int .i64 s,.int .i64 t,.int .i64 d,.int .u32 m]] w fun e w'=>e=.returned (.int .i64 (sumD S k s t d m).1)∧StAt w' sb (sumD S k s t d m).2∧Kept w w' (·=sb):=by
 have X:sumD S k s t d m=(-1,{ S with hi:=hi (nm (S.r s) (decide (k=15))*nm (S.r t) (decide (k=15))),lo:=lo (nm (S.r s) (decide (k=15))*nm (S.r t) (decide (k=15))) }):=by rcases hk with rfl|rfl<;>rfl
 rw[X]
 clear X
 have hm:=fun W=>mulOf_any (S.r s) (S.r t) (decide (k=15)) (ok.r s).1 (ok.r s).2 (ok.r t).1 (ok.r t).2 W
 generalize hi (nm (S.r s) (decide (k=15))*nm (S.r t) (decide (k=15)))=H at *
 generalize lo (nm (S.r s) (decide (k=15))*nm (S.r t) (decide (k=15)))=L at *
 have D0:Hid (Dq (w.alloc (.cells #[.int .i64 k,.int .i64 s,.int .i64 t,.int .i64 d,.int .u32 m] 113)) w.heap.size sb S k s t d m):=Dq.start A ok k hs ht hd m0 m1
 have K0:Kept w (w.alloc (.cells #[.int .i64 k,.int .i64 s,.int .i64 t,.int .i64 d,.int .u32 m] 113)) (·=sb):=Kept.of_below _ ((Below.refl _ _).alloc (Nat.le_refl _) _)
 clear A
 go_enter Tryz.func195,Tryz.ntmps195
 go_upto_region 1 with fail
 generalize w.alloc (.cells #[.int .i64 k,.int .i64 s,.int .i64 t,.int .i64 d,.int .u32 m] 113)=W at *
 generalize w.heap.size=ib at *
 have i0:=D0.out.i0
 have i1:=D0.out.i1
 have i2:=D0.out.i2
 have i3:=D0.out.i3
 have i4:=D0.out.i4
 have qs:=D0.out.a.reg D0.out.hs
 have fs:=D0.out.a.fz s
 have hs':(s:Int)<32:=by have:=D0.out.hs;omega
 have qt:=D0.out.a.reg D0.out.ht
 have ft:=D0.out.a.fz t
 have ht':(t:Int)<32:=by have:=D0.out.ht;omega
 clear i0 i3 i4
 go_upto_region 1 with fail
 refine zP 8 [(0,0),(1,0),(2,1),(3,0),(4,0),(5,0),(6,1),(7,0)] (fun W=>Dq W ib sb S k s t d m) (by kernel_rfl) (by kernel_rfl) (fun _ _ _ d _ h=>by cases d<;>first|exact h|exact Dq.drew h) D0.out.drew ?_
 repeat (first|(refine zF (by rfl) (by rfl) (fun W=>by (go_simp;try with_reducible rfl)) (fun K hK=>?_);go_simp;refine hK _ ?_;clear hK K)|(refine zQ (by rfl) (by rfl) (fun W hW=>by (have i1:=hW.i1;have qs:=hW.a.reg hW.hs;go_simp;try with_reducible rfl)) (fun K hK=>?_);go_simp;refine hK _ ?_;clear hK K))
 refine zN ?_
 have D1:Hid (Dq W.drew ib sb S k s t d m):=D0.out.drew
 have K1:Kept w W.drew (·=sb):=K0.trans (Kept.drew _ _) (fun _ _ h=>h)
 clear qt ft qs fs i1 i2
 generalize W.drew=W1 at *
 clear D0 K0
 have i2:=D1.out.i2
 have qt:=D1.out.a.reg D1.out.ht
 go_upto_region 2 with fail
 refine zP 8 [(0,0),(1,0),(2,1),(3,0),(4,0),(5,0),(6,1),(7,0)] (fun W=>Dq W ib sb S k s t d m) (by kernel_rfl) (by kernel_rfl) (fun _ _ _ d _ h=>by cases d<;>first|exact h|exact Dq.drew h) D1.out.drew ?_
 repeat (first|(refine zF (by rfl) (by rfl) (fun W=>by (go_simp;try with_reducible rfl)) (fun K hK=>?_);go_simp;refine hK _ ?_;clear hK K)|(refine zQ (by rfl) (by rfl) (fun W hW=>by (have i2:=hW.i2;have qt:=hW.a.reg hW.ht;go_simp;try with_reducible rfl)) (fun K hK=>?_);go_simp;refine hK _ ?_;clear hK K))
 refine zN ?_
 have D0:Hid (Dq W1.drew ib sb S k s t d m):=D1.out.drew
 have K0:Kept w W1.drew (·=sb):=K1.trans (Kept.drew _ _) (fun _ _ h=>h)
 clear qt i2
 generalize W1.drew=W at *
 clear D1 K1 W1
 rcases hk with rfl|rfl
 all_goals
  have i0:=D0.out.i0
  obtain ⟨q32,q33,-,-,-,-,-,-,-,-,-⟩:=D0.out.a.told
  have f32:=D0.out.a.fz 32
  have f33:=D0.out.a.fz 33
  have A1:=(D0.out.a.putHi H).putLo L
  go_wp2_with (go_at_call 230;refine (hm _).mono ?_;rintro e w2 ⟨rfl,rfl⟩)
  go_ret
  exact ⟨rfl,A1,(K0.put _ _).put _ _⟩
theorem sum_f (A:StAt w sb S) (ok:S.ok) (hs:s<32) (ht:t<32) (hd:d<32) (m0:0≤m) (m1:m<4294967296) (hk:k=17∨k=18) (hz:S.r t=0):Calls Tryz.prog 195 #[.pointer (some ⟨sb,0,none⟩),.agg #[.int .i64 k,.int .i64 s,.int .i64 t,.int .i64 d,.int .u32 m]] w fun e w'=>e=.returned (.int .i64 (sumD S k s t d m).1)∧StAt w' sb (sumD S k s t d m).2∧Kept w w' (·=sb):=by
 have X:sumD S k s t d m=(-1,S):=by rcases hk with rfl|rfl<;>(show (-1,if S.r t=0 then S else _)=_;rw[if_pos hz])
 rw[X]
 clear X
 have hm:=fun W=>divOf_0 (S.r s) (decide (k=17)) W
 have D0:Hid (Dq (w.alloc (.cells #[.int .i64 k,.int .i64 s,.int .i64 t,.int .i64 d,.int .u32 m] 113)) w.heap.size sb S k s t d m):=Dq.start A ok k hs ht hd m0 m1
 have K0:Kept w (w.alloc (.cells #[.int .i64 k,.int .i64 s,.int .i64 t,.int .i64 d,.int .u32 m] 113)) (·=sb):=Kept.of_below _ ((Below.refl _ _).alloc (Nat.le_refl _) _)
 clear A
 go_enter Tryz.func195,Tryz.ntmps195
 go_upto_region 1 with fail
 generalize w.alloc (.cells #[.int .i64 k,.int .i64 s,.int .i64 t,.int .i64 d,.int .u32 m] 113)=W at *
 generalize w.heap.size=ib at *
 have i0:=D0.out.i0
 have i1:=D0.out.i1
 have i2:=D0.out.i2
 have i3:=D0.out.i3
 have i4:=D0.out.i4
 have qs:=D0.out.a.reg D0.out.hs
 have fs:=D0.out.a.fz s
 have hs':(s:Int)<32:=by have:=D0.out.hs;omega
 have qt:=D0.out.a.reg D0.out.ht
 have ft:=D0.out.a.fz t
 have ht':(t:Int)<32:=by have:=D0.out.ht;omega
 clear i0 i3 i4
 go_upto_region 1 with fail
 refine zP 8 [(0,0),(1,0),(2,1),(3,0),(4,0),(5,0),(6,1),(7,0)] (fun W=>Dq W ib sb S k s t d m) (by kernel_rfl) (by kernel_rfl) (fun _ _ _ d _ h=>by cases d<;>first|exact h|exact Dq.drew h) D0.out.drew ?_
 repeat (first|(refine zF (by rfl) (by rfl) (fun W=>by (go_simp;try with_reducible rfl)) (fun K hK=>?_);go_simp;refine hK _ ?_;clear hK K)|(refine zQ (by rfl) (by rfl) (fun W hW=>by (have i1:=hW.i1;have qs:=hW.a.reg hW.hs;go_simp;try with_reducible rfl)) (fun K hK=>?_);go_simp;refine hK _ ?_;clear hK K))
 refine zN ?_
 have D1:Hid (Dq W.drew ib sb S k s t d m):=D0.out.drew
 have K1:Kept w W.drew (·=sb):=K0.trans (Kept.drew _ _) (fun _ _ h=>h)
 clear qt ft qs fs i1 i2
 generalize W.drew=W1 at *
 clear D0 K0
 have i2:=D1.out.i2
 have qt:=D1.out.a.reg D1.out.ht
 go_upto_region 2 with fail
 refine zP 8 [(0,0),(1,0),(2,1),(3,0),(4,0),(5,0),(6,1),(7,0)] (fun W=>Dq W ib sb S k s t d m) (by kernel_rfl) (by kernel_rfl) (fun _ _ _ d _ h=>by cases d<;>first|exact h|exact Dq.drew h) D1.out.drew ?_
 repeat (first|(refine zF (by rfl) (by rfl) (fun W=>by (go_simp;try with_reducible rfl)) (fun K hK=>?_);go_simp;refine hK _ ?_;clear hK K)|(refine zQ (by rfl) (by rfl) (fun W hW=>by (have i2:=hW.i2;have qt:=hW.a.reg hW.ht;go_simp;try with_reducible rfl)) (fun K hK=>?_);go_simp;refine hK _ ?_;clear hK K))
 refine zN ?_
 have D0:Hid (Dq W1.drew ib sb S k s t d m):=D1.out.drew
 have K0:Kept w W1.drew (·=sb):=K1.trans (Kept.drew _ _) (fun _ _ h=>h)
 clear qt i2
 generalize W1.drew=W at *
 clear D1 K1 W1
 rcases hk with rfl|rfl
 all_goals
  have i0:=D0.out.i0
  have A1:=D0.out.a
  go_wp2_with (go_at_call 189;refine (hm _).mono ?_;rintro e w2 ⟨rfl,rfl⟩)
  go_ret
  exact ⟨rfl,A1,K0⟩
theorem sum_g (A:StAt w sb S) (ok:S.ok) (hs:s<32) (ht:t<32) (hd:d<32) (m0:0≤m) (m1:m<4294967296) (hk:k=17∨k=18) (hz:¬ S.r t=0):Calls Tryz.prog 195 #[.pointer (some ⟨sb,0,none⟩),.agg #[.int .i64 k,.int .i64 s,.int .i64 t,.int .i64 d,.int .u32 m]] w fun e w'=>e=.returned (.int .i64 (sumD S k s t d m).1)∧StAt w' sb (sumD S k s t d m).2∧Kept w w' (·=sb):=by
 have X:sumD S k s t d m=(-1,{ S with lo:=quo (S.r s) (S.r t) (decide (k=17)),hi:=rst (S.r s) (S.r t) (decide (k=17)) }):=by rcases hk with rfl|rfl<;>(show (-1,if S.r t=0 then S else _)=_;rw[if_neg hz];rfl)
 rw[X]
 clear X
 have hm:=fun W=>divOf_any (S.r s) (S.r t) (decide (k=17)) (ok.r s).1 (ok.r s).2 (by have:=(ok.r t).1;omega) (ok.r t).2 W
 generalize quo (S.r s) (S.r t) (decide (k=17))=H at *
 generalize rst (S.r s) (S.r t) (decide (k=17))=L at *
 clear hz
 have D0:Hid (Dq (w.alloc (.cells #[.int .i64 k,.int .i64 s,.int .i64 t,.int .i64 d,.int .u32 m] 113)) w.heap.size sb S k s t d m):=Dq.start A ok k hs ht hd m0 m1
 have K0:Kept w (w.alloc (.cells #[.int .i64 k,.int .i64 s,.int .i64 t,.int .i64 d,.int .u32 m] 113)) (·=sb):=Kept.of_below _ ((Below.refl _ _).alloc (Nat.le_refl _) _)
 clear A
 go_enter Tryz.func195,Tryz.ntmps195
 go_upto_region 1 with fail
 generalize w.alloc (.cells #[.int .i64 k,.int .i64 s,.int .i64 t,.int .i64 d,.int .u32 m] 113)=W at *
 generalize w.heap.size=ib at *
 have i0:=D0.out.i0
 have i1:=D0.out.i1
 have i2:=D0.out.i2
 have i3:=D0.out.i3
 have i4:=D0.out.i4
 have qs:=D0.out.a.reg D0.out.hs
 have fs:=D0.out.a.fz s
 have hs':(s:Int)<32:=by have:=D0.out.hs;omega
 have qt:=D0.out.a.reg D0.out.ht
 have ft:=D0.out.a.fz t
 have ht':(t:Int)<32:=by have:=D0.out.ht;omega
 clear i0 i3 i4
 go_upto_region 1 with fail
 refine zP 8 [(0,0),(1,0),(2,1),(3,0),(4,0),(5,0),(6,1),(7,0)] (fun W=>Dq W ib sb S k s t d m) (by kernel_rfl) (by kernel_rfl) (fun _ _ _ d _ h=>by cases d<;>first|exact h|exact Dq.drew h) D0.out.drew ?_
 repeat (first|(refine zF (by rfl) (by rfl) (fun W=>by (go_simp;try with_reducible rfl)) (fun K hK=>?_);go_simp;refine hK _ ?_;clear hK K)|(refine zQ (by rfl) (by rfl) (fun W hW=>by (have i1:=hW.i1;have qs:=hW.a.reg hW.hs;go_simp;try with_reducible rfl)) (fun K hK=>?_);go_simp;refine hK _ ?_;clear hK K))
 refine zN ?_
 have D1:Hid (Dq W.drew ib sb S k s t d m):=D0.out.drew
 have K1:Kept w W.drew (·=sb):=K0.trans (Kept.drew _ _) (fun _ _ h=>h)
 clear qt ft qs fs i1 i2
 generalize W.drew=W1 at *
 clear D0 K0
 have i2:=D1.out.i2
 have qt:=D1.out.a.reg D1.out.ht
 go_upto_region 2 with fail
 refine zP 8 [(0,0),(1,0),(2,1),(3,0),(4,0),(5,0),(6,1),(7,0)] (fun W=>Dq W ib sb S k s t d m) (by kernel_rfl) (by kernel_rfl) (fun _ _ _ d _ h=>by cases d<;>first|exact h|exact Dq.drew h) D1.out.drew ?_
 repeat (first|(refine zF (by rfl) (by rfl) (fun W=>by (go_simp;try with_reducible rfl)) (fun K hK=>?_);go_simp;refine hK _ ?_;clear hK K)|(refine zQ (by rfl) (by rfl) (fun W hW=>by (have i2:=hW.i2;have qt:=hW.a.reg hW.ht;go_simp;try with_reducible rfl)) (fun K hK=>?_);go_simp;refine hK _ ?_;clear hK K))
 refine zN ?_
 have D0:Hid (Dq W1.drew ib sb S k s t d m):=D1.out.drew
 have K0:Kept w W1.drew (·=sb):=K1.trans (Kept.drew _ _) (fun _ _ h=>h)
 clear qt i2
 generalize W1.drew=W at *
 clear D1 K1 W1
 rcases hk with rfl|rfl
 all_goals
  have i0:=D0.out.i0
  go_wp2_with fail
  refine (hm _).mono ?_
  rintro e w2 ⟨rfl,n,rfl⟩
  have D2:Hid _:=D0.out.drewN n
  have K2:Kept w (W.drewN n) (·=sb):=K0.trans (Kept.of_below _ (below_drewN (Below.refl _ _) n)) (fun _ _ h=>h)
  clear i0
  generalize W.drewN n=W2 at *
  obtain ⟨q32,q33,-,-,-,-,-,-,-,-,-⟩:=D2.out.a.told
  have f32:=D2.out.a.fz 32
  have f33:=D2.out.a.fz 33
  have A1:=(D2.out.a.putLo H).putHi L
  go_wp2
  go_ret
  exact ⟨rfl,A1,(K2.put _ _).put _ _⟩
end
section
variable {w : World} {sb : Nat} {S : St} {k s t d : Nat} {m : Int}
theorem sumD_any (A:StAt w sb S) (ok:S.ok) (hs:s<32) (ht:t<32) (hd:d<32) (m0:0≤m) (m1:m<4294967296) (hk:(1≤k∧k≤6)∨(11≤k∧k≤28)∨(35≤k∧k≤42)) (hm:k=1∨k=2∨k=3→m<32):Calls Tryz.prog 195 #[.pointer (some ⟨sb,0,none⟩),.agg #[.int .i64 k,.int .i64 s,.int .i64 t,.int .i64 d,.int .u32 m]] w fun e w'=>e=.returned (.int .i64 (sumD S k s t d m).1)∧StAt w' sb (sumD S k s t d m).2∧Kept w w' (·=sb):=by
 have h:(k=1∨k=2∨k=3)∨(k=4∨k=5∨k=6)∨k=11∨k=12∨k=13∨k=14∨(k=15∨k=16)∨(k=17∨k=18)∨k=19∨(k=20∨k=22∨k=23∨k=24∨k=25∨k=26∨k=27∨k=28)∨k=21∨k=35∨(k=36∨k=37∨k=38)∨(k=39∨k=40∨k=41)∨k=42:=by omega
 rcases h with h|h|h|h|h|h|h|h|h|h|h|h|h|h|h
 ·exact sum_i A ok hs ht hd m0 m1 h (hm h)
 ·exact sum_j A ok hs ht hd m0 m1 h
 ·exact sum_a A ok hs ht hd m0 m1 h
 ·exact sum_c A ok hs ht hd m0 m1 h
 ·exact sum_b A ok hs ht hd m0 m1 h
 ·exact sum_d A ok hs ht hd m0 m1 h
 ·exact sum_e A ok hs ht hd m0 m1 h
 ·by_cases hz:S.r t=0
  ·exact sum_f A ok hs ht hd m0 m1 h hz
  ·exact sum_g A ok hs ht hd m0 m1 h hz
 ·exact sum_m A ok hs ht hd m0 m1 h
 ·exact sum_l A ok hs ht hd m0 m1 h
 ·exact sum_n A ok hs ht hd m0 m1 h
 ·cases ho:ov (sg (S.r s)+sg (wd m 16 true)) with
  | true=>exact sum_o A ok hs ht hd m0 m1 h ho
  | false=>exact sum_p A ok hs ht hd m0 m1 h ho
 ·exact sum_q A ok hs ht hd m0 m1 h
 ·exact sum_k A ok hs ht hd m0 m1 h
 ·exact sum_h A ok hs ht hd m0 m1 h
end
end Go.Proofs.YtflagpkmebdckaaGreatDoor
namespace Go.Proofs.YtflagpkmebdckaaGreatDoor.Low
open Go.RowKit Go.Maps
open Num
set_option linter.unusedVariables false
set_option maxRecDepth 100000
set_option maxHeartbeats 8000000
section
variable {w : World}
theorem lenR_any (pc:Int) (p:Option Addr) (n c:Nat) (q:Option Addr) (l2 c2:Nat) (hn:n≤10000):Calls Tryz.prog 112 #[.agg #[.int .u32 pc,.slice p n c,.slice q l2 c2]] w fun e w'=>e=.returned (.int .i64 (4*n))∧Below w.heap.size w w':=by
 have hn':(n:Int)≤10000:=by omega
 go_enter Tryz.func112,Tryz.ntmps112
 go_wp2
 go_ret
 exact ⟨rfl,(Below.refl _ _).alloc (Nat.le_refl _) _⟩
theorem endsR_few (pc:Int) (p:Option Addr) (n c:Nat) (q:Option Addr) (l2 c2:Nat) (hn:n<2):Calls Tryz.prog 113 #[.agg #[.int .u32 pc,.slice p n c,.slice q l2 c2]] w fun e w'=>e=.returned (.string ⟨#[111,110]⟩)∧Below w.heap.size w w':=by
 have hn':decide (2≤(n:Int))=false:=by simp;omega
 go_enter Tryz.func113,Tryz.ntmps113
 go_wp2
 go_ret
 exact ⟨rfl,(Below.refl _ _).alloc (Nat.le_refl _) _⟩
theorem endsR_in (pc:Int) (b off n c:Nat) (q:Option Addr) (l2 c2:Nat) (hn:2≤n) (hn1:n≤24) (x:Ix) (hc:w.cell? ⟨b,off+(n-2)*5,none⟩=some (.int .i64 x.k)):Calls Tryz.prog 113 #[.agg #[.int .u32 pc,.slice (some ⟨b,off,none⟩) n c,.slice q l2 c2]] w fun e w'=>(x.kd=2→e=.returned (.string ⟨#[98,114,97,110,99,104]⟩))∧(x.kd≠2→e=.returned (.string ⟨#[111,110]⟩))∧Below w.heap.size w w':=by
 have hn':decide (2≤(n:Int))=true:=by simp;omega
 have hgl:b<w.heap.size:=World.block_lt_of_cell? _ _ hc
 have hc':(w.alloc (.cells #[.int .u32 pc,.slice (some ⟨b,off,none⟩) n c,.slice q l2 c2] 59)).cell? ⟨b,off+(n-2)*5,none⟩=some (.int .i64 x.k):=by
  rw[World.cell?_alloc_lt _ _ _ hgl];exact hc
 have hki:=fun W=>kdI x W
 have hkk:=kd_le x
 generalize Ix.kd x=kd at *
 generalize Ix.k x=k at *
 have e1:(n:Int)-2=((n-2:Nat):Int):=by omega
 have hlt:((n-2:Nat):Int)<n:=by omega
 rcases hkk with rfl|rfl|rfl|rfl|rfl|rfl
 ·rw[show Tab.kwL.getD 0 []=[] from rfl]at hki
  go_enter Tryz.func113,Tryz.ntmps113
  go_wp2_with fail
  refine (hki _).mono ?_
  rintro e wk ⟨rfl,hwk⟩
  rw[hwk];clear hwk wk hki
  go_wp2
  go_ret
  exact ⟨fun h=>absurd h (by decide),fun _=>rfl,(Below.refl _ _).alloc (Nat.le_refl _) _⟩
 ·rw[show Tab.kwL.getD 1 []=[115,117,109] from rfl]at hki
  go_enter Tryz.func113,Tryz.ntmps113
  go_wp2_with fail
  refine (hki _).mono ?_
  rintro e wk ⟨rfl,hwk⟩
  rw[hwk];clear hwk wk hki
  go_wp2
  go_ret
  exact ⟨fun h=>absurd h (by decide),fun _=>rfl,(Below.refl _ _).alloc (Nat.le_refl _) _⟩
 ·rw[show Tab.kwL.getD 2 []=[98,114,97,110,99,104] from rfl]at hki
  go_enter Tryz.func113,Tryz.ntmps113
  go_wp2_with fail
  refine (hki _).mono ?_
  rintro e wk ⟨rfl,hwk⟩
  rw[hwk];clear hwk wk hki
  go_wp2
  go_ret
  exact ⟨fun _=>rfl,fun h=>absurd rfl h,(Below.refl _ _).alloc (Nat.le_refl _) _⟩
 ·rw[show Tab.kwL.getD 3 []=[116,114,97,112] from rfl]at hki
  go_enter Tryz.func113,Tryz.ntmps113
  go_wp2_with fail
  refine (hki _).mono ?_
  rintro e wk ⟨rfl,hwk⟩
  rw[hwk];clear hwk wk hki
  go_wp2
  go_ret
  exact ⟨fun h=>absurd h (by decide),fun _=>rfl,(Below.refl _ _).alloc (Nat.le_refl _) _⟩
 ·rw[show Tab.kwL.getD 4 []=[108,111,97,100] from rfl]at hki
  go_enter Tryz.func113,Tryz.ntmps113
  go_wp2_with fail
  refine (hki _).mono ?_
  rintro e wk ⟨rfl,hwk⟩
  rw[hwk];clear hwk wk hki
  go_wp2
  go_ret
  exact ⟨fun h=>absurd h (by decide),fun _=>rfl,(Below.refl _ _).alloc (Nat.le_refl _) _⟩
 ·rw[show Tab.kwL.getD 5 []=[115,116,111,114,101] from rfl]at hki
  go_enter Tryz.func113,Tryz.ntmps113
  go_wp2_with fail
  refine (hki _).mono ?_
  rintro e wk ⟨rfl,hwk⟩
  rw[hwk];clear hwk wk hki
  go_wp2
  go_ret
  exact ⟨fun h=>absurd h (by decide),fun _=>rfl,(Below.refl _ _).alloc (Nat.le_refl _) _⟩
end
structure LR (w0 w W:World) (lb rb:Nat) (pc many at_:Int) (l:List Opx) (v0 v:Value) (c0 c1 c2:Value):Prop where
 f:LAt w0 W lb pc many at_ l v
 kp:LKept w W lb v0 v
 c0:W.cell? ⟨rb,0,none⟩=some c0
 c1:W.cell? ⟨rb,1,none⟩=some c1
 c2:W.cell? ⟨rb,2,none⟩=some c2
 n1:rb≠lb
 n2:v.ownBlock≠some rb
section
variable {w0 w W : World} {lb rb : Nat} {pc many at_ : Int} {l l' : List Opx} {v0 v : Value} {u0 u1 u2 : Value}
theorem LR.pure (B:LR w0 w W lb rb pc many at_ l v0 v u0 u1 u2) {W':World} (h:Below W.heap.size W W'):LR w0 w W' lb rb pc many at_ l v0 v u0 u1 u2 :=
 ⟨B.f.stays h,B.kp.behind h,K.cell_stays h (Nat.le_refl _) B.c0,K.cell_stays h (Nat.le_refl _) B.c1,K.cell_stays h (Nat.le_refl _) B.c2,B.n1,B.n2⟩
theorem LR.add (B:LR w0 w W lb rb pc many at_ l v0 v u0 u1 u2) {W':World} {v':Value} (F:LAt w0 W' lb pc many at_ l' v') (L:LKept W W' lb v v'):LR w0 w W' lb rb pc many at_ l' v0 v' u0 u1 u2 :=
 ⟨F,B.kp.trans L,L.cell B.c0 B.n1 B.n2,L.cell B.c1 B.n1 B.n2,L.cell B.c2 B.n1 B.n2,B.n1,(L.keep rb (World.block_lt_of_cell? _ _ B.c0) B.n1 B.n2).2⟩
theorem LR.done (B:LR w0 w W lb rb pc many at_ l v0 v u0 u1 u2):LP w0 w lb pc many at_ l v0 (.returned (.tuple #[])) W:=⟨rfl,_,B.f,B.kp⟩
end
theorem LR.start {w0 w:World} {lb:Nat} {pc many at_:Int} {l:List Opx} {v:Value} (F:LAt w0 w lb pc many at_ l v) (p:Int) (ao:Option Addr) (n c:Nat) (q:Option Addr) (l2 c2:Nat):LR w0 w (w.alloc (.cells #[.int .u32 p,.slice ao n c,.slice q l2 c2] 59)) lb w.heap.size pc many at_ l v v (.int .u32 p) (.slice ao n c) (.slice q l2 c2) :=
 have hA:Below w.heap.size w (w.alloc (.cells #[.int .u32 p,.slice ao n c,.slice q l2 c2] 59)):=(Below.refl _ _).alloc (Nat.le_refl _) _
 ⟨F.stays hA,LKept.ahead hA (LKept.refl _ _ _),by simp,by simp,by simp,F.lne,F.vlt⟩
section
variable {w0 w : World} {lb : Nat} {pc many at_ : Int} {l : List Opx} {v : Value}
theorem leave_any (F:LAt w0 w lb pc many at_ l v) (hn:l.length≤900) (p0:0≤pc) (p1:pc<4294967296) {rv:Value} {li:List Ix} (A:InsIn w0 rv li) (R:RegOk li) (ha:at_=(li.length:Int)-1) (q:Option Addr) (l2 c2:Nat) :
  Calls Tryz.prog 59 #[.pointer (some ⟨lb,0,none⟩),.agg #[.int .u32 pc,rv,.slice q l2 c2]] w (LP w0 w lb pc many at_ (l++leaveL pc li) v):=by
 have r0:=R.l0
 have r1:=R.l1
 obtain ⟨ao,cap,rfl,hcap,hh⟩:=A.sh
 obtain ⟨b,off,rfl,hcell⟩:=hh (by omega)
 have hli:li.length≤24:=r1
 have hli':(li.length:Int)≤24:=by omega
 have B:Hid _:=LR.start F pc (some ⟨b,off,none⟩) li.length cap q l2 c2
 have hbe:∀ (i:Nat) (o:Ix),li[i]?=some o→∀ W,Below w0.heap.size w0 W→(W.cell? ⟨b,off+i*5,none⟩=some (.int .i64 o.k)∧W.cell? ⟨b,off+i*5+1,none⟩=some (.int .i64 o.s)∧W.cell? ⟨b,off+i*5+2,none⟩=some (.int .i64 o.t)∧W.cell? ⟨b,off+i*5+3,none⟩=some (.int .i64 o.d)∧W.cell? ⟨b,off+i*5+4,none⟩=some (.int .u32 o.m)):=fun i o hi W hB =>
  ix_cells (fun k u hk=>K.cell_stays hB (Nat.le_refl _) (hcell i o hi k u hk))
 have HC:Hid _:=hbe
 have hLen:=fun W=>lenR_any (w:=W) pc (some ⟨b,off,none⟩) li.length cap q l2 c2 (by omega)
 clear F hcell hh hbe
 have hbeh:Hid (IntKind.u32.wrap (pc+IntKind.u32.wrap (4*(li.length:Int)))=lo (pc+4*li.length)):=by
  show _=_
  show (pc+(4*(li.length:Int))%4294967296)%4294967296=(pc+4*li.length)%4294967296
  omega
 generalize hbh:lo (pc+4*(li.length:Int))=be at *
 have hlb:leaveL pc li=match lastBr li with
  | some i=>leaveB i (tgI i (lo (pc+4*((li.length:Int)-2)))) be at_
  | none=>[opx 26 0 0 0 be at_]:=by unfold leaveL;rw[hbh,←ha];cases lastBr li<;>rfl
 rw[hlb]
 clear hlb
 by_cases h2:li.length<2
 ·have e:lastBr li=none:=by unfold lastBr;rw[if_neg (by omega)]
  rw[e]
  clear e
  go_enter Tryz.func59,Tryz.ntmps59
  go_upto_region 1 with fail
  generalize hW:w.alloc (.cells #[.int .u32 pc,.slice (some ⟨b,off,none⟩) li.length cap,.slice q l2 c2] 59)=W at B ⊢
  generalize hib:w.heap.size=rb at B ⊢
  clear hW hib
  have c0:=B.out.c0;have c1:=B.out.c1;have c2':=B.out.c2
  refine zP 7 [(0,0),(1,1),(2,1),(3,2),(4,0),(5,0),(6,0)] (fun W=>W.cell? ⟨rb,0,none⟩=some (.int .u32 pc)∧W.cell? ⟨rb,1,none⟩=some (.slice (some ⟨b,off,none⟩) li.length cap)∧W.cell? ⟨rb,2,none⟩=some (.slice q l2 c2)) (by kernel_rfl) (by kernel_rfl) (fun _ _ _ d _ h=>by cases d<;>exact h) ⟨c0,c1,c2'⟩ ?_
  repeat (first|(refine zF (by rfl) (by rfl) (fun W=>by (go_simp;try with_reducible rfl)) (fun K hK=>?_);go_simp;refine hK _ ?_;clear hK K)|(refine zQ (by rfl) (by rfl) (fun W hW=>by (obtain ⟨d0,d1,d2⟩:=hW;go_simp;try with_reducible rfl)) (fun K hK=>?_);go_simp;refine hK _ ?_;clear hK K))
  refine zSr (by rfl) (by rfl) (fun K hK=>?_)
  go_simp
  refine (hLen _).mono ?_
  rintro e W1 ⟨rfl,hb⟩
  have B1:Hid _:=(B.out.pure ((Below.refl _ _).drew)).pure hb
  clear c0 c1 c2' hb B
  have B:Hid _:=B1.out
  clear B1
  have c0:=B.out.c0;have c1:=B.out.c1;have c2':=B.out.c2
  refine hK _ _ (fun _=>⟨c0,c1,c2'⟩) ?_
  clear hK K
  repeat (first|(refine zF (by rfl) (by rfl) (fun W=>by (go_simp;try with_reducible rfl)) (fun K hK=>?_);go_simp;refine hK _ ?_;clear hK K)|(refine zQ (by rfl) (by rfl) (fun W hW=>by (obtain ⟨d0,d1,d2⟩:=hW;go_simp;try with_reducible rfl)) (fun K hK=>?_);go_simp;refine hK _ ?_;clear hK K))
  refine zN ?_
  go_wp2_with fail
  refine (endsR_few pc (some ⟨b,off,none⟩) li.length cap q l2 c2 h2).mono ?_
  rintro e W2 ⟨rfl,hb⟩
  have B2:Hid _:=B.out.pure hb
  clear c0 c1 c2' hb B
  have B:Hid _:=B2.out
  clear B2
  have c0:=B.out.c0;have c1:=B.out.c1;have c2':=B.out.c2
  rw[hbeh.out]
  go_wp2_with fail
  refine (out_any B.out.f (by omega) be).mono ?_
  rintro e W3 ⟨rfl,v3,F3,L3⟩
  have B3:Hid _:=B.out.add F3 L3
  clear c0 c1 c2' B F3 L3
  have B:Hid _:=B3.out
  clear B3
  have c0:=B.out.c0;have c1:=B.out.c1;have c2':=B.out.c2
  clear c0 c1 c2'
  go_wp2
  go_end0
  have:=B.out.done
  exact this
 have hx:li[li.length-2]?=some li[li.length-2]:=List.getElem?_eq_getElem (by omega)
 have hbx:=A.bd li[li.length-2] (List.getElem_mem (by omega))
 have hI:=(insB_ok (R.ins _ _ hx)).1
 have e:lastBr li=if (li[li.length-2]).kd=2 then some li[li.length-2] else none:=by unfold lastBr;rw[if_pos (by omega),hx]
 rw[e]
 clear e
 have HX:Hid _:=HC.out _ _ hx
 clear HC hx
 generalize li[li.length-2]=x at *
 by_cases hk:x.kd=2
 ·rw[if_pos hk]
  have hk8:=kd_2 x.n hI.k2 (by rw[←hI.kd];exact hk)
  have hkk:=hI.kk
  obtain ⟨k,s,t,d,m⟩:=x
  obtain ⟨n,rfl⟩:∃ n:Nat,k=n:=⟨k.toNat,hkk⟩
  have hm0:=hbx.m0
  have hm1:=hbx.m1
  simp only at hm0 hm1
  have hk8':n=31∨n=32∨n=33∨n=34∨n=7∨n=8∨n=29∨n=30:=by simpa [Ix.n] using hk8
  clear hk8 hbx hI hkk
  have hpc:Hid (IntKind.u32.wrap (pc+IntKind.u32.wrap (4*IntKind.u32.wrap ((li.length:Int)-2)))=lo (pc+4*((li.length:Int)-2))):=by
   show _=_
   show (pc+(4*(((li.length:Int)-2)%4294967296))%4294967296)%4294967296=(pc+4*((li.length:Int)-2))%4294967296
   omega
  have hT:=fun W=>targetC_any (w:=W) n s t d m (lo (pc+4*((li.length:Int)-2))) hm0 hm1
  show Calls _ _ _ _ (LP w0 w lb pc many at_ (l++leaveB ⟨n,s,t,d,m⟩ (tgI ⟨n,s,t,d,m⟩ (lo (pc+4*((li.length:Int)-2)))) be at_) v)
  have HTG:Hid (tgI ⟨n,s,t,d,m⟩ ((pc+4*((li.length-2:Nat):Int))%4294967296)=tgI ⟨n,s,t,d,m⟩ (lo (pc+4*((li.length:Int)-2)))):=by
   show _=_
   have e:((li.length-2:Nat):Int)=(li.length:Int)-2:=by omega
   rw[e];rfl
  generalize htg:tgI ⟨n,s,t,d,m⟩ (lo (pc+4*((li.length:Int)-2)))=tg at *
  have e1:(li.length:Int)-2=((li.length-2:Nat):Int):=by omega
  have hlt:((li.length-2:Nat):Int)<li.length:=by omega
  clear htg
  go_enter Tryz.func59,Tryz.ntmps59
  go_upto_region 1 with fail
  generalize hW:w.alloc (.cells #[.int .u32 pc,.slice (some ⟨b,off,none⟩) li.length cap,.slice q l2 c2] 59)=W at B ⊢
  generalize hib:w.heap.size=rb at B ⊢
  clear hW hib
  have c0:=B.out.c0;have c1:=B.out.c1;have c2':=B.out.c2
  refine zP 7 [(0,0),(1,1),(2,1),(3,2),(4,0),(5,0),(6,0)] (fun W=>W.cell? ⟨rb,0,none⟩=some (.int .u32 pc)∧W.cell? ⟨rb,1,none⟩=some (.slice (some ⟨b,off,none⟩) li.length cap)∧W.cell? ⟨rb,2,none⟩=some (.slice q l2 c2)) (by kernel_rfl) (by kernel_rfl) (fun _ _ _ d _ h=>by cases d<;>exact h) ⟨c0,c1,c2'⟩ ?_
  repeat (first|(refine zF (by rfl) (by rfl) (fun W=>by (go_simp;try with_reducible rfl)) (fun K hK=>?_);go_simp;refine hK _ ?_;clear hK K)|(refine zQ (by rfl) (by rfl) (fun W hW=>by (obtain ⟨d0,d1,d2⟩:=hW;go_simp;try with_reducible rfl)) (fun K hK=>?_);go_simp;refine hK _ ?_;clear hK K))
  refine zSr (by rfl) (by rfl) (fun K hK=>?_)
  go_simp
  refine (hLen _).mono ?_
  rintro e W1 ⟨rfl,hb⟩
  have B1:Hid _:=(B.out.pure ((Below.refl _ _).drew)).pure hb
  clear c0 c1 c2' hb B
  have B:Hid _:=B1.out
  clear B1
  have c0:=B.out.c0;have c1:=B.out.c1;have c2':=B.out.c2
  refine hK _ _ (fun _=>⟨c0,c1,c2'⟩) ?_
  clear hK K
  repeat (first|(refine zF (by rfl) (by rfl) (fun W=>by (go_simp;try with_reducible rfl)) (fun K hK=>?_);go_simp;refine hK _ ?_;clear hK K)|(refine zQ (by rfl) (by rfl) (fun W hW=>by (obtain ⟨d0,d1,d2⟩:=hW;go_simp;try with_reducible rfl)) (fun K hK=>?_);go_simp;refine hK _ ?_;clear hK K))
  refine zN ?_
  go_wp2_with fail
  refine (endsR_in pc b off li.length cap q l2 c2 (by omega) hli ⟨n,s,t,d,m⟩ (HX.out _ B.out.f.be).1).mono ?_
  rintro e W2 ⟨hy,hnn,hb⟩
  obtain rfl:=(hy hk)
  clear hy hnn
  have B2:Hid _:=B.out.pure hb
  clear c0 c1 c2' hb B
  have B:Hid _:=B2.out
  clear B2
  have c0:=B.out.c0;have c1:=B.out.c1;have c2':=B.out.c2
  rw[hbeh.out]
  obtain ⟨y0,y1,y2,y3,y4⟩:=HX.out _ B.out.f.be
  go_upto_region 6 with fail
  have B3:Hid _:=B.out.pure ((Below.refl _ _).alloc (Nat.le_refl _) (.cells #[.int .i64 n,.int .i64 s,.int .i64 t,.int .i64 d,.int .u32 m] 113))
  clear c0 c1 c2' B y0 y1 y2 y3 y4
  have i0:(W2.alloc (.cells #[.int .i64 n,.int .i64 s,.int .i64 t,.int .i64 d,.int .u32 m] 113)).cell? ⟨W2.heap.size,0,none⟩=some (.int .i64 n):=by simp
  have i1:(W2.alloc (.cells #[.int .i64 n,.int .i64 s,.int .i64 t,.int .i64 d,.int .u32 m] 113)).cell? ⟨W2.heap.size,1,none⟩=some (.int .i64 s):=by simp
  have i2:(W2.alloc (.cells #[.int .i64 n,.int .i64 s,.int .i64 t,.int .i64 d,.int .u32 m] 113)).cell? ⟨W2.heap.size,2,none⟩=some (.int .i64 t):=by simp
  have i3:(W2.alloc (.cells #[.int .i64 n,.int .i64 s,.int .i64 t,.int .i64 d,.int .u32 m] 113)).cell? ⟨W2.heap.size,3,none⟩=some (.int .i64 d):=by simp
  have i4:(W2.alloc (.cells #[.int .i64 n,.int .i64 s,.int .i64 t,.int .i64 d,.int .u32 m] 113)).cell? ⟨W2.heap.size,4,none⟩=some (.int .u32 m):=by simp
  generalize W2.alloc (.cells #[.int .i64 n,.int .i64 s,.int .i64 t,.int .i64 d,.int .u32 m] 113)=W3 at *
  generalize W2.heap.size=ib at *
  have B:Hid _:=B3.out
  clear B3
  have c0:=B.out.c0;have c1:=B.out.c1;have c2':=B.out.c2
  go_wp2_with fail
  refine (targetC_any n s t d m _ hm0 hm1).mono ?_
  rintro e W4 ⟨rfl,hb⟩
  rw[HTG.out]
  have B4:Hid _:=B.out.pure hb
  have j0:=K.cell_stays hb (Nat.le_refl _) i0
  clear c0 c1 c2' hb B i0 i1 i2 i3 i4 hT HTG hLen
  have B:Hid _:=B4.out
  clear B4
  have c0:=B.out.c0;have c1:=B.out.c1;have c2':=B.out.c2
  rcases hk8' with rfl|rfl|rfl|rfl|rfl|rfl|rfl|rfl
  ·go_wp2_with fail
   refine (either_any B.out.f (by omega) be tg).mono ?_
   rintro e W5 ⟨rfl,v5,F5,L5⟩
   have B5:Hid _:=B.out.add F5 L5
   clear c0 c1 c2' B F5 L5 j0
   go_wp2
   go_end0
   have:=B5.out.done
   exact this
  ·go_wp2_with fail
   refine (either_any B.out.f (by omega) tg be).mono ?_
   rintro e W5 ⟨rfl,v5,F5,L5⟩
   have B5:Hid _:=B.out.add F5 L5
   clear c0 c1 c2' B F5 L5 j0
   go_wp2
   go_end0
   have:=B5.out.done
   exact this
  ·go_wp2_with fail
   refine (either_any B.out.f (by omega) be tg).mono ?_
   rintro e W5 ⟨rfl,v5,F5,L5⟩
   have B5:Hid _:=B.out.add F5 L5
   clear c0 c1 c2' B F5 L5 j0
   go_wp2
   go_end0
   have:=B5.out.done
   exact this
  ·go_wp2_with fail
   refine (either_any B.out.f (by omega) tg be).mono ?_
   rintro e W5 ⟨rfl,v5,F5,L5⟩
   have B5:Hid _:=B.out.add F5 L5
   clear c0 c1 c2' B F5 L5 j0
   go_wp2
   go_end0
   have:=B5.out.done
   exact this
  ·go_wp2_with fail
   refine (add_any B.out.f (by omega) ⟨#[111,117,116,114]⟩ 0 35 0 0 0).mono ?_
   rintro e W5 ⟨rfl,v5,F5,L5⟩
   have B5:Hid _:=B.out.add F5 L5
   clear c0 c1 c2' B F5 L5 j0
   go_wp2
   go_end0
   have:=B5.out.done
   exact this
  ·go_wp2_with fail
   refine (add_any B.out.f (by omega) ⟨#[111,117,116,114]⟩ 0 35 0 0 0).mono ?_
   rintro e W5 ⟨rfl,v5,F5,L5⟩
   have B5:Hid _:=B.out.add F5 L5
   clear c0 c1 c2' B F5 L5 j0
   go_wp2
   go_end0
   have:=B5.out.done
   exact this
  ·go_wp2_with fail
   refine (out_any B.out.f (by omega) tg).mono ?_
   rintro e W5 ⟨rfl,v5,F5,L5⟩
   have B5:Hid _:=B.out.add F5 L5
   clear c0 c1 c2' B F5 L5 j0
   go_wp2
   go_end0
   have:=B5.out.done
   exact this
  ·go_wp2_with fail
   refine (out_any B.out.f (by omega) tg).mono ?_
   rintro e W5 ⟨rfl,v5,F5,L5⟩
   have B5:Hid _:=B.out.add F5 L5
   clear c0 c1 c2' B F5 L5 j0
   go_wp2
   go_end0
   have:=B5.out.done
   exact this
 ·rw[if_neg hk]
  go_enter Tryz.func59,Tryz.ntmps59
  go_upto_region 1 with fail
  generalize hW:w.alloc (.cells #[.int .u32 pc,.slice (some ⟨b,off,none⟩) li.length cap,.slice q l2 c2] 59)=W at B ⊢
  generalize hib:w.heap.size=rb at B ⊢
  clear hW hib
  have c0:=B.out.c0;have c1:=B.out.c1;have c2':=B.out.c2
  refine zP 7 [(0,0),(1,1),(2,1),(3,2),(4,0),(5,0),(6,0)] (fun W=>W.cell? ⟨rb,0,none⟩=some (.int .u32 pc)∧W.cell? ⟨rb,1,none⟩=some (.slice (some ⟨b,off,none⟩) li.length cap)∧W.cell? ⟨rb,2,none⟩=some (.slice q l2 c2)) (by kernel_rfl) (by kernel_rfl) (fun _ _ _ d _ h=>by cases d<;>exact h) ⟨c0,c1,c2'⟩ ?_
  repeat (first|(refine zF (by rfl) (by rfl) (fun W=>by (go_simp;try with_reducible rfl)) (fun K hK=>?_);go_simp;refine hK _ ?_;clear hK K)|(refine zQ (by rfl) (by rfl) (fun W hW=>by (obtain ⟨d0,d1,d2⟩:=hW;go_simp;try with_reducible rfl)) (fun K hK=>?_);go_simp;refine hK _ ?_;clear hK K))
  refine zSr (by rfl) (by rfl) (fun K hK=>?_)
  go_simp
  refine (hLen _).mono ?_
  rintro e W1 ⟨rfl,hb⟩
  have B1:Hid _:=(B.out.pure ((Below.refl _ _).drew)).pure hb
  clear c0 c1 c2' hb B
  have B:Hid _:=B1.out
  clear B1
  have c0:=B.out.c0;have c1:=B.out.c1;have c2':=B.out.c2
  refine hK _ _ (fun _=>⟨c0,c1,c2'⟩) ?_
  clear hK K
  repeat (first|(refine zF (by rfl) (by rfl) (fun W=>by (go_simp;try with_reducible rfl)) (fun K hK=>?_);go_simp;refine hK _ ?_;clear hK K)|(refine zQ (by rfl) (by rfl) (fun W hW=>by (obtain ⟨d0,d1,d2⟩:=hW;go_simp;try with_reducible rfl)) (fun K hK=>?_);go_simp;refine hK _ ?_;clear hK K))
  refine zN ?_
  go_wp2_with fail
  refine (endsR_in pc b off li.length cap q l2 c2 (by omega) hli x (HX.out _ B.out.f.be).1).mono ?_
  rintro e W2 ⟨hy,hnn,hb⟩
  obtain rfl:=(hnn hk)
  clear hy hnn
  have B2:Hid _:=B.out.pure hb
  clear c0 c1 c2' hb B
  have B:Hid _:=B2.out
  clear B2
  have c0:=B.out.c0;have c1:=B.out.c1;have c2':=B.out.c2
  rw[hbeh.out]
  go_wp2_with fail
  refine (out_any B.out.f (by omega) be).mono ?_
  rintro e W3 ⟨rfl,v3,F3,L3⟩
  have B3:Hid _:=B.out.add F3 L3
  clear c0 c1 c2' B F3 L3
  have B:Hid _:=B3.out
  clear B3
  have c0:=B.out.c0;have c1:=B.out.c1;have c2':=B.out.c2
  clear c0 c1 c2'
  go_wp2
  go_end0
  have:=B.out.done
  exact this
end
theorem insXs_snoc {pc:Int} {l:List Ix} {j:Nat} {x:Ix} (h:l[j]?=some x):insXs pc (l.take (j+1)) 0=insXs pc (l.take j) 0++insX pc x j:=by
 have hj:=(List.getElem?_eq_some_iff.1 h).1
 rw[List.take_add_one,h,insXs_app]
 have e:((l.take j).length:Int)=j:=by rw[List.length_take];omega
 rw[e]
 simp[insXs]
theorem LAt.at {w0 w:World} {lb:Nat} {pc many a:Int} {l:List Opx} {v:Value} (F:LAt w0 w lb pc many a l v) (x:Int):LAt w0 (w.setCell ⟨lb,3,none⟩ (.int .i64 x)) lb pc many x l v:=by
 have oth:∀ (j:Nat) (u:Value),j≠3→w.cell? ⟨lb,j,none⟩=some u→(w.setCell ⟨lb,3,none⟩ (.int .i64 x)).cell? ⟨lb,j,none⟩=some u:=fun j u hj e=>by
  rw[World.cell?_setCell_other _ _ _ _ (by intro e;injection e with e1 e2;exact hj e2.symm)];exact e
 exact ⟨oth 0 _ (by omega) F.c0,oth 1 _ (by omega) F.c1,oth 2 _ (by omega) F.c2,World.cell?_setCell_same _ _ _ F.c3,fun j=>by rw[World.frozen?_setCell];exact F.fz j,
  owns_blocks F.row fun k e=>Below.heap_setCell w ⟨lb,3,none⟩ _ k (F.vb k e),F.be.setCell F.lf _,F.lf,F.vb⟩
theorem LAt.opsIn {w0 w:World} {lb:Nat} {pc many a:Int} {l:List Opx} {v:Value} (F:LAt w0 w lb pc many a l v) (ok:∀ o∈l,o.ok):OpsIn w v l:=by
 rcases F.row.2 with ⟨rfl,hl⟩|⟨g,cap,cur,rfl,hb,hg,hc,hm,hs,ht⟩
 ·exact ⟨⟨none,0,by rw[hl],by omega,fun h=>by omega⟩,ok⟩
 ·refine ⟨⟨some ⟨g,0,none⟩,cap,rfl,hc,fun _=>⟨g,0,rfl,fun i o hi j u hj=>?_⟩⟩,ok⟩
  have hj6:j<6:=by
   rcases Nat.lt_or_ge j 6 with h|h
   ·exact h
   ·rw[List.getElem?_eq_none (by simpa [opC] using h)]at hj;cases hj
  have:=F.row.cells (g:=g) rfl (i*6+j) u (by rw[opL_get l i o j hi hj6];exact hj)
  rw[add_lit]at this
  rwa [show 0+i*6+j=i*6+j by omega]
theorem lowL_ok {pc:Int} (p0:0≤pc) (p1:pc<4294967296) {l:List Ix} (R:RegOk l) (bd:∀ i∈l,i.bd):∀ o∈lowL pc l,o.ok:=by
 have W:=lowL_well pc R
 have hops:=W.ops
 have hm:=R.l1
 -- the numbers but Imm by what is well;Imm by how it was made
 have himm:∀ o∈lowL pc l,0≤o.i∧o.i<4294967296:=by
  have z:∀ x:Int,0≤lo x∧lo x<4294967296:=fun x=>lo_bd x
  have wr:∀ {o p:Opx},o∈wrO p→(0≤p.i∧p.i<4294967296)→0≤o.i∧o.i<4294967296:=fun {o p} ho hp=>by
   unfold wrO at ho;split at ho
   ·cases ho
   ·simp only[List.mem_singleton]at ho;subst ho;exact hp
  have z0:(0:Int)≤0∧(0:Int)<4294967296:=by omega
  have one:∀ (i:Ix) (n:Int),i.bd→∀ o∈insX pc i n,0≤o.i∧o.i<4294967296:=by
   intro i n b o ho
   have hI:=immX_bd (k:=i.n) b.m0 b.m1
   have hres:o∈resL i n→0≤o.i∧o.i<4294967296:=by
    intro ho
    unfold resL at ho
    split at ho
    ·cases ho
    simp only[List.mem_append]at ho
    rcases ho with (ho|ho)|ho
    ·split at ho
     ·simp only[List.mem_singleton]at ho;subst ho;exact hI
     ·cases ho
    ·split at ho
     ·cases ho
     ·simp only[List.mem_singleton]at ho;subst ho;exact z0
    ·exact wr ho z0
   have hhl:∀ {a c:Nat},o∈hiLoL a c i n→0≤o.i∧o.i<4294967296:=fun h=>by
    unfold hiLoL at h;simp only[List.mem_cons,List.not_mem_nil,or_false]at h;rcases h with rfl|rfl<;>exact z0
   unfold insX at ho
   split at ho
   ·unfold brL at ho
    simp only[List.mem_append]at ho
    rcases ho with ho|ho
    ·split at ho
     ·simp only[List.mem_singleton]at ho;subst ho;exact z0
     split at ho
     ·simp only[List.mem_singleton]at ho;subst ho;exact z0
     split at ho
     ·simp only[List.mem_singleton]at ho;subst ho;exact z0
     ·cases ho
    ·split at ho
     ·simp only[List.mem_singleton]at ho;subst ho;exact z _
     split at ho
     ·exact wr ho (z _)
     ·cases ho
   split at ho
   ·unfold ldL at ho;simp only[List.mem_singleton]at ho;subst ho;exact hI
   split at ho
   ·unfold stL at ho;simp only[List.mem_singleton]at ho;subst ho;exact hI
   unfold sumL at ho
   split at ho
   ·exact hhl ho
   split at ho
   ·exact hhl ho
   split at ho
   ·exact hhl ho
   split at ho
   ·exact hhl ho
   split at ho
   ·exact wr ho z0
   split at ho
   ·exact wr ho z0
   split at ho
   ·simp only[List.mem_singleton]at ho;subst ho;exact z0
   split at ho
   ·simp only[List.mem_singleton]at ho;subst ho;exact z0
   split at ho
   ·exact wr ho (z _)
   ·exact hres ho
  have all:∀ (l:List Ix) (n:Int),(∀ i∈l,i.bd)→∀ o∈insXs pc l n,0≤o.i∧o.i<4294967296:=by
   intro l
   induction l with
   | nil=>intro n _ o ho;cases ho
   | cons i l ih =>
    intro n hb o ho
    have ho':o∈insX pc i n++insXs pc l (n+1):=ho
    rw[List.mem_append]at ho'
    rcases ho' with h|h
    ·exact one i n (hb i (by simp)) o h
    ·exact ih (n+1) (fun q hq=>hb q (by simp[hq])) o h
  intro o ho
  unfold lowL at ho
  rw[List.mem_append]at ho
  rcases ho with ho|ho
  ·exact all l 0 bd o ho
  ·have zt:∀ (i:Ix) (a:Int),i.bd→0≤tgI i a∧tgI i a<4294967296:=by
    intro i a b
    unfold tgI
    split
    ·rw[u32_and _ _ (lo_bd _).1 (lo_bd _).2 (by omega) (by omega)]
     have ha:=Nat.and_lt_two_pow (n:=32) (lo (a+4)).toNat (show (4026531840:Int).toNat<2^32 by decide)
     rw[u32_or _ _ (by omega) (by omega) (lo_bd _).1 (lo_bd _).2]
     have hb:=lo_bd (4*i.m)
     have h:=Nat.or_lt_two_pow (n:=32) (show (((lo (a+4)).toNat &&& (4026531840:Int).toNat:Nat):Int).toNat<2^32 by omega) (show (lo (4*i.m)).toNat<2^32 by omega)
     omega
    ·exact lo_bd _
   unfold leaveL at ho
   split at ho
   ·rename_i i hi
    have hbi:i.bd:=by
     unfold lastBr at hi
     split at hi
     ·split at hi
      ·rename_i j hj
       split at hi
       ·cases hi;exact bd _ (List.mem_of_getElem? hj)
       ·cases hi
      ·cases hi
     ·cases hi
    unfold leaveB at ho
    split at ho
    ·simp only[List.mem_cons,List.not_mem_nil,or_false]at ho;rcases ho with rfl|rfl
     ·exact zt _ _ hbi
     ·exact lo_bd _
    split at ho
    ·simp only[List.mem_cons,List.not_mem_nil,or_false]at ho;rcases ho with rfl|rfl
     ·exact lo_bd _
     ·exact zt _ _ hbi
    split at ho
    ·simp only[List.mem_singleton]at ho;subst ho;exact z0
    ·simp only[List.mem_singleton]at ho;subst ho;exact zt _ _ hbi
   ·simp only[List.mem_singleton]at ho;subst ho;exact lo_bd _
 have hw:∀ (q:List Opx) (ah:Int),wellL l.length ah q→∀ o∈q,opE o l.length=0:=by
  intro q
  induction q with
  | nil=>intro _ _ o ho;cases ho
  | cons p q ih =>
   intro ah h o ho
   simp only[List.mem_cons]at ho
   rcases ho with rfl|ho
   ·exact h.1
   ·exact ih _ h.2.2.2 o ho
 intro o ho
 have hE:=hw _ 0 hops o ho
 obtain ⟨hk,hb,hs⟩:=opE_zero.1 hE
 obtain ⟨hi0,hi1⟩:=himm o ho
 unfold bndB at hb
 simp only[Bool.and_eq_true,decide_eq_true_eq]at hb
 obtain ⟨⟨⟨⟨hd,ha⟩,hbb⟩,ht0⟩,ht1⟩:=hb
 unfold shpB at hs
 simp only[Bool.and_eq_true,Bool.or_eq_true,decide_eq_true_eq]at hs
 obtain ⟨⟨⟨sd,sa⟩,sb⟩,_⟩:=hs
 have num:∀ (r:Nat) (n:Int),r≤4→alw r n=true→(r≠0∨n=0)→-64≤n∧n≤64:=by
  intro r n hr h1 h2
  unfold alw at h1
  split at h1
  ·simp at h1;omega
  split at h1
  ·simp at h1;omega
  split at h1
  ·simp at h1;omega
  split at h1
  ·simp at h1;omega
  ·rcases h2 with h2|h2<;>omega
 have rl:=role_le o.k
 have g1:=num _ _ rl.1 hd sd
 have g2:=num _ _ rl.2.1 ha sa
 have g3:=num _ _ rl.2.2 hbb sb
 exact ⟨by omega,by omega,by omega,by omega,by omega,by omega,hi0,hi1,by omega,by omega⟩
set_option maxHeartbeats 8000000
theorem lower_bad {pe:Nat→Addr} {w:World} (V:Lv pe w) {v:Value} {l:List Ix} (A:InsIn w v l) (hl:(l.length:Int)≤9223372036854775807) (pc:Int) (q:Option Addr) (l2 c2:Nat) (hE:regE l≠0) :
  Calls Tryz.prog 18 #[.agg #[.int .u32 pc,v,.slice q l2 c2]] w fun e w'=>e=.returned (.tuple #[.agg #[.int .u32 0,.int .i64 0,.slice none 0 0],erV pe (regE l)])∧Below w.heap.size w w':=by
 have hB0:Below w.heap.size w ((w.alloc (.cells #[.int .u32 pc,v,.slice q l2 c2] 59)).alloc (.cells #[.int .u32 0,.int .i64 0,.slice none 0 0] 54)):=((Below.refl _ _).alloc (Nat.le_refl _) _).alloc (by simp) _
 have hck:=checkRegion_any (V.stays hB0 (Nat.le_refl _)) (A.stays hB0 (Nat.le_refl _)) hl pc q l2 c2
 have he:erV pe (regE l)=.iface 332 (.pointer (some (pe (regE l)))):=by unfold erV;rw[if_neg (by omega)];rfl
 rw[he]at hck ⊢
 obtain ⟨ao,cap,rfl,_⟩:=A.sh
 have hz0:((w.alloc (.cells #[.int .u32 pc,.slice ao l.length cap,.slice q l2 c2] 59)).alloc (.cells #[.int .u32 0,.int .i64 0,.slice none 0 0] 54)).cell? ⟨w.heap.size+1,0,none⟩=some (.int .u32 0):=by simp
 have hz1:((w.alloc (.cells #[.int .u32 pc,.slice ao l.length cap,.slice q l2 c2] 59)).alloc (.cells #[.int .u32 0,.int .i64 0,.slice none 0 0] 54)).cell? ⟨w.heap.size+1,1,none⟩=some (.int .i64 0):=by simp
 have hz2:((w.alloc (.cells #[.int .u32 pc,.slice ao l.length cap,.slice q l2 c2] 59)).alloc (.cells #[.int .u32 0,.int .i64 0,.slice none 0 0] 54)).cell? ⟨w.heap.size+1,2,none⟩=some (.slice none 0 0):=by simp
 have hzf:∀ j,((w.alloc (.cells #[.int .u32 pc,.slice ao l.length cap,.slice q l2 c2] 59)).alloc (.cells #[.int .u32 0,.int .i64 0,.slice none 0 0] 54)).frozen? ⟨w.heap.size+1,j,none⟩=false:=fun j=>by simp
 clear V A hE he
 generalize regE l=E at *
 go_enter Tryz.func18,Tryz.ntmps18
 go_wp2_with fail
 generalize (w.alloc (.cells #[.int .u32 pc,.slice ao l.length cap,.slice q l2 c2] 59)).alloc (.cells #[.int .u32 0,.int .i64 0,.slice none 0 0] 54)=V at *
 refine hck.mono ?_
 rintro e w1 ⟨rfl,hb1⟩
 have HB:Hid (Below w.heap.size w w1):=hB0.trans (hb1.mono (by have:=hB0.size;omega))
 have hlt:w.heap.size+1<V.heap.size:=World.block_lt_of_cell? _ _ hz0
 have z0:=K.cell_stays hb1 (Nat.le_refl _) hz0
 have z1:=K.cell_stays hb1 (Nat.le_refl _) hz1
 have z2:=K.cell_stays hb1 (Nat.le_refl _) hz2
 have fz:∀ j,w1.frozen? ⟨w.heap.size+1,j,none⟩=false:=fun j=>(hb1.frozen (p:=⟨w.heap.size+1,j,none⟩) hlt).trans (hzf j)
 have hz:w.heap.size+1<w1.heap.size:=World.block_lt_of_cell? _ _ z0
 clear hck hb1 hz0 hz1 hz2 hzf hB0
 go_wp2
 obtain ⟨y0,y1,y2⟩:=put3 (v0:=.int .u32 0) (v1:=.int .i64 0) (v2:=.slice none 0 0) z0 z1 z2
 refine bodyPost_ret (results_cell1 (A:=⟨w.heap.size+1,0,none⟩) rfl _ _ _ rfl (code_load y0 y1 y2)) rfl ?_
 exact ⟨rfl,((HB.out.setCell (p:=⟨w.heap.size+1,0,none⟩) (by show _≤w.heap.size+1;omega) _).setCell (p:=⟨w.heap.size+1,1,none⟩) (by show _≤w.heap.size+1;omega) _).setCell (p:=⟨w.heap.size+1,2,none⟩) (by show _≤w.heap.size+1;omega) _⟩
structure LL (w W:World) (lb rb:Nat) (pc n a:Int) (l:List Opx) (v:Value) (u0 u1 u2:Value):Prop where
 f:LAt w W lb pc n a l v
 c0:W.cell? ⟨rb,0,none⟩=some u0
 c1:W.cell? ⟨rb,1,none⟩=some u1
 c2:W.cell? ⟨rb,2,none⟩=some u2
 z0:W.cell? ⟨rb+1,0,none⟩=some (.int .u32 0)
 z1:W.cell? ⟨rb+1,1,none⟩=some (.int .i64 0)
 z2:W.cell? ⟨rb+1,2,none⟩=some (.slice none 0 0)
 fz:∀ j,W.frozen? ⟨rb+1,j,none⟩=false
 n1:rb≠lb
 n2:rb+1≠lb
 n3:v.ownBlock≠some rb
 n4:v.ownBlock≠some (rb+1)
section
variable {w W : World} {lb rb : Nat} {pc n a : Int} {l l' : List Opx} {v : Value} {u0 u1 u2 : Value}
theorem LL.lt (B:LL w W lb rb pc n a l v u0 u1 u2):rb+1<W.heap.size:=World.block_lt_of_cell? _ _ B.z0
theorem LL.pure (B:LL w W lb rb pc n a l v u0 u1 u2) {W':World} (h:Below W.heap.size W W'):LL w W' lb rb pc n a l v u0 u1 u2 :=
 ⟨B.f.stays h,K.cell_stays h (Nat.le_refl _) B.c0,K.cell_stays h (Nat.le_refl _) B.c1,K.cell_stays h (Nat.le_refl _) B.c2,K.cell_stays h (Nat.le_refl _) B.z0,K.cell_stays h (Nat.le_refl _) B.z1,K.cell_stays h (Nat.le_refl _) B.z2,fun j=>(h.frozen (p:=⟨rb+1,j,none⟩) B.lt).trans (B.fz j),B.n1,B.n2,B.n3,B.n4⟩
theorem LL.add (B:LL w W lb rb pc n a l v u0 u1 u2) {W':World} {v':Value} (F:LAt w W' lb pc n a l' v') (L:LKept W W' lb v v'):LL w W' lb rb pc n a l' v' u0 u1 u2 :=
 ⟨F,L.cell B.c0 B.n1 B.n3,L.cell B.c1 B.n1 B.n3,L.cell B.c2 B.n1 B.n3,L.cell B.z0 B.n2 B.n4,L.cell B.z1 B.n2 B.n4,L.cell B.z2 B.n2 B.n4,
  fun j=>(World.frozen?_of_block (a:=⟨rb+1,j,none⟩) (L.keep (rb+1) (World.block_lt_of_cell? _ _ B.z0) B.n2 B.n4).1).trans (B.fz j),B.n1,B.n2,(L.keep rb (World.block_lt_of_cell? _ _ B.c0) B.n1 B.n3).2,(L.keep (rb+1) (World.block_lt_of_cell? _ _ B.z0) B.n2 B.n4).2⟩
theorem LL.at (B:LL w W lb rb pc n a l v u0 u1 u2) (x:Int):LL w (W.setCell ⟨lb,3,none⟩ (.int .i64 x)) lb rb pc n x l v u0 u1 u2:=by
 have o:∀ (b j:Nat) (u:Value),b≠lb→W.cell? ⟨b,j,none⟩=some u→(W.setCell ⟨lb,3,none⟩ (.int .i64 x)).cell? ⟨b,j,none⟩=some u:=fun b j u hb e=>by
  rw[World.cell?_of_block (a:=⟨b,j,none⟩) (Below.heap_setCell W ⟨lb,3,none⟩ _ b hb)];exact e
 exact ⟨B.f.at x,o _ _ _ B.n1 B.c0,o _ _ _ B.n1 B.c1,o _ _ _ B.n1 B.c2,o _ _ _ B.n2 B.z0,o _ _ _ B.n2 B.z1,o _ _ _ B.n2 B.z2,fun j=>by rw[World.frozen?_setCell];exact B.fz j,B.n1,B.n2,B.n3,B.n4⟩
end
theorem _root_.Go.Proofs.YtflagpkmebdckaaGreatDoor.OpsIn.block {W W':World} {v:Value} {l:List Opx} (A:OpsIn W v l) (h:∀ k,v.ownBlock=some k→W'.heap[k]?=W.heap[k]?):OpsIn W' v l:=by
 obtain ⟨ao,cap,rfl,hc,hh⟩:=A.sh
 refine ⟨⟨ao,cap,rfl,hc,fun hp=>?_⟩,A.ok⟩
 obtain ⟨b,off,rfl,hcell⟩:=hh hp
 exact ⟨b,off,rfl,fun i o hi j u hj=>(World.cell?_of_block (a:=⟨b,off+i*6+j,none⟩) (h b rfl)).trans (hcell i o hi j u hj)⟩
def LowPost (w:World) (pc:Int) (li:List Ix) (e:Ending) (w':World):Prop :=
 ∃ v,e=.returned (.tuple #[.agg #[.int .u32 pc,.int .i64 li.length,v],.nilIface])∧OpsIn w' v (lowL pc li)∧Below w.heap.size w w'
theorem lower_ok {pe:Nat→Addr} {w:World} (V:Lv pe w) {v:Value} {l:List Ix} (A:InsIn w v l) (pc:Int) (p0:0≤pc) (p1:pc<4294967296) (q:Option Addr) (l2 c2:Nat) (hE:regE l=0) :
  Calls Tryz.prog 18 #[.agg #[.int .u32 pc,v,.slice q l2 c2]] w (LowPost w pc l):=by
 have R:=regE_zero hE
 have hB0:Below w.heap.size w ((w.alloc (.cells #[.int .u32 pc,v,.slice q l2 c2] 59)).alloc (.cells #[.int .u32 0,.int .i64 0,.slice none 0 0] 54)):=((Below.refl _ _).alloc (Nat.le_refl _) _).alloc (by simp) _
 have hck:=checkRegion_any (V.stays hB0 (Nat.le_refl _)) (A.stays hB0 (Nat.le_refl _)) (by have:=R.l1;omega) pc q l2 c2
 have he:erV pe (regE l)=.nilIface:=by rw[hE];rfl
 rw[he]at hck
 have HA:Hid _:=A
 have HR:Hid _:=R
 have l0:=R.l0
 have l1:=R.l1
 obtain ⟨ao,cap,rfl,hcap,hh⟩:=A.sh
 obtain ⟨b,off,rfl,hcell⟩:=hh (by omega)
 have HC:Hid (∀ (i:Nat) (o:Ix),l[i]?=some o→∀ W,Below w.heap.size w W→(W.cell? ⟨b,off+i*5,none⟩=some (.int .i64 o.k)∧W.cell? ⟨b,off+i*5+1,none⟩=some (.int .i64 o.s)∧W.cell? ⟨b,off+i*5+2,none⟩=some (.int .i64 o.t)∧W.cell? ⟨b,off+i*5+3,none⟩=some (.int .i64 o.d)∧W.cell? ⟨b,off+i*5+4,none⟩=some (.int .u32 o.m))):=fun i o hi W hB =>
  ix_cells (fun k u hk=>K.cell_stays hB (Nat.le_refl _) (hcell i o hi k u hk))
 clear hcell hh
 have hw:((w.alloc (.cells #[.int .u32 pc,.slice (some ⟨b,off,none⟩) l.length cap,.slice q l2 c2] 59)).alloc (.cells #[.int .u32 0,.int .i64 0,.slice none 0 0] 54)).heap.size=w.heap.size+2:=by simp
 have hz0:((w.alloc (.cells #[.int .u32 pc,.slice (some ⟨b,off,none⟩) l.length cap,.slice q l2 c2] 59)).alloc (.cells #[.int .u32 0,.int .i64 0,.slice none 0 0] 54)).cell? ⟨w.heap.size+1,0,none⟩=some (.int .u32 0):=by simp
 have hz1:((w.alloc (.cells #[.int .u32 pc,.slice (some ⟨b,off,none⟩) l.length cap,.slice q l2 c2] 59)).alloc (.cells #[.int .u32 0,.int .i64 0,.slice none 0 0] 54)).cell? ⟨w.heap.size+1,1,none⟩=some (.int .i64 0):=by simp
 have hz2:((w.alloc (.cells #[.int .u32 pc,.slice (some ⟨b,off,none⟩) l.length cap,.slice q l2 c2] 59)).alloc (.cells #[.int .u32 0,.int .i64 0,.slice none 0 0] 54)).cell? ⟨w.heap.size+1,2,none⟩=some (.slice none 0 0):=by simp
 have hzf:∀ j,((w.alloc (.cells #[.int .u32 pc,.slice (some ⟨b,off,none⟩) l.length cap,.slice q l2 c2] 59)).alloc (.cells #[.int .u32 0,.int .i64 0,.slice none 0 0] 54)).frozen? ⟨w.heap.size+1,j,none⟩=false:=fun j=>by simp
 have hr0:((w.alloc (.cells #[.int .u32 pc,.slice (some ⟨b,off,none⟩) l.length cap,.slice q l2 c2] 59)).alloc (.cells #[.int .u32 0,.int .i64 0,.slice none 0 0] 54)).cell? ⟨w.heap.size,0,none⟩=some (.int .u32 pc):=by simp
 have hr1:((w.alloc (.cells #[.int .u32 pc,.slice (some ⟨b,off,none⟩) l.length cap,.slice q l2 c2] 59)).alloc (.cells #[.int .u32 0,.int .i64 0,.slice none 0 0] 54)).cell? ⟨w.heap.size,1,none⟩=some (.slice (some ⟨b,off,none⟩) l.length cap):=by simp
 have hr2:((w.alloc (.cells #[.int .u32 pc,.slice (some ⟨b,off,none⟩) l.length cap,.slice q l2 c2] 59)).alloc (.cells #[.int .u32 0,.int .i64 0,.slice none 0 0] 54)).cell? ⟨w.heap.size,2,none⟩=some (.slice q l2 c2):=by simp
 clear A hE he V R
 go_enter Tryz.func18,Tryz.ntmps18
 go_wp2_with fail
 generalize (w.alloc (.cells #[.int .u32 pc,.slice (some ⟨b,off,none⟩) l.length cap,.slice q l2 c2] 59)).alloc (.cells #[.int .u32 0,.int .i64 0,.slice none 0 0] 54)=V at *
 refine hck.mono ?_
 rintro e w1 ⟨rfl,hb1⟩
 have hB1:Below w.heap.size w w1:=hB0.trans (hb1.mono (by have:=hB0.size;omega))
 have hlt:w.heap.size+1<V.heap.size:=World.block_lt_of_cell? _ _ hz0
 have z0:=K.cell_stays hb1 (Nat.le_refl _) hz0
 have z1:=K.cell_stays hb1 (Nat.le_refl _) hz1
 have z2:=K.cell_stays hb1 (Nat.le_refl _) hz2
 have r0:=K.cell_stays hb1 (Nat.le_refl _) hr0
 have r1:=K.cell_stays hb1 (Nat.le_refl _) hr1
 have r2:=K.cell_stays hb1 (Nat.le_refl _) hr2
 have fz:∀ j,w1.frozen? ⟨w.heap.size+1,j,none⟩=false:=fun j=>(hb1.frozen (p:=⟨w.heap.size+1,j,none⟩) hlt).trans (hzf j)
 have hz:w.heap.size+1<w1.heap.size:=World.block_lt_of_cell? _ _ z0
 have hA1:Below w1.heap.size w1 (w1.alloc (.cells #[.int .u32 pc,.int .i64 l.length,.slice none 0 0,.int .i64 0] 127)):=(Below.refl _ _).alloc (Nat.le_refl _) _
 have FF:LAt w (w1.alloc (.cells #[.int .u32 pc,.int .i64 l.length,.slice none 0 0,.int .i64 0] 127)) w1.heap.size pc l.length 0 [] (.slice none 0 0) :=
  ⟨by simp,by simp,by simp,by simp,fun j=>by simp,⟨rfl,Or.inl ⟨rfl,rfl⟩⟩,hB1.alloc (by omega) _,by omega,(fun k h=>by cases h)⟩
 have B:Hid (LL w (w1.alloc (.cells #[.int .u32 pc,.int .i64 l.length,.slice none 0 0,.int .i64 0] 127)) w1.heap.size w.heap.size pc l.length 0 [] (.slice none 0 0) (.int .u32 pc) (.slice (some ⟨b,off,none⟩) l.length cap) (.slice q l2 c2)) :=
  ⟨FF,K.cell_stays hA1 (Nat.le_refl _) r0,K.cell_stays hA1 (Nat.le_refl _) r1,K.cell_stays hA1 (Nat.le_refl _) r2,K.cell_stays hA1 (Nat.le_refl _) z0,K.cell_stays hA1 (Nat.le_refl _) z1,K.cell_stays hA1 (Nat.le_refl _) z2,fun j=>(hA1.frozen (p:=⟨w.heap.size+1,j,none⟩) hz).trans (fz j),by omega,by omega,(fun h=>by cases h),(fun h=>by cases h)⟩
 clear hck hb1 hz0 hz1 hz2 hzf hB0 hr0 hr1 hr2 FF hA1 hB1 hlt hw
 go_upto_region 5 with fail
 generalize w1.alloc (.cells #[.int .u32 pc,.int .i64 l.length,.slice none 0 0,.int .i64 0] 127)=W0 at *
 generalize w1.heap.size=lb at *
 clear z0 z1 z2 r0 r1 r2 fz
 have c1:=B.out.c1
 have hl24:(l.length:Int)≤24:=by omega
 go_wp2
 clear c1
 go_loopw [25] (fun i wr=>∃ j:Nat,j≤l.length∧i=.int .i64 j∧∃ a v,LL w wr lb w.heap.size pc l.length a (insXs pc (l.take j) 0) v (.int .u32 pc) (.slice (some ⟨b,off,none⟩) l.length cap) (.slice q l2 c2)∧(0<j→a=(j:Int)-1)) (fun i _=>l.length-(intOf i).toNat)
 case atStart=>exact ⟨0,Nat.zero_le _,rfl,0,_,B.out,fun h=>absurd h (by omega)⟩
 case round =>
  obtain ⟨j,hj,rfl,a,v,B1,ha⟩:=hrel
  have HB:Hid _:=B1
  clear B1 B
  by_cases hlt:j<l.length
  ·have ho:l[j]?=some l[j]:=List.getElem?_eq_getElem hlt
   obtain ⟨x0,x1,x2,x3,x4⟩:=HC.out j _ ho _ HB.out.f.be
   have hbx:=HA.out.bd l[j] (List.getElem_mem hlt)
   have hI:=(insB_ok (HR.out.ins j _ ho)).1
   have HS:Hid _:=insXs_snoc (pc:=pc) ho
   have hlen:Hid ((insXs pc (l.take j) 0).length≤900):=by
    show _≤_
    have:=insXs_len pc (l.take j) 0
    have h2:(l.take j).length≤j:=List.length_take_le _ _
    omega
   have hlt':(j:Int)<l.length:=by omega
   have m0:=hbx.m0
   have m1:=hbx.m1
   have hk2:=hI.k2
   have hkk:=hI.kk
   have hkd:=hI.kd
   have hnt:=hI.nt
   clear ho hbx hI
   generalize l[j]=x at *
   obtain ⟨k,s,t,d,m⟩:=x
   obtain ⟨n,rfl⟩:∃ n:Nat,k=n:=⟨k.toNat,hkk⟩
   have hn54:n<54:=by simpa [Ix.n] using hk2
   have hn3:Tab.kdL.getD n 0≠3:=by
    have e:Ix.kd ⟨n,s,t,d,m⟩=Tab.kdL.getD n 0:=by rw[hkd];simp[Ix.n]
    rw[←e];exact hnt
   simp only at x0 x1 x2 x3 x4 m0 m1
   clear hkk hkd hnt hk2
   have k3:=HB.out.f.c3
   have f3:=HB.out.f.fz 3
   have hlb:=HB.out.f.lt
   go_upto_region 9 with fail
   have B2:Hid (LL w ((wr.setCell ⟨lb,3,none⟩ (.int .i64 j)).alloc (.cells #[.int .i64 n,.int .i64 s,.int .i64 t,.int .i64 d,.int .u32 m] 113)) lb w.heap.size pc l.length j (insXs pc (l.take j) 0) v (.int .u32 pc) (.slice (some ⟨b,off,none⟩) l.length cap) (.slice q l2 c2)):=(HB.out.at j).pure ((Below.refl _ _).alloc (Nat.le_refl _) _)
   have i0:((wr.setCell ⟨lb,3,none⟩ (.int .i64 j)).alloc (.cells #[.int .i64 n,.int .i64 s,.int .i64 t,.int .i64 d,.int .u32 m] 113)).cell? ⟨wr.heap.size,0,none⟩=some (.int .i64 n):=by
    rw[show wr.heap.size=(wr.setCell ⟨lb,3,none⟩ (.int .i64 j)).heap.size from by simp]
    generalize wr.setCell ⟨lb,3,none⟩ (.int .i64 j)=Y
    simp
   have i1:((wr.setCell ⟨lb,3,none⟩ (.int .i64 j)).alloc (.cells #[.int .i64 n,.int .i64 s,.int .i64 t,.int .i64 d,.int .u32 m] 113)).cell? ⟨wr.heap.size,1,none⟩=some (.int .i64 s):=by
    rw[show wr.heap.size=(wr.setCell ⟨lb,3,none⟩ (.int .i64 j)).heap.size from by simp]
    generalize wr.setCell ⟨lb,3,none⟩ (.int .i64 j)=Y
    simp
   have i2:((wr.setCell ⟨lb,3,none⟩ (.int .i64 j)).alloc (.cells #[.int .i64 n,.int .i64 s,.int .i64 t,.int .i64 d,.int .u32 m] 113)).cell? ⟨wr.heap.size,2,none⟩=some (.int .i64 t):=by
    rw[show wr.heap.size=(wr.setCell ⟨lb,3,none⟩ (.int .i64 j)).heap.size from by simp]
    generalize wr.setCell ⟨lb,3,none⟩ (.int .i64 j)=Y
    simp
   have i3:((wr.setCell ⟨lb,3,none⟩ (.int .i64 j)).alloc (.cells #[.int .i64 n,.int .i64 s,.int .i64 t,.int .i64 d,.int .u32 m] 113)).cell? ⟨wr.heap.size,3,none⟩=some (.int .i64 d):=by
    rw[show wr.heap.size=(wr.setCell ⟨lb,3,none⟩ (.int .i64 j)).heap.size from by simp]
    generalize wr.setCell ⟨lb,3,none⟩ (.int .i64 j)=Y
    simp
   have i4:((wr.setCell ⟨lb,3,none⟩ (.int .i64 j)).alloc (.cells #[.int .i64 n,.int .i64 s,.int .i64 t,.int .i64 d,.int .u32 m] 113)).cell? ⟨wr.heap.size,4,none⟩=some (.int .u32 m):=by
    rw[show wr.heap.size=(wr.setCell ⟨lb,3,none⟩ (.int .i64 j)).heap.size from by simp]
    generalize wr.setCell ⟨lb,3,none⟩ (.int .i64 j)=Y
    simp
   clear HB k3 f3 hlb x0 x1 x2 x3 x4
   generalize (wr.setCell ⟨lb,3,none⟩ (.int .i64 j)).alloc (.cells #[.int .i64 n,.int .i64 s,.int .i64 t,.int .i64 d,.int .u32 m] 113)=W2 at *
   generalize wr.heap.size=ib at *
   go_wp2_with fail
   refine (lower_any B2.out.f hlen.out p0 p1 (by omega) (by omega) n hn54 s t d m m0 m1 hn3).mono ?_
   rintro e W3 ⟨rfl,v3,F3,L3⟩
   have B3:Hid _:=B2.out.add F3 L3
   clear F3 L3 B2 i0 i1 i2 i3 i4
   go_wp2
   go_roundw
   case rel=>exact ⟨j+1,by omega,by go_num,j,v3,by rw[HS.out];exact B3.out,fun _=>by omega⟩
   case measure=>simp[intOf];omega
  ·obtain rfl:j=l.length:=by omega
   have ea:a=(l.length:Int)-1:=ha (by omega)
   have hlen:Hid ((insXs pc (l.take l.length) 0).length≤900):=by
    show _≤_
    have:=insXs_len pc (l.take l.length) 0
    have h2:(l.take l.length).length≤l.length:=List.length_take_le _ _
    omega
   have c0:=HB.out.c0
   have c1:=HB.out.c1
   have c2':=HB.out.c2
   go_wp2_with fail
   refine (leave_any HB.out.f hlen.out p0 p1 HA.out HR.out ea q l2 c2).mono ?_
   rintro e W3 ⟨rfl,v3,F3,L3⟩
   have B3:Hid _:=HB.out.add F3 L3
   have eL:insXs pc (l.take l.length) 0++leaveL pc l=lowL pc l:=by rw[List.take_length];rfl
   rw[eL]at B3
   clear F3 L3 HB c0 c1 c2' eL
   have k0:=B3.out.f.c0
   have k1:=B3.out.f.c1
   have k2:=B3.out.f.c2
   have z0:=B3.out.z0
   have z1:=B3.out.z1
   have z2:=B3.out.z2
   have fz:=B3.out.fz
   have hzz:=B3.out.lt
   have hlb3:=B3.out.f.lt
   have hne:=B3.out.n2
   obtain ⟨g3,m3,hv3⟩:∃ (p:Option Addr) (cp:Nat),v3=.slice p (lowL pc l).length cp:=by
    rcases B3.out.f.row.2 with ⟨rfl,h⟩|⟨g,cap,cur,rfl,_⟩
    ·exact ⟨none,0,by rw[h]⟩
    ·exact ⟨_,_,rfl⟩
   subst hv3
   have HL:Hid (0≤(lowL pc l).length):=Nat.zero_le _
   generalize hlw:(lowL pc l).length=nl at k2 ⊢
   go_wp2
   obtain ⟨y0,y1,y2⟩:=put3 (v0:=.int .u32 pc) (v1:=.int .i64 l.length) (v2:=.slice g3 nl m3) z0 z1 z2
   refine bodyPost_ret (results_cell1 (A:=⟨w.heap.size+1,0,none⟩) rfl _ _ _ rfl (code_load y0 y1 y2)) rfl ?_
   have hO:=B3.out.f.opsIn (lowL_ok p0 p1 HR.out HA.out.bd)
   have hbe:=B3.out.f.be
   have n4:=B3.out.n4
   refine ⟨_,rfl,?_,((hbe.setCell (p:=⟨w.heap.size+1,0,none⟩) (by show _≤w.heap.size+1;omega) _).setCell (p:=⟨w.heap.size+1,1,none⟩) (by show _≤w.heap.size+1;omega) _).setCell (p:=⟨w.heap.size+1,2,none⟩) (by show _≤w.heap.size+1;omega) _⟩
   subst hlw
   refine hO.block fun k hk=>?_
   have hkn:k≠w.heap.size+1:=fun e=>n4 (by rw[←e];exact hk)
   exact ((Below.heap_setCell _ ⟨w.heap.size+1,2,none⟩ _ k hkn).trans (Below.heap_setCell _ ⟨w.heap.size+1,1,none⟩ _ k hkn)).trans (Below.heap_setCell _ ⟨w.heap.size+1,0,none⟩ _ k hkn)
end Go.Proofs.YtflagpkmebdckaaGreatDoor.Low
