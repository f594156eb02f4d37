
import Derived.Test.YtflagpkmebdckaaGreatDoorKDKt
import Derived.Test.YtflagpkmebdckaaGreatDoorKKRowOf
import Derived.Test.YtflagpkmebdckaaGreatDoorQDKb1
import Derived.Test.YtflagpkmebdckaaGreatDoorKKMatches
import Derived.Test.YtflagpkmebdckaaGreatDoorKKKinds
import Derived.Test.YtflagpkmebdckaaGreatDoorKInsOf
namespace Go.Proofs.YtflagpkmebdckaaGreatDoor
open Go.RowKit Go.Maps
open Num
set_option linter.unusedVariables false
set_option maxRecDepth 100000
set_option maxHeartbeats 8000000
section
variable {w : World} {sb : Nat} {S : St} {k s t d : Nat} {m : Int}
theorem br_far (A:StAt w sb S) (ok:S.ok) (hs:s<32) (ht:t<32) (hd:d<32) (m0:0≤m) (m1:m<4294967296) (hk:k=7∨k=8∨k=29∨k=30) (hsl:S.sl=false) (hm:k=29∨k=30→m<67108864):Calls Tryz.prog 191 #[.pointer (some ⟨sb,0,none⟩),.agg #[.int .i64 k,.int .i64 s,.int .i64 t,.int .i64 d,.int .u32 m]] w fun e w'=>e=.returned (.tuple #[.int .i64 (branchD S k s t d m).1,.int .i64 (branchD S k s t d m).2.1])∧StAt w' sb (branchD S k s t d m).2.2∧Kept w w' (·=sb):=by
 have X:branchD S k s t d m=(if k=7∨k=8 then S.r s else lo (S.pc+4)/268435456*268435456+4*m,-1,if k=30 then S.putR 31 (lo (S.pc+8)) else if k=8 then S.putR d (lo (S.pc+8)) else S):=by
  unfold branchD
  rw[if_neg (by rw[hsl];decide)]
  rcases hk with rfl|rfl|rfl|rfl
  ·rfl
  ·rfl
  ·rw[←far_eq (lo_bd _).1 (lo_bd _).2 m0 (hm (Or.inl rfl))];rfl
  ·rw[←far_eq (lo_bd _).1 (lo_bd _).2 m0 (hm (Or.inr rfl))];rfl
 rw[X]
 clear X
 have hp4:=fun W=>p2A S.pc 4 ok.pc.1 ok.pc.2 (by omega) (by omega) W
 have hi:=fun W=>imA k s t d m m0 m1 W
 have hwb:u32 (wd m 16 true):=wd_bd m0 m1 _
 have hsg:=fun W=>sgA (wd m 16 true) hwb.1 hwb.2 W
 obtain ⟨sb1,sb2⟩:=sg_bd hwb.1 hwb.2
 have e4w:IntKind.i64.wrap (4*sg (wd m 16 true))=4*sg (wd m 16 true):=by rw[IntKind.wrap_i64];omega
 have hwd:=fun W=>wdA (4*sg (wd m 16 true)) (by omega) (by omega) W
 rw[lo_sg4 hwb.1 hwb.2]at hwd
 have b4:=lo_bd (S.pc+4)
 have b5:=lo_bd (4*wd m 16 true)
 have hnr:=fun W=>p2A (lo (S.pc+4)) (lo (4*wd m 16 true)) b4.1 b4.2 b5.1 b5.2 W
 have bn:=lo_bd (lo (S.pc+4)+lo (4*wd m 16 true))
 have hl:=fun W=>p2A S.pc 8 ok.pc.1 ok.pc.2 (by omega) (by omega) W
 generalize lo (S.pc+8)=lk at *
 obtain ⟨n0,n1⟩:=bn
 obtain ⟨p40,p41⟩:=b4
 have fa0:0≤lo (S.pc+4)/268435456:=by omega
 have fa1:lo (S.pc+4)/268435456<16:=by omega
 clear b5 hwb
 generalize lo (lo (S.pc+4)+lo (4*wd m 16 true))=nr at *
 generalize lo (4*wd m 16 true)=w5 at *
 generalize sg (wd m 16 true)=gi at *
 generalize wd m 16 true=wi at *
 generalize lo (S.pc+4)=p4 at *
 have qd:p4.tdiv 268435456=p4/268435456:=Int.tdiv_eq_ediv_of_nonneg p40
 generalize p4/268435456=fq at *
 have wn:IntKind.i64.wrap nr=nr:=by rw[IntKind.wrap_i64];omega
 have wp:IntKind.i64.wrap p4=p4:=by rw[IntKind.wrap_i64];omega
 have wm:IntKind.i64.wrap m=m:=by rw[IntKind.wrap_i64];omega
 have w1:IntKind.i64.wrap fq=fq:=by rw[IntKind.wrap_i64];omega
 have w2:IntKind.i64.wrap (fq*268435456)=fq*268435456:=by rw[IntKind.wrap_i64];omega
 have w3:IntKind.i64.wrap (4*m)=4*m:=by rw[IntKind.wrap_i64];omega
 have w4:IntKind.i64.wrap (fq*268435456+4*m)=fq*268435456+4*m:=by rw[IntKind.wrap_i64];omega
 have hx0:=(ok.r s).1
 have hx1:=(ok.r s).2
 have wx:IntKind.i64.wrap (S.r s)=S.r s:=by rw[IntKind.wrap_i64];omega
 have D0:Hid (Dq (w.alloc (.cells #[.int .i64 k,.int .i64 s,.int .i64 t,.int .i64 d,.int .u32 m] 113)) w.heap.size sb S k s t d m):=Dq.start A ok k hs ht hd m0 m1
 have K0:Kept w (w.alloc (.cells #[.int .i64 k,.int .i64 s,.int .i64 t,.int .i64 d,.int .u32 m] 113)) (·=sb):=Kept.of_below _ ((Below.refl _ _).alloc (Nat.le_refl _) _)
 clear A
 go_enter Tryz.func191,Tryz.ntmps191
 go_upto_region 1 with fail
 generalize w.alloc (.cells #[.int .i64 k,.int .i64 s,.int .i64 t,.int .i64 d,.int .u32 m] 113)=W at *
 generalize w.heap.size=ib at *
 have i0:=D0.out.i0
 have i1:=D0.out.i1
 have i2:=D0.out.i2
 have i3:=D0.out.i3
 have i4:=D0.out.i4
 have qs:=D0.out.a.reg D0.out.hs
 have fs:=D0.out.a.fz s
 have hs':(s:Int)<32:=by have:=D0.out.hs;omega
 have qt:=D0.out.a.reg D0.out.ht
 have ft:=D0.out.a.fz t
 have ht':(t:Int)<32:=by have:=D0.out.ht;omega
 obtain ⟨-,-,-,-,q36,-⟩:=D0.out.a.told
 rw[hsl]at q36
 go_upto_region 3 with fail
 clear i0 i3 i4 q36
 refine zP 8 [(0,0),(1,0),(2,1),(3,0),(4,0),(5,0),(6,1),(7,0)] (fun W=>Dq W ib sb S k s t d m) (by kernel_rfl) (by kernel_rfl) (fun _ _ _ d _ h=>by cases d<;>first|exact h|exact Dq.drew h) D0.out.drew ?_
 repeat (first|(refine zF (by rfl) (by rfl) (fun W=>by (go_simp;try with_reducible rfl)) (fun K hK=>?_);go_simp;refine hK _ ?_;clear hK K)|(refine zQ (by rfl) (by rfl) (fun W hW=>by (have i1:=hW.i1;have qs:=hW.a.reg hW.hs;go_simp;try with_reducible rfl)) (fun K hK=>?_);go_simp;refine hK _ ?_;clear hK K))
 refine zN ?_
 have D1:Hid (Dq W.drew ib sb S k s t d m):=D0.out.drew
 have K1:Kept w W.drew (·=sb):=K0.trans (Kept.drew _ _) (fun _ _ h=>h)
 clear qt ft qs fs i1 i2
 generalize W.drew=W1 at *
 clear D0 K0
 have i2:=D1.out.i2
 have qt:=D1.out.a.reg D1.out.ht
 go_upto_region 4 with fail
 refine zP 8 [(0,0),(1,0),(2,1),(3,0),(4,0),(5,0),(6,1),(7,0)] (fun W=>Dq W ib sb S k s t d m) (by kernel_rfl) (by kernel_rfl) (fun _ _ _ d _ h=>by cases d<;>first|exact h|exact Dq.drew h) D1.out.drew ?_
 repeat (first|(refine zF (by rfl) (by rfl) (fun W=>by (go_simp;try with_reducible rfl)) (fun K hK=>?_);go_simp;refine hK _ ?_;clear hK K)|(refine zQ (by rfl) (by rfl) (fun W hW=>by (have i2:=hW.i2;have qt:=hW.a.reg hW.ht;go_simp;try with_reducible rfl)) (fun K hK=>?_);go_simp;refine hK _ ?_;clear hK K))
 refine zN ?_
 have D0:Hid (Dq W1.drew ib sb S k s t d m):=D1.out.drew
 have K0:Kept w W1.drew (·=sb):=K1.trans (Kept.drew _ _) (fun _ _ h=>h)
 clear qt i2
 generalize W1.drew=W at *
 clear D1 K1 W1
 go_upto_region 5 with fail
 refine zP 13 [(0,0),(1,0),(2,0),(3,1),(5,1),(4,2),(6,2),(7,2),(8,0),(9,2),(10,2),(11,0),(12,0)] (fun W=>Dq W ib sb S k s t d m) (by kernel_rfl) (by kernel_rfl) (fun _ _ _ d _ h=>by cases d<;>first|exact h|exact Dq.drew h) D0.out.drew ?_
 repeat (first|(refine zF (by rfl) (by rfl) (fun W=>by (go_simp;try with_reducible rfl)) (fun K hK=>?_);go_simp;refine hK _ ?_;clear hK K)|(refine zQ (by rfl) (by rfl) (fun W hW=>by (have i0:=hW.i0;have i1:=hW.i1;have i2:=hW.i2;have i3:=hW.i3;have i4:=hW.i4;have q34:=hW.a.told.2.2.1;go_simp;try with_reducible rfl)) (fun K hK=>?_);go_simp;refine hK _ ?_;clear hK K))
 refine zSr (by rfl) (by rfl) (fun K hK=>?_)
 go_simp
 refine (hp4 _).mono ?_
 rintro e_ w_ ⟨rfl,rfl⟩
 refine hK _ _ (fun _=>D0.out.drew) ?_
 clear hK K
 repeat (first|(refine zF (by rfl) (by rfl) (fun W=>by (go_simp;try with_reducible rfl)) (fun K hK=>?_);go_simp;refine hK _ ?_;clear hK K)|(refine zQ (by rfl) (by rfl) (fun W hW=>by (have i0:=hW.i0;have i1:=hW.i1;have i2:=hW.i2;have i3:=hW.i3;have i4:=hW.i4;have q34:=hW.a.told.2.2.1;go_simp;try with_reducible rfl)) (fun K hK=>?_);go_simp;refine hK _ ?_;clear hK K))
 refine zSr (by rfl) (by rfl) (fun K hK=>?_)
 go_simp
 refine (hi _).mono ?_
 rintro e_ w_ ⟨rfl,hbx⟩
 refine hK _ _ (fun _=>D0.out.drew.stays hbx) ?_
 clear hK K
 repeat (first|(refine zF (by rfl) (by rfl) (fun W=>by (go_simp;try with_reducible rfl)) (fun K hK=>?_);go_simp;refine hK _ ?_;clear hK K)|(refine zQ (by rfl) (by rfl) (fun W hW=>by (have i0:=hW.i0;have i1:=hW.i1;have i2:=hW.i2;have i3:=hW.i3;have i4:=hW.i4;have q34:=hW.a.told.2.2.1;go_simp;try with_reducible rfl)) (fun K hK=>?_);go_simp;refine hK _ ?_;clear hK K))
 refine zSr (by rfl) (by rfl) (fun K hK=>?_)
 go_simp
 refine (hsg _).mono ?_
 rintro e_ w_ ⟨rfl,rfl⟩
 refine hK _ _ (fun _=>D0.out.drew.stays hbx) ?_
 clear hK K
 repeat (first|(refine zF (by rfl) (by rfl) (fun W=>by (go_simp;try with_reducible rfl)) (fun K hK=>?_);go_simp;refine hK _ ?_;clear hK K)|(refine zQ (by rfl) (by rfl) (fun W hW=>by (have i0:=hW.i0;have i1:=hW.i1;have i2:=hW.i2;have i3:=hW.i3;have i4:=hW.i4;have q34:=hW.a.told.2.2.1;go_simp;try with_reducible rfl)) (fun K hK=>?_);go_simp;refine hK _ ?_;clear hK K))
 refine zSr (by rfl) (by rfl) (fun K hK=>?_)
 go_simp
 refine (hwd _).mono ?_
 rintro e_ w_ ⟨rfl,rfl⟩
 refine hK _ _ (fun _=>D0.out.drew.stays hbx) ?_
 clear hK K
 repeat (first|(refine zF (by rfl) (by rfl) (fun W=>by (go_simp;try with_reducible rfl)) (fun K hK=>?_);go_simp;refine hK _ ?_;clear hK K)|(refine zQ (by rfl) (by rfl) (fun W hW=>by (have i0:=hW.i0;have i1:=hW.i1;have i2:=hW.i2;have i3:=hW.i3;have i4:=hW.i4;have q34:=hW.a.told.2.2.1;go_simp;try with_reducible rfl)) (fun K hK=>?_);go_simp;refine hK _ ?_;clear hK K))
 refine zSr (by rfl) (by rfl) (fun K hK=>?_)
 go_simp
 refine (hnr _).mono ?_
 rintro e_ w_ ⟨rfl,rfl⟩
 refine hK _ _ (fun _=>D0.out.drew.stays hbx) ?_
 clear hK K
 repeat (first|(refine zF (by rfl) (by rfl) (fun W=>by (go_simp;try with_reducible rfl)) (fun K hK=>?_);go_simp;refine hK _ ?_;clear hK K)|(refine zQ (by rfl) (by rfl) (fun W hW=>by (have i0:=hW.i0;have i1:=hW.i1;have i2:=hW.i2;have i3:=hW.i3;have i4:=hW.i4;have q34:=hW.a.told.2.2.1;go_simp;try with_reducible rfl)) (fun K hK=>?_);go_simp;refine hK _ ?_;clear hK K))
 refine zN ?_
 have D1:Hid (Dq w_ ib sb S k s t d m):=D0.out.drew.stays hbx
 have K1:Kept w w_ (·=sb):=(K0.trans (Kept.drew _ _) (fun _ _ h=>h)).trans (Kept.of_below _ hbx) (fun _ _ h=>h)
 clear hbx
 generalize w_=W1 at *
 clear D0 K0
 go_upto_region 6 with fail
 refine zP 14 [(0,0),(1,0),(2,0),(3,1),(8,0),(9,1),(10,0),(11,0),(4,2),(5,0),(6,0),(7,0),(12,0),(13,0)] (fun W=>Dq W ib sb S k s t d m) (by kernel_rfl) (by kernel_rfl) (fun _ _ _ d _ h=>by cases d<;>first|exact h|exact Dq.drew h) D1.out.drew ?_
 repeat (first|(refine zF (by rfl) (by rfl) (fun W=>by (go_simp;try with_reducible rfl)) (fun K hK=>?_);go_simp;refine hK _ ?_;clear hK K)|(refine zQ (by rfl) (by rfl) (fun W hW=>by (have i4:=hW.i4;have q34:=hW.a.told.2.2.1;go_simp;try with_reducible rfl)) (fun K hK=>?_);go_simp;refine hK _ ?_;clear hK K))
 refine zSr (by rfl) (by rfl) (fun K hK=>?_)
 go_simp
 refine (hp4 _).mono ?_
 rintro e_ w_ ⟨rfl,rfl⟩
 refine hK _ _ (fun _=>D1.out.drew) ?_
 clear hK K
 repeat (first|(refine zF (by rfl) (by rfl) (fun W=>by (go_simp;try with_reducible rfl)) (fun K hK=>?_);go_simp;refine hK _ ?_;clear hK K)|(refine zQ (by rfl) (by rfl) (fun W hW=>by (have i4:=hW.i4;have q34:=hW.a.told.2.2.1;go_simp;try with_reducible rfl)) (fun K hK=>?_);go_simp;refine hK _ ?_;clear hK K))
 refine zN ?_
 have D0:Hid (Dq W1.drew ib sb S k s t d m):=D1.out.drew
 have K0:Kept w W1.drew (·=sb):=K1.trans (Kept.drew _ _) (fun _ _ h=>h)
 generalize W1.drew=W at *
 clear D1 K1 W1
 rcases hk with rfl|rfl|rfl|rfl
 ·have i0:=D0.out.i0
  have A1:=D0.out.a
  go_wp2
  go_ret2
  exact ⟨rfl,A1,K0⟩
 ·have i0:=D0.out.i0
  have qd:=D0.out.a.reg D0.out.hd
  have fd:=D0.out.a.fz d
  have hd':(d:Int)<32:=by have:=D0.out.hd;omega
  go_upto_region 27 with fail
  clear i0
  refine zP 11 [(0,0),(1,0),(2,1),(3,0),(4,0),(5,0),(6,1),(8,0),(9,0),(7,2),(10,0),(11,2)] (fun W=>Dq W ib sb S 8 s t d m) (by kernel_rfl) (by kernel_rfl) (fun _ _ _ d _ h=>by cases d<;>first|exact h|exact Dq.drew h) D0.out.drew ?_
  repeat (first|(refine zF (by rfl) (by rfl) (fun W=>by (go_simp;try with_reducible rfl)) (fun K hK=>?_);go_simp;refine hK _ ?_;clear hK K)|(refine zQ (by rfl) (by rfl) (fun W hW=>by (have i3:=hW.i3;have q34:=hW.a.told.2.2.1;go_simp;try with_reducible rfl)) (fun K hK=>?_);go_simp;refine hK _ ?_;clear hK K))
  refine zSr (by rfl) (by rfl) (fun K hK=>?_)
  go_simp
  refine (hl _).mono ?_
  rintro e_ w_ ⟨rfl,rfl⟩
  refine hK _ _ (fun _=>D0.out.drew) ?_
  clear hK K
  repeat (first|(refine zF (by rfl) (by rfl) (fun W=>by (go_simp;try with_reducible rfl)) (fun K hK=>?_);go_simp;refine hK _ ?_;clear hK K)|(refine zQ (by rfl) (by rfl) (fun W hW=>by (have i3:=hW.i3;have q34:=hW.a.told.2.2.1;go_simp;try with_reducible rfl)) (fun K hK=>?_);go_simp;refine hK _ ?_;clear hK K))
  refine zSr (by rfl) (by rfl) (fun K hK=>?_)
  go_simp
  refine hK _ _ (fun h=>absurd h (by decide)) ?_
  clear hK K
  refine zN ?_
  refine ck (R:=fun W'=>StAt W' sb (S.putR d lk)∧Kept W W' (·=sb)) ?_ (fun w1 ⟨A1,T1⟩=>?_)
  ·exact ⟨(D0.out.a.putR d D0.out.hd _).drew,(Kept.put (Kept.refl W _) _ _).trans (Kept.drew _ _) (fun _ _ h=>h)⟩
  clear qd fd
  go_wp2
  go_ret2
  exact ⟨rfl,A1,K0.trans T1 (fun _ _ h=>h)⟩
 ·have i0:=D0.out.i0
  have A1:=D0.out.a
  go_wp2
  go_ret2
  exact ⟨rfl,A1,K0⟩
 ·have i0:=D0.out.i0
  have q31:=D0.out.a.reg (i:=31) (by omega)
  have f31:=D0.out.a.fz 31
  go_upto_region 25 with fail
  clear i0
  refine zP 9 [(0,0),(1,0),(2,0),(3,0),(4,1),(6,0),(7,0),(5,2),(8,0),(9,2)] (fun W=>Dq W ib sb S 30 s t d m) (by kernel_rfl) (by kernel_rfl) (fun _ _ _ d _ h=>by cases d<;>first|exact h|exact Dq.drew h) D0.out.drew ?_
  repeat (first|(refine zF (by rfl) (by rfl) (fun W=>by (go_simp;try with_reducible rfl)) (fun K hK=>?_);go_simp;refine hK _ ?_;clear hK K)|(refine zQ (by rfl) (by rfl) (fun W hW=>by (have q34:=hW.a.told.2.2.1;go_simp;try with_reducible rfl)) (fun K hK=>?_);go_simp;refine hK _ ?_;clear hK K))
  refine zSr (by rfl) (by rfl) (fun K hK=>?_)
  go_simp
  refine (hl _).mono ?_
  rintro e_ w_ ⟨rfl,rfl⟩
  refine hK _ _ (fun _=>D0.out.drew) ?_
  clear hK K
  repeat (first|(refine zF (by rfl) (by rfl) (fun W=>by (go_simp;try with_reducible rfl)) (fun K hK=>?_);go_simp;refine hK _ ?_;clear hK K)|(refine zQ (by rfl) (by rfl) (fun W hW=>by (have q34:=hW.a.told.2.2.1;go_simp;try with_reducible rfl)) (fun K hK=>?_);go_simp;refine hK _ ?_;clear hK K))
  refine zSr (by rfl) (by rfl) (fun K hK=>?_)
  go_simp
  refine hK _ _ (fun h=>absurd h (by decide)) ?_
  clear hK K
  refine zN ?_
  refine ck (R:=fun W'=>StAt W' sb (S.putR 31 lk)∧Kept W W' (·=sb)) ?_ (fun w1 ⟨A1,T1⟩=>?_)
  ·exact ⟨(D0.out.a.putR 31 (by omega) _).drew,(Kept.put (Kept.refl W _) _ _).trans (Kept.drew _ _) (fun _ _ h=>h)⟩
  have i0:w1.cell? ⟨ib,0,none⟩=_:=(World.cell?_of_block (a:=⟨ib,0,none⟩) (T1.block _ D0.out.lt D0.out.ne)).trans D0.out.i0
  clear q31 f31
  go_wp2
  go_ret2
  exact ⟨rfl,A1,K0.trans T1 (fun _ _ h=>h)⟩
end
section
variable {w : World} {sb : Nat} {S : St} {k s t d : Nat} {m : Int}
theorem branchD_any (A:StAt w sb S) (ok:S.ok) (hs:s<32) (ht:t<32) (hd:d<32) (m0:0≤m) (m1:m<4294967296) (hk:k=31∨k=32∨k=33∨k=34∨k=29∨k=30∨k=7∨k=8) (hm:k=29∨k=30→m<67108864):Calls Tryz.prog 191 #[.pointer (some ⟨sb,0,none⟩),.agg #[.int .i64 k,.int .i64 s,.int .i64 t,.int .i64 d,.int .u32 m]] w fun e w'=>e=.returned (.tuple #[.int .i64 (branchD S k s t d m).1,.int .i64 (branchD S k s t d m).2.1])∧StAt w' sb (branchD S k s t d m).2.2∧Kept w w' (·=sb):=by
 cases hsl:S.sl with
 | true=>exact br_slot A ok hs ht hd m0 m1 hsl
 | false =>
  by_cases h:k=7∨k=8∨k=29∨k=30
  ·exact br_far A ok hs ht hd m0 m1 h hsl hm
  ·exact br_near A ok hs ht hd m0 m1 (by omega) hsl _ _ rfl rfl
end
set_option maxHeartbeats 8000000
structure DoA where
 to:Int
 e:Int
 S:St
 b:Bs
 ht:Int→Bool
def DoPost (w:World) (sb base db rb gb kb hb:Nat) (wt:Int→Bool) (vt:Value) (x:DoA) (e:Ending) (w':World):Prop :=
 e=.returned (.tuple #[.int .i64 x.to,.int .i64 x.e])∧∃ vt',StAt w' sb x.S∧DBus w' base db rb gb kb hb x.b wt x.ht vt'∧Kept w w' (DM sb db gb hb vt)∧Moved w vt vt'
def OnePost (w:World) (sb base db rb gb kb hb:Nat) (wt:Int→Bool) (vt:Value) (e':Int) (S':St) (b':Bs) (ht':Int→Bool) (e:Ending) (w':World):Prop :=
 e=.returned (.int .i64 e')∧∃ vt',StAt w' sb S'∧DBus w' base db rb gb kb hb b' wt ht' vt'∧Kept w w' (DM sb db gb hb vt)∧Moved w vt vt'
section
variable {w : World} {sb base db rb gb kb hb : Nat} {b : Bs} {wt ht : Int → Bool} {vt : Value} {S : St} {k s t d : Nat} {m : Int}
theorem do_branch (A:StAt w sb S) (B:DBus w base db rb gb kb hb b wt ht vt) (ap:Dap sb base db rb gb kb hb) (ok:S.ok) (hs:s<32) (ht':t<32) (hd:d<32) (m0:0≤m) (m1:m<4294967296) (hk:k<54) (hkind:Tab.kind k=[98,114,97,110,99,104]) (hm:k=29∨k=30→m<67108864):Calls Tryz.prog 128 #[.pointer (some ⟨sb,0,none⟩),.pointer (some ⟨db,0,none⟩),.agg #[.int .i64 k,.int .i64 s,.int .i64 t,.int .i64 d,.int .u32 m]] w (DoPost w sb base db rb gb kb hb wt vt ⟨(branchD S k s t d m).1,(branchD S k s t d m).2.1,(branchD S k s t d m).2.2,b,ht⟩):=by
 have hbr:=fun (W:World) (X:StAt W sb S)=>branchD_any (d:=d) X ok hs ht' hd m0 m1 (kind_br hk hkind) hm
 generalize branchD S k s t d m=x at *
 obtain ⟨x1,x2,x3⟩:=x
 simp only at hbr ⊢
 have hbA:Below w.heap.size w (w.alloc (.cells #[.int .i64 k,.int .i64 s,.int .i64 t,.int .i64 d,.int .u32 m] 113)):=(Below.refl _ _).alloc (Nat.le_refl _) _
 have hkd:=fun W=>kdZ k hk W
 rw[hkind]at hkd
 have KA:Kept w (w.alloc (.cells #[.int .i64 k,.int .i64 s,.int .i64 t,.int .i64 d,.int .u32 m] 113)) (DM sb db gb hb vt):=Kept.of_below _ hbA
 have D0:Hid (Dq (w.alloc (.cells #[.int .i64 k,.int .i64 s,.int .i64 t,.int .i64 d,.int .u32 m] 113)) w.heap.size sb S k s t d m):=Dq.start A ok k hs ht' hd m0 m1
 have B0:Hid (DBus (w.alloc (.cells #[.int .i64 k,.int .i64 s,.int .i64 t,.int .i64 d,.int .u32 m] 113)) base db rb gb kb hb b wt ht vt):=B.stays hbA
 clear A B hbA hkind
 go_enter Tryz.func128,Tryz.ntmps128
 go_upto_region 1 with fail
 generalize w.alloc (.cells #[.int .i64 k,.int .i64 s,.int .i64 t,.int .i64 d,.int .u32 m] 113)=W at *
 generalize w.heap.size=ib at *
 have i0:=D0.out.i0
 go_wp2_with fail
 refine (hkd _).mono ?_
 rintro e w1 ⟨rfl,hb1⟩
 have D1:Hid (Dq w1 ib sb S k s t d m):=D0.out.stays hb1
 have B1:Hid (DBus w1 base db rb gb kb hb b wt ht vt):=B0.out.stays hb1
 have K1:Kept w w1 (DM sb db gb hb vt):=KA.trans (Kept.of_below _ hb1) (fun _ _ h=>h)
 clear hb1 KA D0 B0 i0 hkd
 have i0:=D1.out.i0
 have i1:=D1.out.i1
 have i2:=D1.out.i2
 have i3:=D1.out.i3
 have i4:=D1.out.i4
 go_wp2_with fail
 refine (hbr w1 D1.out.a).mono ?_
 rintro e w2 ⟨rfl,A2,T2⟩
 have B2:Hid (DBus w2 base db rb gb kb hb b wt ht vt):=B1.out.st T2 ap
 have K2:Kept w w2 (DM sb db gb hb vt):=K1.trans T2.dmS (fun _ _ h=>h)
 clear i0 i1 i2 i3 i4
 go_wp2
 go_ret2
 exact ⟨rfl,vt,A2,B2.out,K2,Moved.refl _ _⟩
theorem do_trap (A:StAt w sb S) (B:DBus w base db rb gb kb hb b wt ht vt) (ap:Dap sb base db rb gb kb hb) (ok:S.ok) (hs:s<32) (ht':t<32) (hd:d<32) (m0:0≤m) (m1:m<4294967296) (hk:k<54) (hkind:Tab.kind k=[116,114,97,112]):Calls Tryz.prog 128 #[.pointer (some ⟨sb,0,none⟩),.pointer (some ⟨db,0,none⟩),.agg #[.int .i64 k,.int .i64 s,.int .i64 t,.int .i64 d,.int .u32 m]] w (DoPost w sb base db rb gb kb hb wt vt ⟨-1,(trapD S k t d).1,(trapD S k t d).2,b,ht⟩):=by
 have hbr:=fun (W:World) (X:StAt W sb S)=>trapD_any (k:=k) (d:=d) (m:=m) X ok hs ht' hd m0 m1
 generalize trapD S k t d=x at *
 obtain ⟨x1,x2⟩:=x
 simp only at hbr ⊢
 have hbA:Below w.heap.size w (w.alloc (.cells #[.int .i64 k,.int .i64 s,.int .i64 t,.int .i64 d,.int .u32 m] 113)):=(Below.refl _ _).alloc (Nat.le_refl _) _
 have hkd:=fun W=>kdZ k hk W
 rw[hkind]at hkd
 have KA:Kept w (w.alloc (.cells #[.int .i64 k,.int .i64 s,.int .i64 t,.int .i64 d,.int .u32 m] 113)) (DM sb db gb hb vt):=Kept.of_below _ hbA
 have D0:Hid (Dq (w.alloc (.cells #[.int .i64 k,.int .i64 s,.int .i64 t,.int .i64 d,.int .u32 m] 113)) w.heap.size sb S k s t d m):=Dq.start A ok k hs ht' hd m0 m1
 have B0:Hid (DBus (w.alloc (.cells #[.int .i64 k,.int .i64 s,.int .i64 t,.int .i64 d,.int .u32 m] 113)) base db rb gb kb hb b wt ht vt):=B.stays hbA
 clear A B hbA hkind
 go_enter Tryz.func128,Tryz.ntmps128
 go_upto_region 1 with fail
 generalize w.alloc (.cells #[.int .i64 k,.int .i64 s,.int .i64 t,.int .i64 d,.int .u32 m] 113)=W at *
 generalize w.heap.size=ib at *
 have i0:=D0.out.i0
 go_wp2_with fail
 refine (hkd _).mono ?_
 rintro e w1 ⟨rfl,hb1⟩
 have D1:Hid (Dq w1 ib sb S k s t d m):=D0.out.stays hb1
 have B1:Hid (DBus w1 base db rb gb kb hb b wt ht vt):=B0.out.stays hb1
 have K1:Kept w w1 (DM sb db gb hb vt):=KA.trans (Kept.of_below _ hb1) (fun _ _ h=>h)
 clear hb1 KA D0 B0 i0 hkd
 have i0:=D1.out.i0
 have i1:=D1.out.i1
 have i2:=D1.out.i2
 have i3:=D1.out.i3
 have i4:=D1.out.i4
 go_wp2_with fail
 refine (hbr w1 D1.out.a).mono ?_
 rintro e w2 ⟨rfl,A2,T2⟩
 have B2:Hid (DBus w2 base db rb gb kb hb b wt ht vt):=B1.out.st T2 ap
 have K2:Kept w w2 (DM sb db gb hb vt):=K1.trans T2.dmS (fun _ _ h=>h)
 clear i0 i1 i2 i3 i4
 go_wp2
 go_ret2
 exact ⟨rfl,vt,A2,B2.out,K2,Moved.refl _ _⟩
theorem do_sum (A:StAt w sb S) (B:DBus w base db rb gb kb hb b wt ht vt) (ap:Dap sb base db rb gb kb hb) (ok:S.ok) (hs:s<32) (ht':t<32) (hd:d<32) (m0:0≤m) (m1:m<4294967296) (hk:k<54) (hkind:Tab.kind k=[115,117,109]) (hm:k=1∨k=2∨k=3→m<32):Calls Tryz.prog 128 #[.pointer (some ⟨sb,0,none⟩),.pointer (some ⟨db,0,none⟩),.agg #[.int .i64 k,.int .i64 s,.int .i64 t,.int .i64 d,.int .u32 m]] w (DoPost w sb base db rb gb kb hb wt vt ⟨-1,(sumD S k s t d m).1,(sumD S k s t d m).2,b,ht⟩):=by
 have hbr:=fun (W:World) (X:StAt W sb S)=>sumD_any (k:=k) (d:=d) (m:=m) X ok hs ht' hd m0 m1 (kind_sm hk hkind) hm
 generalize sumD S k s t d m=x at *
 obtain ⟨x1,x2⟩:=x
 simp only at hbr ⊢
 have hbA:Below w.heap.size w (w.alloc (.cells #[.int .i64 k,.int .i64 s,.int .i64 t,.int .i64 d,.int .u32 m] 113)):=(Below.refl _ _).alloc (Nat.le_refl _) _
 have hkd:=fun W=>kdZ k hk W
 rw[hkind]at hkd
 have KA:Kept w (w.alloc (.cells #[.int .i64 k,.int .i64 s,.int .i64 t,.int .i64 d,.int .u32 m] 113)) (DM sb db gb hb vt):=Kept.of_below _ hbA
 have D0:Hid (Dq (w.alloc (.cells #[.int .i64 k,.int .i64 s,.int .i64 t,.int .i64 d,.int .u32 m] 113)) w.heap.size sb S k s t d m):=Dq.start A ok k hs ht' hd m0 m1
 have B0:Hid (DBus (w.alloc (.cells #[.int .i64 k,.int .i64 s,.int .i64 t,.int .i64 d,.int .u32 m] 113)) base db rb gb kb hb b wt ht vt):=B.stays hbA
 clear A B hbA hkind
 go_enter Tryz.func128,Tryz.ntmps128
 go_upto_region 1 with fail
 generalize w.alloc (.cells #[.int .i64 k,.int .i64 s,.int .i64 t,.int .i64 d,.int .u32 m] 113)=W at *
 generalize w.heap.size=ib at *
 have i0:=D0.out.i0
 go_wp2_with fail
 refine (hkd _).mono ?_
 rintro e w1 ⟨rfl,hb1⟩
 have D1:Hid (Dq w1 ib sb S k s t d m):=D0.out.stays hb1
 have B1:Hid (DBus w1 base db rb gb kb hb b wt ht vt):=B0.out.stays hb1
 have K1:Kept w w1 (DM sb db gb hb vt):=KA.trans (Kept.of_below _ hb1) (fun _ _ h=>h)
 clear hb1 KA D0 B0 i0 hkd
 have i0:=D1.out.i0
 have i1:=D1.out.i1
 have i2:=D1.out.i2
 have i3:=D1.out.i3
 have i4:=D1.out.i4
 go_wp2_with fail
 refine (hbr w1 D1.out.a).mono ?_
 rintro e w2 ⟨rfl,A2,T2⟩
 have B2:Hid (DBus w2 base db rb gb kb hb b wt ht vt):=B1.out.st T2 ap
 have K2:Kept w w2 (DM sb db gb hb vt):=K1.trans T2.dmS (fun _ _ h=>h)
 clear i0 i1 i2 i3 i4
 go_wp2
 go_ret2
 exact ⟨rfl,vt,A2,B2.out,K2,Moved.refl _ _⟩
theorem do_load (A:StAt w sb S) (B:DBus w base db rb gb kb hb b wt ht vt) (ap:Dap sb base db rb gb kb hb) (ok:S.ok) (hs:s<32) (ht':t<32) (hd:d<32) (m0:0≤m) (m1:m<4294967296) (hk:k<54) (hkind:Tab.kind k=[108,111,97,100]) (hn:b.out.length≤1000) (hn2:b.tr.length≤1000):Calls Tryz.prog 128 #[.pointer (some ⟨sb,0,none⟩),.pointer (some ⟨db,0,none⟩),.agg #[.int .i64 k,.int .i64 s,.int .i64 t,.int .i64 d,.int .u32 m]] w (DoPost w sb base db rb gb kb hb wt vt ⟨-1,if bad (adI S k s m) (szI k)=true then 4 else -1,if bad (adI S k s m) (szI k)=true then { S with bd:=adI S k s m } else S.putR t (b.val (adI S k s m) (szI k) (sgI k) S.ct),b.got (adI S k s m) (szI k) S.ct,ht⟩):=by
 have hbr:=fun (W:World) (X:StAt W sb S) (Y:DBus W base db rb gb kb hb b wt ht vt)=>loadD_any (d:=d) X Y ap ok hs ht' hd m0 m1 hn hn2 (kind_ld hk hkind)
 generalize (if bad (adI S k s m) (szI k)=true then (4:Int) else -1)=x1 at *
 generalize (if bad (adI S k s m) (szI k)=true then { S with bd:=adI S k s m } else S.putR t (b.val (adI S k s m) (szI k) (sgI k) S.ct))=x2 at *
 generalize b.got (adI S k s m) (szI k) S.ct=x3 at *
 have hbA:Below w.heap.size w (w.alloc (.cells #[.int .i64 k,.int .i64 s,.int .i64 t,.int .i64 d,.int .u32 m] 113)):=(Below.refl _ _).alloc (Nat.le_refl _) _
 have hkd:=fun W=>kdZ k hk W
 rw[hkind]at hkd
 have KA:Kept w (w.alloc (.cells #[.int .i64 k,.int .i64 s,.int .i64 t,.int .i64 d,.int .u32 m] 113)) (DM sb db gb hb vt):=Kept.of_below _ hbA
 have D0:Hid (Dq (w.alloc (.cells #[.int .i64 k,.int .i64 s,.int .i64 t,.int .i64 d,.int .u32 m] 113)) w.heap.size sb S k s t d m):=Dq.start A ok k hs ht' hd m0 m1
 have B0:Hid (DBus (w.alloc (.cells #[.int .i64 k,.int .i64 s,.int .i64 t,.int .i64 d,.int .u32 m] 113)) base db rb gb kb hb b wt ht vt):=B.stays hbA
 clear A B hbA hkind
 go_enter Tryz.func128,Tryz.ntmps128
 go_upto_region 1 with fail
 generalize w.alloc (.cells #[.int .i64 k,.int .i64 s,.int .i64 t,.int .i64 d,.int .u32 m] 113)=W at *
 generalize w.heap.size=ib at *
 have i0:=D0.out.i0
 go_wp2_with fail
 refine (hkd _).mono ?_
 rintro e w1 ⟨rfl,hb1⟩
 have D1:Hid (Dq w1 ib sb S k s t d m):=D0.out.stays hb1
 have B1:Hid (DBus w1 base db rb gb kb hb b wt ht vt):=B0.out.stays hb1
 have K1:Kept w w1 (DM sb db gb hb vt):=KA.trans (Kept.of_below _ hb1) (fun _ _ h=>h)
 clear hb1 KA D0 B0 i0 hkd
 have i0:=D1.out.i0
 have i1:=D1.out.i1
 have i2:=D1.out.i2
 have i3:=D1.out.i3
 have i4:=D1.out.i4
 go_wp2_with fail
 refine (hbr w1 D1.out.a B1.out).mono ?_
 rintro e w2 ⟨rfl,vt2,A2,B2,T2,M2⟩
 have B2H:Hid (DBus w2 base db rb gb kb hb x3 wt ht vt2):=B2
 have K2:Kept w w2 (DM sb db gb hb vt):=K1.trans T2 (fun _ _ h=>h)
 have MM:Hid (Moved w vt vt2):=fun k hk=>(M2 k hk).imp id (fun e=>Nat.le_trans K1.size e)
 clear i0 i1 i2 i3 i4 B2 M2 T2
 go_wp2
 go_ret2
 exact ⟨rfl,vt2,A2,B2H.out,K2,MM.out⟩
theorem do_store (A:StAt w sb S) (B:DBus w base db rb gb kb hb b wt ht vt) (ap:Dap sb base db rb gb kb hb) (ok:S.ok) (hs:s<32) (ht':t<32) (hd:d<32) (m0:0≤m) (m1:m<4294967296) (hk:k<54) (hkind:Tab.kind k=[115,116,111,114,101]) (hn:b.out.length≤1000) (hn2:b.tr.length≤1000):Calls Tryz.prog 128 #[.pointer (some ⟨sb,0,none⟩),.pointer (some ⟨db,0,none⟩),.agg #[.int .i64 k,.int .i64 s,.int .i64 t,.int .i64 d,.int .u32 m]] w (DoPost w sb base db rb gb kb hb wt vt ⟨-1,if bad (adI S k s m) (szI k)=true then 5 else -1,if bad (adI S k s m) (szI k)=true then { S with bd:=adI S k s m } else S,b.put (adI S k s m) (szI k) (S.r t) S.ct,htD wt ht (adI S k s m) (szI k)⟩):=by
 have hbr:=fun (W:World) (X:StAt W sb S) (Y:DBus W base db rb gb kb hb b wt ht vt)=>storeD_any (d:=d) X Y ap ok hs ht' hd m0 m1 hn hn2 (kind_st hk hkind)
 generalize (if bad (adI S k s m) (szI k)=true then (5:Int) else -1)=x1 at *
 generalize (if bad (adI S k s m) (szI k)=true then { S with bd:=adI S k s m } else S)=x2 at *
 generalize b.put (adI S k s m) (szI k) (S.r t) S.ct=x3 at *
 generalize htD wt ht (adI S k s m) (szI k)=x4 at *
 have hbA:Below w.heap.size w (w.alloc (.cells #[.int .i64 k,.int .i64 s,.int .i64 t,.int .i64 d,.int .u32 m] 113)):=(Below.refl _ _).alloc (Nat.le_refl _) _
 have hkd:=fun W=>kdZ k hk W
 rw[hkind]at hkd
 have KA:Kept w (w.alloc (.cells #[.int .i64 k,.int .i64 s,.int .i64 t,.int .i64 d,.int .u32 m] 113)) (DM sb db gb hb vt):=Kept.of_below _ hbA
 have D0:Hid (Dq (w.alloc (.cells #[.int .i64 k,.int .i64 s,.int .i64 t,.int .i64 d,.int .u32 m] 113)) w.heap.size sb S k s t d m):=Dq.start A ok k hs ht' hd m0 m1
 have B0:Hid (DBus (w.alloc (.cells #[.int .i64 k,.int .i64 s,.int .i64 t,.int .i64 d,.int .u32 m] 113)) base db rb gb kb hb b wt ht vt):=B.stays hbA
 clear A B hbA hkind
 go_enter Tryz.func128,Tryz.ntmps128
 go_upto_region 1 with fail
 generalize w.alloc (.cells #[.int .i64 k,.int .i64 s,.int .i64 t,.int .i64 d,.int .u32 m] 113)=W at *
 generalize w.heap.size=ib at *
 have i0:=D0.out.i0
 go_wp2_with fail
 refine (hkd _).mono ?_
 rintro e w1 ⟨rfl,hb1⟩
 have D1:Hid (Dq w1 ib sb S k s t d m):=D0.out.stays hb1
 have B1:Hid (DBus w1 base db rb gb kb hb b wt ht vt):=B0.out.stays hb1
 have K1:Kept w w1 (DM sb db gb hb vt):=KA.trans (Kept.of_below _ hb1) (fun _ _ h=>h)
 clear hb1 KA D0 B0 i0 hkd
 have i0:=D1.out.i0
 have i1:=D1.out.i1
 have i2:=D1.out.i2
 have i3:=D1.out.i3
 have i4:=D1.out.i4
 go_wp2_with fail
 refine (hbr w1 D1.out.a B1.out).mono ?_
 rintro e w2 ⟨rfl,vt2,A2,B2,T2,M2⟩
 have B2H:Hid (DBus w2 base db rb gb kb hb x3 wt x4 vt2):=B2
 have K2:Kept w w2 (DM sb db gb hb vt):=K1.trans T2 (fun _ _ h=>h)
 have MM:Hid (Moved w vt vt2):=fun k hk=>(M2 k hk).imp id (fun e=>Nat.le_trans K1.size e)
 clear i0 i1 i2 i3 i4 B2 M2 T2
 go_wp2
 go_ret2
 exact ⟨rfl,vt2,A2,B2H.out,K2,MM.out⟩
end
set_option maxHeartbeats 8000000
section
variable {w : World} {sb base db rb gb kb hb : Nat} {b : Bs} {wt ht : Int → Bool} {vt : Value} {S : St} {k s t d : Nat} {m : Int}
theorem DM.far {ib:Nat} (B:DBus w base db rb gb kb hb b wt ht vt) (A:StAt w sb S) (h:w.heap.size≤ib):¬ DM sb db gb hb vt ib:=by
 rintro (e|e)
 ·have:=A.lt;omega
 ·exact B.far h e
theorem oneIns_exc (A:StAt w sb S) (B:DBus w base db rb gb kb hb b wt ht vt) (h45:k≠45) (x:DoA) (he:0≤x.e) (hs:s<32) (ht':t<32) (hd:d<32) (m0:0≤m) (m1:m<4294967296) (ok:S.ok)
  (hdo:∀ W:World,StAt W sb S→DBus W base db rb gb kb hb b wt ht vt→Calls Tryz.prog 128 #[.pointer (some ⟨sb,0,none⟩),.pointer (some ⟨db,0,none⟩),.agg #[.int .i64 k,.int .i64 s,.int .i64 t,.int .i64 d,.int .u32 m]] W (DoPost W sb base db rb gb kb hb wt vt x)) :
  Calls Tryz.prog 69 #[.pointer (some ⟨sb,0,none⟩),.pointer (some ⟨db,0,none⟩),.agg #[.int .i64 k,.int .i64 s,.int .i64 t,.int .i64 d,.int .u32 m]] w (OnePost w sb base db rb gb kb hb wt vt x.e x.S x.b x.ht):=by
 have b45:=nk h45
 have hbA:Below w.heap.size w (w.alloc (.cells #[.int .i64 k,.int .i64 s,.int .i64 t,.int .i64 d,.int .u32 m] 113)):=(Below.refl _ _).alloc (Nat.le_refl _) _
 have D0:Hid (Dq (w.alloc (.cells #[.int .i64 k,.int .i64 s,.int .i64 t,.int .i64 d,.int .u32 m] 113)) w.heap.size sb S k s t d m):=Dq.start A ok k hs ht' hd m0 m1
 have B0:Hid (DBus (w.alloc (.cells #[.int .i64 k,.int .i64 s,.int .i64 t,.int .i64 d,.int .u32 m] 113)) base db rb gb kb hb b wt ht vt):=B.stays hbA
 have K0:Kept w (w.alloc (.cells #[.int .i64 k,.int .i64 s,.int .i64 t,.int .i64 d,.int .u32 m] 113)) (DM sb db gb hb vt):=Kept.of_below _ hbA
 clear A B hbA h45
 obtain ⟨to,e,S1,b1,ht1⟩:=x
 simp only at he
 show Calls _ _ _ _ (OnePost w sb base db rb gb kb hb wt vt e S1 b1 ht1)
 go_enter Tryz.func69,Tryz.ntmps69
 go_upto_region 1 with fail
 generalize w.alloc (.cells #[.int .i64 k,.int .i64 s,.int .i64 t,.int .i64 d,.int .u32 m] 113)=W at *
 generalize w.heap.size=ib at *
 have i0:=D0.out.i0
 have i1:=D0.out.i1
 have i2:=D0.out.i2
 have i3:=D0.out.i3
 have i4:=D0.out.i4
 have hdo1:=hdo W D0.out.a B0.out
 clear hdo
 go_wp2_with fail
 refine hdo1.mono ?_
 rintro e_ w2 ⟨rfl,vt2,A2,B2,T2,M2⟩
 have K2:Kept w w2 (DM sb db gb hb vt):=K0.trans T2 (fun _ _ h=>h)
 have B2H:Hid (DBus w2 base db rb gb kb hb b1 wt ht1 vt2):=B2
 have MM:Hid (Moved w vt vt2):=fun k hk=>(M2 k hk).imp id (fun e=>Nat.le_trans K0.size e)
 clear i0 i1 i2 i3 i4 hdo1 B2 M2 T2 D0 B0 K0
 simp only
 go_wp2
 go_ret
 exact ⟨rfl,vt2,A2,B2H.out,K2,MM.out⟩
theorem oneIns_load (A:StAt w sb S) (B:DBus w base db rb gb kb hb b wt ht vt) (ap:Dap sb base db rb gb kb hb) (hk:k<54) (h45:k≠45) (hkind:Tab.kind k=[108,111,97,100]) (x:DoA) (he:x.e=-1) (hto:x.to=-1) (ok1:u32 x.S.nx) (hs:s<32) (ht':t<32) (hd:d<32) (m0:0≤m) (m1:m<4294967296) (ok:S.ok)
  (hdo:∀ W:World,StAt W sb S→DBus W base db rb gb kb hb b wt ht vt→Calls Tryz.prog 128 #[.pointer (some ⟨sb,0,none⟩),.pointer (some ⟨db,0,none⟩),.agg #[.int .i64 k,.int .i64 s,.int .i64 t,.int .i64 d,.int .u32 m]] W (DoPost W sb base db rb gb kb hb wt vt x)) :
  Calls Tryz.prog 69 #[.pointer (some ⟨sb,0,none⟩),.pointer (some ⟨db,0,none⟩),.agg #[.int .i64 k,.int .i64 s,.int .i64 t,.int .i64 d,.int .u32 m]] w (OnePost w sb base db rb gb kb hb wt vt (-1) x.S.fix x.b x.ht):=by
 have b45:=nk h45
 have hkd:=fun W=>kdZ k hk W
 have hfi:¬ DM sb db gb hb vt w.heap.size:=DM.far B A (Nat.le_refl _)
 have hne:w.heap.size≠sb:=fun e=>hfi (Or.inl e)
 have hbA:Below w.heap.size w (w.alloc (.cells #[.int .i64 k,.int .i64 s,.int .i64 t,.int .i64 d,.int .u32 m] 113)):=(Below.refl _ _).alloc (Nat.le_refl _) _
 have D0:Hid (Dq (w.alloc (.cells #[.int .i64 k,.int .i64 s,.int .i64 t,.int .i64 d,.int .u32 m] 113)) w.heap.size sb S k s t d m):=Dq.start A ok k hs ht' hd m0 m1
 have B0:Hid (DBus (w.alloc (.cells #[.int .i64 k,.int .i64 s,.int .i64 t,.int .i64 d,.int .u32 m] 113)) base db rb gb kb hb b wt ht vt):=B.stays hbA
 have K0:Kept w (w.alloc (.cells #[.int .i64 k,.int .i64 s,.int .i64 t,.int .i64 d,.int .u32 m] 113)) (DM sb db gb hb vt):=Kept.of_below _ hbA
 clear A B hbA h45
 obtain ⟨to,e,S1,b1,ht1⟩:=x
 simp only at he hto ok1
 subst he
 subst hto
 rw[hkind]at hkd
 have hpl:=fun W=>p2A S1.nx 4 ok1.1 ok1.2 (by omega) (by omega) W
 show Calls _ _ _ _ (OnePost w sb base db rb gb kb hb wt vt (-1) S1.fix b1 ht1)
 go_enter Tryz.func69,Tryz.ntmps69
 go_upto_region 1 with fail
 generalize w.alloc (.cells #[.int .i64 k,.int .i64 s,.int .i64 t,.int .i64 d,.int .u32 m] 113)=W at *
 generalize w.heap.size=ib at *
 have i0:=D0.out.i0
 have i1:=D0.out.i1
 have i2:=D0.out.i2
 have i3:=D0.out.i3
 have i4:=D0.out.i4
 have hdo1:=hdo W D0.out.a B0.out
 clear hdo
 go_wp2_with fail
 refine hdo1.mono ?_
 rintro e_ w2 ⟨rfl,vt2,A2,B2,T2,M2⟩
 have K2:Kept w w2 (DM sb db gb hb vt):=K0.trans T2 (fun _ _ h=>h)
 have B2H:Hid (DBus w2 base db rb gb kb hb b1 wt ht1 vt2):=B2
 have MM:Hid (Moved w vt vt2):=fun k hk=>(M2 k hk).imp id (fun e=>Nat.le_trans K0.size e)
 have j0:w2.cell? ⟨ib,0,none⟩=some (.int .i64 k):=T2.cell D0.out.i0 hfi
 clear i0 i1 i2 i3 i4 hdo1 B2 M2 T2 D0 B0 K0
 have qr:=A2.reg (i:=0) (by omega)
 have fr:=A2.fz 0
 obtain ⟨-,-,q34,q35,q36,-⟩:=A2.told
 have f34:=A2.fz 34
 have f35:=A2.fz 35
 have A3':=((A2.putR 0 (by omega) 0).putPc S1.nx).putNx (lo (S1.nx+4))
 have T3':=(((Kept.refl w2 (·=sb)).put 0 (.int .u32 0)).put 34 (.int .u32 S1.nx)).put 35 (.int .u32 (lo (S1.nx+4)))
 generalize hnx:lo (S1.nx+4)=nx' at *
 go_upto_region 15 with (go_at_call 102;refine (hpl _).mono ?_;rintro e2 w7 ⟨rfl,rfl⟩)
 clear q34 q35 q36 qr fr f34 f35
 generalize (((w2.setCell ⟨sb,0,none⟩ (.int .u32 0)).setCell ⟨sb,34,none⟩ (.int .u32 S1.nx)).setCell ⟨sb,35,none⟩ (.int .u32 nx'))=w3 at *
 have A3:=A3'
 have T3:=T3'
 clear A3' T3' hpl
 have i0:w3.cell? ⟨ib,0,none⟩=some (.int .i64 k):=T3.cell j0 hne
 clear j0
 go_wp2_with fail
 refine (hkd _).mono ?_
 rintro e_ w4 ⟨rfl,hb4⟩
 have A4:=A3.stays hb4
 have T4:Kept w2 w4 (·=sb):=T3.trans (Kept.of_below _ hb4) (fun _ _ h=>h)
 clear i0 hb4 hkd A3 T3
 obtain ⟨-,-,-,q35,q36,-⟩:=A4.told
 have f35:=A4.fz 35
 have f36:=A4.fz 36
 try simp only at q35 q36
 have A5:=A4.putSl false
 have T5:=T4.put 36 (.bool false)
 go_wp2
 go_ret
 exact ⟨rfl,vt2,by unfold St.fix;rw[hnx];exact A5,B2H.out.st T5 ap,K2.trans T5.dmS (fun _ _ h=>h),MM.out⟩
theorem oneIns_store (A:StAt w sb S) (B:DBus w base db rb gb kb hb b wt ht vt) (ap:Dap sb base db rb gb kb hb) (hk:k<54) (h45:k≠45) (hkind:Tab.kind k=[115,116,111,114,101]) (x:DoA) (he:x.e=-1) (hto:x.to=-1) (ok1:u32 x.S.nx) (hs:s<32) (ht':t<32) (hd:d<32) (m0:0≤m) (m1:m<4294967296) (ok:S.ok)
  (hdo:∀ W:World,StAt W sb S→DBus W base db rb gb kb hb b wt ht vt→Calls Tryz.prog 128 #[.pointer (some ⟨sb,0,none⟩),.pointer (some ⟨db,0,none⟩),.agg #[.int .i64 k,.int .i64 s,.int .i64 t,.int .i64 d,.int .u32 m]] W (DoPost W sb base db rb gb kb hb wt vt x)) :
  Calls Tryz.prog 69 #[.pointer (some ⟨sb,0,none⟩),.pointer (some ⟨db,0,none⟩),.agg #[.int .i64 k,.int .i64 s,.int .i64 t,.int .i64 d,.int .u32 m]] w (OnePost w sb base db rb gb kb hb wt vt (-1) x.S.fix x.b x.ht):=by
 have b45:=nk h45
 have hkd:=fun W=>kdZ k hk W
 have hfi:¬ DM sb db gb hb vt w.heap.size:=DM.far B A (Nat.le_refl _)
 have hne:w.heap.size≠sb:=fun e=>hfi (Or.inl e)
 have hbA:Below w.heap.size w (w.alloc (.cells #[.int .i64 k,.int .i64 s,.int .i64 t,.int .i64 d,.int .u32 m] 113)):=(Below.refl _ _).alloc (Nat.le_refl _) _
 have D0:Hid (Dq (w.alloc (.cells #[.int .i64 k,.int .i64 s,.int .i64 t,.int .i64 d,.int .u32 m] 113)) w.heap.size sb S k s t d m):=Dq.start A ok k hs ht' hd m0 m1
 have B0:Hid (DBus (w.alloc (.cells #[.int .i64 k,.int .i64 s,.int .i64 t,.int .i64 d,.int .u32 m] 113)) base db rb gb kb hb b wt ht vt):=B.stays hbA
 have K0:Kept w (w.alloc (.cells #[.int .i64 k,.int .i64 s,.int .i64 t,.int .i64 d,.int .u32 m] 113)) (DM sb db gb hb vt):=Kept.of_below _ hbA
 clear A B hbA h45
 obtain ⟨to,e,S1,b1,ht1⟩:=x
 simp only at he hto ok1
 subst he
 subst hto
 rw[hkind]at hkd
 have hpl:=fun W=>p2A S1.nx 4 ok1.1 ok1.2 (by omega) (by omega) W
 show Calls _ _ _ _ (OnePost w sb base db rb gb kb hb wt vt (-1) S1.fix b1 ht1)
 go_enter Tryz.func69,Tryz.ntmps69
 go_upto_region 1 with fail
 generalize w.alloc (.cells #[.int .i64 k,.int .i64 s,.int .i64 t,.int .i64 d,.int .u32 m] 113)=W at *
 generalize w.heap.size=ib at *
 have i0:=D0.out.i0
 have i1:=D0.out.i1
 have i2:=D0.out.i2
 have i3:=D0.out.i3
 have i4:=D0.out.i4
 have hdo1:=hdo W D0.out.a B0.out
 clear hdo
 go_wp2_with fail
 refine hdo1.mono ?_
 rintro e_ w2 ⟨rfl,vt2,A2,B2,T2,M2⟩
 have K2:Kept w w2 (DM sb db gb hb vt):=K0.trans T2 (fun _ _ h=>h)
 have B2H:Hid (DBus w2 base db rb gb kb hb b1 wt ht1 vt2):=B2
 have MM:Hid (Moved w vt vt2):=fun k hk=>(M2 k hk).imp id (fun e=>Nat.le_trans K0.size e)
 have j0:w2.cell? ⟨ib,0,none⟩=some (.int .i64 k):=T2.cell D0.out.i0 hfi
 clear i0 i1 i2 i3 i4 hdo1 B2 M2 T2 D0 B0 K0
 have qr:=A2.reg (i:=0) (by omega)
 have fr:=A2.fz 0
 obtain ⟨-,-,q34,q35,q36,-⟩:=A2.told
 have f34:=A2.fz 34
 have f35:=A2.fz 35
 have A3':=((A2.putR 0 (by omega) 0).putPc S1.nx).putNx (lo (S1.nx+4))
 have T3':=(((Kept.refl w2 (·=sb)).put 0 (.int .u32 0)).put 34 (.int .u32 S1.nx)).put 35 (.int .u32 (lo (S1.nx+4)))
 generalize hnx:lo (S1.nx+4)=nx' at *
 go_upto_region 15 with (go_at_call 102;refine (hpl _).mono ?_;rintro e2 w7 ⟨rfl,rfl⟩)
 clear q34 q35 q36 qr fr f34 f35
 generalize (((w2.setCell ⟨sb,0,none⟩ (.int .u32 0)).setCell ⟨sb,34,none⟩ (.int .u32 S1.nx)).setCell ⟨sb,35,none⟩ (.int .u32 nx'))=w3 at *
 have A3:=A3'
 have T3:=T3'
 clear A3' T3' hpl
 have i0:w3.cell? ⟨ib,0,none⟩=some (.int .i64 k):=T3.cell j0 hne
 clear j0
 go_wp2_with fail
 refine (hkd _).mono ?_
 rintro e_ w4 ⟨rfl,hb4⟩
 have A4:=A3.stays hb4
 have T4:Kept w2 w4 (·=sb):=T3.trans (Kept.of_below _ hb4) (fun _ _ h=>h)
 clear i0 hb4 hkd A3 T3
 obtain ⟨-,-,-,q35,q36,-⟩:=A4.told
 have f35:=A4.fz 35
 have f36:=A4.fz 36
 try simp only at q35 q36
 have A5:=A4.putSl false
 have T5:=T4.put 36 (.bool false)
 go_wp2
 go_ret
 exact ⟨rfl,vt2,by unfold St.fix;rw[hnx];exact A5,B2H.out.st T5 ap,K2.trans T5.dmS (fun _ _ h=>h),MM.out⟩
theorem oneIns_trap (A:StAt w sb S) (B:DBus w base db rb gb kb hb b wt ht vt) (ap:Dap sb base db rb gb kb hb) (hk:k<54) (h45:k≠45) (hkind:Tab.kind k=[116,114,97,112]) (x:DoA) (he:x.e=-1) (hto:x.to=-1) (ok1:u32 x.S.nx) (hs:s<32) (ht':t<32) (hd:d<32) (m0:0≤m) (m1:m<4294967296) (ok:S.ok)
  (hdo:∀ W:World,StAt W sb S→DBus W base db rb gb kb hb b wt ht vt→Calls Tryz.prog 128 #[.pointer (some ⟨sb,0,none⟩),.pointer (some ⟨db,0,none⟩),.agg #[.int .i64 k,.int .i64 s,.int .i64 t,.int .i64 d,.int .u32 m]] W (DoPost W sb base db rb gb kb hb wt vt x)) :
  Calls Tryz.prog 69 #[.pointer (some ⟨sb,0,none⟩),.pointer (some ⟨db,0,none⟩),.agg #[.int .i64 k,.int .i64 s,.int .i64 t,.int .i64 d,.int .u32 m]] w (OnePost w sb base db rb gb kb hb wt vt (-1) x.S.fix x.b x.ht):=by
 have b45:=nk h45
 have hkd:=fun W=>kdZ k hk W
 have hfi:¬ DM sb db gb hb vt w.heap.size:=DM.far B A (Nat.le_refl _)
 have hne:w.heap.size≠sb:=fun e=>hfi (Or.inl e)
 have hbA:Below w.heap.size w (w.alloc (.cells #[.int .i64 k,.int .i64 s,.int .i64 t,.int .i64 d,.int .u32 m] 113)):=(Below.refl _ _).alloc (Nat.le_refl _) _
 have D0:Hid (Dq (w.alloc (.cells #[.int .i64 k,.int .i64 s,.int .i64 t,.int .i64 d,.int .u32 m] 113)) w.heap.size sb S k s t d m):=Dq.start A ok k hs ht' hd m0 m1
 have B0:Hid (DBus (w.alloc (.cells #[.int .i64 k,.int .i64 s,.int .i64 t,.int .i64 d,.int .u32 m] 113)) base db rb gb kb hb b wt ht vt):=B.stays hbA
 have K0:Kept w (w.alloc (.cells #[.int .i64 k,.int .i64 s,.int .i64 t,.int .i64 d,.int .u32 m] 113)) (DM sb db gb hb vt):=Kept.of_below _ hbA
 clear A B hbA h45
 obtain ⟨to,e,S1,b1,ht1⟩:=x
 simp only at he hto ok1
 subst he
 subst hto
 rw[hkind]at hkd
 have hpl:=fun W=>p2A S1.nx 4 ok1.1 ok1.2 (by omega) (by omega) W
 show Calls _ _ _ _ (OnePost w sb base db rb gb kb hb wt vt (-1) S1.fix b1 ht1)
 go_enter Tryz.func69,Tryz.ntmps69
 go_upto_region 1 with fail
 generalize w.alloc (.cells #[.int .i64 k,.int .i64 s,.int .i64 t,.int .i64 d,.int .u32 m] 113)=W at *
 generalize w.heap.size=ib at *
 have i0:=D0.out.i0
 have i1:=D0.out.i1
 have i2:=D0.out.i2
 have i3:=D0.out.i3
 have i4:=D0.out.i4
 have hdo1:=hdo W D0.out.a B0.out
 clear hdo
 go_wp2_with fail
 refine hdo1.mono ?_
 rintro e_ w2 ⟨rfl,vt2,A2,B2,T2,M2⟩
 have K2:Kept w w2 (DM sb db gb hb vt):=K0.trans T2 (fun _ _ h=>h)
 have B2H:Hid (DBus w2 base db rb gb kb hb b1 wt ht1 vt2):=B2
 have MM:Hid (Moved w vt vt2):=fun k hk=>(M2 k hk).imp id (fun e=>Nat.le_trans K0.size e)
 have j0:w2.cell? ⟨ib,0,none⟩=some (.int .i64 k):=T2.cell D0.out.i0 hfi
 clear i0 i1 i2 i3 i4 hdo1 B2 M2 T2 D0 B0 K0
 have qr:=A2.reg (i:=0) (by omega)
 have fr:=A2.fz 0
 obtain ⟨-,-,q34,q35,q36,-⟩:=A2.told
 have f34:=A2.fz 34
 have f35:=A2.fz 35
 have A3':=((A2.putR 0 (by omega) 0).putPc S1.nx).putNx (lo (S1.nx+4))
 have T3':=(((Kept.refl w2 (·=sb)).put 0 (.int .u32 0)).put 34 (.int .u32 S1.nx)).put 35 (.int .u32 (lo (S1.nx+4)))
 generalize hnx:lo (S1.nx+4)=nx' at *
 go_upto_region 15 with (go_at_call 102;refine (hpl _).mono ?_;rintro e2 w7 ⟨rfl,rfl⟩)
 clear q34 q35 q36 qr fr f34 f35
 generalize (((w2.setCell ⟨sb,0,none⟩ (.int .u32 0)).setCell ⟨sb,34,none⟩ (.int .u32 S1.nx)).setCell ⟨sb,35,none⟩ (.int .u32 nx'))=w3 at *
 have A3:=A3'
 have T3:=T3'
 clear A3' T3' hpl
 have i0:w3.cell? ⟨ib,0,none⟩=some (.int .i64 k):=T3.cell j0 hne
 clear j0
 go_wp2_with fail
 refine (hkd _).mono ?_
 rintro e_ w4 ⟨rfl,hb4⟩
 have A4:=A3.stays hb4
 have T4:Kept w2 w4 (·=sb):=T3.trans (Kept.of_below _ hb4) (fun _ _ h=>h)
 clear i0 hb4 hkd A3 T3
 obtain ⟨-,-,-,q35,q36,-⟩:=A4.told
 have f35:=A4.fz 35
 have f36:=A4.fz 36
 try simp only at q35 q36
 have A5:=A4.putSl false
 have T5:=T4.put 36 (.bool false)
 go_wp2
 go_ret
 exact ⟨rfl,vt2,by unfold St.fix;rw[hnx];exact A5,B2H.out.st T5 ap,K2.trans T5.dmS (fun _ _ h=>h),MM.out⟩
theorem oneIns_sum (A:StAt w sb S) (B:DBus w base db rb gb kb hb b wt ht vt) (ap:Dap sb base db rb gb kb hb) (hk:k<54) (h45:k≠45) (hkind:Tab.kind k=[115,117,109]) (x:DoA) (he:x.e=-1) (hto:x.to=-1) (ok1:u32 x.S.nx) (hs:s<32) (ht':t<32) (hd:d<32) (m0:0≤m) (m1:m<4294967296) (ok:S.ok)
  (hdo:∀ W:World,StAt W sb S→DBus W base db rb gb kb hb b wt ht vt→Calls Tryz.prog 128 #[.pointer (some ⟨sb,0,none⟩),.pointer (some ⟨db,0,none⟩),.agg #[.int .i64 k,.int .i64 s,.int .i64 t,.int .i64 d,.int .u32 m]] W (DoPost W sb base db rb gb kb hb wt vt x)) :
  Calls Tryz.prog 69 #[.pointer (some ⟨sb,0,none⟩),.pointer (some ⟨db,0,none⟩),.agg #[.int .i64 k,.int .i64 s,.int .i64 t,.int .i64 d,.int .u32 m]] w (OnePost w sb base db rb gb kb hb wt vt (-1) x.S.fix x.b x.ht):=by
 have b45:=nk h45
 have hkd:=fun W=>kdZ k hk W
 have hfi:¬ DM sb db gb hb vt w.heap.size:=DM.far B A (Nat.le_refl _)
 have hne:w.heap.size≠sb:=fun e=>hfi (Or.inl e)
 have hbA:Below w.heap.size w (w.alloc (.cells #[.int .i64 k,.int .i64 s,.int .i64 t,.int .i64 d,.int .u32 m] 113)):=(Below.refl _ _).alloc (Nat.le_refl _) _
 have D0:Hid (Dq (w.alloc (.cells #[.int .i64 k,.int .i64 s,.int .i64 t,.int .i64 d,.int .u32 m] 113)) w.heap.size sb S k s t d m):=Dq.start A ok k hs ht' hd m0 m1
 have B0:Hid (DBus (w.alloc (.cells #[.int .i64 k,.int .i64 s,.int .i64 t,.int .i64 d,.int .u32 m] 113)) base db rb gb kb hb b wt ht vt):=B.stays hbA
 have K0:Kept w (w.alloc (.cells #[.int .i64 k,.int .i64 s,.int .i64 t,.int .i64 d,.int .u32 m] 113)) (DM sb db gb hb vt):=Kept.of_below _ hbA
 clear A B hbA h45
 obtain ⟨to,e,S1,b1,ht1⟩:=x
 simp only at he hto ok1
 subst he
 subst hto
 rw[hkind]at hkd
 have hpl:=fun W=>p2A S1.nx 4 ok1.1 ok1.2 (by omega) (by omega) W
 show Calls _ _ _ _ (OnePost w sb base db rb gb kb hb wt vt (-1) S1.fix b1 ht1)
 go_enter Tryz.func69,Tryz.ntmps69
 go_upto_region 1 with fail
 generalize w.alloc (.cells #[.int .i64 k,.int .i64 s,.int .i64 t,.int .i64 d,.int .u32 m] 113)=W at *
 generalize w.heap.size=ib at *
 have i0:=D0.out.i0
 have i1:=D0.out.i1
 have i2:=D0.out.i2
 have i3:=D0.out.i3
 have i4:=D0.out.i4
 have hdo1:=hdo W D0.out.a B0.out
 clear hdo
 go_wp2_with fail
 refine hdo1.mono ?_
 rintro e_ w2 ⟨rfl,vt2,A2,B2,T2,M2⟩
 have K2:Kept w w2 (DM sb db gb hb vt):=K0.trans T2 (fun _ _ h=>h)
 have B2H:Hid (DBus w2 base db rb gb kb hb b1 wt ht1 vt2):=B2
 have MM:Hid (Moved w vt vt2):=fun k hk=>(M2 k hk).imp id (fun e=>Nat.le_trans K0.size e)
 have j0:w2.cell? ⟨ib,0,none⟩=some (.int .i64 k):=T2.cell D0.out.i0 hfi
 clear i0 i1 i2 i3 i4 hdo1 B2 M2 T2 D0 B0 K0
 have qr:=A2.reg (i:=0) (by omega)
 have fr:=A2.fz 0
 obtain ⟨-,-,q34,q35,q36,-⟩:=A2.told
 have f34:=A2.fz 34
 have f35:=A2.fz 35
 have A3':=((A2.putR 0 (by omega) 0).putPc S1.nx).putNx (lo (S1.nx+4))
 have T3':=(((Kept.refl w2 (·=sb)).put 0 (.int .u32 0)).put 34 (.int .u32 S1.nx)).put 35 (.int .u32 (lo (S1.nx+4)))
 generalize hnx:lo (S1.nx+4)=nx' at *
 go_upto_region 15 with (go_at_call 102;refine (hpl _).mono ?_;rintro e2 w7 ⟨rfl,rfl⟩)
 clear q34 q35 q36 qr fr f34 f35
 generalize (((w2.setCell ⟨sb,0,none⟩ (.int .u32 0)).setCell ⟨sb,34,none⟩ (.int .u32 S1.nx)).setCell ⟨sb,35,none⟩ (.int .u32 nx'))=w3 at *
 have A3:=A3'
 have T3:=T3'
 clear A3' T3' hpl
 have i0:w3.cell? ⟨ib,0,none⟩=some (.int .i64 k):=T3.cell j0 hne
 clear j0
 go_wp2_with fail
 refine (hkd _).mono ?_
 rintro e_ w4 ⟨rfl,hb4⟩
 have A4:=A3.stays hb4
 have T4:Kept w2 w4 (·=sb):=T3.trans (Kept.of_below _ hb4) (fun _ _ h=>h)
 clear i0 hb4 hkd A3 T3
 obtain ⟨-,-,-,q35,q36,-⟩:=A4.told
 have f35:=A4.fz 35
 have f36:=A4.fz 36
 try simp only at q35 q36
 have A5:=A4.putSl false
 have T5:=T4.put 36 (.bool false)
 go_wp2
 go_ret
 exact ⟨rfl,vt2,by unfold St.fix;rw[hnx];exact A5,B2H.out.st T5 ap,K2.trans T5.dmS (fun _ _ h=>h),MM.out⟩
theorem oneIns_brn (A:StAt w sb S) (B:DBus w base db rb gb kb hb b wt ht vt) (ap:Dap sb base db rb gb kb hb) (hk:k<54) (h45:k≠45) (hkind:Tab.kind k=[98,114,97,110,99,104]) (x:DoA) (he:x.e=-1) (hto:x.to=-1) (ok1:u32 x.S.nx) (hs:s<32) (ht':t<32) (hd:d<32) (m0:0≤m) (m1:m<4294967296) (ok:S.ok)
  (hdo:∀ W:World,StAt W sb S→DBus W base db rb gb kb hb b wt ht vt→Calls Tryz.prog 128 #[.pointer (some ⟨sb,0,none⟩),.pointer (some ⟨db,0,none⟩),.agg #[.int .i64 k,.int .i64 s,.int .i64 t,.int .i64 d,.int .u32 m]] W (DoPost W sb base db rb gb kb hb wt vt x)) :
  Calls Tryz.prog 69 #[.pointer (some ⟨sb,0,none⟩),.pointer (some ⟨db,0,none⟩),.agg #[.int .i64 k,.int .i64 s,.int .i64 t,.int .i64 d,.int .u32 m]] w (OnePost w sb base db rb gb kb hb wt vt (-1) (x.S.fixB (-1)) x.b x.ht):=by
 have b45:=nk h45
 have hkd:=fun W=>kdZ k hk W
 have hfi:¬ DM sb db gb hb vt w.heap.size:=DM.far B A (Nat.le_refl _)
 have hne:w.heap.size≠sb:=fun e=>hfi (Or.inl e)
 have hbA:Below w.heap.size w (w.alloc (.cells #[.int .i64 k,.int .i64 s,.int .i64 t,.int .i64 d,.int .u32 m] 113)):=(Below.refl _ _).alloc (Nat.le_refl _) _
 have D0:Hid (Dq (w.alloc (.cells #[.int .i64 k,.int .i64 s,.int .i64 t,.int .i64 d,.int .u32 m] 113)) w.heap.size sb S k s t d m):=Dq.start A ok k hs ht' hd m0 m1
 have B0:Hid (DBus (w.alloc (.cells #[.int .i64 k,.int .i64 s,.int .i64 t,.int .i64 d,.int .u32 m] 113)) base db rb gb kb hb b wt ht vt):=B.stays hbA
 have K0:Kept w (w.alloc (.cells #[.int .i64 k,.int .i64 s,.int .i64 t,.int .i64 d,.int .u32 m] 113)) (DM sb db gb hb vt):=Kept.of_below _ hbA
 clear A B hbA h45
 obtain ⟨to,e,S1,b1,ht1⟩:=x
 simp only at he hto ok1
 subst he
 subst hto
 rw[hkind]at hkd
 have hpl:=fun W=>p2A S1.nx 4 ok1.1 ok1.2 (by omega) (by omega) W
 show Calls _ _ _ _ (OnePost w sb base db rb gb kb hb wt vt (-1) (S1.fixB (-1)) b1 ht1)
 go_enter Tryz.func69,Tryz.ntmps69
 go_upto_region 1 with fail
 generalize w.alloc (.cells #[.int .i64 k,.int .i64 s,.int .i64 t,.int .i64 d,.int .u32 m] 113)=W at *
 generalize w.heap.size=ib at *
 have i0:=D0.out.i0
 have i1:=D0.out.i1
 have i2:=D0.out.i2
 have i3:=D0.out.i3
 have i4:=D0.out.i4
 have hdo1:=hdo W D0.out.a B0.out
 clear hdo
 go_wp2_with fail
 refine hdo1.mono ?_
 rintro e_ w2 ⟨rfl,vt2,A2,B2,T2,M2⟩
 have K2:Kept w w2 (DM sb db gb hb vt):=K0.trans T2 (fun _ _ h=>h)
 have B2H:Hid (DBus w2 base db rb gb kb hb b1 wt ht1 vt2):=B2
 have MM:Hid (Moved w vt vt2):=fun k hk=>(M2 k hk).imp id (fun e=>Nat.le_trans K0.size e)
 have j0:w2.cell? ⟨ib,0,none⟩=some (.int .i64 k):=T2.cell D0.out.i0 hfi
 clear i0 i1 i2 i3 i4 hdo1 B2 M2 T2 D0 B0 K0
 have qr:=A2.reg (i:=0) (by omega)
 have fr:=A2.fz 0
 obtain ⟨-,-,q34,q35,q36,-⟩:=A2.told
 have f34:=A2.fz 34
 have f35:=A2.fz 35
 have A3':=((A2.putR 0 (by omega) 0).putPc S1.nx).putNx (lo (S1.nx+4))
 have T3':=(((Kept.refl w2 (·=sb)).put 0 (.int .u32 0)).put 34 (.int .u32 S1.nx)).put 35 (.int .u32 (lo (S1.nx+4)))
 generalize hnx:lo (S1.nx+4)=nx' at *
 go_upto_region 15 with (go_at_call 102;refine (hpl _).mono ?_;rintro e2 w7 ⟨rfl,rfl⟩)
 clear q34 q35 q36 qr fr f34 f35
 generalize (((w2.setCell ⟨sb,0,none⟩ (.int .u32 0)).setCell ⟨sb,34,none⟩ (.int .u32 S1.nx)).setCell ⟨sb,35,none⟩ (.int .u32 nx'))=w3 at *
 have A3:=A3'
 have T3:=T3'
 clear A3' T3' hpl
 have i0:w3.cell? ⟨ib,0,none⟩=some (.int .i64 k):=T3.cell j0 hne
 clear j0
 go_wp2_with fail
 refine (hkd _).mono ?_
 rintro e_ w4 ⟨rfl,hb4⟩
 have A4:=A3.stays hb4
 have T4:Kept w2 w4 (·=sb):=T3.trans (Kept.of_below _ hb4) (fun _ _ h=>h)
 clear i0 hb4 hkd A3 T3
 obtain ⟨-,-,-,q35,q36,-⟩:=A4.told
 have f35:=A4.fz 35
 have f36:=A4.fz 36
 try simp only at q35 q36
 have A5:=A4.putSl true
 have T5:=T4.put 36 (.bool true)
 go_wp2
 go_ret
 exact ⟨rfl,vt2,by unfold St.fixB;rw[if_neg (by omega),hnx];exact A5,B2H.out.st T5 ap,K2.trans T5.dmS (fun _ _ h=>h),MM.out⟩
theorem oneIns_brt (A:StAt w sb S) (B:DBus w base db rb gb kb hb b wt ht vt) (ap:Dap sb base db rb gb kb hb) (hk:k<54) (h45:k≠45) (hkind:Tab.kind k=[98,114,97,110,99,104]) (x:DoA) (he:x.e=-1) (hto:u32 x.to) (ok1:u32 x.S.nx) (hs:s<32) (ht':t<32) (hd:d<32) (m0:0≤m) (m1:m<4294967296) (ok:S.ok)
  (hdo:∀ W:World,StAt W sb S→DBus W base db rb gb kb hb b wt ht vt→Calls Tryz.prog 128 #[.pointer (some ⟨sb,0,none⟩),.pointer (some ⟨db,0,none⟩),.agg #[.int .i64 k,.int .i64 s,.int .i64 t,.int .i64 d,.int .u32 m]] W (DoPost W sb base db rb gb kb hb wt vt x)) :
  Calls Tryz.prog 69 #[.pointer (some ⟨sb,0,none⟩),.pointer (some ⟨db,0,none⟩),.agg #[.int .i64 k,.int .i64 s,.int .i64 t,.int .i64 d,.int .u32 m]] w (OnePost w sb base db rb gb kb hb wt vt (-1) (x.S.fixB x.to) x.b x.ht):=by
 have b45:=nk h45
 have hkd:=fun W=>kdZ k hk W
 have hfi:¬ DM sb db gb hb vt w.heap.size:=DM.far B A (Nat.le_refl _)
 have hne:w.heap.size≠sb:=fun e=>hfi (Or.inl e)
 have hbA:Below w.heap.size w (w.alloc (.cells #[.int .i64 k,.int .i64 s,.int .i64 t,.int .i64 d,.int .u32 m] 113)):=(Below.refl _ _).alloc (Nat.le_refl _) _
 have D0:Hid (Dq (w.alloc (.cells #[.int .i64 k,.int .i64 s,.int .i64 t,.int .i64 d,.int .u32 m] 113)) w.heap.size sb S k s t d m):=Dq.start A ok k hs ht' hd m0 m1
 have B0:Hid (DBus (w.alloc (.cells #[.int .i64 k,.int .i64 s,.int .i64 t,.int .i64 d,.int .u32 m] 113)) base db rb gb kb hb b wt ht vt):=B.stays hbA
 have K0:Kept w (w.alloc (.cells #[.int .i64 k,.int .i64 s,.int .i64 t,.int .i64 d,.int .u32 m] 113)) (DM sb db gb hb vt):=Kept.of_below _ hbA
 clear A B hbA h45
 obtain ⟨to,e,S1,b1,ht1⟩:=x
 simp only at he hto ok1
 subst he
 obtain ⟨to0,to1⟩:=hto
 rw[hkind]at hkd
 have hpl:=fun W=>p2A S1.nx 4 ok1.1 ok1.2 (by omega) (by omega) W
 show Calls _ _ _ _ (OnePost w sb base db rb gb kb hb wt vt (-1) (S1.fixB to) b1 ht1)
 go_enter Tryz.func69,Tryz.ntmps69
 go_upto_region 1 with fail
 generalize w.alloc (.cells #[.int .i64 k,.int .i64 s,.int .i64 t,.int .i64 d,.int .u32 m] 113)=W at *
 generalize w.heap.size=ib at *
 have i0:=D0.out.i0
 have i1:=D0.out.i1
 have i2:=D0.out.i2
 have i3:=D0.out.i3
 have i4:=D0.out.i4
 have hdo1:=hdo W D0.out.a B0.out
 clear hdo
 go_wp2_with fail
 refine hdo1.mono ?_
 rintro e_ w2 ⟨rfl,vt2,A2,B2,T2,M2⟩
 have K2:Kept w w2 (DM sb db gb hb vt):=K0.trans T2 (fun _ _ h=>h)
 have B2H:Hid (DBus w2 base db rb gb kb hb b1 wt ht1 vt2):=B2
 have MM:Hid (Moved w vt vt2):=fun k hk=>(M2 k hk).imp id (fun e=>Nat.le_trans K0.size e)
 have j0:w2.cell? ⟨ib,0,none⟩=some (.int .i64 k):=T2.cell D0.out.i0 hfi
 clear i0 i1 i2 i3 i4 hdo1 B2 M2 T2 D0 B0 K0
 have qr:=A2.reg (i:=0) (by omega)
 have fr:=A2.fz 0
 obtain ⟨-,-,q34,q35,q36,-⟩:=A2.told
 have f34:=A2.fz 34
 have f35:=A2.fz 35
 have A3':=((A2.putR 0 (by omega) 0).putPc S1.nx).putNx (lo (S1.nx+4))
 have T3':=(((Kept.refl w2 (·=sb)).put 0 (.int .u32 0)).put 34 (.int .u32 S1.nx)).put 35 (.int .u32 (lo (S1.nx+4)))
 generalize hnx:lo (S1.nx+4)=nx' at *
 go_upto_region 15 with (go_at_call 102;refine (hpl _).mono ?_;rintro e2 w7 ⟨rfl,rfl⟩)
 clear q34 q35 q36 qr fr f34 f35
 generalize (((w2.setCell ⟨sb,0,none⟩ (.int .u32 0)).setCell ⟨sb,34,none⟩ (.int .u32 S1.nx)).setCell ⟨sb,35,none⟩ (.int .u32 nx'))=w3 at *
 have A3:=A3'
 have T3:=T3'
 clear A3' T3' hpl
 have i0:w3.cell? ⟨ib,0,none⟩=some (.int .i64 k):=T3.cell j0 hne
 clear j0
 go_wp2_with fail
 refine (hkd _).mono ?_
 rintro e_ w4 ⟨rfl,hb4⟩
 have A4:=A3.stays hb4
 have T4:Kept w2 w4 (·=sb):=T3.trans (Kept.of_below _ hb4) (fun _ _ h=>h)
 clear i0 hb4 hkd A3 T3
 obtain ⟨-,-,-,q35,q36,-⟩:=A4.told
 have f35:=A4.fz 35
 have f36:=A4.fz 36
 try simp only at q35 q36
 have A5:=(A4.putSl true).putNx to
 have T5:=(T4.put 36 (.bool true)).put 35 (.int .u32 to)
 go_wp2
 go_ret
 exact ⟨rfl,vt2,by unfold St.fixB;rw[if_pos to0];exact A5,B2H.out.st T5 ap,K2.trans T5.dmS (fun _ _ h=>h),MM.out⟩
theorem eret_shallow (A:StAt w sb S) (B:DBus w base db rb gb kb hb b wt ht vt) (ap:Dap sb base db rb gb kb hb) (h45:k=45) (hst:bits .and .u32 S.st 2=0) (hs:s<32) (ht':t<32) (hd:d<32) (m0:0≤m) (m1:m<4294967296) (ok:S.ok) :
  Calls Tryz.prog 69 #[.pointer (some ⟨sb,0,none⟩),.pointer (some ⟨db,0,none⟩),.agg #[.int .i64 k,.int .i64 s,.int .i64 t,.int .i64 d,.int .u32 m]] w (OnePost w sb base db rb gb kb hb wt vt (backP S).1 (backP S).2 b ht):=by
 subst h45
 have hbo:=fun W=>bitOf_any S.st 1 ok.st.1 ok.st.2 (by omega) (by omega) W
 simp only[pw1]at hbo
 have hbA:Below w.heap.size w (w.alloc (.cells #[.int .i64 45,.int .i64 s,.int .i64 t,.int .i64 d,.int .u32 m] 113)):=(Below.refl _ _).alloc (Nat.le_refl _) _
 have D0:Hid (Dq (w.alloc (.cells #[.int .i64 45,.int .i64 s,.int .i64 t,.int .i64 d,.int .u32 m] 113)) w.heap.size sb S 45 s t d m):=Dq.start A ok 45 hs ht' hd m0 m1
 have B0:Hid (DBus (w.alloc (.cells #[.int .i64 45,.int .i64 s,.int .i64 t,.int .i64 d,.int .u32 m] 113)) base db rb gb kb hb b wt ht vt):=B.stays hbA
 have K0:Kept w (w.alloc (.cells #[.int .i64 45,.int .i64 s,.int .i64 t,.int .i64 d,.int .u32 m] 113)) (DM sb db gb hb vt):=Kept.of_below _ hbA
 clear A B hbA
 have X:backP S=(10,S):=by unfold backP;rw[if_pos (Or.inl hst)]
 rw[X]
 clear X
 have hb0:(S.st/2%2==1)=false:=by rw[and2_eq ok.st.1 ok.st.2]at hst;simp;omega
 clear hst
 show Calls _ _ _ _ (OnePost w sb base db rb gb kb hb wt vt 10 S b ht)
 go_enter Tryz.func69,Tryz.ntmps69
 go_upto_region 1 with fail
 generalize w.alloc (.cells #[.int .i64 45,.int .i64 s,.int .i64 t,.int .i64 d,.int .u32 m] 113)=W at *
 generalize w.heap.size=ib at *
 have i0:=D0.out.i0
 have A0:=D0.out.a
 obtain ⟨-,-,-,-,q36,q37,-⟩:=A0.told
 go_wp2_with (go_at_call 98;refine (hbo _).mono ?_;rintro e2 w7 ⟨rfl,rfl⟩)
 go_ret
 exact ⟨rfl,vt,A0,B0.out,K0,Moved.refl _ _⟩
theorem eret_slot (A:StAt w sb S) (B:DBus w base db rb gb kb hb b wt ht vt) (ap:Dap sb base db rb gb kb hb) (h45:k=45) (hst:¬ bits .and .u32 S.st 2=0) (hsl:S.sl=true) (hs:s<32) (ht':t<32) (hd:d<32) (m0:0≤m) (m1:m<4294967296) (ok:S.ok) :
  Calls Tryz.prog 69 #[.pointer (some ⟨sb,0,none⟩),.pointer (some ⟨db,0,none⟩),.agg #[.int .i64 k,.int .i64 s,.int .i64 t,.int .i64 d,.int .u32 m]] w (OnePost w sb base db rb gb kb hb wt vt (backP S).1 (backP S).2 b ht):=by
 subst h45
 have hbo:=fun W=>bitOf_any S.st 1 ok.st.1 ok.st.2 (by omega) (by omega) W
 simp only[pw1]at hbo
 have hbA:Below w.heap.size w (w.alloc (.cells #[.int .i64 45,.int .i64 s,.int .i64 t,.int .i64 d,.int .u32 m] 113)):=(Below.refl _ _).alloc (Nat.le_refl _) _
 have D0:Hid (Dq (w.alloc (.cells #[.int .i64 45,.int .i64 s,.int .i64 t,.int .i64 d,.int .u32 m] 113)) w.heap.size sb S 45 s t d m):=Dq.start A ok 45 hs ht' hd m0 m1
 have B0:Hid (DBus (w.alloc (.cells #[.int .i64 45,.int .i64 s,.int .i64 t,.int .i64 d,.int .u32 m] 113)) base db rb gb kb hb b wt ht vt):=B.stays hbA
 have K0:Kept w (w.alloc (.cells #[.int .i64 45,.int .i64 s,.int .i64 t,.int .i64 d,.int .u32 m] 113)) (DM sb db gb hb vt):=Kept.of_below _ hbA
 clear A B hbA
 have X:backP S=(10,S):=by unfold backP;rw[if_pos (Or.inr hsl)]
 rw[X]
 clear X
 have hb0:(S.st/2%2==1)=true:=by rw[and2_eq ok.st.1 ok.st.2]at hst;simp;omega
 clear hst
 show Calls _ _ _ _ (OnePost w sb base db rb gb kb hb wt vt 10 S b ht)
 go_enter Tryz.func69,Tryz.ntmps69
 go_upto_region 1 with fail
 generalize w.alloc (.cells #[.int .i64 45,.int .i64 s,.int .i64 t,.int .i64 d,.int .u32 m] 113)=W at *
 generalize w.heap.size=ib at *
 have i0:=D0.out.i0
 have A0:=D0.out.a
 obtain ⟨-,-,-,-,q36,q37,-⟩:=A0.told
 rw[hsl]at q36
 go_wp2_with (go_at_call 98;refine (hbo _).mono ?_;rintro e2 w7 ⟨rfl,rfl⟩)
 go_ret
 exact ⟨rfl,vt,A0,B0.out,K0,Moved.refl _ _⟩
theorem eret_on (A:StAt w sb S) (B:DBus w base db rb gb kb hb b wt ht vt) (ap:Dap sb base db rb gb kb hb) (h45:k=45) (hst:¬ bits .and .u32 S.st 2=0) (hsl:S.sl=false) (hs:s<32) (ht':t<32) (hd:d<32) (m0:0≤m) (m1:m<4294967296) (ok:S.ok) :
  Calls Tryz.prog 69 #[.pointer (some ⟨sb,0,none⟩),.pointer (some ⟨db,0,none⟩),.agg #[.int .i64 k,.int .i64 s,.int .i64 t,.int .i64 d,.int .u32 m]] w (OnePost w sb base db rb gb kb hb wt vt (backP S).1 (backP S).2 b ht):=by
 subst h45
 have hbo:=fun W=>bitOf_any S.st 1 ok.st.1 ok.st.2 (by omega) (by omega) W
 simp only[pw1]at hbo
 have hbA:Below w.heap.size w (w.alloc (.cells #[.int .i64 45,.int .i64 s,.int .i64 t,.int .i64 d,.int .u32 m] 113)):=(Below.refl _ _).alloc (Nat.le_refl _) _
 have D0:Hid (Dq (w.alloc (.cells #[.int .i64 45,.int .i64 s,.int .i64 t,.int .i64 d,.int .u32 m] 113)) w.heap.size sb S 45 s t d m):=Dq.start A ok 45 hs ht' hd m0 m1
 have B0:Hid (DBus (w.alloc (.cells #[.int .i64 45,.int .i64 s,.int .i64 t,.int .i64 d,.int .u32 m] 113)) base db rb gb kb hb b wt ht vt):=B.stays hbA
 have K0:Kept w (w.alloc (.cells #[.int .i64 45,.int .i64 s,.int .i64 t,.int .i64 d,.int .u32 m] 113)) (DM sb db gb hb vt):=Kept.of_below _ hbA
 clear A B hbA
 have X:backP S=(-1,{ S with pc:=S.ep,nx:=lo (S.ep+4),sl:=false,st:=bits .andNot .u32 S.st 2 }):=by unfold backP;rw[if_neg (by rintro (h|h);exact hst h;rw[hsl]at h;exact absurd h (by decide))];rfl
 rw[X]
 clear X
 have hb0:(S.st/2%2==1)=true:=by rw[and2_eq ok.st.1 ok.st.2]at hst;simp;omega
 clear hst
 have hwb:=fun W=>withBit_any S.st 1 2 false ok.st.1 ok.st.2 (by omega) (by omega) pw1 (by omega) (by omega) W
 have est:lo (S.st-S.st/2%2*2+if false=true then 2 else 0)=bits .andNot .u32 S.st 2:=by
  have:=ok.st.1;have:=ok.st.2
  rw[andNot2_eq ok.st.1 ok.st.2,if_neg (by decide)];unfold Num.lo;omega
 simp only[est]at hwb
 have hpl:=fun W=>p2A S.ep 4 ok.ep.1 ok.ep.2 (by omega) (by omega) W
 clear est
 generalize lo (S.ep+4)=nx' at *
 generalize bits .andNot .u32 S.st 2=st' at *
 show Calls _ _ _ _ (OnePost w sb base db rb gb kb hb wt vt (-1) { S with pc:=S.ep,nx:=nx',sl:=false,st:=st' } b ht)
 go_enter Tryz.func69,Tryz.ntmps69
 go_upto_region 1 with fail
 generalize w.alloc (.cells #[.int .i64 45,.int .i64 s,.int .i64 t,.int .i64 d,.int .u32 m] 113)=W at *
 generalize w.heap.size=ib at *
 have i0:=D0.out.i0
 have A0:=D0.out.a
 obtain ⟨-,-,q34,q35,q36,q37,-,q39,-⟩:=A0.told
 have f34:=A0.fz 34
 have f35:=A0.fz 35
 have f37:=A0.fz 37
 have A5:=((A0.putPc S.ep).putNx nx').putSt st'
 have T5:=(((Kept.refl W (·=sb)).put 34 (.int .u32 S.ep)).put 35 (.int .u32 nx')).put 37 (.int .u32 st')
 rw[hsl]at q36
 go_wp2_with (first|(go_at_call 98;refine (hbo _).mono ?_;rintro e2 w7 ⟨rfl,rfl⟩)|(go_at_call 102;refine (hpl _).mono ?_;rintro e2 w7 ⟨rfl,rfl⟩)|(go_at_call 103;refine (hwb _).mono ?_;rintro e2 w7 ⟨rfl,rfl⟩))
 go_ret
 have hS:{ S with pc:=S.ep,nx:=nx',st:=st' }={ S with pc:=S.ep,nx:=nx',sl:=false,st:=st' }:=by rw[←hsl]
 exact ⟨rfl,vt,hS▸A5,B0.out.st T5 ap,K0.trans T5.dmS (fun _ _ h=>h),Moved.refl _ _⟩
end
structure Plain (S:St) (b:Bs) (x:Int × St × Bs):Prop where
 ct:x.2.1.ct=S.ct
 code:x.1=-1∨(0≤x.1∧x.1<32)
 lamp:u32 b.lamp→u32 x.2.2.lamp
 out:x.2.2.out.length≤b.out.length+1
 tr:x.2.2.tr.length≤b.tr.length+1
theorem set_ct (S:St) (n:Nat) (v:Int):(S.set n v).ct=S.ct:=by unfold St.set;split<;>rfl
theorem branchP_ct (S:St) (k s t d:Nat) (m:Int):(branchP S k s t d m).2.ct=S.ct∧((branchP S k s t d m).1=-1∨(0≤(branchP S k s t d m).1∧(branchP S k s t d m).1<32)):=by
 unfold branchP
 split
 ·exact ⟨rfl,Or.inr ⟨by show (0:Int)≤10;omega,by show (10:Int)<32;omega⟩⟩
 ·refine ⟨?_,Or.inl rfl⟩
  show St.ct (if k=30 then S.set 31 _ else if k=8 then S.set d _ else S)=S.ct
  split
  ·exact set_ct _ _ _
  split
  ·exact set_ct _ _ _
  ·rfl
theorem code_in {x:Int} (h:x=-1∨x=8∨x=9∨x=10∨x=12∨x=4∨x=5∨x=0):x=-1∨(0≤x∧x<32):=by omega
theorem trapP_ct (S:St) (k t d:Nat):(trapP S k t d).2.ct=S.ct∧((trapP S k t d).1=-1∨(trapP S k t d).1=8∨(trapP S k t d).1=9∨(trapP S k t d).1=10):=by
 have hf:(fromP S t d).2.ct=S.ct∧((fromP S t d).1=-1∨(fromP S t d).1=10):=by
  unfold fromP;(repeat' split)<;>first|exact ⟨set_ct _ _ _,Or.inl rfl⟩|exact ⟨rfl,Or.inr rfl⟩
 have ht:(toP S t d).2.ct=S.ct∧((toP S t d).1=-1∨(toP S t d).1=10):=by
  unfold toP;(repeat' split)<;>first|exact ⟨rfl,Or.inl rfl⟩|exact ⟨rfl,Or.inr rfl⟩
 have hb:(backP S).2.ct=S.ct∧((backP S).1=-1∨(backP S).1=10):=by
  unfold backP;split<;>first|exact ⟨rfl,Or.inl rfl⟩|exact ⟨rfl,Or.inr rfl⟩
 unfold trapP
 split
 ·exact ⟨rfl,by simp⟩
 split
 ·exact ⟨rfl,by simp⟩
 split
 ·exact ⟨hf.1,by rcases hf.2 with h|h<;>simp[h]⟩
 split
 ·exact ⟨ht.1,by rcases ht.2 with h|h<;>simp[h]⟩
 split
 ·exact ⟨hb.1,by rcases hb.2 with h|h<;>simp[h]⟩
 ·exact ⟨rfl,by simp⟩
theorem sumP_ct (S:St) (k s t d:Nat) (m:Int):(sumP S k s t d m).2.ct=S.ct∧((sumP S k s t d m).1=-1∨(sumP S k s t d m).1=12):=by
 unfold sumP
 split
 ·exact ⟨rfl,Or.inl rfl⟩
 split
 ·refine ⟨?_,Or.inl rfl⟩
  dsimp only
  split<;>rfl
 split
 ·exact ⟨rfl,Or.inl rfl⟩
 split
 ·exact ⟨rfl,Or.inl rfl⟩
 split
 ·exact ⟨rfl,Or.inr rfl⟩
 ·exact ⟨set_ct _ _ _,Or.inl rfl⟩
theorem insP_plain {S:St} (o:S.ok) (b:Bs) (k s t d:Nat) (m:Int):Plain S b (insP S b k s t d m):=by
 unfold insP
 split
 ·have h:=branchP_ct S k s t d m
  exact ⟨h.1,h.2,id,Nat.le_succ _,Nat.le_succ _⟩
 split
 ·split
  ·exact ⟨rfl,code_in (by simp),id,Nat.le_succ _,Nat.le_succ _⟩
  ·exact ⟨set_ct _ _ _,Or.inl rfl,fun h=>by show u32 (b.got _ _ _).lamp;unfold Bs.got;split<;>exact h,by show (b.got _ _ _).out.length≤_;rw[b.got_out];omega,b.got_tr _ _ _⟩
 split
 ·split
  ·exact ⟨rfl,code_in (by simp),id,Nat.le_succ _,Nat.le_succ _⟩
  ·refine ⟨rfl,Or.inl rfl,fun h=>?_,b.put_out _ _ _ _,b.put_tr _ _ _ _⟩
   show u32 (b.put _ _ _ _).lamp
   unfold Bs.put
   split
   ·show u32 (lampN _ _ _)
    unfold lampN
    split
    ·exact o.r t
    ·exact h
   split
   ·exact h
   ·exact h
 split
 ·have h:=trapP_ct S k t d
  exact ⟨h.1,code_in (by rcases h.2 with h|h|h|h<;>simp[h]),id,Nat.le_succ _,Nat.le_succ _⟩
 ·have h:=sumP_ct S k s t d m
  exact ⟨h.1,code_in (by rcases h.2 with h|h<;>simp[h]),id,Nat.le_succ _,Nat.le_succ _⟩
section
variable {w0 w : World} {base sb bb rb bp bw bh N : Nat} {S : St} {b : Bs} {vo vt : Value}
def St.new (pc:Int):St:=⟨fun _=>0,0,0,pc,Num.lo (pc+4),false,0,0,0,0,0,0⟩
end
section
variable {w0 w : World} {base sb bb rb bp bw bh N : Nat} {S : St} {b : Bs} {vo vt : Value}
end
theorem kinds5:∀ k,k<54→Tab.kind k=[98,114,97,110,99,104]∨Tab.kind k=[108,111,97,100]∨Tab.kind k=[115,116,111,114,101]∨Tab.kind k=[116,114,97,112]∨Tab.kind k=[115,117,109]:=by decide
def htI (wt ht:Int→Bool) (S:St) (k s:Nat) (m:Int):Int→Bool:=if Tab.kind k=[115,116,111,114,101] then htD wt ht (adI S k s m) (szI k) else ht
theorem bad_got {b:Bs} {a s:Int} (c:Int) (h:bad a s=true):b.got a s c=b:=by
 unfold Bs.got;rw[if_neg (fun e=>by simp[bad,e]at h)]
theorem bad_put {b:Bs} {a s:Int} (v c:Int) (h:bad a s=true):b.put a s v c=b:=by
 unfold bad at h;simp at h
 unfold Bs.put;rw[if_neg (by simp[h.1]),if_neg h.2]
theorem set_r0 {S:St} (h:S.r 0=0) (n:Nat) (v:Int):(S.set n v).r 0=0:=by
 unfold St.set
 split
 ·exact h
 ·show (if 0=n then v else S.r 0)=0
  rw[if_neg (by omega),h]
theorem insP_r0 {S:St} (h:S.r 0=0) (b:Bs) (k s t d:Nat) (m:Int):(insP S b k s t d m).2.1.r 0=0:=by
 unfold insP
 split
 ·show (branchP S k s t d m).2.r 0=0
  unfold branchP
  split
  ·exact h
  ·show (if k=30 then S.set 31 _ else if k=8 then S.set d _ else S).r 0=0
   split
   ·exact set_r0 h _ _
   split
   ·exact set_r0 h _ _
   ·exact h
 split
 ·split
  ·exact h
  ·exact set_r0 h _ _
 split
 ·split<;>exact h
 split
 ·show (trapP S k t d).2.r 0=0
  unfold trapP fromP toP backP
  (repeat' split)<;>first|exact h|exact set_r0 h _ _
 ·show (sumP S k s t d m).2.r 0=0
  unfold sumP
  (repeat' split)<;>first|exact h|exact set_r0 h _ _|(dsimp only;split<;>exact h)
section
variable {w : World} {sb base db rb gb kb hb : Nat} {b : Bs} {wt ht : Int → Bool} {vt : Value} {S : St} {k s t d : Nat} {m : Int}
theorem insP_ok (o:S.ok) (mb:∀ i,0≤b.m i∧b.m i<4294967296) (lb:u32 b.lamp) (k s t d:Nat) {m:Int} (m0:0≤m) (m1:m<4294967296):(insP S b k s t d m).2.1.ok:=by
 unfold insP
 split
 ·exact branchP_ok o k s t d m
 split
 ·split
  ·exact St.ok_bd o (lo_bd _)
  ·exact St.on_ok (St.set_ok o _ (valI_bd mb lb _ _ _ _))
 split
 ·split
  ·exact St.ok_bd o (lo_bd _)
  ·exact St.on_ok o
 split
 ·exact trapP_ok o k t d
 ·exact sumP_ok o k s t d m0 m1
theorem oneIns_any (A:StAt w sb S) (B:DBus w base db rb gb kb hb b wt ht vt) (ap:Dap sb base db rb gb kb hb) (ok:S.ok) (hr0:S.r 0=0) (hk:k<54) (hs:s<32) (ht':t<32) (hd:d<32) (m0:0≤m) (m1:m<4294967296) (v1:k=1∨k=2∨k=3→m<32) (v2:k=29∨k=30→m<67108864) (hn:b.out.length≤1000) (hn2:b.tr.length≤1000) :
  Calls Tryz.prog 69 #[.pointer (some ⟨sb,0,none⟩),.pointer (some ⟨db,0,none⟩),.agg #[.int .i64 k,.int .i64 s,.int .i64 t,.int .i64 d,.int .u32 m]] w (OnePost w sb base db rb gb kb hb wt vt (insP S b k s t d m).1 (insP S b k s t d m).2.1 (insP S b k s t d m).2.2 (htI wt ht S k s m)):=by
 rcases kinds5 k hk with h|h|h|h|h
 ·have ei:insP S b k s t d m=((branchP S k s t d m).1,(branchP S k s t d m).2,b):=by unfold insP;rw[if_pos h]
  have eh:htI wt ht S k s m=ht:=by unfold htI;rw[if_neg (by rw[h];decide)]
  have h45:k≠45:=fun e=>by rw[e]at h;exact absurd h (by decide)
  rw[ei,eh]
  cases hsl:S.sl with
  | true =>
   have e1:branchD S k s t d m=(-1,10,S):=by unfold branchD;rw[if_pos hsl]
   have e2:branchP S k s t d m=(10,S):=by unfold branchP;rw[if_pos hsl]
   rw[e2]
   refine oneIns_exc A B h45 ⟨-1,10,S,b,ht⟩ (by show (0:Int)≤10;omega) hs ht' hd m0 m1 ok (fun W X Y=>?_)
   have:=do_branch X Y ap ok hs ht' hd m0 m1 hk h v2
   rw[e1]at this
   exact this
  | false =>
   obtain ⟨e1,e2,e3,e4⟩:=branchD_eq ok hr0 k s t d m hsl
   have nx:u32 (branchD S k s t d m).2.2.nx:=by rw[branchD_nx];exact ok.nx
   have hdo:=fun (W:World) (X:StAt W sb S) (Y:DBus W base db rb gb kb hb b wt ht vt)=>do_branch X Y ap ok hs ht' hd m0 m1 hk h v2
   rw[e2,←e1]
   rcases e4 with e4|e4
   ·have:=oneIns_brn A B ap hk h45 h ⟨(branchD S k s t d m).1,(branchD S k s t d m).2.1,(branchD S k s t d m).2.2,b,ht⟩ e3 e4 nx hs ht' hd m0 m1 ok hdo
    rw[e4];exact this
   ·exact oneIns_brt A B ap hk h45 h ⟨(branchD S k s t d m).1,(branchD S k s t d m).2.1,(branchD S k s t d m).2.2,b,ht⟩ e3 e4 nx hs ht' hd m0 m1 ok hdo
 ·have h45:k≠45:=fun e=>by rw[e]at h;exact absurd h (by decide)
  have eh:htI wt ht S k s m=ht:=by unfold htI;rw[if_neg (by rw[h];decide)]
  have hdo:=fun (W:World) (X:StAt W sb S) (Y:DBus W base db rb gb kb hb b wt ht vt)=>do_load X Y ap ok hs ht' hd m0 m1 hk h hn hn2
  rw[eh]
  cases hbad:bad (adI S k s m) (szI k) with
  | true =>
   have ei:insP S b k s t d m=(4,{ S with bd:=adI S k s m },b):=by unfold insP;rw[if_neg (by rw[h];decide),if_pos h,if_pos hbad]
   rw[ei]
   simp only[hbad,if_true,bad_got S.ct hbad]at hdo
   exact oneIns_exc A B h45 ⟨-1,4,{ S with bd:=adI S k s m },b,ht⟩ (by show (0:Int)≤4;omega) hs ht' hd m0 m1 ok hdo
  | false =>
   have ei:insP S b k s t d m=(-1,(S.set t (b.val (adI S k s m) (szI k) (sgI k) S.ct)).on,b.got (adI S k s m) (szI k) S.ct):=by unfold insP;rw[if_neg (by rw[h];decide),if_pos h,if_neg (by rw[hbad];decide)]
   rw[ei]
   simp only[hbad,Bool.false_eq_true,if_false]at hdo
   rw[←fix_set hr0]
   exact oneIns_load A B ap hk h45 h ⟨-1,-1,S.putR t (b.val (adI S k s m) (szI k) (sgI k) S.ct),b.got (adI S k s m) (szI k) S.ct,ht⟩ rfl rfl ok.nx hs ht' hd m0 m1 ok hdo
 ·have h45:k≠45:=fun e=>by rw[e]at h;exact absurd h (by decide)
  have eh:htI wt ht S k s m=htD wt ht (adI S k s m) (szI k):=by unfold htI;rw[if_pos h]
  have hdo:=fun (W:World) (X:StAt W sb S) (Y:DBus W base db rb gb kb hb b wt ht vt)=>do_store X Y ap ok hs ht' hd m0 m1 hk h hn hn2
  rw[eh]
  cases hbad:bad (adI S k s m) (szI k) with
  | true =>
   have ei:insP S b k s t d m=(5,{ S with bd:=adI S k s m },b):=by unfold insP;rw[if_neg (by rw[h];decide),if_neg (by rw[h];decide),if_pos h,if_pos hbad]
   rw[ei]
   simp only[hbad,if_true,bad_put (S.r t) S.ct hbad]at hdo
   exact oneIns_exc A B h45 ⟨-1,5,{ S with bd:=adI S k s m },b,htD wt ht (adI S k s m) (szI k)⟩ (by show (0:Int)≤5;omega) hs ht' hd m0 m1 ok hdo
  | false =>
   have ei:insP S b k s t d m=(-1,S.on,b.put (adI S k s m) (szI k) (S.r t) S.ct):=by unfold insP;rw[if_neg (by rw[h];decide),if_neg (by rw[h];decide),if_pos h,if_neg (by rw[hbad];decide)]
   rw[ei]
   simp only[hbad,Bool.false_eq_true,if_false]at hdo
   rw[←fix_on hr0]
   exact oneIns_store A B ap hk h45 h ⟨-1,-1,S,b.put (adI S k s m) (szI k) (S.r t) S.ct,htD wt ht (adI S k s m) (szI k)⟩ rfl rfl ok.nx hs ht' hd m0 m1 ok hdo
 ·have ei:insP S b k s t d m=((trapP S k t d).1,(trapP S k t d).2,b):=by unfold insP;rw[if_neg (by rw[h];decide),if_neg (by rw[h];decide),if_neg (by rw[h];decide),if_pos h]
  have eh:htI wt ht S k s m=ht:=by unfold htI;rw[if_neg (by rw[h];decide)]
  rw[ei,eh]
  by_cases h45:k=45
  ·have e:trapP S k t d=backP S:=by rw[h45];rfl
   rw[e]
   by_cases hst:bits .and .u32 S.st 2=0
   ·exact eret_shallow A B ap h45 hst hs ht' hd m0 m1 ok
   ·cases hsl:S.sl with
    | true=>exact eret_slot A B ap h45 hst hsl hs ht' hd m0 m1 ok
    | false=>exact eret_on A B ap h45 hst hsl hs ht' hd m0 m1 ok
  ·obtain ⟨e1,e2,e3⟩:=trapD_eq ok hr0 k t d h45
   have hdo:=fun (W:World) (X:StAt W sb S) (Y:DBus W base db rb gb kb hb b wt ht vt)=>do_trap X Y ap ok hs ht' hd m0 m1 hk h
   have nx:u32 (trapD S k t d).2.nx:=by rw[trapD_nx];exact ok.nx
   have hc:=(trapP_ct S k t d).2
   by_cases he:(trapP S k t d).1=-1
   ·rw[he,←e2 he]
    exact oneIns_trap A B ap hk h45 h ⟨-1,(trapD S k t d).1,(trapD S k t d).2,b,ht⟩ (e1.trans he) rfl nx hs ht' hd m0 m1 ok hdo
   ·rw[←e1,←e3 he]
    exact oneIns_exc A B h45 ⟨-1,(trapD S k t d).1,(trapD S k t d).2,b,ht⟩ (by show 0≤(trapD S k t d).1;rw[e1];omega) hs ht' hd m0 m1 ok hdo
 ·have ei:insP S b k s t d m=((sumP S k s t d m).1,(sumP S k s t d m).2,b):=by unfold insP;rw[if_neg (by rw[h];decide),if_neg (by rw[h];decide),if_neg (by rw[h];decide),if_neg (by rw[h];decide)]
  have eh:htI wt ht S k s m=ht:=by unfold htI;rw[if_neg (by rw[h];decide)]
  have h45:k≠45:=fun e=>by rw[e]at h;exact absurd h (by decide)
  rw[ei,eh]
  obtain ⟨e1,e2,e3⟩:=sumD_eq hr0 k s t d m
  have hdo:=fun (W:World) (X:StAt W sb S) (Y:DBus W base db rb gb kb hb b wt ht vt)=>do_sum X Y ap ok hs ht' hd m0 m1 hk h v1
  have nx:u32 (sumD S k s t d m).2.nx:=by rw[sumD_nx];exact ok.nx
  have hc:=(sumP_ct S k s t d m).2
  by_cases he:(sumP S k s t d m).1=-1
  ·rw[he,←e2 he]
   exact oneIns_sum A B ap hk h45 h ⟨-1,(sumD S k s t d m).1,(sumD S k s t d m).2,b,ht⟩ (e1.trans he) rfl nx hs ht' hd m0 m1 ok hdo
  ·rw[←e1,←e3 he]
   exact oneIns_exc A B h45 ⟨-1,(sumD S k s t d m).1,(sumD S k s t d m).2,b,ht⟩ (by show 0≤(sumD S k s t d m).1;rw[e1];omega) hs ht' hd m0 m1 ok hdo
end
section
variable {w0 w : World} {base sb db rb gb kb hb : Nat} {S : St} {b : Bs} {vt : Value}
end
end Go.Proofs.YtflagpkmebdckaaGreatDoor
