
import Derived.Test.YtflagpkmebdckaaGreatDoorKDKt
namespace Go.Proofs.YtflagpkmebdckaaGreatDoor
open Go.RowKit Go.Maps
open Num
set_option linter.unusedVariables false
set_option maxRecDepth 100000
set_option maxHeartbeats 8000000
section
variable {w : World} {sb : Nat} {S : St} {k s t d : Nat} {m : Int}
theorem br_slot (A:StAt w sb S) (ok:S.ok) (hs:s<32) (ht:t<32) (hd:d<32) (m0:0≤m) (m1:m<4294967296) (hsl:S.sl=true):Calls Tryz.prog 191 #[.pointer (some ⟨sb,0,none⟩),.agg #[.int .i64 k,.int .i64 s,.int .i64 t,.int .i64 d,.int .u32 m]] w fun e w'=>e=.returned (.tuple #[.int .i64 (branchD S k s t d m).1,.int .i64 (branchD S k s t d m).2.1])∧StAt w' sb (branchD S k s t d m).2.2∧Kept w w' (·=sb):=by
 have X:branchD S k s t d m=(-1,10,S):=by unfold branchD;rw[if_pos hsl]
 rw[X]
 clear X
 have D0:Hid (Dq (w.alloc (.cells #[.int .i64 k,.int .i64 s,.int .i64 t,.int .i64 d,.int .u32 m] 113)) w.heap.size sb S k s t d m):=Dq.start A ok k hs ht hd m0 m1
 have K0:Kept w (w.alloc (.cells #[.int .i64 k,.int .i64 s,.int .i64 t,.int .i64 d,.int .u32 m] 113)) (·=sb):=Kept.of_below _ ((Below.refl _ _).alloc (Nat.le_refl _) _)
 clear A
 go_enter Tryz.func191,Tryz.ntmps191
 go_upto_region 1 with fail
 generalize w.alloc (.cells #[.int .i64 k,.int .i64 s,.int .i64 t,.int .i64 d,.int .u32 m] 113)=W at *
 generalize w.heap.size=ib at *
 obtain ⟨-,-,-,-,q36,-⟩:=D0.out.a.told
 rw[hsl]at q36
 have A1:=D0.out.a
 go_wp2
 go_ret2
 exact ⟨rfl,A1,K0⟩
theorem br_near (A:StAt w sb S) (ok:S.ok) (hs:s<32) (ht:t<32) (hd:d<32) (m0:0≤m) (m1:m<4294967296) (hk:k=31∨k=32∨k=33∨k=34) (hsl:S.sl=false) (bx bs:Bool) (hx:(S.r s==S.r t)=bx) (hg:decide (sg (S.r s)≤0)=bs):Calls Tryz.prog 191 #[.pointer (some ⟨sb,0,none⟩),.agg #[.int .i64 k,.int .i64 s,.int .i64 t,.int .i64 d,.int .u32 m]] w fun e w'=>e=.returned (.tuple #[.int .i64 (branchD S k s t d m).1,.int .i64 (branchD S k s t d m).2.1])∧StAt w' sb (branchD S k s t d m).2.2∧Kept w w' (·=sb):=by
 have X:branchD S k s t d m=(if (if k=31 then bx else if k=32 then !bx else if k=33 then bs else !bs)=true then lo (lo (S.pc+4)+lo (4*wd m 16 true)) else -1,-1,S):=by
  unfold branchD
  rw[if_neg (by rw[hsl];decide)]
  have g2:decide (0<sg (S.r s))=!decide (sg (S.r s)≤0):=by
   by_cases h:sg (S.r s)≤0
   ·simp[h]<;>omega
   ·simp[h]<;>omega
  rcases hk with rfl|rfl|rfl|rfl<;>simp[takenI,targI,Low.immI,lessB,nm,show sg 0=0 from rfl,←hx,←hg,g2]
 rw[X]
 clear X
 have hp4:=fun W=>p2A S.pc 4 ok.pc.1 ok.pc.2 (by omega) (by omega) W
 have hi:=fun W=>imA k s t d m m0 m1 W
 have hwb:u32 (wd m 16 true):=wd_bd m0 m1 _
 have hsg:=fun W=>sgA (wd m 16 true) hwb.1 hwb.2 W
 obtain ⟨sb1,sb2⟩:=sg_bd hwb.1 hwb.2
 have e4w:IntKind.i64.wrap (4*sg (wd m 16 true))=4*sg (wd m 16 true):=by rw[IntKind.wrap_i64];omega
 have hwd:=fun W=>wdA (4*sg (wd m 16 true)) (by omega) (by omega) W
 rw[lo_sg4 hwb.1 hwb.2]at hwd
 have b4:=lo_bd (S.pc+4)
 have b5:=lo_bd (4*wd m 16 true)
 have hnr:=fun W=>p2A (lo (S.pc+4)) (lo (4*wd m 16 true)) b4.1 b4.2 b5.1 b5.2 W
 have bn:=lo_bd (lo (S.pc+4)+lo (4*wd m 16 true))
 have hsx:=fun W=>sgA (S.r s) (ok.r s).1 (ok.r s).2 W
 have hx2:(S.r s != S.r t)=!bx:=by rw[←hx];rfl
 obtain ⟨n0,n1⟩:=bn
 obtain ⟨p40,p41⟩:=b4
 have fa0:0≤lo (S.pc+4)/268435456:=by omega
 have fa1:lo (S.pc+4)/268435456<16:=by omega
 clear b5 hwb
 generalize lo (lo (S.pc+4)+lo (4*wd m 16 true))=nr at *
 generalize lo (4*wd m 16 true)=w5 at *
 generalize sg (wd m 16 true)=gi at *
 generalize wd m 16 true=wi at *
 generalize lo (S.pc+4)=p4 at *
 have qd:p4.tdiv 268435456=p4/268435456:=Int.tdiv_eq_ediv_of_nonneg p40
 generalize p4/268435456=fq at *
 have wn:IntKind.i64.wrap nr=nr:=by rw[IntKind.wrap_i64];omega
 have wp:IntKind.i64.wrap p4=p4:=by rw[IntKind.wrap_i64];omega
 have wm:IntKind.i64.wrap m=m:=by rw[IntKind.wrap_i64];omega
 have w1:IntKind.i64.wrap fq=fq:=by rw[IntKind.wrap_i64];omega
 have w2:IntKind.i64.wrap (fq*268435456)=fq*268435456:=by rw[IntKind.wrap_i64];omega
 have w3:IntKind.i64.wrap (4*m)=4*m:=by rw[IntKind.wrap_i64];omega
 have w4:IntKind.i64.wrap (fq*268435456+4*m)=fq*268435456+4*m:=by rw[IntKind.wrap_i64];omega
 generalize sg (S.r s)=gx at *
 have hg2:decide (0<gx)=!bs:=by
  rw[←hg]
  by_cases h:gx≤0
  ·simp[h]<;>omega
  ·simp[h]<;>omega
 have D0:Hid (Dq (w.alloc (.cells #[.int .i64 k,.int .i64 s,.int .i64 t,.int .i64 d,.int .u32 m] 113)) w.heap.size sb S k s t d m):=Dq.start A ok k hs ht hd m0 m1
 have K0:Kept w (w.alloc (.cells #[.int .i64 k,.int .i64 s,.int .i64 t,.int .i64 d,.int .u32 m] 113)) (·=sb):=Kept.of_below _ ((Below.refl _ _).alloc (Nat.le_refl _) _)
 clear A
 go_enter Tryz.func191,Tryz.ntmps191
 go_upto_region 1 with fail
 generalize w.alloc (.cells #[.int .i64 k,.int .i64 s,.int .i64 t,.int .i64 d,.int .u32 m] 113)=W at *
 generalize w.heap.size=ib at *
 have i0:=D0.out.i0
 have i1:=D0.out.i1
 have i2:=D0.out.i2
 have i3:=D0.out.i3
 have i4:=D0.out.i4
 have qs:=D0.out.a.reg D0.out.hs
 have fs:=D0.out.a.fz s
 have hs':(s:Int)<32:=by have:=D0.out.hs;omega
 have qt:=D0.out.a.reg D0.out.ht
 have ft:=D0.out.a.fz t
 have ht':(t:Int)<32:=by have:=D0.out.ht;omega
 obtain ⟨-,-,-,-,q36,-⟩:=D0.out.a.told
 rw[hsl]at q36
 go_upto_region 3 with fail
 clear i0 i3 i4 q36
 refine zP 8 [(0,0),(1,0),(2,1),(3,0),(4,0),(5,0),(6,1),(7,0)] (fun W=>Dq W ib sb S k s t d m) (by kernel_rfl) (by kernel_rfl) (fun _ _ _ d _ h=>by cases d<;>first|exact h|exact Dq.drew h) D0.out.drew ?_
 repeat (first|(refine zF (by rfl) (by rfl) (fun W=>by (go_simp;try with_reducible rfl)) (fun K hK=>?_);go_simp;refine hK _ ?_;clear hK K)|(refine zQ (by rfl) (by rfl) (fun W hW=>by (have i1:=hW.i1;have qs:=hW.a.reg hW.hs;go_simp;try with_reducible rfl)) (fun K hK=>?_);go_simp;refine hK _ ?_;clear hK K))
 refine zN ?_
 have D1:Hid (Dq W.drew ib sb S k s t d m):=D0.out.drew
 have K1:Kept w W.drew (·=sb):=K0.trans (Kept.drew _ _) (fun _ _ h=>h)
 clear qt ft qs fs i1 i2
 generalize W.drew=W1 at *
 clear D0 K0
 have i2:=D1.out.i2
 have qt:=D1.out.a.reg D1.out.ht
 go_upto_region 4 with fail
 refine zP 8 [(0,0),(1,0),(2,1),(3,0),(4,0),(5,0),(6,1),(7,0)] (fun W=>Dq W ib sb S k s t d m) (by kernel_rfl) (by kernel_rfl) (fun _ _ _ d _ h=>by cases d<;>first|exact h|exact Dq.drew h) D1.out.drew ?_
 repeat (first|(refine zF (by rfl) (by rfl) (fun W=>by (go_simp;try with_reducible rfl)) (fun K hK=>?_);go_simp;refine hK _ ?_;clear hK K)|(refine zQ (by rfl) (by rfl) (fun W hW=>by (have i2:=hW.i2;have qt:=hW.a.reg hW.ht;go_simp;try with_reducible rfl)) (fun K hK=>?_);go_simp;refine hK _ ?_;clear hK K))
 refine zN ?_
 have D0:Hid (Dq W1.drew ib sb S k s t d m):=D1.out.drew
 have K0:Kept w W1.drew (·=sb):=K1.trans (Kept.drew _ _) (fun _ _ h=>h)
 clear qt i2
 generalize W1.drew=W at *
 clear D1 K1 W1
 go_upto_region 5 with fail
 refine zP 13 [(0,0),(1,0),(2,0),(3,1),(5,1),(4,2),(6,2),(7,2),(8,0),(9,2),(10,2),(11,0),(12,0)] (fun W=>Dq W ib sb S k s t d m) (by kernel_rfl) (by kernel_rfl) (fun _ _ _ d _ h=>by cases d<;>first|exact h|exact Dq.drew h) D0.out.drew ?_
 repeat (first|(refine zF (by rfl) (by rfl) (fun W=>by (go_simp;try with_reducible rfl)) (fun K hK=>?_);go_simp;refine hK _ ?_;clear hK K)|(refine zQ (by rfl) (by rfl) (fun W hW=>by (have i0:=hW.i0;have i1:=hW.i1;have i2:=hW.i2;have i3:=hW.i3;have i4:=hW.i4;have q34:=hW.a.told.2.2.1;go_simp;try with_reducible rfl)) (fun K hK=>?_);go_simp;refine hK _ ?_;clear hK K))
 refine zSr (by rfl) (by rfl) (fun K hK=>?_)
 go_simp
 refine (hp4 _).mono ?_
 rintro e_ w_ ⟨rfl,rfl⟩
 refine hK _ _ (fun _=>D0.out.drew) ?_
 clear hK K
 repeat (first|(refine zF (by rfl) (by rfl) (fun W=>by (go_simp;try with_reducible rfl)) (fun K hK=>?_);go_simp;refine hK _ ?_;clear hK K)|(refine zQ (by rfl) (by rfl) (fun W hW=>by (have i0:=hW.i0;have i1:=hW.i1;have i2:=hW.i2;have i3:=hW.i3;have i4:=hW.i4;have q34:=hW.a.told.2.2.1;go_simp;try with_reducible rfl)) (fun K hK=>?_);go_simp;refine hK _ ?_;clear hK K))
 refine zSr (by rfl) (by rfl) (fun K hK=>?_)
 go_simp
 refine (hi _).mono ?_
 rintro e_ w_ ⟨rfl,hbx⟩
 refine hK _ _ (fun _=>D0.out.drew.stays hbx) ?_
 clear hK K
 repeat (first|(refine zF (by rfl) (by rfl) (fun W=>by (go_simp;try with_reducible rfl)) (fun K hK=>?_);go_simp;refine hK _ ?_;clear hK K)|(refine zQ (by rfl) (by rfl) (fun W hW=>by (have i0:=hW.i0;have i1:=hW.i1;have i2:=hW.i2;have i3:=hW.i3;have i4:=hW.i4;have q34:=hW.a.told.2.2.1;go_simp;try with_reducible rfl)) (fun K hK=>?_);go_simp;refine hK _ ?_;clear hK K))
 refine zSr (by rfl) (by rfl) (fun K hK=>?_)
 go_simp
 refine (hsg _).mono ?_
 rintro e_ w_ ⟨rfl,rfl⟩
 refine hK _ _ (fun _=>D0.out.drew.stays hbx) ?_
 clear hK K
 repeat (first|(refine zF (by rfl) (by rfl) (fun W=>by (go_simp;try with_reducible rfl)) (fun K hK=>?_);go_simp;refine hK _ ?_;clear hK K)|(refine zQ (by rfl) (by rfl) (fun W hW=>by (have i0:=hW.i0;have i1:=hW.i1;have i2:=hW.i2;have i3:=hW.i3;have i4:=hW.i4;have q34:=hW.a.told.2.2.1;go_simp;try with_reducible rfl)) (fun K hK=>?_);go_simp;refine hK _ ?_;clear hK K))
 refine zSr (by rfl) (by rfl) (fun K hK=>?_)
 go_simp
 refine (hwd _).mono ?_
 rintro e_ w_ ⟨rfl,rfl⟩
 refine hK _ _ (fun _=>D0.out.drew.stays hbx) ?_
 clear hK K
 repeat (first|(refine zF (by rfl) (by rfl) (fun W=>by (go_simp;try with_reducible rfl)) (fun K hK=>?_);go_simp;refine hK _ ?_;clear hK K)|(refine zQ (by rfl) (by rfl) (fun W hW=>by (have i0:=hW.i0;have i1:=hW.i1;have i2:=hW.i2;have i3:=hW.i3;have i4:=hW.i4;have q34:=hW.a.told.2.2.1;go_simp;try with_reducible rfl)) (fun K hK=>?_);go_simp;refine hK _ ?_;clear hK K))
 refine zSr (by rfl) (by rfl) (fun K hK=>?_)
 go_simp
 refine (hnr _).mono ?_
 rintro e_ w_ ⟨rfl,rfl⟩
 refine hK _ _ (fun _=>D0.out.drew.stays hbx) ?_
 clear hK K
 repeat (first|(refine zF (by rfl) (by rfl) (fun W=>by (go_simp;try with_reducible rfl)) (fun K hK=>?_);go_simp;refine hK _ ?_;clear hK K)|(refine zQ (by rfl) (by rfl) (fun W hW=>by (have i0:=hW.i0;have i1:=hW.i1;have i2:=hW.i2;have i3:=hW.i3;have i4:=hW.i4;have q34:=hW.a.told.2.2.1;go_simp;try with_reducible rfl)) (fun K hK=>?_);go_simp;refine hK _ ?_;clear hK K))
 refine zN ?_
 have D1:Hid (Dq w_ ib sb S k s t d m):=D0.out.drew.stays hbx
 have K1:Kept w w_ (·=sb):=(K0.trans (Kept.drew _ _) (fun _ _ h=>h)).trans (Kept.of_below _ hbx) (fun _ _ h=>h)
 clear hbx
 generalize w_=W1 at *
 clear D0 K0
 go_upto_region 6 with fail
 refine zP 14 [(0,0),(1,0),(2,0),(3,1),(8,0),(9,1),(10,0),(11,0),(4,2),(5,0),(6,0),(7,0),(12,0),(13,0)] (fun W=>Dq W ib sb S k s t d m) (by kernel_rfl) (by kernel_rfl) (fun _ _ _ d _ h=>by cases d<;>first|exact h|exact Dq.drew h) D1.out.drew ?_
 repeat (first|(refine zF (by rfl) (by rfl) (fun W=>by (go_simp;try with_reducible rfl)) (fun K hK=>?_);go_simp;refine hK _ ?_;clear hK K)|(refine zQ (by rfl) (by rfl) (fun W hW=>by (have i4:=hW.i4;have q34:=hW.a.told.2.2.1;go_simp;try with_reducible rfl)) (fun K hK=>?_);go_simp;refine hK _ ?_;clear hK K))
 refine zSr (by rfl) (by rfl) (fun K hK=>?_)
 go_simp
 refine (hp4 _).mono ?_
 rintro e_ w_ ⟨rfl,rfl⟩
 refine hK _ _ (fun _=>D1.out.drew) ?_
 clear hK K
 repeat (first|(refine zF (by rfl) (by rfl) (fun W=>by (go_simp;try with_reducible rfl)) (fun K hK=>?_);go_simp;refine hK _ ?_;clear hK K)|(refine zQ (by rfl) (by rfl) (fun W hW=>by (have i4:=hW.i4;have q34:=hW.a.told.2.2.1;go_simp;try with_reducible rfl)) (fun K hK=>?_);go_simp;refine hK _ ?_;clear hK K))
 refine zN ?_
 have D0:Hid (Dq W1.drew ib sb S k s t d m):=D1.out.drew
 have K0:Kept w W1.drew (·=sb):=K1.trans (Kept.drew _ _) (fun _ _ h=>h)
 generalize W1.drew=W at *
 clear D1 K1 W1
 rcases hk with rfl|rfl|rfl|rfl<;>cases bx<;>cases bs
 all_goals
  simp only[Bool.not_true,Bool.not_false]at hx2 hg2
  have i0:=D0.out.i0
  have A1:=D0.out.a
  have p1:=hg
  have p2:=hg2
  simp only[decide_eq_true_eq,decide_eq_false_iff_not]at p1 p2
  go_wp2_with (go_at_call 153;refine (hsx _).mono ?_;rintro e w2 ⟨rfl,rfl⟩)
  go_ret2
  exact ⟨rfl,A1,K0⟩
end
end Go.Proofs.YtflagpkmebdckaaGreatDoor
