
import Derived.Test.YtflagpkmebdckaaGreatDoorKDKt
namespace Go.Proofs.YtflagpkmebdckaaGreatDoor
open Go.RowKit Go.Maps
open Num
set_option linter.unusedVariables false
set_option maxRecDepth 100000
set_option maxHeartbeats 8000000
section
variable {w : World} {sb : Nat} {S : St} {k s t d : Nat} {m : Int}
theorem sum_m (A:StAt w sb S) (ok:S.ok) (hs:s<32) (ht:t<32) (hd:d<32) (m0:0≤m) (m1:m<4294967296) (hk:k=19):Calls Tryz.prog 195 #[.pointer (some ⟨sb,0,none⟩),.agg #[.int .i64 k,.int .i64 s,.int .i64 t,.int .i64 d,.int .u32 m]] w fun e w'=>e=.returned (.int .i64 (sumD S k s t d m).1)∧StAt w' sb (sumD S k s t d m).2∧Kept w w' (·=sb):=by
 subst hk
 have X:sumD S 19 s t d m=if ov (sg (S.r s)+sg (S.r t))=true then (12,S) else (-1,S.putR d (resI S 19 (S.r s) (S.r t))):=rfl
 rw[X]
 clear X
 have hk1:=fun W=>koD 19 (by unfold isK;omega) W
 have hk2:=fun W=>sumK_any S 19 (by unfold isK;omega) (S.r s) (S.r t) (ok.r s) (ok.r t) W
 generalize resI S 19 (S.r s) (S.r t)=y at *
 generalize kindS (kdx 19)=ks at *
 have h1:=fun W=>sgA (S.r s) (ok.r s).1 (ok.r s).2 W
 have h2:=fun W=>sgA (S.r t) (ok.r t).1 (ok.r t).2 W
 have h3:=fun W=>isS (sg (S.r s)+sg (S.r t)) W
 obtain ⟨s1a,s1b⟩:=sg_bd (ok.r s).1 (ok.r s).2
 obtain ⟨s2a,s2b⟩:=sg_bd (ok.r t).1 (ok.r t).2
 generalize ho:ov (sg (S.r s)+sg (S.r t))=ob at *
 clear ho
 have D0:Hid (Dq (w.alloc (.cells #[.int .i64 19,.int .i64 s,.int .i64 t,.int .i64 d,.int .u32 m] 113)) w.heap.size sb S 19 s t d m):=Dq.start A ok 19 hs ht hd m0 m1
 have K0:Kept w (w.alloc (.cells #[.int .i64 19,.int .i64 s,.int .i64 t,.int .i64 d,.int .u32 m] 113)) (·=sb):=Kept.of_below _ ((Below.refl _ _).alloc (Nat.le_refl _) _)
 clear A
 go_enter Tryz.func195,Tryz.ntmps195
 go_upto_region 1 with fail
 generalize w.alloc (.cells #[.int .i64 19,.int .i64 s,.int .i64 t,.int .i64 d,.int .u32 m] 113)=W at *
 generalize w.heap.size=ib at *
 have i0:=D0.out.i0
 have i1:=D0.out.i1
 have i2:=D0.out.i2
 have i3:=D0.out.i3
 have i4:=D0.out.i4
 have qs:=D0.out.a.reg D0.out.hs
 have fs:=D0.out.a.fz s
 have hs':(s:Int)<32:=by have:=D0.out.hs;omega
 have qt:=D0.out.a.reg D0.out.ht
 have ft:=D0.out.a.fz t
 have ht':(t:Int)<32:=by have:=D0.out.ht;omega
 clear i0 i3 i4
 go_upto_region 1 with fail
 refine zP 8 [(0,0),(1,0),(2,1),(3,0),(4,0),(5,0),(6,1),(7,0)] (fun W=>Dq W ib sb S 19 s t d m) (by kernel_rfl) (by kernel_rfl) (fun _ _ _ d _ h=>by cases d<;>first|exact h|exact Dq.drew h) D0.out.drew ?_
 repeat (first|(refine zF (by rfl) (by rfl) (fun W=>by (go_simp;try with_reducible rfl)) (fun K hK=>?_);go_simp;refine hK _ ?_;clear hK K)|(refine zQ (by rfl) (by rfl) (fun W hW=>by (have i1:=hW.i1;have qs:=hW.a.reg hW.hs;go_simp;try with_reducible rfl)) (fun K hK=>?_);go_simp;refine hK _ ?_;clear hK K))
 refine zN ?_
 have D1:Hid (Dq W.drew ib sb S 19 s t d m):=D0.out.drew
 have K1:Kept w W.drew (·=sb):=K0.trans (Kept.drew _ _) (fun _ _ h=>h)
 clear qt ft qs fs i1 i2
 generalize W.drew=W1 at *
 clear D0 K0
 have i2:=D1.out.i2
 have qt:=D1.out.a.reg D1.out.ht
 go_upto_region 2 with fail
 refine zP 8 [(0,0),(1,0),(2,1),(3,0),(4,0),(5,0),(6,1),(7,0)] (fun W=>Dq W ib sb S 19 s t d m) (by kernel_rfl) (by kernel_rfl) (fun _ _ _ d _ h=>by cases d<;>first|exact h|exact Dq.drew h) D1.out.drew ?_
 repeat (first|(refine zF (by rfl) (by rfl) (fun W=>by (go_simp;try with_reducible rfl)) (fun K hK=>?_);go_simp;refine hK _ ?_;clear hK K)|(refine zQ (by rfl) (by rfl) (fun W hW=>by (have i2:=hW.i2;have qt:=hW.a.reg hW.ht;go_simp;try with_reducible rfl)) (fun K hK=>?_);go_simp;refine hK _ ?_;clear hK K))
 refine zN ?_
 have D0:Hid (Dq W1.drew ib sb S 19 s t d m):=D1.out.drew
 have K0:Kept w W1.drew (·=sb):=K1.trans (Kept.drew _ _) (fun _ _ h=>h)
 clear qt i2
 generalize W1.drew=W at *
 clear D1 K1 W1
 have i0:=D0.out.i0
 generalize sg (S.r s)=gx at *
 generalize sg (S.r t)=gy at *
 cases ob
 ·have qd:=D0.out.a.reg D0.out.hd
  have fd:=D0.out.a.fz d
  have hd':(d:Int)<32:=by have:=D0.out.hd;omega
  go_wp2_with fail
  refine (h1 _).mono ?_
  rintro e w8 ⟨rfl,hw8⟩
  rw[hw8]
  clear hw8 w8
  go_wp2_with fail
  refine (h2 _).mono ?_
  rintro e w8 ⟨rfl,hw8⟩
  rw[hw8]
  clear hw8 w8
  go_wp2_with fail
  refine (h3 _).mono ?_
  rintro e w8 ⟨rfl,hw8⟩
  rw[hw8]
  clear hw8 w8 h1 h2 h3
  go_upto_region 63 with fail
  clear i0
  refine zP 12 [(0,0),(1,0),(2,1),(3,0),(4,1),(6,0),(7,0),(9,0),(10,0),(5,2),(8,2),(11,0),(12,2)] (fun W=>Dq W ib sb S 19 s t d m) (by kernel_rfl) (by kernel_rfl) (fun _ _ _ d _ h=>by cases d<;>first|exact h|exact Dq.drew h) D0.out.drew ?_
  repeat (first|(refine zF (by rfl) (by rfl) (fun W=>by (go_simp;try with_reducible rfl)) (fun K hK=>?_);go_simp;refine hK _ ?_;clear hK K)|(refine zQ (by rfl) (by rfl) (fun W hW=>by (have i3:=hW.i3;have i0:=hW.i0;go_simp;try with_reducible rfl)) (fun K hK=>?_);go_simp;refine hK _ ?_;clear hK K))
  refine zSr (by rfl) (by rfl) (fun K hK=>?_)
  go_simp
  refine (hk1 _).mono ?_
  rintro e_ w_ ⟨rfl,rfl⟩
  refine hK _ _ (fun _=>D0.out.drew) ?_
  clear hK K
  repeat (first|(refine zF (by rfl) (by rfl) (fun W=>by (go_simp;try with_reducible rfl)) (fun K hK=>?_);go_simp;refine hK _ ?_;clear hK K)|(refine zQ (by rfl) (by rfl) (fun W hW=>by (have i3:=hW.i3;have i0:=hW.i0;go_simp;try with_reducible rfl)) (fun K hK=>?_);go_simp;refine hK _ ?_;clear hK K))
  refine zSr (by rfl) (by rfl) (fun K hK=>?_)
  go_simp
  refine (hk2 _).mono ?_
  rintro e_ w_ ⟨rfl,rfl⟩
  refine hK _ _ (fun _=>D0.out.drew) ?_
  clear hK K
  repeat (first|(refine zF (by rfl) (by rfl) (fun W=>by (go_simp;try with_reducible rfl)) (fun K hK=>?_);go_simp;refine hK _ ?_;clear hK K)|(refine zQ (by rfl) (by rfl) (fun W hW=>by (have i3:=hW.i3;have i0:=hW.i0;go_simp;try with_reducible rfl)) (fun K hK=>?_);go_simp;refine hK _ ?_;clear hK K))
  refine zSr (by rfl) (by rfl) (fun K hK=>?_)
  go_simp
  refine hK _ _ (fun h=>absurd h (by decide)) ?_
  clear hK K
  refine zN ?_
  refine ck (R:=fun W'=>StAt W' sb (S.putR d y)∧Kept W W' (·=sb)) ?_ (fun w1 ⟨A1,T1⟩=>?_)
  ·exact ⟨(D0.out.a.putR d D0.out.hd _).drew,(Kept.put (Kept.refl W _) _ _).trans (Kept.drew _ _) (fun _ _ h=>h)⟩
  clear qd fd
  go_wp2
  go_ret
  exact ⟨rfl,A1,K0.trans T1 (fun _ _ h=>h)⟩
 ·have A1:=D0.out.a
  go_wp2_with fail
  refine (h1 _).mono ?_
  rintro e w8 ⟨rfl,hw8⟩
  rw[hw8]
  clear hw8 w8
  go_wp2_with fail
  refine (h2 _).mono ?_
  rintro e w8 ⟨rfl,hw8⟩
  rw[hw8]
  clear hw8 w8
  go_wp2_with fail
  refine (h3 _).mono ?_
  rintro e w8 ⟨rfl,hw8⟩
  rw[hw8]
  clear hw8 w8 h1 h2 h3
  go_wp2
  go_ret
  exact ⟨rfl,A1,K0⟩
theorem sum_n (A:StAt w sb S) (ok:S.ok) (hs:s<32) (ht:t<32) (hd:d<32) (m0:0≤m) (m1:m<4294967296) (hk:k=21):Calls Tryz.prog 195 #[.pointer (some ⟨sb,0,none⟩),.agg #[.int .i64 k,.int .i64 s,.int .i64 t,.int .i64 d,.int .u32 m]] w fun e w'=>e=.returned (.int .i64 (sumD S k s t d m).1)∧StAt w' sb (sumD S k s t d m).2∧Kept w w' (·=sb):=by
 subst hk
 have X:sumD S 21 s t d m=if ov (sg (S.r s)-sg (S.r t))=true then (12,S) else (-1,S.putR d (resI S 21 (S.r s) (S.r t))):=rfl
 rw[X]
 clear X
 have hk1:=fun W=>koD 21 (by unfold isK;omega) W
 have hk2:=fun W=>sumK_any S 21 (by unfold isK;omega) (S.r s) (S.r t) (ok.r s) (ok.r t) W
 generalize resI S 21 (S.r s) (S.r t)=y at *
 generalize kindS (kdx 21)=ks at *
 have h1:=fun W=>sgA (S.r s) (ok.r s).1 (ok.r s).2 W
 have h2:=fun W=>sgA (S.r t) (ok.r t).1 (ok.r t).2 W
 have h3:=fun W=>isS (sg (S.r s)-sg (S.r t)) W
 obtain ⟨s1a,s1b⟩:=sg_bd (ok.r s).1 (ok.r s).2
 obtain ⟨s2a,s2b⟩:=sg_bd (ok.r t).1 (ok.r t).2
 generalize ho:ov (sg (S.r s)-sg (S.r t))=ob at *
 clear ho
 have D0:Hid (Dq (w.alloc (.cells #[.int .i64 21,.int .i64 s,.int .i64 t,.int .i64 d,.int .u32 m] 113)) w.heap.size sb S 21 s t d m):=Dq.start A ok 21 hs ht hd m0 m1
 have K0:Kept w (w.alloc (.cells #[.int .i64 21,.int .i64 s,.int .i64 t,.int .i64 d,.int .u32 m] 113)) (·=sb):=Kept.of_below _ ((Below.refl _ _).alloc (Nat.le_refl _) _)
 clear A
 go_enter Tryz.func195,Tryz.ntmps195
 go_upto_region 1 with fail
 generalize w.alloc (.cells #[.int .i64 21,.int .i64 s,.int .i64 t,.int .i64 d,.int .u32 m] 113)=W at *
 generalize w.heap.size=ib at *
 have i0:=D0.out.i0
 have i1:=D0.out.i1
 have i2:=D0.out.i2
 have i3:=D0.out.i3
 have i4:=D0.out.i4
 have qs:=D0.out.a.reg D0.out.hs
 have fs:=D0.out.a.fz s
 have hs':(s:Int)<32:=by have:=D0.out.hs;omega
 have qt:=D0.out.a.reg D0.out.ht
 have ft:=D0.out.a.fz t
 have ht':(t:Int)<32:=by have:=D0.out.ht;omega
 clear i0 i3 i4
 go_upto_region 1 with fail
 refine zP 8 [(0,0),(1,0),(2,1),(3,0),(4,0),(5,0),(6,1),(7,0)] (fun W=>Dq W ib sb S 21 s t d m) (by kernel_rfl) (by kernel_rfl) (fun _ _ _ d _ h=>by cases d<;>first|exact h|exact Dq.drew h) D0.out.drew ?_
 repeat (first|(refine zF (by rfl) (by rfl) (fun W=>by (go_simp;try with_reducible rfl)) (fun K hK=>?_);go_simp;refine hK _ ?_;clear hK K)|(refine zQ (by rfl) (by rfl) (fun W hW=>by (have i1:=hW.i1;have qs:=hW.a.reg hW.hs;go_simp;try with_reducible rfl)) (fun K hK=>?_);go_simp;refine hK _ ?_;clear hK K))
 refine zN ?_
 have D1:Hid (Dq W.drew ib sb S 21 s t d m):=D0.out.drew
 have K1:Kept w W.drew (·=sb):=K0.trans (Kept.drew _ _) (fun _ _ h=>h)
 clear qt ft qs fs i1 i2
 generalize W.drew=W1 at *
 clear D0 K0
 have i2:=D1.out.i2
 have qt:=D1.out.a.reg D1.out.ht
 go_upto_region 2 with fail
 refine zP 8 [(0,0),(1,0),(2,1),(3,0),(4,0),(5,0),(6,1),(7,0)] (fun W=>Dq W ib sb S 21 s t d m) (by kernel_rfl) (by kernel_rfl) (fun _ _ _ d _ h=>by cases d<;>first|exact h|exact Dq.drew h) D1.out.drew ?_
 repeat (first|(refine zF (by rfl) (by rfl) (fun W=>by (go_simp;try with_reducible rfl)) (fun K hK=>?_);go_simp;refine hK _ ?_;clear hK K)|(refine zQ (by rfl) (by rfl) (fun W hW=>by (have i2:=hW.i2;have qt:=hW.a.reg hW.ht;go_simp;try with_reducible rfl)) (fun K hK=>?_);go_simp;refine hK _ ?_;clear hK K))
 refine zN ?_
 have D0:Hid (Dq W1.drew ib sb S 21 s t d m):=D1.out.drew
 have K0:Kept w W1.drew (·=sb):=K1.trans (Kept.drew _ _) (fun _ _ h=>h)
 clear qt i2
 generalize W1.drew=W at *
 clear D1 K1 W1
 have i0:=D0.out.i0
 generalize sg (S.r s)=gx at *
 generalize sg (S.r t)=gy at *
 cases ob
 ·have qd:=D0.out.a.reg D0.out.hd
  have fd:=D0.out.a.fz d
  have hd':(d:Int)<32:=by have:=D0.out.hd;omega
  go_wp2_with fail
  refine (h1 _).mono ?_
  rintro e w8 ⟨rfl,hw8⟩
  rw[hw8]
  clear hw8 w8
  go_wp2_with fail
  refine (h2 _).mono ?_
  rintro e w8 ⟨rfl,hw8⟩
  rw[hw8]
  clear hw8 w8
  go_wp2_with fail
  refine (h3 _).mono ?_
  rintro e w8 ⟨rfl,hw8⟩
  rw[hw8]
  clear hw8 w8 h1 h2 h3
  go_upto_region 63 with fail
  clear i0
  refine zP 12 [(0,0),(1,0),(2,1),(3,0),(4,1),(6,0),(7,0),(9,0),(10,0),(5,2),(8,2),(11,0),(12,2)] (fun W=>Dq W ib sb S 21 s t d m) (by kernel_rfl) (by kernel_rfl) (fun _ _ _ d _ h=>by cases d<;>first|exact h|exact Dq.drew h) D0.out.drew ?_
  repeat (first|(refine zF (by rfl) (by rfl) (fun W=>by (go_simp;try with_reducible rfl)) (fun K hK=>?_);go_simp;refine hK _ ?_;clear hK K)|(refine zQ (by rfl) (by rfl) (fun W hW=>by (have i3:=hW.i3;have i0:=hW.i0;go_simp;try with_reducible rfl)) (fun K hK=>?_);go_simp;refine hK _ ?_;clear hK K))
  refine zSr (by rfl) (by rfl) (fun K hK=>?_)
  go_simp
  refine (hk1 _).mono ?_
  rintro e_ w_ ⟨rfl,rfl⟩
  refine hK _ _ (fun _=>D0.out.drew) ?_
  clear hK K
  repeat (first|(refine zF (by rfl) (by rfl) (fun W=>by (go_simp;try with_reducible rfl)) (fun K hK=>?_);go_simp;refine hK _ ?_;clear hK K)|(refine zQ (by rfl) (by rfl) (fun W hW=>by (have i3:=hW.i3;have i0:=hW.i0;go_simp;try with_reducible rfl)) (fun K hK=>?_);go_simp;refine hK _ ?_;clear hK K))
  refine zSr (by rfl) (by rfl) (fun K hK=>?_)
  go_simp
  refine (hk2 _).mono ?_
  rintro e_ w_ ⟨rfl,rfl⟩
  refine hK _ _ (fun _=>D0.out.drew) ?_
  clear hK K
  repeat (first|(refine zF (by rfl) (by rfl) (fun W=>by (go_simp;try with_reducible rfl)) (fun K hK=>?_);go_simp;refine hK _ ?_;clear hK K)|(refine zQ (by rfl) (by rfl) (fun W hW=>by (have i3:=hW.i3;have i0:=hW.i0;go_simp;try with_reducible rfl)) (fun K hK=>?_);go_simp;refine hK _ ?_;clear hK K))
  refine zSr (by rfl) (by rfl) (fun K hK=>?_)
  go_simp
  refine hK _ _ (fun h=>absurd h (by decide)) ?_
  clear hK K
  refine zN ?_
  refine ck (R:=fun W'=>StAt W' sb (S.putR d y)∧Kept W W' (·=sb)) ?_ (fun w1 ⟨A1,T1⟩=>?_)
  ·exact ⟨(D0.out.a.putR d D0.out.hd _).drew,(Kept.put (Kept.refl W _) _ _).trans (Kept.drew _ _) (fun _ _ h=>h)⟩
  clear qd fd
  go_wp2
  go_ret
  exact ⟨rfl,A1,K0.trans T1 (fun _ _ h=>h)⟩
 ·have A1:=D0.out.a
  go_wp2_with fail
  refine (h1 _).mono ?_
  rintro e w8 ⟨rfl,hw8⟩
  rw[hw8]
  clear hw8 w8
  go_wp2_with fail
  refine (h2 _).mono ?_
  rintro e w8 ⟨rfl,hw8⟩
  rw[hw8]
  clear hw8 w8
  go_wp2_with fail
  refine (h3 _).mono ?_
  rintro e w8 ⟨rfl,hw8⟩
  rw[hw8]
  clear hw8 w8 h1 h2 h3
  go_wp2
  go_ret
  exact ⟨rfl,A1,K0⟩
theorem sum_o (A:StAt w sb S) (ok:S.ok) (hs:s<32) (ht:t<32) (hd:d<32) (m0:0≤m) (m1:m<4294967296) (hk:k=35) (ho:ov (sg (S.r s)+sg (wd m 16 true))=true):Calls Tryz.prog 195 #[.pointer (some ⟨sb,0,none⟩),.agg #[.int .i64 k,.int .i64 s,.int .i64 t,.int .i64 d,.int .u32 m]] w fun e w'=>e=.returned (.int .i64 (sumD S k s t d m).1)∧StAt w' sb (sumD S k s t d m).2∧Kept w w' (·=sb):=by
 have X:sumD S k s t d m=(12,S):=by subst hk;show (if ov (sg (S.r s)+sg (wd m 16 true))=true then _ else _)=_;rw[if_pos ho]
 rw[X]
 clear X
 have hi:=fun W=>imA k s t d m m0 m1 W
 have hwd:u32 (wd m 16 true):=wd_bd m0 m1 _
 have hk1:=fun W=>koD k (by unfold isK;omega) W
 have hk2:=fun W=>sumK_any S k (by unfold isK;omega) (S.r s) (wd m 16 true) (ok.r s) hwd W
 generalize resI S k (S.r s) (wd m 16 true)=y at *
 generalize kindS (kdx k)=ks at *
 have h1:=fun W=>sgA (S.r s) (ok.r s).1 (ok.r s).2 W
 have h2:=fun W=>sgA (wd m 16 true) hwd.1 hwd.2 W
 have h3:=fun W=>isS (sg (S.r s)+sg (wd m 16 true)) W
 obtain ⟨s1a,s1b⟩:=sg_bd (ok.r s).1 (ok.r s).2
 obtain ⟨s2a,s2b⟩:=sg_bd hwd.1 hwd.2
 simp only[ho]at h3
 clear ho
 generalize sg (wd m 16 true)=gy at *
 generalize wd m 16 true=n at *
 clear hwd
 subst hk
 have D0:Hid (Dq (w.alloc (.cells #[.int .i64 35,.int .i64 s,.int .i64 t,.int .i64 d,.int .u32 m] 113)) w.heap.size sb S 35 s t d m):=Dq.start A ok 35 hs ht hd m0 m1
 have K0:Kept w (w.alloc (.cells #[.int .i64 35,.int .i64 s,.int .i64 t,.int .i64 d,.int .u32 m] 113)) (·=sb):=Kept.of_below _ ((Below.refl _ _).alloc (Nat.le_refl _) _)
 clear A
 go_enter Tryz.func195,Tryz.ntmps195
 go_upto_region 1 with fail
 generalize w.alloc (.cells #[.int .i64 35,.int .i64 s,.int .i64 t,.int .i64 d,.int .u32 m] 113)=W at *
 generalize w.heap.size=ib at *
 have i0:=D0.out.i0
 have i1:=D0.out.i1
 have i2:=D0.out.i2
 have i3:=D0.out.i3
 have i4:=D0.out.i4
 have qs:=D0.out.a.reg D0.out.hs
 have fs:=D0.out.a.fz s
 have hs':(s:Int)<32:=by have:=D0.out.hs;omega
 have qt:=D0.out.a.reg D0.out.ht
 have ft:=D0.out.a.fz t
 have ht':(t:Int)<32:=by have:=D0.out.ht;omega
 clear i0 i3 i4
 go_upto_region 1 with fail
 refine zP 8 [(0,0),(1,0),(2,1),(3,0),(4,0),(5,0),(6,1),(7,0)] (fun W=>Dq W ib sb S 35 s t d m) (by kernel_rfl) (by kernel_rfl) (fun _ _ _ d _ h=>by cases d<;>first|exact h|exact Dq.drew h) D0.out.drew ?_
 repeat (first|(refine zF (by rfl) (by rfl) (fun W=>by (go_simp;try with_reducible rfl)) (fun K hK=>?_);go_simp;refine hK _ ?_;clear hK K)|(refine zQ (by rfl) (by rfl) (fun W hW=>by (have i1:=hW.i1;have qs:=hW.a.reg hW.hs;go_simp;try with_reducible rfl)) (fun K hK=>?_);go_simp;refine hK _ ?_;clear hK K))
 refine zN ?_
 have D1:Hid (Dq W.drew ib sb S 35 s t d m):=D0.out.drew
 have K1:Kept w W.drew (·=sb):=K0.trans (Kept.drew _ _) (fun _ _ h=>h)
 clear qt ft qs fs i1 i2
 generalize W.drew=W1 at *
 clear D0 K0
 have i2:=D1.out.i2
 have qt:=D1.out.a.reg D1.out.ht
 go_upto_region 2 with fail
 refine zP 8 [(0,0),(1,0),(2,1),(3,0),(4,0),(5,0),(6,1),(7,0)] (fun W=>Dq W ib sb S 35 s t d m) (by kernel_rfl) (by kernel_rfl) (fun _ _ _ d _ h=>by cases d<;>first|exact h|exact Dq.drew h) D1.out.drew ?_
 repeat (first|(refine zF (by rfl) (by rfl) (fun W=>by (go_simp;try with_reducible rfl)) (fun K hK=>?_);go_simp;refine hK _ ?_;clear hK K)|(refine zQ (by rfl) (by rfl) (fun W hW=>by (have i2:=hW.i2;have qt:=hW.a.reg hW.ht;go_simp;try with_reducible rfl)) (fun K hK=>?_);go_simp;refine hK _ ?_;clear hK K))
 refine zN ?_
 have D0:Hid (Dq W1.drew ib sb S 35 s t d m):=D1.out.drew
 have K0:Kept w W1.drew (·=sb):=K1.trans (Kept.drew _ _) (fun _ _ h=>h)
 clear qt i2
 generalize W1.drew=W at *
 clear D1 K1 W1
 generalize sg (S.r s)=gx at *
 have i0:=D0.out.i0
 have i1:=D0.out.i1
 have i2:=D0.out.i2
 have i3:=D0.out.i3
 have i4:=D0.out.i4
 go_upto_region 49 with fail
 go_wp2_with fail
 refine (hi _).mono ?_
 rintro e w2 ⟨rfl,hb⟩
 have D2:Hid (Dq w2 ib sb S _ s t d m):=D0.out.stays hb
 have K2:Kept w w2 (·=sb):=K0.trans (Kept.of_below _ hb) (fun _ _ h=>h)
 clear hb i0 i1 i2 i3 i4 D0 K0 hi
 have D0:=D2
 have K0:=K2
 clear D2 K2
 have i0:=D0.out.i0
 have A1:=D0.out.a
 go_wp2_with fail
 refine (h1 _).mono ?_
 rintro e w8 ⟨rfl,hw8⟩
 rw[hw8]
 clear hw8 w8
 go_wp2_with fail
 refine (h2 _).mono ?_
 rintro e w8 ⟨rfl,hw8⟩
 rw[hw8]
 clear hw8 w8
 go_wp2_with fail
 refine (h3 _).mono ?_
 rintro e w8 ⟨rfl,hw8⟩
 rw[hw8]
 clear hw8 w8 h1 h2 h3
 go_wp2
 go_ret
 exact ⟨rfl,A1,K0⟩
theorem sum_p (A:StAt w sb S) (ok:S.ok) (hs:s<32) (ht:t<32) (hd:d<32) (m0:0≤m) (m1:m<4294967296) (hk:k=35) (ho:ov (sg (S.r s)+sg (wd m 16 true))=false):Calls Tryz.prog 195 #[.pointer (some ⟨sb,0,none⟩),.agg #[.int .i64 k,.int .i64 s,.int .i64 t,.int .i64 d,.int .u32 m]] w fun e w'=>e=.returned (.int .i64 (sumD S k s t d m).1)∧StAt w' sb (sumD S k s t d m).2∧Kept w w' (·=sb):=by
 have X:sumD S k s t d m=(-1,S.putR t (resI S k (S.r s) (wd m 16 true))):=by subst hk;show (if ov (sg (S.r s)+sg (wd m 16 true))=true then _ else _)=_;rw[if_neg (by rw[ho];decide)];rfl
 rw[X]
 clear X
 have hi:=fun W=>imA k s t d m m0 m1 W
 have hwd:u32 (wd m 16 true):=wd_bd m0 m1 _
 have hk1:=fun W=>koD k (by unfold isK;omega) W
 have hk2:=fun W=>sumK_any S k (by unfold isK;omega) (S.r s) (wd m 16 true) (ok.r s) hwd W
 generalize resI S k (S.r s) (wd m 16 true)=y at *
 generalize kindS (kdx k)=ks at *
 have h1:=fun W=>sgA (S.r s) (ok.r s).1 (ok.r s).2 W
 have h2:=fun W=>sgA (wd m 16 true) hwd.1 hwd.2 W
 have h3:=fun W=>isS (sg (S.r s)+sg (wd m 16 true)) W
 obtain ⟨s1a,s1b⟩:=sg_bd (ok.r s).1 (ok.r s).2
 obtain ⟨s2a,s2b⟩:=sg_bd hwd.1 hwd.2
 simp only[ho]at h3
 clear ho
 generalize sg (wd m 16 true)=gy at *
 generalize wd m 16 true=n at *
 clear hwd
 subst hk
 have D0:Hid (Dq (w.alloc (.cells #[.int .i64 35,.int .i64 s,.int .i64 t,.int .i64 d,.int .u32 m] 113)) w.heap.size sb S 35 s t d m):=Dq.start A ok 35 hs ht hd m0 m1
 have K0:Kept w (w.alloc (.cells #[.int .i64 35,.int .i64 s,.int .i64 t,.int .i64 d,.int .u32 m] 113)) (·=sb):=Kept.of_below _ ((Below.refl _ _).alloc (Nat.le_refl _) _)
 clear A
 go_enter Tryz.func195,Tryz.ntmps195
 go_upto_region 1 with fail
 generalize w.alloc (.cells #[.int .i64 35,.int .i64 s,.int .i64 t,.int .i64 d,.int .u32 m] 113)=W at *
 generalize w.heap.size=ib at *
 have i0:=D0.out.i0
 have i1:=D0.out.i1
 have i2:=D0.out.i2
 have i3:=D0.out.i3
 have i4:=D0.out.i4
 have qs:=D0.out.a.reg D0.out.hs
 have fs:=D0.out.a.fz s
 have hs':(s:Int)<32:=by have:=D0.out.hs;omega
 have qt:=D0.out.a.reg D0.out.ht
 have ft:=D0.out.a.fz t
 have ht':(t:Int)<32:=by have:=D0.out.ht;omega
 clear i0 i3 i4
 go_upto_region 1 with fail
 refine zP 8 [(0,0),(1,0),(2,1),(3,0),(4,0),(5,0),(6,1),(7,0)] (fun W=>Dq W ib sb S 35 s t d m) (by kernel_rfl) (by kernel_rfl) (fun _ _ _ d _ h=>by cases d<;>first|exact h|exact Dq.drew h) D0.out.drew ?_
 repeat (first|(refine zF (by rfl) (by rfl) (fun W=>by (go_simp;try with_reducible rfl)) (fun K hK=>?_);go_simp;refine hK _ ?_;clear hK K)|(refine zQ (by rfl) (by rfl) (fun W hW=>by (have i1:=hW.i1;have qs:=hW.a.reg hW.hs;go_simp;try with_reducible rfl)) (fun K hK=>?_);go_simp;refine hK _ ?_;clear hK K))
 refine zN ?_
 have D1:Hid (Dq W.drew ib sb S 35 s t d m):=D0.out.drew
 have K1:Kept w W.drew (·=sb):=K0.trans (Kept.drew _ _) (fun _ _ h=>h)
 clear qt ft qs fs i1 i2
 generalize W.drew=W1 at *
 clear D0 K0
 have i2:=D1.out.i2
 have qt:=D1.out.a.reg D1.out.ht
 go_upto_region 2 with fail
 refine zP 8 [(0,0),(1,0),(2,1),(3,0),(4,0),(5,0),(6,1),(7,0)] (fun W=>Dq W ib sb S 35 s t d m) (by kernel_rfl) (by kernel_rfl) (fun _ _ _ d _ h=>by cases d<;>first|exact h|exact Dq.drew h) D1.out.drew ?_
 repeat (first|(refine zF (by rfl) (by rfl) (fun W=>by (go_simp;try with_reducible rfl)) (fun K hK=>?_);go_simp;refine hK _ ?_;clear hK K)|(refine zQ (by rfl) (by rfl) (fun W hW=>by (have i2:=hW.i2;have qt:=hW.a.reg hW.ht;go_simp;try with_reducible rfl)) (fun K hK=>?_);go_simp;refine hK _ ?_;clear hK K))
 refine zN ?_
 have D0:Hid (Dq W1.drew ib sb S 35 s t d m):=D1.out.drew
 have K0:Kept w W1.drew (·=sb):=K1.trans (Kept.drew _ _) (fun _ _ h=>h)
 clear qt i2
 generalize W1.drew=W at *
 clear D1 K1 W1
 generalize sg (S.r s)=gx at *
 have i0:=D0.out.i0
 have i1:=D0.out.i1
 have i2:=D0.out.i2
 have i3:=D0.out.i3
 have i4:=D0.out.i4
 go_upto_region 49 with fail
 go_wp2_with fail
 refine (hi _).mono ?_
 rintro e w2 ⟨rfl,hb⟩
 have D2:Hid (Dq w2 ib sb S _ s t d m):=D0.out.stays hb
 have K2:Kept w w2 (·=sb):=K0.trans (Kept.of_below _ hb) (fun _ _ h=>h)
 clear hb i0 i1 i2 i3 i4 D0 K0 hi
 have D0:=D2
 have K0:=K2
 clear D2 K2
 have i0:=D0.out.i0
 have qt:=D0.out.a.reg D0.out.ht
 have ft:=D0.out.a.fz t
 have ht':(t:Int)<32:=by have:=D0.out.ht;omega
 go_wp2_with fail
 refine (h1 _).mono ?_
 rintro e w8 ⟨rfl,hw8⟩
 rw[hw8]
 clear hw8 w8
 go_wp2_with fail
 refine (h2 _).mono ?_
 rintro e w8 ⟨rfl,hw8⟩
 rw[hw8]
 clear hw8 w8
 go_wp2_with fail
 refine (h3 _).mono ?_
 rintro e w8 ⟨rfl,hw8⟩
 rw[hw8]
 clear hw8 w8 h1 h2 h3
 go_upto_region 53 with fail
 clear i0
 obtain ⟨W,hW⟩:∃ W,W=w2:=⟨_,rfl⟩
 rw[←hW]at D0 K0 qt ft ⊢
 clear hW
 refine zP 12 [(0,0),(1,0),(2,1),(3,0),(4,1),(6,0),(7,0),(9,0),(10,0),(5,2),(8,2),(11,0),(12,2)] (fun W=>Dq W ib sb S _ s t d m) (by kernel_rfl) (by kernel_rfl) (fun _ _ _ d _ h=>by cases d<;>first|exact h|exact Dq.drew h) D0.out.drew ?_
 repeat (first|(refine zF (by rfl) (by rfl) (fun W=>by (go_simp;try with_reducible rfl)) (fun K hK=>?_);go_simp;refine hK _ ?_;clear hK K)|(refine zQ (by rfl) (by rfl) (fun W hW=>by (have i2:=hW.i2;have i0:=hW.i0;go_simp;try with_reducible rfl)) (fun K hK=>?_);go_simp;refine hK _ ?_;clear hK K))
 refine zSr (by rfl) (by rfl) (fun K hK=>?_)
 go_simp
 refine (hk1 _).mono ?_
 rintro e_ w_ ⟨rfl,rfl⟩
 refine hK _ _ (fun _=>D0.out.drew) ?_
 clear hK K
 repeat (first|(refine zF (by rfl) (by rfl) (fun W=>by (go_simp;try with_reducible rfl)) (fun K hK=>?_);go_simp;refine hK _ ?_;clear hK K)|(refine zQ (by rfl) (by rfl) (fun W hW=>by (have i2:=hW.i2;have i0:=hW.i0;go_simp;try with_reducible rfl)) (fun K hK=>?_);go_simp;refine hK _ ?_;clear hK K))
 refine zSr (by rfl) (by rfl) (fun K hK=>?_)
 go_simp
 refine (hk2 _).mono ?_
 rintro e_ w_ ⟨rfl,rfl⟩
 refine hK _ _ (fun _=>D0.out.drew) ?_
 clear hK K
 repeat (first|(refine zF (by rfl) (by rfl) (fun W=>by (go_simp;try with_reducible rfl)) (fun K hK=>?_);go_simp;refine hK _ ?_;clear hK K)|(refine zQ (by rfl) (by rfl) (fun W hW=>by (have i2:=hW.i2;have i0:=hW.i0;go_simp;try with_reducible rfl)) (fun K hK=>?_);go_simp;refine hK _ ?_;clear hK K))
 refine zSr (by rfl) (by rfl) (fun K hK=>?_)
 go_simp
 refine hK _ _ (fun h=>absurd h (by decide)) ?_
 clear hK K
 refine zN ?_
 refine ck (R:=fun W'=>StAt W' sb (S.putR t y)∧Kept W W' (·=sb)) ?_ (fun w1 ⟨A1,T1⟩=>?_)
 ·exact ⟨(D0.out.a.putR t D0.out.ht _).drew,(Kept.put (Kept.refl W _) _ _).trans (Kept.drew _ _) (fun _ _ h=>h)⟩
 clear qt ft
 go_wp2
 go_ret
 exact ⟨rfl,A1,K0.trans T1 (fun _ _ h=>h)⟩
theorem sum_q (A:StAt w sb S) (ok:S.ok) (hs:s<32) (ht:t<32) (hd:d<32) (m0:0≤m) (m1:m<4294967296) (hk:k=36∨k=37∨k=38):Calls Tryz.prog 195 #[.pointer (some ⟨sb,0,none⟩),.agg #[.int .i64 k,.int .i64 s,.int .i64 t,.int .i64 d,.int .u32 m]] w fun e w'=>e=.returned (.int .i64 (sumD S k s t d m).1)∧StAt w' sb (sumD S k s t d m).2∧Kept w w' (·=sb):=by
 have X:sumD S k s t d m=(-1,S.putR t (resI S k (S.r s) (wd m 16 true))):=by rcases hk with rfl|rfl|rfl<;>rfl
 rw[X]
 clear X
 have hi:=fun W=>imA k s t d m m0 m1 W
 have hwd:u32 (wd m 16 true):=wd_bd m0 m1 _
 have hk1:=fun W=>koD k (by unfold isK;omega) W
 have hk2:=fun W=>sumK_any S k (by unfold isK;omega) (S.r s) (wd m 16 true) (ok.r s) hwd W
 generalize resI S k (S.r s) (wd m 16 true)=y at *
 generalize kindS (kdx k)=ks at *
 have h1:=fun W=>sgA (S.r s) (ok.r s).1 (ok.r s).2 W
 have h2:=fun W=>sgA (wd m 16 true) hwd.1 hwd.2 W
 have h3:=fun W=>isS (sg (S.r s)+sg (wd m 16 true)) W
 obtain ⟨s1a,s1b⟩:=sg_bd (ok.r s).1 (ok.r s).2
 obtain ⟨s2a,s2b⟩:=sg_bd hwd.1 hwd.2
 generalize sg (wd m 16 true)=gy at *
 generalize wd m 16 true=n at *
 clear hwd
 have D0:Hid (Dq (w.alloc (.cells #[.int .i64 k,.int .i64 s,.int .i64 t,.int .i64 d,.int .u32 m] 113)) w.heap.size sb S k s t d m):=Dq.start A ok k hs ht hd m0 m1
 have K0:Kept w (w.alloc (.cells #[.int .i64 k,.int .i64 s,.int .i64 t,.int .i64 d,.int .u32 m] 113)) (·=sb):=Kept.of_below _ ((Below.refl _ _).alloc (Nat.le_refl _) _)
 clear A
 go_enter Tryz.func195,Tryz.ntmps195
 go_upto_region 1 with fail
 generalize w.alloc (.cells #[.int .i64 k,.int .i64 s,.int .i64 t,.int .i64 d,.int .u32 m] 113)=W at *
 generalize w.heap.size=ib at *
 have i0:=D0.out.i0
 have i1:=D0.out.i1
 have i2:=D0.out.i2
 have i3:=D0.out.i3
 have i4:=D0.out.i4
 have qs:=D0.out.a.reg D0.out.hs
 have fs:=D0.out.a.fz s
 have hs':(s:Int)<32:=by have:=D0.out.hs;omega
 have qt:=D0.out.a.reg D0.out.ht
 have ft:=D0.out.a.fz t
 have ht':(t:Int)<32:=by have:=D0.out.ht;omega
 clear i0 i3 i4
 go_upto_region 1 with fail
 refine zP 8 [(0,0),(1,0),(2,1),(3,0),(4,0),(5,0),(6,1),(7,0)] (fun W=>Dq W ib sb S k s t d m) (by kernel_rfl) (by kernel_rfl) (fun _ _ _ d _ h=>by cases d<;>first|exact h|exact Dq.drew h) D0.out.drew ?_
 repeat (first|(refine zF (by rfl) (by rfl) (fun W=>by (go_simp;try with_reducible rfl)) (fun K hK=>?_);go_simp;refine hK _ ?_;clear hK K)|(refine zQ (by rfl) (by rfl) (fun W hW=>by (have i1:=hW.i1;have qs:=hW.a.reg hW.hs;go_simp;try with_reducible rfl)) (fun K hK=>?_);go_simp;refine hK _ ?_;clear hK K))
 refine zN ?_
 have D1:Hid (Dq W.drew ib sb S k s t d m):=D0.out.drew
 have K1:Kept w W.drew (·=sb):=K0.trans (Kept.drew _ _) (fun _ _ h=>h)
 clear qt ft qs fs i1 i2
 generalize W.drew=W1 at *
 clear D0 K0
 have i2:=D1.out.i2
 have qt:=D1.out.a.reg D1.out.ht
 go_upto_region 2 with fail
 refine zP 8 [(0,0),(1,0),(2,1),(3,0),(4,0),(5,0),(6,1),(7,0)] (fun W=>Dq W ib sb S k s t d m) (by kernel_rfl) (by kernel_rfl) (fun _ _ _ d _ h=>by cases d<;>first|exact h|exact Dq.drew h) D1.out.drew ?_
 repeat (first|(refine zF (by rfl) (by rfl) (fun W=>by (go_simp;try with_reducible rfl)) (fun K hK=>?_);go_simp;refine hK _ ?_;clear hK K)|(refine zQ (by rfl) (by rfl) (fun W hW=>by (have i2:=hW.i2;have qt:=hW.a.reg hW.ht;go_simp;try with_reducible rfl)) (fun K hK=>?_);go_simp;refine hK _ ?_;clear hK K))
 refine zN ?_
 have D0:Hid (Dq W1.drew ib sb S k s t d m):=D1.out.drew
 have K0:Kept w W1.drew (·=sb):=K1.trans (Kept.drew _ _) (fun _ _ h=>h)
 clear qt i2
 generalize W1.drew=W at *
 clear D1 K1 W1
 rcases hk with rfl|rfl|rfl
 all_goals
  generalize sg (S.r s)=gx at *
  generalize ov (gx+gy)=ovb at *
  have i0:=D0.out.i0
  have i1:=D0.out.i1
  have i2:=D0.out.i2
  have i3:=D0.out.i3
  have i4:=D0.out.i4
  go_upto_region 49 with fail
  go_wp2_with fail
  refine (hi _).mono ?_
  rintro e w2 ⟨rfl,hb⟩
  have D2:Hid (Dq w2 ib sb S _ s t d m):=D0.out.stays hb
  have K2:Kept w w2 (·=sb):=K0.trans (Kept.of_below _ hb) (fun _ _ h=>h)
  clear hb i0 i1 i2 i3 i4 D0 K0 hi
  have D0:=D2
  have K0:=K2
  clear D2 K2
  have i0:=D0.out.i0
  have qt:=D0.out.a.reg D0.out.ht
  have ft:=D0.out.a.fz t
  have ht':(t:Int)<32:=by have:=D0.out.ht;omega
  go_wp2_with fail
  refine (h1 _).mono ?_
  rintro e w8 ⟨rfl,hw8⟩
  rw[hw8]
  clear hw8 w8
  go_wp2_with fail
  refine (h2 _).mono ?_
  rintro e w8 ⟨rfl,hw8⟩
  rw[hw8]
  clear hw8 w8
  go_wp2_with fail
  refine (h3 _).mono ?_
  rintro e w8 ⟨rfl,hw8⟩
  rw[hw8]
  clear hw8 w8 h1 h2 h3
  go_upto_region 53 with fail
  clear i0
  obtain ⟨W,hW⟩:∃ W,W=w2:=⟨_,rfl⟩
  rw[←hW]at D0 K0 qt ft ⊢
  clear hW
  refine zP 12 [(0,0),(1,0),(2,1),(3,0),(4,1),(6,0),(7,0),(9,0),(10,0),(5,2),(8,2),(11,0),(12,2)] (fun W=>Dq W ib sb S _ s t d m) (by kernel_rfl) (by kernel_rfl) (fun _ _ _ d _ h=>by cases d<;>first|exact h|exact Dq.drew h) D0.out.drew ?_
  repeat (first|(refine zF (by rfl) (by rfl) (fun W=>by (go_simp;try with_reducible rfl)) (fun K hK=>?_);go_simp;refine hK _ ?_;clear hK K)|(refine zQ (by rfl) (by rfl) (fun W hW=>by (have i2:=hW.i2;have i0:=hW.i0;go_simp;try with_reducible rfl)) (fun K hK=>?_);go_simp;refine hK _ ?_;clear hK K))
  refine zSr (by rfl) (by rfl) (fun K hK=>?_)
  go_simp
  refine (hk1 _).mono ?_
  rintro e_ w_ ⟨rfl,rfl⟩
  refine hK _ _ (fun _=>D0.out.drew) ?_
  clear hK K
  repeat (first|(refine zF (by rfl) (by rfl) (fun W=>by (go_simp;try with_reducible rfl)) (fun K hK=>?_);go_simp;refine hK _ ?_;clear hK K)|(refine zQ (by rfl) (by rfl) (fun W hW=>by (have i2:=hW.i2;have i0:=hW.i0;go_simp;try with_reducible rfl)) (fun K hK=>?_);go_simp;refine hK _ ?_;clear hK K))
  refine zSr (by rfl) (by rfl) (fun K hK=>?_)
  go_simp
  refine (hk2 _).mono ?_
  rintro e_ w_ ⟨rfl,rfl⟩
  refine hK _ _ (fun _=>D0.out.drew) ?_
  clear hK K
  repeat (first|(refine zF (by rfl) (by rfl) (fun W=>by (go_simp;try with_reducible rfl)) (fun K hK=>?_);go_simp;refine hK _ ?_;clear hK K)|(refine zQ (by rfl) (by rfl) (fun W hW=>by (have i2:=hW.i2;have i0:=hW.i0;go_simp;try with_reducible rfl)) (fun K hK=>?_);go_simp;refine hK _ ?_;clear hK K))
  refine zSr (by rfl) (by rfl) (fun K hK=>?_)
  go_simp
  refine hK _ _ (fun h=>absurd h (by decide)) ?_
  clear hK K
  refine zN ?_
  refine ck (R:=fun W'=>StAt W' sb (S.putR t y)∧Kept W W' (·=sb)) ?_ (fun w1 ⟨A1,T1⟩=>?_)
  ·exact ⟨(D0.out.a.putR t D0.out.ht _).drew,(Kept.put (Kept.refl W _) _ _).trans (Kept.drew _ _) (fun _ _ h=>h)⟩
  clear qt ft
  go_wp2
  go_ret
  exact ⟨rfl,A1,K0.trans T1 (fun _ _ h=>h)⟩
end
end Go.Proofs.YtflagpkmebdckaaGreatDoor
