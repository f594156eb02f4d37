
import Derived.Test.YtflagpkmebdckaaGreatDoorKDKt
namespace Go.Proofs.YtflagpkmebdckaaGreatDoor
open Go.RowKit Go.Maps
open Num
set_option linter.unusedVariables false
set_option maxRecDepth 100000
set_option maxHeartbeats 8000000
section
variable {w : World} {sb : Nat} {S : St} {k s t d : Nat} {m : Int}
theorem sum_h (A:StAt w sb S) (ok:S.ok) (hs:s<32) (ht:t<32) (hd:d<32) (m0:0≤m) (m1:m<4294967296) (hk:k=42):Calls Tryz.prog 195 #[.pointer (some ⟨sb,0,none⟩),.agg #[.int .i64 k,.int .i64 s,.int .i64 t,.int .i64 d,.int .u32 m]] w fun e w'=>e=.returned (.int .i64 (sumD S k s t d m).1)∧StAt w' sb (sumD S k s t d m).2∧Kept w w' (·=sb):=by
 have X:sumD S k s t d m=(-1,S.putR t (shf 60 m 16)):=by rw[hk];rfl
 rw[X]
 clear X
 have hm:=fun W=>shA 60 m 16 m0 m1 (by omega) W
 generalize shf 60 m 16=y at *
 subst hk
 have D0:Hid (Dq (w.alloc (.cells #[.int .i64 42,.int .i64 s,.int .i64 t,.int .i64 d,.int .u32 m] 113)) w.heap.size sb S 42 s t d m):=Dq.start A ok 42 hs ht hd m0 m1
 have K0:Kept w (w.alloc (.cells #[.int .i64 42,.int .i64 s,.int .i64 t,.int .i64 d,.int .u32 m] 113)) (·=sb):=Kept.of_below _ ((Below.refl _ _).alloc (Nat.le_refl _) _)
 clear A
 go_enter Tryz.func195,Tryz.ntmps195
 go_upto_region 1 with fail
 generalize w.alloc (.cells #[.int .i64 42,.int .i64 s,.int .i64 t,.int .i64 d,.int .u32 m] 113)=W at *
 generalize w.heap.size=ib at *
 have i0:=D0.out.i0
 have i1:=D0.out.i1
 have i2:=D0.out.i2
 have i3:=D0.out.i3
 have i4:=D0.out.i4
 have qs:=D0.out.a.reg D0.out.hs
 have fs:=D0.out.a.fz s
 have hs':(s:Int)<32:=by have:=D0.out.hs;omega
 have qt:=D0.out.a.reg D0.out.ht
 have ft:=D0.out.a.fz t
 have ht':(t:Int)<32:=by have:=D0.out.ht;omega
 clear i0 i3 i4
 go_upto_region 1 with fail
 refine zP 8 [(0,0),(1,0),(2,1),(3,0),(4,0),(5,0),(6,1),(7,0)] (fun W=>Dq W ib sb S 42 s t d m) (by kernel_rfl) (by kernel_rfl) (fun _ _ _ d _ h=>by cases d<;>first|exact h|exact Dq.drew h) D0.out.drew ?_
 repeat (first|(refine zF (by rfl) (by rfl) (fun W=>by (go_simp;try with_reducible rfl)) (fun K hK=>?_);go_simp;refine hK _ ?_;clear hK K)|(refine zQ (by rfl) (by rfl) (fun W hW=>by (have i1:=hW.i1;have qs:=hW.a.reg hW.hs;go_simp;try with_reducible rfl)) (fun K hK=>?_);go_simp;refine hK _ ?_;clear hK K))
 refine zN ?_
 have D1:Hid (Dq W.drew ib sb S 42 s t d m):=D0.out.drew
 have K1:Kept w W.drew (·=sb):=K0.trans (Kept.drew _ _) (fun _ _ h=>h)
 clear qt ft qs fs i1 i2
 generalize W.drew=W1 at *
 clear D0 K0
 have i2:=D1.out.i2
 have qt:=D1.out.a.reg D1.out.ht
 go_upto_region 2 with fail
 refine zP 8 [(0,0),(1,0),(2,1),(3,0),(4,0),(5,0),(6,1),(7,0)] (fun W=>Dq W ib sb S 42 s t d m) (by kernel_rfl) (by kernel_rfl) (fun _ _ _ d _ h=>by cases d<;>first|exact h|exact Dq.drew h) D1.out.drew ?_
 repeat (first|(refine zF (by rfl) (by rfl) (fun W=>by (go_simp;try with_reducible rfl)) (fun K hK=>?_);go_simp;refine hK _ ?_;clear hK K)|(refine zQ (by rfl) (by rfl) (fun W hW=>by (have i2:=hW.i2;have qt:=hW.a.reg hW.ht;go_simp;try with_reducible rfl)) (fun K hK=>?_);go_simp;refine hK _ ?_;clear hK K))
 refine zN ?_
 have D0:Hid (Dq W1.drew ib sb S 42 s t d m):=D1.out.drew
 have K0:Kept w W1.drew (·=sb):=K1.trans (Kept.drew _ _) (fun _ _ h=>h)
 clear qt i2
 generalize W1.drew=W at *
 clear D1 K1 W1
 have i0:=D0.out.i0
 have qt:=D0.out.a.reg D0.out.ht
 have ft:=D0.out.a.fz t
 have ht':(t:Int)<32:=by have:=D0.out.ht;omega
 go_upto_region 28 with fail
 clear i0
 refine zP 9 [(0,0),(1,0),(2,1),(3,0),(4,1),(6,0),(7,0),(5,2),(8,0),(9,2)] (fun W=>Dq W ib sb S _ s t d m) (by kernel_rfl) (by kernel_rfl) (fun _ _ _ d _ h=>by cases d<;>first|exact h|exact Dq.drew h) D0.out.drew ?_
 repeat (first|(refine zF (by rfl) (by rfl) (fun W=>by (go_simp;try with_reducible rfl)) (fun K hK=>?_);go_simp;refine hK _ ?_;clear hK K)|(refine zQ (by rfl) (by rfl) (fun W hW=>by (have i2:=hW.i2;have i4:=hW.i4;go_simp;try with_reducible rfl)) (fun K hK=>?_);go_simp;refine hK _ ?_;clear hK K))
 refine zSr (by rfl) (by rfl) (fun K hK=>?_)
 go_simp
 refine (hm _).mono ?_
 rintro e_ w_ ⟨rfl,rfl⟩
 refine hK _ _ (fun _=>D0.out.drew) ?_
 clear hK K
 repeat (first|(refine zF (by rfl) (by rfl) (fun W=>by (go_simp;try with_reducible rfl)) (fun K hK=>?_);go_simp;refine hK _ ?_;clear hK K)|(refine zQ (by rfl) (by rfl) (fun W hW=>by (have i2:=hW.i2;have i4:=hW.i4;go_simp;try with_reducible rfl)) (fun K hK=>?_);go_simp;refine hK _ ?_;clear hK K))
 refine zSr (by rfl) (by rfl) (fun K hK=>?_)
 go_simp
 refine hK _ _ (fun h=>absurd h (by decide)) ?_
 clear hK K
 refine zN ?_
 refine ck (R:=fun W'=>StAt W' sb (S.putR t y)∧Kept W W' (·=sb)) ?_ (fun w1 ⟨A1,T1⟩=>?_)
 ·exact ⟨(D0.out.a.putR t D0.out.ht _).drew,(Kept.put (Kept.refl W _) _ _).trans (Kept.drew _ _) (fun _ _ h=>h)⟩
 clear qt ft
 go_wp2
 go_ret
 exact ⟨rfl,A1,K0.trans T1 (fun _ _ h=>h)⟩
theorem sum_i (A:StAt w sb S) (ok:S.ok) (hs:s<32) (ht:t<32) (hd:d<32) (m0:0≤m) (m1:m<4294967296) (hk:k=1∨k=2∨k=3) (hm:m<32):Calls Tryz.prog 195 #[.pointer (some ⟨sb,0,none⟩),.agg #[.int .i64 k,.int .i64 s,.int .i64 t,.int .i64 d,.int .u32 m]] w fun e w'=>e=.returned (.int .i64 (sumD S k s t d m).1)∧StAt w' sb (sumD S k s t d m).2∧Kept w w' (·=sb):=by
 have X:sumD S k s t d m=(-1,S.putR d (resI S k (S.r t) m)):=by rcases hk with rfl|rfl|rfl<;>(show (-1,S.putR d (resI S _ (S.r t) (wd m 16 true)))=_;rw[wdS m0 hm])
 rw[X]
 clear X
 have hk1:=fun W=>koD k (by unfold isK;omega) W
 have hk2:=fun W=>sumK_any S k (by unfold isK;omega) (S.r t) (m) (ok.r t) ⟨m0,m1⟩ W
 generalize resI S k (S.r t) (m)=y at *
 generalize kindS (kdx k)=ks at *
 clear hm
 have D0:Hid (Dq (w.alloc (.cells #[.int .i64 k,.int .i64 s,.int .i64 t,.int .i64 d,.int .u32 m] 113)) w.heap.size sb S k s t d m):=Dq.start A ok k hs ht hd m0 m1
 have K0:Kept w (w.alloc (.cells #[.int .i64 k,.int .i64 s,.int .i64 t,.int .i64 d,.int .u32 m] 113)) (·=sb):=Kept.of_below _ ((Below.refl _ _).alloc (Nat.le_refl _) _)
 clear A
 go_enter Tryz.func195,Tryz.ntmps195
 go_upto_region 1 with fail
 generalize w.alloc (.cells #[.int .i64 k,.int .i64 s,.int .i64 t,.int .i64 d,.int .u32 m] 113)=W at *
 generalize w.heap.size=ib at *
 have i0:=D0.out.i0
 have i1:=D0.out.i1
 have i2:=D0.out.i2
 have i3:=D0.out.i3
 have i4:=D0.out.i4
 have qs:=D0.out.a.reg D0.out.hs
 have fs:=D0.out.a.fz s
 have hs':(s:Int)<32:=by have:=D0.out.hs;omega
 have qt:=D0.out.a.reg D0.out.ht
 have ft:=D0.out.a.fz t
 have ht':(t:Int)<32:=by have:=D0.out.ht;omega
 clear i0 i3 i4
 go_upto_region 1 with fail
 refine zP 8 [(0,0),(1,0),(2,1),(3,0),(4,0),(5,0),(6,1),(7,0)] (fun W=>Dq W ib sb S k s t d m) (by kernel_rfl) (by kernel_rfl) (fun _ _ _ d _ h=>by cases d<;>first|exact h|exact Dq.drew h) D0.out.drew ?_
 repeat (first|(refine zF (by rfl) (by rfl) (fun W=>by (go_simp;try with_reducible rfl)) (fun K hK=>?_);go_simp;refine hK _ ?_;clear hK K)|(refine zQ (by rfl) (by rfl) (fun W hW=>by (have i1:=hW.i1;have qs:=hW.a.reg hW.hs;go_simp;try with_reducible rfl)) (fun K hK=>?_);go_simp;refine hK _ ?_;clear hK K))
 refine zN ?_
 have D1:Hid (Dq W.drew ib sb S k s t d m):=D0.out.drew
 have K1:Kept w W.drew (·=sb):=K0.trans (Kept.drew _ _) (fun _ _ h=>h)
 clear qt ft qs fs i1 i2
 generalize W.drew=W1 at *
 clear D0 K0
 have i2:=D1.out.i2
 have qt:=D1.out.a.reg D1.out.ht
 go_upto_region 2 with fail
 refine zP 8 [(0,0),(1,0),(2,1),(3,0),(4,0),(5,0),(6,1),(7,0)] (fun W=>Dq W ib sb S k s t d m) (by kernel_rfl) (by kernel_rfl) (fun _ _ _ d _ h=>by cases d<;>first|exact h|exact Dq.drew h) D1.out.drew ?_
 repeat (first|(refine zF (by rfl) (by rfl) (fun W=>by (go_simp;try with_reducible rfl)) (fun K hK=>?_);go_simp;refine hK _ ?_;clear hK K)|(refine zQ (by rfl) (by rfl) (fun W hW=>by (have i2:=hW.i2;have qt:=hW.a.reg hW.ht;go_simp;try with_reducible rfl)) (fun K hK=>?_);go_simp;refine hK _ ?_;clear hK K))
 refine zN ?_
 have D0:Hid (Dq W1.drew ib sb S k s t d m):=D1.out.drew
 have K0:Kept w W1.drew (·=sb):=K1.trans (Kept.drew _ _) (fun _ _ h=>h)
 clear qt i2
 generalize W1.drew=W at *
 clear D1 K1 W1
 rcases hk with rfl|rfl|rfl
 all_goals
  have i0:=D0.out.i0
  have qd:=D0.out.a.reg D0.out.hd
  have fd:=D0.out.a.fz d
  have hd':(d:Int)<32:=by have:=D0.out.hd;omega
  go_upto_region 33 with fail
  clear i0
  refine zP 13 [(0,0),(1,0),(2,1),(3,0),(4,1),(6,0),(7,0),(8,1),(10,0),(11,0),(5,2),(9,2),(12,0),(13,2)] (fun W=>Dq W ib sb S _ s t d m) (by kernel_rfl) (by kernel_rfl) (fun _ _ _ d _ h=>by cases d<;>first|exact h|exact Dq.drew h) D0.out.drew ?_
  repeat (first|(refine zF (by rfl) (by rfl) (fun W=>by (go_simp;try with_reducible rfl)) (fun K hK=>?_);go_simp;refine hK _ ?_;clear hK K)|(refine zQ (by rfl) (by rfl) (fun W hW=>by (have i3:=hW.i3;have i0:=hW.i0;have i4:=hW.i4;go_simp;try with_reducible rfl)) (fun K hK=>?_);go_simp;refine hK _ ?_;clear hK K))
  refine zSr (by rfl) (by rfl) (fun K hK=>?_)
  go_simp
  refine (hk1 _).mono ?_
  rintro e_ w_ ⟨rfl,rfl⟩
  refine hK _ _ (fun _=>D0.out.drew) ?_
  clear hK K
  repeat (first|(refine zF (by rfl) (by rfl) (fun W=>by (go_simp;try with_reducible rfl)) (fun K hK=>?_);go_simp;refine hK _ ?_;clear hK K)|(refine zQ (by rfl) (by rfl) (fun W hW=>by (have i3:=hW.i3;have i0:=hW.i0;have i4:=hW.i4;go_simp;try with_reducible rfl)) (fun K hK=>?_);go_simp;refine hK _ ?_;clear hK K))
  refine zSr (by rfl) (by rfl) (fun K hK=>?_)
  go_simp
  refine (hk2 _).mono ?_
  rintro e_ w_ ⟨rfl,rfl⟩
  refine hK _ _ (fun _=>D0.out.drew) ?_
  clear hK K
  repeat (first|(refine zF (by rfl) (by rfl) (fun W=>by (go_simp;try with_reducible rfl)) (fun K hK=>?_);go_simp;refine hK _ ?_;clear hK K)|(refine zQ (by rfl) (by rfl) (fun W hW=>by (have i3:=hW.i3;have i0:=hW.i0;have i4:=hW.i4;go_simp;try with_reducible rfl)) (fun K hK=>?_);go_simp;refine hK _ ?_;clear hK K))
  refine zSr (by rfl) (by rfl) (fun K hK=>?_)
  go_simp
  refine hK _ _ (fun h=>absurd h (by decide)) ?_
  clear hK K
  refine zN ?_
  refine ck (R:=fun W'=>StAt W' sb (S.putR d y)∧Kept W W' (·=sb)) ?_ (fun w1 ⟨A1,T1⟩=>?_)
  ·exact ⟨(D0.out.a.putR d D0.out.hd _).drew,(Kept.put (Kept.refl W _) _ _).trans (Kept.drew _ _) (fun _ _ h=>h)⟩
  clear qd fd
  go_wp2
  go_ret
  exact ⟨rfl,A1,K0.trans T1 (fun _ _ h=>h)⟩
theorem sum_j (A:StAt w sb S) (ok:S.ok) (hs:s<32) (ht:t<32) (hd:d<32) (m0:0≤m) (m1:m<4294967296) (hk:k=4∨k=5∨k=6):Calls Tryz.prog 195 #[.pointer (some ⟨sb,0,none⟩),.agg #[.int .i64 k,.int .i64 s,.int .i64 t,.int .i64 d,.int .u32 m]] w fun e w'=>e=.returned (.int .i64 (sumD S k s t d m).1)∧StAt w' sb (sumD S k s t d m).2∧Kept w w' (·=sb):=by
 have X:sumD S k s t d m=(-1,S.putR d (resI S k (S.r t) (S.r s))):=by rcases hk with rfl|rfl|rfl<;>rfl
 rw[X]
 clear X
 have hk1:=fun W=>koD k (by unfold isK;omega) W
 have hk2:=fun W=>sumK_any S k (by unfold isK;omega) (S.r t) (S.r s) (ok.r t) (ok.r s) W
 generalize resI S k (S.r t) (S.r s)=y at *
 generalize kindS (kdx k)=ks at *
 have D0:Hid (Dq (w.alloc (.cells #[.int .i64 k,.int .i64 s,.int .i64 t,.int .i64 d,.int .u32 m] 113)) w.heap.size sb S k s t d m):=Dq.start A ok k hs ht hd m0 m1
 have K0:Kept w (w.alloc (.cells #[.int .i64 k,.int .i64 s,.int .i64 t,.int .i64 d,.int .u32 m] 113)) (·=sb):=Kept.of_below _ ((Below.refl _ _).alloc (Nat.le_refl _) _)
 clear A
 go_enter Tryz.func195,Tryz.ntmps195
 go_upto_region 1 with fail
 generalize w.alloc (.cells #[.int .i64 k,.int .i64 s,.int .i64 t,.int .i64 d,.int .u32 m] 113)=W at *
 generalize w.heap.size=ib at *
 have i0:=D0.out.i0
 have i1:=D0.out.i1
 have i2:=D0.out.i2
 have i3:=D0.out.i3
 have i4:=D0.out.i4
 have qs:=D0.out.a.reg D0.out.hs
 have fs:=D0.out.a.fz s
 have hs':(s:Int)<32:=by have:=D0.out.hs;omega
 have qt:=D0.out.a.reg D0.out.ht
 have ft:=D0.out.a.fz t
 have ht':(t:Int)<32:=by have:=D0.out.ht;omega
 clear i0 i3 i4
 go_upto_region 1 with fail
 refine zP 8 [(0,0),(1,0),(2,1),(3,0),(4,0),(5,0),(6,1),(7,0)] (fun W=>Dq W ib sb S k s t d m) (by kernel_rfl) (by kernel_rfl) (fun _ _ _ d _ h=>by cases d<;>first|exact h|exact Dq.drew h) D0.out.drew ?_
 repeat (first|(refine zF (by rfl) (by rfl) (fun W=>by (go_simp;try with_reducible rfl)) (fun K hK=>?_);go_simp;refine hK _ ?_;clear hK K)|(refine zQ (by rfl) (by rfl) (fun W hW=>by (have i1:=hW.i1;have qs:=hW.a.reg hW.hs;go_simp;try with_reducible rfl)) (fun K hK=>?_);go_simp;refine hK _ ?_;clear hK K))
 refine zN ?_
 have D1:Hid (Dq W.drew ib sb S k s t d m):=D0.out.drew
 have K1:Kept w W.drew (·=sb):=K0.trans (Kept.drew _ _) (fun _ _ h=>h)
 clear qt ft qs fs i1 i2
 generalize W.drew=W1 at *
 clear D0 K0
 have i2:=D1.out.i2
 have qt:=D1.out.a.reg D1.out.ht
 go_upto_region 2 with fail
 refine zP 8 [(0,0),(1,0),(2,1),(3,0),(4,0),(5,0),(6,1),(7,0)] (fun W=>Dq W ib sb S k s t d m) (by kernel_rfl) (by kernel_rfl) (fun _ _ _ d _ h=>by cases d<;>first|exact h|exact Dq.drew h) D1.out.drew ?_
 repeat (first|(refine zF (by rfl) (by rfl) (fun W=>by (go_simp;try with_reducible rfl)) (fun K hK=>?_);go_simp;refine hK _ ?_;clear hK K)|(refine zQ (by rfl) (by rfl) (fun W hW=>by (have i2:=hW.i2;have qt:=hW.a.reg hW.ht;go_simp;try with_reducible rfl)) (fun K hK=>?_);go_simp;refine hK _ ?_;clear hK K))
 refine zN ?_
 have D0:Hid (Dq W1.drew ib sb S k s t d m):=D1.out.drew
 have K0:Kept w W1.drew (·=sb):=K1.trans (Kept.drew _ _) (fun _ _ h=>h)
 clear qt i2
 generalize W1.drew=W at *
 clear D1 K1 W1
 rcases hk with rfl|rfl|rfl
 all_goals
  have i0:=D0.out.i0
  have qd:=D0.out.a.reg D0.out.hd
  have fd:=D0.out.a.fz d
  have hd':(d:Int)<32:=by have:=D0.out.hd;omega
  go_upto_region 38 with fail
  clear i0
  refine zP 12 [(0,0),(1,0),(2,1),(3,0),(4,1),(6,0),(7,0),(9,0),(10,0),(5,2),(8,2),(11,0),(12,2)] (fun W=>Dq W ib sb S _ s t d m) (by kernel_rfl) (by kernel_rfl) (fun _ _ _ d _ h=>by cases d<;>first|exact h|exact Dq.drew h) D0.out.drew ?_
  repeat (first|(refine zF (by rfl) (by rfl) (fun W=>by (go_simp;try with_reducible rfl)) (fun K hK=>?_);go_simp;refine hK _ ?_;clear hK K)|(refine zQ (by rfl) (by rfl) (fun W hW=>by (have i3:=hW.i3;have i0:=hW.i0;go_simp;try with_reducible rfl)) (fun K hK=>?_);go_simp;refine hK _ ?_;clear hK K))
  refine zSr (by rfl) (by rfl) (fun K hK=>?_)
  go_simp
  refine (hk1 _).mono ?_
  rintro e_ w_ ⟨rfl,rfl⟩
  refine hK _ _ (fun _=>D0.out.drew) ?_
  clear hK K
  repeat (first|(refine zF (by rfl) (by rfl) (fun W=>by (go_simp;try with_reducible rfl)) (fun K hK=>?_);go_simp;refine hK _ ?_;clear hK K)|(refine zQ (by rfl) (by rfl) (fun W hW=>by (have i3:=hW.i3;have i0:=hW.i0;go_simp;try with_reducible rfl)) (fun K hK=>?_);go_simp;refine hK _ ?_;clear hK K))
  refine zSr (by rfl) (by rfl) (fun K hK=>?_)
  go_simp
  refine (hk2 _).mono ?_
  rintro e_ w_ ⟨rfl,rfl⟩
  refine hK _ _ (fun _=>D0.out.drew) ?_
  clear hK K
  repeat (first|(refine zF (by rfl) (by rfl) (fun W=>by (go_simp;try with_reducible rfl)) (fun K hK=>?_);go_simp;refine hK _ ?_;clear hK K)|(refine zQ (by rfl) (by rfl) (fun W hW=>by (have i3:=hW.i3;have i0:=hW.i0;go_simp;try with_reducible rfl)) (fun K hK=>?_);go_simp;refine hK _ ?_;clear hK K))
  refine zSr (by rfl) (by rfl) (fun K hK=>?_)
  go_simp
  refine hK _ _ (fun h=>absurd h (by decide)) ?_
  clear hK K
  refine zN ?_
  refine ck (R:=fun W'=>StAt W' sb (S.putR d y)∧Kept W W' (·=sb)) ?_ (fun w1 ⟨A1,T1⟩=>?_)
  ·exact ⟨(D0.out.a.putR d D0.out.hd _).drew,(Kept.put (Kept.refl W _) _ _).trans (Kept.drew _ _) (fun _ _ h=>h)⟩
  clear qd fd
  go_wp2
  go_ret
  exact ⟨rfl,A1,K0.trans T1 (fun _ _ h=>h)⟩
theorem sum_k (A:StAt w sb S) (ok:S.ok) (hs:s<32) (ht:t<32) (hd:d<32) (m0:0≤m) (m1:m<4294967296) (hk:k=39∨k=40∨k=41):Calls Tryz.prog 195 #[.pointer (some ⟨sb,0,none⟩),.agg #[.int .i64 k,.int .i64 s,.int .i64 t,.int .i64 d,.int .u32 m]] w fun e w'=>e=.returned (.int .i64 (sumD S k s t d m).1)∧StAt w' sb (sumD S k s t d m).2∧Kept w w' (·=sb):=by
 have X:sumD S k s t d m=(-1,S.putR t (resI S k (S.r s) m)):=by rcases hk with rfl|rfl|rfl<;>rfl
 rw[X]
 clear X
 have hk1:=fun W=>koD k (by unfold isK;omega) W
 have hk2:=fun W=>sumK_any S k (by unfold isK;omega) (S.r s) (m) (ok.r s) ⟨m0,m1⟩ W
 generalize resI S k (S.r s) (m)=y at *
 generalize kindS (kdx k)=ks at *
 have D0:Hid (Dq (w.alloc (.cells #[.int .i64 k,.int .i64 s,.int .i64 t,.int .i64 d,.int .u32 m] 113)) w.heap.size sb S k s t d m):=Dq.start A ok k hs ht hd m0 m1
 have K0:Kept w (w.alloc (.cells #[.int .i64 k,.int .i64 s,.int .i64 t,.int .i64 d,.int .u32 m] 113)) (·=sb):=Kept.of_below _ ((Below.refl _ _).alloc (Nat.le_refl _) _)
 clear A
 go_enter Tryz.func195,Tryz.ntmps195
 go_upto_region 1 with fail
 generalize w.alloc (.cells #[.int .i64 k,.int .i64 s,.int .i64 t,.int .i64 d,.int .u32 m] 113)=W at *
 generalize w.heap.size=ib at *
 have i0:=D0.out.i0
 have i1:=D0.out.i1
 have i2:=D0.out.i2
 have i3:=D0.out.i3
 have i4:=D0.out.i4
 have qs:=D0.out.a.reg D0.out.hs
 have fs:=D0.out.a.fz s
 have hs':(s:Int)<32:=by have:=D0.out.hs;omega
 have qt:=D0.out.a.reg D0.out.ht
 have ft:=D0.out.a.fz t
 have ht':(t:Int)<32:=by have:=D0.out.ht;omega
 clear i0 i3 i4
 go_upto_region 1 with fail
 refine zP 8 [(0,0),(1,0),(2,1),(3,0),(4,0),(5,0),(6,1),(7,0)] (fun W=>Dq W ib sb S k s t d m) (by kernel_rfl) (by kernel_rfl) (fun _ _ _ d _ h=>by cases d<;>first|exact h|exact Dq.drew h) D0.out.drew ?_
 repeat (first|(refine zF (by rfl) (by rfl) (fun W=>by (go_simp;try with_reducible rfl)) (fun K hK=>?_);go_simp;refine hK _ ?_;clear hK K)|(refine zQ (by rfl) (by rfl) (fun W hW=>by (have i1:=hW.i1;have qs:=hW.a.reg hW.hs;go_simp;try with_reducible rfl)) (fun K hK=>?_);go_simp;refine hK _ ?_;clear hK K))
 refine zN ?_
 have D1:Hid (Dq W.drew ib sb S k s t d m):=D0.out.drew
 have K1:Kept w W.drew (·=sb):=K0.trans (Kept.drew _ _) (fun _ _ h=>h)
 clear qt ft qs fs i1 i2
 generalize W.drew=W1 at *
 clear D0 K0
 have i2:=D1.out.i2
 have qt:=D1.out.a.reg D1.out.ht
 go_upto_region 2 with fail
 refine zP 8 [(0,0),(1,0),(2,1),(3,0),(4,0),(5,0),(6,1),(7,0)] (fun W=>Dq W ib sb S k s t d m) (by kernel_rfl) (by kernel_rfl) (fun _ _ _ d _ h=>by cases d<;>first|exact h|exact Dq.drew h) D1.out.drew ?_
 repeat (first|(refine zF (by rfl) (by rfl) (fun W=>by (go_simp;try with_reducible rfl)) (fun K hK=>?_);go_simp;refine hK _ ?_;clear hK K)|(refine zQ (by rfl) (by rfl) (fun W hW=>by (have i2:=hW.i2;have qt:=hW.a.reg hW.ht;go_simp;try with_reducible rfl)) (fun K hK=>?_);go_simp;refine hK _ ?_;clear hK K))
 refine zN ?_
 have D0:Hid (Dq W1.drew ib sb S k s t d m):=D1.out.drew
 have K0:Kept w W1.drew (·=sb):=K1.trans (Kept.drew _ _) (fun _ _ h=>h)
 clear qt i2
 generalize W1.drew=W at *
 clear D1 K1 W1
 rcases hk with rfl|rfl|rfl
 all_goals
  have i0:=D0.out.i0
  have qt:=D0.out.a.reg D0.out.ht
  have ft:=D0.out.a.fz t
  have ht':(t:Int)<32:=by have:=D0.out.ht;omega
  go_upto_region 43 with fail
  clear i0
  refine zP 13 [(0,0),(1,0),(2,1),(3,0),(4,1),(6,0),(7,0),(8,1),(10,0),(11,0),(5,2),(9,2),(12,0),(13,2)] (fun W=>Dq W ib sb S _ s t d m) (by kernel_rfl) (by kernel_rfl) (fun _ _ _ d _ h=>by cases d<;>first|exact h|exact Dq.drew h) D0.out.drew ?_
  repeat (first|(refine zF (by rfl) (by rfl) (fun W=>by (go_simp;try with_reducible rfl)) (fun K hK=>?_);go_simp;refine hK _ ?_;clear hK K)|(refine zQ (by rfl) (by rfl) (fun W hW=>by (have i2:=hW.i2;have i0:=hW.i0;have i4:=hW.i4;go_simp;try with_reducible rfl)) (fun K hK=>?_);go_simp;refine hK _ ?_;clear hK K))
  refine zSr (by rfl) (by rfl) (fun K hK=>?_)
  go_simp
  refine (hk1 _).mono ?_
  rintro e_ w_ ⟨rfl,rfl⟩
  refine hK _ _ (fun _=>D0.out.drew) ?_
  clear hK K
  repeat (first|(refine zF (by rfl) (by rfl) (fun W=>by (go_simp;try with_reducible rfl)) (fun K hK=>?_);go_simp;refine hK _ ?_;clear hK K)|(refine zQ (by rfl) (by rfl) (fun W hW=>by (have i2:=hW.i2;have i0:=hW.i0;have i4:=hW.i4;go_simp;try with_reducible rfl)) (fun K hK=>?_);go_simp;refine hK _ ?_;clear hK K))
  refine zSr (by rfl) (by rfl) (fun K hK=>?_)
  go_simp
  refine (hk2 _).mono ?_
  rintro e_ w_ ⟨rfl,rfl⟩
  refine hK _ _ (fun _=>D0.out.drew) ?_
  clear hK K
  repeat (first|(refine zF (by rfl) (by rfl) (fun W=>by (go_simp;try with_reducible rfl)) (fun K hK=>?_);go_simp;refine hK _ ?_;clear hK K)|(refine zQ (by rfl) (by rfl) (fun W hW=>by (have i2:=hW.i2;have i0:=hW.i0;have i4:=hW.i4;go_simp;try with_reducible rfl)) (fun K hK=>?_);go_simp;refine hK _ ?_;clear hK K))
  refine zSr (by rfl) (by rfl) (fun K hK=>?_)
  go_simp
  refine hK _ _ (fun h=>absurd h (by decide)) ?_
  clear hK K
  refine zN ?_
  refine ck (R:=fun W'=>StAt W' sb (S.putR t y)∧Kept W W' (·=sb)) ?_ (fun w1 ⟨A1,T1⟩=>?_)
  ·exact ⟨(D0.out.a.putR t D0.out.ht _).drew,(Kept.put (Kept.refl W _) _ _).trans (Kept.drew _ _) (fun _ _ h=>h)⟩
  clear qt ft
  go_wp2
  go_ret
  exact ⟨rfl,A1,K0.trans T1 (fun _ _ h=>h)⟩
theorem sum_l (A:StAt w sb S) (ok:S.ok) (hs:s<32) (ht:t<32) (hd:d<32) (m0:0≤m) (m1:m<4294967296) (hk:k=20∨k=22∨k=23∨k=24∨k=25∨k=26∨k=27∨k=28):Calls Tryz.prog 195 #[.pointer (some ⟨sb,0,none⟩),.agg #[.int .i64 k,.int .i64 s,.int .i64 t,.int .i64 d,.int .u32 m]] w fun e w'=>e=.returned (.int .i64 (sumD S k s t d m).1)∧StAt w' sb (sumD S k s t d m).2∧Kept w w' (·=sb):=by
 have X:sumD S k s t d m=(-1,S.putR d (resI S k (S.r s) (S.r t))):=by rcases hk with rfl|rfl|rfl|rfl|rfl|rfl|rfl|rfl<;>rfl
 rw[X]
 clear X
 have hk1:=fun W=>koD k (by unfold isK;omega) W
 have hk2:=fun W=>sumK_any S k (by unfold isK;omega) (S.r s) (S.r t) (ok.r s) (ok.r t) W
 generalize resI S k (S.r s) (S.r t)=y at *
 generalize kindS (kdx k)=ks at *
 have D0:Hid (Dq (w.alloc (.cells #[.int .i64 k,.int .i64 s,.int .i64 t,.int .i64 d,.int .u32 m] 113)) w.heap.size sb S k s t d m):=Dq.start A ok k hs ht hd m0 m1
 have K0:Kept w (w.alloc (.cells #[.int .i64 k,.int .i64 s,.int .i64 t,.int .i64 d,.int .u32 m] 113)) (·=sb):=Kept.of_below _ ((Below.refl _ _).alloc (Nat.le_refl _) _)
 clear A
 go_enter Tryz.func195,Tryz.ntmps195
 go_upto_region 1 with fail
 generalize w.alloc (.cells #[.int .i64 k,.int .i64 s,.int .i64 t,.int .i64 d,.int .u32 m] 113)=W at *
 generalize w.heap.size=ib at *
 have i0:=D0.out.i0
 have i1:=D0.out.i1
 have i2:=D0.out.i2
 have i3:=D0.out.i3
 have i4:=D0.out.i4
 have qs:=D0.out.a.reg D0.out.hs
 have fs:=D0.out.a.fz s
 have hs':(s:Int)<32:=by have:=D0.out.hs;omega
 have qt:=D0.out.a.reg D0.out.ht
 have ft:=D0.out.a.fz t
 have ht':(t:Int)<32:=by have:=D0.out.ht;omega
 clear i0 i3 i4
 go_upto_region 1 with fail
 refine zP 8 [(0,0),(1,0),(2,1),(3,0),(4,0),(5,0),(6,1),(7,0)] (fun W=>Dq W ib sb S k s t d m) (by kernel_rfl) (by kernel_rfl) (fun _ _ _ d _ h=>by cases d<;>first|exact h|exact Dq.drew h) D0.out.drew ?_
 repeat (first|(refine zF (by rfl) (by rfl) (fun W=>by (go_simp;try with_reducible rfl)) (fun K hK=>?_);go_simp;refine hK _ ?_;clear hK K)|(refine zQ (by rfl) (by rfl) (fun W hW=>by (have i1:=hW.i1;have qs:=hW.a.reg hW.hs;go_simp;try with_reducible rfl)) (fun K hK=>?_);go_simp;refine hK _ ?_;clear hK K))
 refine zN ?_
 have D1:Hid (Dq W.drew ib sb S k s t d m):=D0.out.drew
 have K1:Kept w W.drew (·=sb):=K0.trans (Kept.drew _ _) (fun _ _ h=>h)
 clear qt ft qs fs i1 i2
 generalize W.drew=W1 at *
 clear D0 K0
 have i2:=D1.out.i2
 have qt:=D1.out.a.reg D1.out.ht
 go_upto_region 2 with fail
 refine zP 8 [(0,0),(1,0),(2,1),(3,0),(4,0),(5,0),(6,1),(7,0)] (fun W=>Dq W ib sb S k s t d m) (by kernel_rfl) (by kernel_rfl) (fun _ _ _ d _ h=>by cases d<;>first|exact h|exact Dq.drew h) D1.out.drew ?_
 repeat (first|(refine zF (by rfl) (by rfl) (fun W=>by (go_simp;try with_reducible rfl)) (fun K hK=>?_);go_simp;refine hK _ ?_;clear hK K)|(refine zQ (by rfl) (by rfl) (fun W hW=>by (have i2:=hW.i2;have qt:=hW.a.reg hW.ht;go_simp;try with_reducible rfl)) (fun K hK=>?_);go_simp;refine hK _ ?_;clear hK K))
 refine zN ?_
 have D0:Hid (Dq W1.drew ib sb S k s t d m):=D1.out.drew
 have K0:Kept w W1.drew (·=sb):=K1.trans (Kept.drew _ _) (fun _ _ h=>h)
 clear qt i2
 generalize W1.drew=W at *
 clear D1 K1 W1
 rcases hk with rfl|rfl|rfl|rfl|rfl|rfl|rfl|rfl
 all_goals
  have i0:=D0.out.i0
  have qd:=D0.out.a.reg D0.out.hd
  have fd:=D0.out.a.fz d
  have hd':(d:Int)<32:=by have:=D0.out.hd;omega
  go_upto_region 63 with fail
  clear i0
  refine zP 12 [(0,0),(1,0),(2,1),(3,0),(4,1),(6,0),(7,0),(9,0),(10,0),(5,2),(8,2),(11,0),(12,2)] (fun W=>Dq W ib sb S _ s t d m) (by kernel_rfl) (by kernel_rfl) (fun _ _ _ d _ h=>by cases d<;>first|exact h|exact Dq.drew h) D0.out.drew ?_
  repeat (first|(refine zF (by rfl) (by rfl) (fun W=>by (go_simp;try with_reducible rfl)) (fun K hK=>?_);go_simp;refine hK _ ?_;clear hK K)|(refine zQ (by rfl) (by rfl) (fun W hW=>by (have i3:=hW.i3;have i0:=hW.i0;go_simp;try with_reducible rfl)) (fun K hK=>?_);go_simp;refine hK _ ?_;clear hK K))
  refine zSr (by rfl) (by rfl) (fun K hK=>?_)
  go_simp
  refine (hk1 _).mono ?_
  rintro e_ w_ ⟨rfl,rfl⟩
  refine hK _ _ (fun _=>D0.out.drew) ?_
  clear hK K
  repeat (first|(refine zF (by rfl) (by rfl) (fun W=>by (go_simp;try with_reducible rfl)) (fun K hK=>?_);go_simp;refine hK _ ?_;clear hK K)|(refine zQ (by rfl) (by rfl) (fun W hW=>by (have i3:=hW.i3;have i0:=hW.i0;go_simp;try with_reducible rfl)) (fun K hK=>?_);go_simp;refine hK _ ?_;clear hK K))
  refine zSr (by rfl) (by rfl) (fun K hK=>?_)
  go_simp
  refine (hk2 _).mono ?_
  rintro e_ w_ ⟨rfl,rfl⟩
  refine hK _ _ (fun _=>D0.out.drew) ?_
  clear hK K
  repeat (first|(refine zF (by rfl) (by rfl) (fun W=>by (go_simp;try with_reducible rfl)) (fun K hK=>?_);go_simp;refine hK _ ?_;clear hK K)|(refine zQ (by rfl) (by rfl) (fun W hW=>by (have i3:=hW.i3;have i0:=hW.i0;go_simp;try with_reducible rfl)) (fun K hK=>?_);go_simp;refine hK _ ?_;clear hK K))
  refine zSr (by rfl) (by rfl) (fun K hK=>?_)
  go_simp
  refine hK _ _ (fun h=>absurd h (by decide)) ?_
  clear hK K
  refine zN ?_
  refine ck (R:=fun W'=>StAt W' sb (S.putR d y)∧Kept W W' (·=sb)) ?_ (fun w1 ⟨A1,T1⟩=>?_)
  ·exact ⟨(D0.out.a.putR d D0.out.hd _).drew,(Kept.put (Kept.refl W _) _ _).trans (Kept.drew _ _) (fun _ _ h=>h)⟩
  clear qd fd
  go_wp2
  go_ret
  exact ⟨rfl,A1,K0.trans T1 (fun _ _ h=>h)⟩
end
end Go.Proofs.YtflagpkmebdckaaGreatDoor
