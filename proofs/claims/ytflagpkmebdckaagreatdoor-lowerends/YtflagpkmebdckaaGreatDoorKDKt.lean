
import Derived.Deep.RegionWith
import Derived.WalkSmall
import Derived.Test.YtflagpkmebdckaaGreatDoorKLowPure
import Derived.Test.YtflagpkmebdckaaGreatDoorKMk4
namespace Go.Proofs.YtflagpkmebdckaaGreatDoor
open Go.RowKit Go.Maps
open Num
set_option linter.unusedVariables false
set_option maxRecDepth 100000
set_option maxHeartbeats 8000000
section
variable {w : World} {sb : Nat} {S : St} {k s t d : Nat} {m : Int}
end
def fromD (S:St) (t d:Nat):Int × St :=
 if d=8 then (-1,S.putR t S.bd) else if d=9 then (-1,S.putR t (lo S.ct)) else if d=11 then (-1,S.putR t S.cm) else if d=12 then (-1,S.putR t S.st) else if d=13 then (-1,S.putR t S.ca) else if d=14 then (-1,S.putR t S.ep) else (10,S)
def toD (S:St) (t d:Nat):Int × St :=
 if d=11 then (-1,{ S with cm:=S.r t }) else if d=12 then (-1,{ S with st:=S.r t%4 }) else if d=14 then (-1,{ S with ep:=S.r t }) else (10,S)
def trapD (S:St) (k t d:Nat):Int × St:=if k=9 then (8,S) else if k=10 then (9,S) else if k=43 then fromD S t d else if k=44 then toD S t d else (10,S)
section
variable {w : World} {sb : Nat} {S : St} {k s t d : Nat} {m : Int}
theorem trap_9 (A:StAt w sb S) (ok:S.ok) (hs:s<32) (ht:t<32) (hd:d<32) (m0:0≤m) (m1:m<4294967296) (hk:k=9):Calls Tryz.prog 194 #[.pointer (some ⟨sb,0,none⟩),.agg #[.int .i64 k,.int .i64 s,.int .i64 t,.int .i64 d,.int .u32 m]] w fun e w'=>e=.returned (.int .i64 (trapD S k t d).1)∧StAt w' sb (trapD S k t d).2∧Kept w w' (·=sb):=by
 subst hk
 have D0:Hid (Dq (w.alloc (.cells #[.int .i64 9,.int .i64 s,.int .i64 t,.int .i64 d,.int .u32 m] 113)) w.heap.size sb S 9 s t d m):=Dq.start A ok 9 hs ht hd m0 m1
 have K0:Kept w (w.alloc (.cells #[.int .i64 9,.int .i64 s,.int .i64 t,.int .i64 d,.int .u32 m] 113)) (·=sb):=Kept.of_below _ ((Below.refl _ _).alloc (Nat.le_refl _) _)
 clear A
 go_enter Tryz.func194,Tryz.ntmps194
 go_upto_region 1 with fail
 generalize w.alloc (.cells #[.int .i64 9,.int .i64 s,.int .i64 t,.int .i64 d,.int .u32 m] 113)=W at *
 generalize w.heap.size=ib at *
 have i0:=D0.out.i0
 have A1:=D0.out.a
 go_wp2
 go_ret
 exact ⟨rfl,A1,K0⟩
theorem trap_10 (A:StAt w sb S) (ok:S.ok) (hs:s<32) (ht:t<32) (hd:d<32) (m0:0≤m) (m1:m<4294967296) (hk:k=10):Calls Tryz.prog 194 #[.pointer (some ⟨sb,0,none⟩),.agg #[.int .i64 k,.int .i64 s,.int .i64 t,.int .i64 d,.int .u32 m]] w fun e w'=>e=.returned (.int .i64 (trapD S k t d).1)∧StAt w' sb (trapD S k t d).2∧Kept w w' (·=sb):=by
 subst hk
 have D0:Hid (Dq (w.alloc (.cells #[.int .i64 10,.int .i64 s,.int .i64 t,.int .i64 d,.int .u32 m] 113)) w.heap.size sb S 10 s t d m):=Dq.start A ok 10 hs ht hd m0 m1
 have K0:Kept w (w.alloc (.cells #[.int .i64 10,.int .i64 s,.int .i64 t,.int .i64 d,.int .u32 m] 113)) (·=sb):=Kept.of_below _ ((Below.refl _ _).alloc (Nat.le_refl _) _)
 clear A
 go_enter Tryz.func194,Tryz.ntmps194
 go_upto_region 1 with fail
 generalize w.alloc (.cells #[.int .i64 10,.int .i64 s,.int .i64 t,.int .i64 d,.int .u32 m] 113)=W at *
 generalize w.heap.size=ib at *
 have i0:=D0.out.i0
 have A1:=D0.out.a
 go_wp2
 go_ret
 exact ⟨rfl,A1,K0⟩
theorem trap_43_8 (A:StAt w sb S) (ok:S.ok) (hs:s<32) (ht:t<32) (hd:d<32) (m0:0≤m) (m1:m<4294967296) (hk:k=43) (hdd:d=8):Calls Tryz.prog 194 #[.pointer (some ⟨sb,0,none⟩),.agg #[.int .i64 k,.int .i64 s,.int .i64 t,.int .i64 d,.int .u32 m]] w fun e w'=>e=.returned (.int .i64 (trapD S k t d).1)∧StAt w' sb (trapD S k t d).2∧Kept w w' (·=sb):=by
 subst hk
 subst hdd
 have D0:Hid (Dq (w.alloc (.cells #[.int .i64 43,.int .i64 s,.int .i64 t,.int .i64 8,.int .u32 m] 113)) w.heap.size sb S 43 s t 8 m):=Dq.start A ok 43 hs ht hd m0 m1
 have K0:Kept w (w.alloc (.cells #[.int .i64 43,.int .i64 s,.int .i64 t,.int .i64 8,.int .u32 m] 113)) (·=sb):=Kept.of_below _ ((Below.refl _ _).alloc (Nat.le_refl _) _)
 clear A
 go_enter Tryz.func194,Tryz.ntmps194
 go_upto_region 1 with fail
 generalize w.alloc (.cells #[.int .i64 43,.int .i64 s,.int .i64 t,.int .i64 8,.int .u32 m] 113)=W at *
 generalize w.heap.size=ib at *
 have i0:=D0.out.i0
 have i1:=D0.out.i1
 have i2:=D0.out.i2
 have i3:=D0.out.i3
 have i4:=D0.out.i4
 have qt:=D0.out.a.reg D0.out.ht
 have ft:=D0.out.a.fz t
 have ht':(t:Int)<32:=by have:=D0.out.ht;omega
 go_upto_region 10 with fail
 clear i0 i1 i2 i3 i4
 refine zP 10 [(0,0),(1,0),(2,1),(3,0),(4,0),(5,0),(6,1),(7,0),(8,0),(9,0),(10,2)] (fun W=>Dq W ib sb S 43 s t 8 m) (by kernel_rfl) (by kernel_rfl) (fun _ _ _ d _ h=>by cases d<;>first|exact h|exact Dq.drew h) D0.out.drew ?_
 repeat (first|(refine zF (by rfl) (by rfl) (fun W=>by (go_simp;try with_reducible rfl)) (fun K hK=>?_);go_simp;refine hK _ ?_;clear hK K)|(refine zQ (by rfl) (by rfl) (fun W hW=>by (have i2:=hW.i2;have q40:=hW.a.told.2.2.2.2.2.2.2.2.1;go_simp;try with_reducible rfl)) (fun K hK=>?_);go_simp;refine hK _ ?_;clear hK K))
 refine zSr (by rfl) (by rfl) (fun K hK=>?_)
 go_simp
 refine hK _ _ (fun h=>absurd h (by decide)) ?_
 clear hK K
 refine zN ?_
 refine ck (R:=fun W'=>StAt W' sb (S.putR t S.bd)∧Kept W W' (·=sb)) ?_ (fun w1 ⟨A1,T1⟩=>?_)
 ·exact ⟨(D0.out.a.putR t D0.out.ht _).drew,(Kept.put (Kept.refl W _) _ _).trans (Kept.drew _ _) (fun _ _ h=>h)⟩
 clear qt ft
 go_wp2
 go_ret
 exact ⟨rfl,A1,K0.trans T1 (fun _ _ h=>h)⟩
theorem trap_43_9 (A:StAt w sb S) (ok:S.ok) (hs:s<32) (ht:t<32) (hd:d<32) (m0:0≤m) (m1:m<4294967296) (hk:k=43) (hdd:d=9):Calls Tryz.prog 194 #[.pointer (some ⟨sb,0,none⟩),.agg #[.int .i64 k,.int .i64 s,.int .i64 t,.int .i64 d,.int .u32 m]] w fun e w'=>e=.returned (.int .i64 (trapD S k t d).1)∧StAt w' sb (trapD S k t d).2∧Kept w w' (·=sb):=by
 subst hk
 subst hdd
 have D0:Hid (Dq (w.alloc (.cells #[.int .i64 43,.int .i64 s,.int .i64 t,.int .i64 9,.int .u32 m] 113)) w.heap.size sb S 43 s t 9 m):=Dq.start A ok 43 hs ht hd m0 m1
 have K0:Kept w (w.alloc (.cells #[.int .i64 43,.int .i64 s,.int .i64 t,.int .i64 9,.int .u32 m] 113)) (·=sb):=Kept.of_below _ ((Below.refl _ _).alloc (Nat.le_refl _) _)
 clear A
 go_enter Tryz.func194,Tryz.ntmps194
 go_upto_region 1 with fail
 generalize w.alloc (.cells #[.int .i64 43,.int .i64 s,.int .i64 t,.int .i64 9,.int .u32 m] 113)=W at *
 generalize w.heap.size=ib at *
 have i0:=D0.out.i0
 have i1:=D0.out.i1
 have i2:=D0.out.i2
 have i3:=D0.out.i3
 have i4:=D0.out.i4
 have qt:=D0.out.a.reg D0.out.ht
 have ft:=D0.out.a.fz t
 have ht':(t:Int)<32:=by have:=D0.out.ht;omega
 go_upto_region 12 with fail
 clear i0 i1 i2 i3 i4
 have c0:=D0.out.ok.c0
 have c1:=D0.out.ok.c1
 have hw:=fun W=>wdA S.ct c0 (by omega) W
 refine zP 11 [(0,0),(1,0),(2,1),(3,0),(4,0),(5,0),(6,1),(8,0),(9,0),(7,2),(10,0),(11,2)] (fun W=>Dq W ib sb S 43 s t 9 m) (by kernel_rfl) (by kernel_rfl) (fun _ _ _ d _ h=>by cases d<;>first|exact h|exact Dq.drew h) D0.out.drew ?_
 repeat (first|(refine zF (by rfl) (by rfl) (fun W=>by (go_simp;try with_reducible rfl)) (fun K hK=>?_);go_simp;refine hK _ ?_;clear hK K)|(refine zQ (by rfl) (by rfl) (fun W hW=>by (have i2:=hW.i2;have q42:=hW.a.told.2.2.2.2.2.2.2.2.2.2;go_simp;try with_reducible rfl)) (fun K hK=>?_);go_simp;refine hK _ ?_;clear hK K))
 refine zSr (by rfl) (by rfl) (fun K hK=>?_)
 go_simp
 refine (hw _).mono ?_
 rintro e_ w_ ⟨rfl,rfl⟩
 refine hK _ _ (fun _=>D0.out.drew) ?_
 clear hK K
 repeat (first|(refine zF (by rfl) (by rfl) (fun W=>by (go_simp;try with_reducible rfl)) (fun K hK=>?_);go_simp;refine hK _ ?_;clear hK K)|(refine zQ (by rfl) (by rfl) (fun W hW=>by (have i2:=hW.i2;have q42:=hW.a.told.2.2.2.2.2.2.2.2.2.2;go_simp;try with_reducible rfl)) (fun K hK=>?_);go_simp;refine hK _ ?_;clear hK K))
 refine zSr (by rfl) (by rfl) (fun K hK=>?_)
 go_simp
 refine hK _ _ (fun h=>absurd h (by decide)) ?_
 clear hK K
 refine zN ?_
 refine ck (R:=fun W'=>StAt W' sb (S.putR t (lo S.ct))∧Kept W W' (·=sb)) ?_ (fun w1 ⟨A1,T1⟩=>?_)
 ·exact ⟨(D0.out.a.putR t D0.out.ht _).drew,(Kept.put (Kept.refl W _) _ _).trans (Kept.drew _ _) (fun _ _ h=>h)⟩
 clear qt ft
 go_wp2
 go_ret
 exact ⟨rfl,A1,K0.trans T1 (fun _ _ h=>h)⟩
theorem trap_43_11 (A:StAt w sb S) (ok:S.ok) (hs:s<32) (ht:t<32) (hd:d<32) (m0:0≤m) (m1:m<4294967296) (hk:k=43) (hdd:d=11):Calls Tryz.prog 194 #[.pointer (some ⟨sb,0,none⟩),.agg #[.int .i64 k,.int .i64 s,.int .i64 t,.int .i64 d,.int .u32 m]] w fun e w'=>e=.returned (.int .i64 (trapD S k t d).1)∧StAt w' sb (trapD S k t d).2∧Kept w w' (·=sb):=by
 subst hk
 subst hdd
 have D0:Hid (Dq (w.alloc (.cells #[.int .i64 43,.int .i64 s,.int .i64 t,.int .i64 11,.int .u32 m] 113)) w.heap.size sb S 43 s t 11 m):=Dq.start A ok 43 hs ht hd m0 m1
 have K0:Kept w (w.alloc (.cells #[.int .i64 43,.int .i64 s,.int .i64 t,.int .i64 11,.int .u32 m] 113)) (·=sb):=Kept.of_below _ ((Below.refl _ _).alloc (Nat.le_refl _) _)
 clear A
 go_enter Tryz.func194,Tryz.ntmps194
 go_upto_region 1 with fail
 generalize w.alloc (.cells #[.int .i64 43,.int .i64 s,.int .i64 t,.int .i64 11,.int .u32 m] 113)=W at *
 generalize w.heap.size=ib at *
 have i0:=D0.out.i0
 have i1:=D0.out.i1
 have i2:=D0.out.i2
 have i3:=D0.out.i3
 have i4:=D0.out.i4
 have qt:=D0.out.a.reg D0.out.ht
 have ft:=D0.out.a.fz t
 have ht':(t:Int)<32:=by have:=D0.out.ht;omega
 go_upto_region 14 with fail
 clear i0 i1 i2 i3 i4
 refine zP 10 [(0,0),(1,0),(2,1),(3,0),(4,0),(5,0),(6,1),(7,0),(8,0),(9,0),(10,2)] (fun W=>Dq W ib sb S 43 s t 11 m) (by kernel_rfl) (by kernel_rfl) (fun _ _ _ d _ h=>by cases d<;>first|exact h|exact Dq.drew h) D0.out.drew ?_
 repeat (first|(refine zF (by rfl) (by rfl) (fun W=>by (go_simp;try with_reducible rfl)) (fun K hK=>?_);go_simp;refine hK _ ?_;clear hK K)|(refine zQ (by rfl) (by rfl) (fun W hW=>by (have i2:=hW.i2;have q41:=hW.a.told.2.2.2.2.2.2.2.2.2.1;go_simp;try with_reducible rfl)) (fun K hK=>?_);go_simp;refine hK _ ?_;clear hK K))
 refine zSr (by rfl) (by rfl) (fun K hK=>?_)
 go_simp
 refine hK _ _ (fun h=>absurd h (by decide)) ?_
 clear hK K
 refine zN ?_
 refine ck (R:=fun W'=>StAt W' sb (S.putR t S.cm)∧Kept W W' (·=sb)) ?_ (fun w1 ⟨A1,T1⟩=>?_)
 ·exact ⟨(D0.out.a.putR t D0.out.ht _).drew,(Kept.put (Kept.refl W _) _ _).trans (Kept.drew _ _) (fun _ _ h=>h)⟩
 clear qt ft
 go_wp2
 go_ret
 exact ⟨rfl,A1,K0.trans T1 (fun _ _ h=>h)⟩
theorem trap_43_12 (A:StAt w sb S) (ok:S.ok) (hs:s<32) (ht:t<32) (hd:d<32) (m0:0≤m) (m1:m<4294967296) (hk:k=43) (hdd:d=12):Calls Tryz.prog 194 #[.pointer (some ⟨sb,0,none⟩),.agg #[.int .i64 k,.int .i64 s,.int .i64 t,.int .i64 d,.int .u32 m]] w fun e w'=>e=.returned (.int .i64 (trapD S k t d).1)∧StAt w' sb (trapD S k t d).2∧Kept w w' (·=sb):=by
 subst hk
 subst hdd
 have D0:Hid (Dq (w.alloc (.cells #[.int .i64 43,.int .i64 s,.int .i64 t,.int .i64 12,.int .u32 m] 113)) w.heap.size sb S 43 s t 12 m):=Dq.start A ok 43 hs ht hd m0 m1
 have K0:Kept w (w.alloc (.cells #[.int .i64 43,.int .i64 s,.int .i64 t,.int .i64 12,.int .u32 m] 113)) (·=sb):=Kept.of_below _ ((Below.refl _ _).alloc (Nat.le_refl _) _)
 clear A
 go_enter Tryz.func194,Tryz.ntmps194
 go_upto_region 1 with fail
 generalize w.alloc (.cells #[.int .i64 43,.int .i64 s,.int .i64 t,.int .i64 12,.int .u32 m] 113)=W at *
 generalize w.heap.size=ib at *
 have i0:=D0.out.i0
 have i1:=D0.out.i1
 have i2:=D0.out.i2
 have i3:=D0.out.i3
 have i4:=D0.out.i4
 have qt:=D0.out.a.reg D0.out.ht
 have ft:=D0.out.a.fz t
 have ht':(t:Int)<32:=by have:=D0.out.ht;omega
 go_upto_region 16 with fail
 clear i0 i1 i2 i3 i4
 refine zP 10 [(0,0),(1,0),(2,1),(3,0),(4,0),(5,0),(6,1),(7,0),(8,0),(9,0),(10,2)] (fun W=>Dq W ib sb S 43 s t 12 m) (by kernel_rfl) (by kernel_rfl) (fun _ _ _ d _ h=>by cases d<;>first|exact h|exact Dq.drew h) D0.out.drew ?_
 repeat (first|(refine zF (by rfl) (by rfl) (fun W=>by (go_simp;try with_reducible rfl)) (fun K hK=>?_);go_simp;refine hK _ ?_;clear hK K)|(refine zQ (by rfl) (by rfl) (fun W hW=>by (have i2:=hW.i2;have q37:=hW.a.told.2.2.2.2.2.1;go_simp;try with_reducible rfl)) (fun K hK=>?_);go_simp;refine hK _ ?_;clear hK K))
 refine zSr (by rfl) (by rfl) (fun K hK=>?_)
 go_simp
 refine hK _ _ (fun h=>absurd h (by decide)) ?_
 clear hK K
 refine zN ?_
 refine ck (R:=fun W'=>StAt W' sb (S.putR t S.st)∧Kept W W' (·=sb)) ?_ (fun w1 ⟨A1,T1⟩=>?_)
 ·exact ⟨(D0.out.a.putR t D0.out.ht _).drew,(Kept.put (Kept.refl W _) _ _).trans (Kept.drew _ _) (fun _ _ h=>h)⟩
 clear qt ft
 go_wp2
 go_ret
 exact ⟨rfl,A1,K0.trans T1 (fun _ _ h=>h)⟩
theorem trap_43_13 (A:StAt w sb S) (ok:S.ok) (hs:s<32) (ht:t<32) (hd:d<32) (m0:0≤m) (m1:m<4294967296) (hk:k=43) (hdd:d=13):Calls Tryz.prog 194 #[.pointer (some ⟨sb,0,none⟩),.agg #[.int .i64 k,.int .i64 s,.int .i64 t,.int .i64 d,.int .u32 m]] w fun e w'=>e=.returned (.int .i64 (trapD S k t d).1)∧StAt w' sb (trapD S k t d).2∧Kept w w' (·=sb):=by
 subst hk
 subst hdd
 have D0:Hid (Dq (w.alloc (.cells #[.int .i64 43,.int .i64 s,.int .i64 t,.int .i64 13,.int .u32 m] 113)) w.heap.size sb S 43 s t 13 m):=Dq.start A ok 43 hs ht hd m0 m1
 have K0:Kept w (w.alloc (.cells #[.int .i64 43,.int .i64 s,.int .i64 t,.int .i64 13,.int .u32 m] 113)) (·=sb):=Kept.of_below _ ((Below.refl _ _).alloc (Nat.le_refl _) _)
 clear A
 go_enter Tryz.func194,Tryz.ntmps194
 go_upto_region 1 with fail
 generalize w.alloc (.cells #[.int .i64 43,.int .i64 s,.int .i64 t,.int .i64 13,.int .u32 m] 113)=W at *
 generalize w.heap.size=ib at *
 have i0:=D0.out.i0
 have i1:=D0.out.i1
 have i2:=D0.out.i2
 have i3:=D0.out.i3
 have i4:=D0.out.i4
 have qt:=D0.out.a.reg D0.out.ht
 have ft:=D0.out.a.fz t
 have ht':(t:Int)<32:=by have:=D0.out.ht;omega
 go_upto_region 18 with fail
 clear i0 i1 i2 i3 i4
 refine zP 10 [(0,0),(1,0),(2,1),(3,0),(4,0),(5,0),(6,1),(7,0),(8,0),(9,0),(10,2)] (fun W=>Dq W ib sb S 43 s t 13 m) (by kernel_rfl) (by kernel_rfl) (fun _ _ _ d _ h=>by cases d<;>first|exact h|exact Dq.drew h) D0.out.drew ?_
 repeat (first|(refine zF (by rfl) (by rfl) (fun W=>by (go_simp;try with_reducible rfl)) (fun K hK=>?_);go_simp;refine hK _ ?_;clear hK K)|(refine zQ (by rfl) (by rfl) (fun W hW=>by (have i2:=hW.i2;have q38:=hW.a.told.2.2.2.2.2.2.1;go_simp;try with_reducible rfl)) (fun K hK=>?_);go_simp;refine hK _ ?_;clear hK K))
 refine zSr (by rfl) (by rfl) (fun K hK=>?_)
 go_simp
 refine hK _ _ (fun h=>absurd h (by decide)) ?_
 clear hK K
 refine zN ?_
 refine ck (R:=fun W'=>StAt W' sb (S.putR t S.ca)∧Kept W W' (·=sb)) ?_ (fun w1 ⟨A1,T1⟩=>?_)
 ·exact ⟨(D0.out.a.putR t D0.out.ht _).drew,(Kept.put (Kept.refl W _) _ _).trans (Kept.drew _ _) (fun _ _ h=>h)⟩
 clear qt ft
 go_wp2
 go_ret
 exact ⟨rfl,A1,K0.trans T1 (fun _ _ h=>h)⟩
theorem trap_43_14 (A:StAt w sb S) (ok:S.ok) (hs:s<32) (ht:t<32) (hd:d<32) (m0:0≤m) (m1:m<4294967296) (hk:k=43) (hdd:d=14):Calls Tryz.prog 194 #[.pointer (some ⟨sb,0,none⟩),.agg #[.int .i64 k,.int .i64 s,.int .i64 t,.int .i64 d,.int .u32 m]] w fun e w'=>e=.returned (.int .i64 (trapD S k t d).1)∧StAt w' sb (trapD S k t d).2∧Kept w w' (·=sb):=by
 subst hk
 subst hdd
 have D0:Hid (Dq (w.alloc (.cells #[.int .i64 43,.int .i64 s,.int .i64 t,.int .i64 14,.int .u32 m] 113)) w.heap.size sb S 43 s t 14 m):=Dq.start A ok 43 hs ht hd m0 m1
 have K0:Kept w (w.alloc (.cells #[.int .i64 43,.int .i64 s,.int .i64 t,.int .i64 14,.int .u32 m] 113)) (·=sb):=Kept.of_below _ ((Below.refl _ _).alloc (Nat.le_refl _) _)
 clear A
 go_enter Tryz.func194,Tryz.ntmps194
 go_upto_region 1 with fail
 generalize w.alloc (.cells #[.int .i64 43,.int .i64 s,.int .i64 t,.int .i64 14,.int .u32 m] 113)=W at *
 generalize w.heap.size=ib at *
 have i0:=D0.out.i0
 have i1:=D0.out.i1
 have i2:=D0.out.i2
 have i3:=D0.out.i3
 have i4:=D0.out.i4
 have qt:=D0.out.a.reg D0.out.ht
 have ft:=D0.out.a.fz t
 have ht':(t:Int)<32:=by have:=D0.out.ht;omega
 go_upto_region 20 with fail
 clear i0 i1 i2 i3 i4
 refine zP 10 [(0,0),(1,0),(2,1),(3,0),(4,0),(5,0),(6,1),(7,0),(8,0),(9,0),(10,2)] (fun W=>Dq W ib sb S 43 s t 14 m) (by kernel_rfl) (by kernel_rfl) (fun _ _ _ d _ h=>by cases d<;>first|exact h|exact Dq.drew h) D0.out.drew ?_
 repeat (first|(refine zF (by rfl) (by rfl) (fun W=>by (go_simp;try with_reducible rfl)) (fun K hK=>?_);go_simp;refine hK _ ?_;clear hK K)|(refine zQ (by rfl) (by rfl) (fun W hW=>by (have i2:=hW.i2;have q39:=hW.a.told.2.2.2.2.2.2.2.1;go_simp;try with_reducible rfl)) (fun K hK=>?_);go_simp;refine hK _ ?_;clear hK K))
 refine zSr (by rfl) (by rfl) (fun K hK=>?_)
 go_simp
 refine hK _ _ (fun h=>absurd h (by decide)) ?_
 clear hK K
 refine zN ?_
 refine ck (R:=fun W'=>StAt W' sb (S.putR t S.ep)∧Kept W W' (·=sb)) ?_ (fun w1 ⟨A1,T1⟩=>?_)
 ·exact ⟨(D0.out.a.putR t D0.out.ht _).drew,(Kept.put (Kept.refl W _) _ _).trans (Kept.drew _ _) (fun _ _ h=>h)⟩
 clear qt ft
 go_wp2
 go_ret
 exact ⟨rfl,A1,K0.trans T1 (fun _ _ h=>h)⟩
theorem trap_43_no (A:StAt w sb S) (ok:S.ok) (hs:s<32) (ht:t<32) (hd:d<32) (m0:0≤m) (m1:m<4294967296) (hk:k=43) (h8:d≠8) (h9:d≠9) (h11:d≠11) (h12:d≠12) (h13:d≠13) (h14:d≠14):Calls Tryz.prog 194 #[.pointer (some ⟨sb,0,none⟩),.agg #[.int .i64 k,.int .i64 s,.int .i64 t,.int .i64 d,.int .u32 m]] w fun e w'=>e=.returned (.int .i64 (trapD S k t d).1)∧StAt w' sb (trapD S k t d).2∧Kept w w' (·=sb):=by
 subst hk
 have X:trapD S 43 t d=(10,S):=by unfold trapD fromD;simp[h8,h9,h11,h12,h13,h14]
 rw[X]
 have b8:=nk h8
 have b9:=nk h9
 have b11:=nk h11
 have b12:=nk h12
 have b13:=nk h13
 have b14:=nk h14
 clear h8 h9 h11 h12 h13 h14 X
 have D0:Hid (Dq (w.alloc (.cells #[.int .i64 43,.int .i64 s,.int .i64 t,.int .i64 d,.int .u32 m] 113)) w.heap.size sb S 43 s t d m):=Dq.start A ok 43 hs ht hd m0 m1
 have K0:Kept w (w.alloc (.cells #[.int .i64 43,.int .i64 s,.int .i64 t,.int .i64 d,.int .u32 m] 113)) (·=sb):=Kept.of_below _ ((Below.refl _ _).alloc (Nat.le_refl _) _)
 clear A
 go_enter Tryz.func194,Tryz.ntmps194
 go_upto_region 1 with fail
 generalize w.alloc (.cells #[.int .i64 43,.int .i64 s,.int .i64 t,.int .i64 d,.int .u32 m] 113)=W at *
 generalize w.heap.size=ib at *
 have i0:=D0.out.i0
 have i1:=D0.out.i1
 have i2:=D0.out.i2
 have i3:=D0.out.i3
 have i4:=D0.out.i4
 have A1:=D0.out.a
 go_wp2
 go_ret
 exact ⟨rfl,A1,K0⟩
theorem trap_44_11 (A:StAt w sb S) (ok:S.ok) (hs:s<32) (ht:t<32) (hd:d<32) (m0:0≤m) (m1:m<4294967296) (hk:k=44) (hdd:d=11):Calls Tryz.prog 194 #[.pointer (some ⟨sb,0,none⟩),.agg #[.int .i64 k,.int .i64 s,.int .i64 t,.int .i64 d,.int .u32 m]] w fun e w'=>e=.returned (.int .i64 (trapD S k t d).1)∧StAt w' sb (trapD S k t d).2∧Kept w w' (·=sb):=by
 subst hk
 subst hdd
 have D0:Hid (Dq (w.alloc (.cells #[.int .i64 44,.int .i64 s,.int .i64 t,.int .i64 11,.int .u32 m] 113)) w.heap.size sb S 44 s t 11 m):=Dq.start A ok 44 hs ht hd m0 m1
 have K0:Kept w (w.alloc (.cells #[.int .i64 44,.int .i64 s,.int .i64 t,.int .i64 11,.int .u32 m] 113)) (·=sb):=Kept.of_below _ ((Below.refl _ _).alloc (Nat.le_refl _) _)
 clear A
 go_enter Tryz.func194,Tryz.ntmps194
 go_upto_region 1 with fail
 generalize w.alloc (.cells #[.int .i64 44,.int .i64 s,.int .i64 t,.int .i64 11,.int .u32 m] 113)=W at *
 generalize w.heap.size=ib at *
 have i0:=D0.out.i0
 have i1:=D0.out.i1
 have i2:=D0.out.i2
 have i3:=D0.out.i3
 have i4:=D0.out.i4
 have qt:=D0.out.a.reg D0.out.ht
 have ft:=D0.out.a.fz t
 have ht':(t:Int)<32:=by have:=D0.out.ht;omega
 go_upto_region 23 with fail
 clear i0 i1 i2 i3 i4
 refine zP 8 [(0,0),(1,0),(2,1),(3,0),(4,0),(5,0),(6,1),(7,0)] (fun W=>Dq W ib sb S 44 s t 11 m) (by kernel_rfl) (by kernel_rfl) (fun _ _ _ d _ h=>by cases d<;>first|exact h|exact Dq.drew h) D0.out.drew ?_
 repeat (first|(refine zF (by rfl) (by rfl) (fun W=>by (go_simp;try with_reducible rfl)) (fun K hK=>?_);go_simp;refine hK _ ?_;clear hK K)|(refine zQ (by rfl) (by rfl) (fun W hW=>by (have i2:=hW.i2;have qt:=hW.a.reg hW.ht;go_simp;try with_reducible rfl)) (fun K hK=>?_);go_simp;refine hK _ ?_;clear hK K))
 refine zN ?_
 have D1:Hid (Dq W.drew ib sb S 44 s t 11 m):=D0.out.drew
 have K1:Kept w W.drew (·=sb):=K0.trans (Kept.drew _ _) (fun _ _ h=>h)
 clear qt ft
 generalize W.drew=W1 at *
 have i0:=D1.out.i0
 have i1:=D1.out.i1
 have i2:=D1.out.i2
 have i3:=D1.out.i3
 have i4:=D1.out.i4
 obtain ⟨-,-,-,-,-,-,-,-,-,q41,-⟩:=D1.out.a.told
 have f41:=D1.out.a.fz 41
 have A1:=D1.out.a.putCm (S.r t)
 go_wp2
 go_ret
 exact ⟨rfl,A1,K1.put _ _⟩
theorem trap_44_12 (A:StAt w sb S) (ok:S.ok) (hs:s<32) (ht:t<32) (hd:d<32) (m0:0≤m) (m1:m<4294967296) (hk:k=44) (hdd:d=12):Calls Tryz.prog 194 #[.pointer (some ⟨sb,0,none⟩),.agg #[.int .i64 k,.int .i64 s,.int .i64 t,.int .i64 d,.int .u32 m]] w fun e w'=>e=.returned (.int .i64 (trapD S k t d).1)∧StAt w' sb (trapD S k t d).2∧Kept w w' (·=sb):=by
 subst hk
 subst hdd
 have X:trapD S 44 t 12=(-1,{ S with st:=S.r t%4 }):=rfl
 rw[X]
 clear X
 have hp:=fun W=>part_any (S.r t) 0 2 (ok.r t).1 (ok.r t).2 (by omega) (by omega) (by omega) (by omega) W
 simp only[pw0,pw2,Int.ediv_one]at hp
 have z0:0≤S.r t%4:=by omega
 have z1:S.r t%4<4:=by omega
 generalize S.r t%4=y at *
 have D0:Hid (Dq (w.alloc (.cells #[.int .i64 44,.int .i64 s,.int .i64 t,.int .i64 12,.int .u32 m] 113)) w.heap.size sb S 44 s t 12 m):=Dq.start A ok 44 hs ht hd m0 m1
 have K0:Kept w (w.alloc (.cells #[.int .i64 44,.int .i64 s,.int .i64 t,.int .i64 12,.int .u32 m] 113)) (·=sb):=Kept.of_below _ ((Below.refl _ _).alloc (Nat.le_refl _) _)
 clear A
 go_enter Tryz.func194,Tryz.ntmps194
 go_upto_region 1 with fail
 generalize w.alloc (.cells #[.int .i64 44,.int .i64 s,.int .i64 t,.int .i64 12,.int .u32 m] 113)=W at *
 generalize w.heap.size=ib at *
 have i0:=D0.out.i0
 have i1:=D0.out.i1
 have i2:=D0.out.i2
 have i3:=D0.out.i3
 have i4:=D0.out.i4
 have qt:=D0.out.a.reg D0.out.ht
 have ft:=D0.out.a.fz t
 have ht':(t:Int)<32:=by have:=D0.out.ht;omega
 go_upto_region 23 with fail
 clear i0 i1 i2 i3 i4
 refine zP 8 [(0,0),(1,0),(2,1),(3,0),(4,0),(5,0),(6,1),(7,0)] (fun W=>Dq W ib sb S 44 s t 12 m) (by kernel_rfl) (by kernel_rfl) (fun _ _ _ d _ h=>by cases d<;>first|exact h|exact Dq.drew h) D0.out.drew ?_
 repeat (first|(refine zF (by rfl) (by rfl) (fun W=>by (go_simp;try with_reducible rfl)) (fun K hK=>?_);go_simp;refine hK _ ?_;clear hK K)|(refine zQ (by rfl) (by rfl) (fun W hW=>by (have i2:=hW.i2;have qt:=hW.a.reg hW.ht;go_simp;try with_reducible rfl)) (fun K hK=>?_);go_simp;refine hK _ ?_;clear hK K))
 refine zN ?_
 have D1:Hid (Dq W.drew ib sb S 44 s t 12 m):=D0.out.drew
 have K1:Kept w W.drew (·=sb):=K0.trans (Kept.drew _ _) (fun _ _ h=>h)
 clear qt ft
 generalize W.drew=W1 at *
 have i0:=D1.out.i0
 have i1:=D1.out.i1
 have i2:=D1.out.i2
 have i3:=D1.out.i3
 have i4:=D1.out.i4
 obtain ⟨-,-,-,-,-,q37,-,-,-,-,-⟩:=D1.out.a.told
 have f37:=D1.out.a.fz 37
 have A1:=D1.out.a.putSt y
 go_wp2_with (go_at_call 46;refine (hp _).mono ?_;rintro e w2 ⟨rfl,rfl⟩)
 go_ret
 exact ⟨rfl,A1,K1.put _ _⟩
theorem trap_44_14 (A:StAt w sb S) (ok:S.ok) (hs:s<32) (ht:t<32) (hd:d<32) (m0:0≤m) (m1:m<4294967296) (hk:k=44) (hdd:d=14):Calls Tryz.prog 194 #[.pointer (some ⟨sb,0,none⟩),.agg #[.int .i64 k,.int .i64 s,.int .i64 t,.int .i64 d,.int .u32 m]] w fun e w'=>e=.returned (.int .i64 (trapD S k t d).1)∧StAt w' sb (trapD S k t d).2∧Kept w w' (·=sb):=by
 subst hk
 subst hdd
 have D0:Hid (Dq (w.alloc (.cells #[.int .i64 44,.int .i64 s,.int .i64 t,.int .i64 14,.int .u32 m] 113)) w.heap.size sb S 44 s t 14 m):=Dq.start A ok 44 hs ht hd m0 m1
 have K0:Kept w (w.alloc (.cells #[.int .i64 44,.int .i64 s,.int .i64 t,.int .i64 14,.int .u32 m] 113)) (·=sb):=Kept.of_below _ ((Below.refl _ _).alloc (Nat.le_refl _) _)
 clear A
 go_enter Tryz.func194,Tryz.ntmps194
 go_upto_region 1 with fail
 generalize w.alloc (.cells #[.int .i64 44,.int .i64 s,.int .i64 t,.int .i64 14,.int .u32 m] 113)=W at *
 generalize w.heap.size=ib at *
 have i0:=D0.out.i0
 have i1:=D0.out.i1
 have i2:=D0.out.i2
 have i3:=D0.out.i3
 have i4:=D0.out.i4
 have qt:=D0.out.a.reg D0.out.ht
 have ft:=D0.out.a.fz t
 have ht':(t:Int)<32:=by have:=D0.out.ht;omega
 go_upto_region 23 with fail
 clear i0 i1 i2 i3 i4
 refine zP 8 [(0,0),(1,0),(2,1),(3,0),(4,0),(5,0),(6,1),(7,0)] (fun W=>Dq W ib sb S 44 s t 14 m) (by kernel_rfl) (by kernel_rfl) (fun _ _ _ d _ h=>by cases d<;>first|exact h|exact Dq.drew h) D0.out.drew ?_
 repeat (first|(refine zF (by rfl) (by rfl) (fun W=>by (go_simp;try with_reducible rfl)) (fun K hK=>?_);go_simp;refine hK _ ?_;clear hK K)|(refine zQ (by rfl) (by rfl) (fun W hW=>by (have i2:=hW.i2;have qt:=hW.a.reg hW.ht;go_simp;try with_reducible rfl)) (fun K hK=>?_);go_simp;refine hK _ ?_;clear hK K))
 refine zN ?_
 have D1:Hid (Dq W.drew ib sb S 44 s t 14 m):=D0.out.drew
 have K1:Kept w W.drew (·=sb):=K0.trans (Kept.drew _ _) (fun _ _ h=>h)
 clear qt ft
 generalize W.drew=W1 at *
 have i0:=D1.out.i0
 have i1:=D1.out.i1
 have i2:=D1.out.i2
 have i3:=D1.out.i3
 have i4:=D1.out.i4
 obtain ⟨-,-,-,-,-,-,-,q39,-,-,-⟩:=D1.out.a.told
 have f39:=D1.out.a.fz 39
 have A1:=D1.out.a.putEp (S.r t)
 go_wp2
 go_ret
 exact ⟨rfl,A1,K1.put _ _⟩
theorem trap_44_no (A:StAt w sb S) (ok:S.ok) (hs:s<32) (ht:t<32) (hd:d<32) (m0:0≤m) (m1:m<4294967296) (hk:k=44) (h11:d≠11) (h12:d≠12) (h14:d≠14):Calls Tryz.prog 194 #[.pointer (some ⟨sb,0,none⟩),.agg #[.int .i64 k,.int .i64 s,.int .i64 t,.int .i64 d,.int .u32 m]] w fun e w'=>e=.returned (.int .i64 (trapD S k t d).1)∧StAt w' sb (trapD S k t d).2∧Kept w w' (·=sb):=by
 subst hk
 have X:trapD S 44 t d=(10,S):=by unfold trapD toD;simp[h11,h12,h14]
 rw[X]
 have b11:=nk h11
 have b12:=nk h12
 have b14:=nk h14
 clear h11 h12 h14 X
 have D0:Hid (Dq (w.alloc (.cells #[.int .i64 44,.int .i64 s,.int .i64 t,.int .i64 d,.int .u32 m] 113)) w.heap.size sb S 44 s t d m):=Dq.start A ok 44 hs ht hd m0 m1
 have K0:Kept w (w.alloc (.cells #[.int .i64 44,.int .i64 s,.int .i64 t,.int .i64 d,.int .u32 m] 113)) (·=sb):=Kept.of_below _ ((Below.refl _ _).alloc (Nat.le_refl _) _)
 clear A
 go_enter Tryz.func194,Tryz.ntmps194
 go_upto_region 1 with fail
 generalize w.alloc (.cells #[.int .i64 44,.int .i64 s,.int .i64 t,.int .i64 d,.int .u32 m] 113)=W at *
 generalize w.heap.size=ib at *
 have i0:=D0.out.i0
 have i1:=D0.out.i1
 have i2:=D0.out.i2
 have i3:=D0.out.i3
 have i4:=D0.out.i4
 have qt:=D0.out.a.reg D0.out.ht
 have ft:=D0.out.a.fz t
 have ht':(t:Int)<32:=by have:=D0.out.ht;omega
 go_upto_region 23 with fail
 clear i0 i1 i2 i3 i4
 refine zP 8 [(0,0),(1,0),(2,1),(3,0),(4,0),(5,0),(6,1),(7,0)] (fun W=>Dq W ib sb S 44 s t d m) (by kernel_rfl) (by kernel_rfl) (fun _ _ _ d _ h=>by cases d<;>first|exact h|exact Dq.drew h) D0.out.drew ?_
 repeat (first|(refine zF (by rfl) (by rfl) (fun W=>by (go_simp;try with_reducible rfl)) (fun K hK=>?_);go_simp;refine hK _ ?_;clear hK K)|(refine zQ (by rfl) (by rfl) (fun W hW=>by (have i2:=hW.i2;have qt:=hW.a.reg hW.ht;go_simp;try with_reducible rfl)) (fun K hK=>?_);go_simp;refine hK _ ?_;clear hK K))
 refine zN ?_
 have D1:Hid (Dq W.drew ib sb S 44 s t d m):=D0.out.drew
 have K1:Kept w W.drew (·=sb):=K0.trans (Kept.drew _ _) (fun _ _ h=>h)
 clear qt ft
 generalize W.drew=W1 at *
 have i0:=D1.out.i0
 have i1:=D1.out.i1
 have i2:=D1.out.i2
 have i3:=D1.out.i3
 have i4:=D1.out.i4
 have A1:=D1.out.a
 go_wp2
 go_ret
 exact ⟨rfl,A1,K1⟩
theorem trap_no (A:StAt w sb S) (ok:S.ok) (hs:s<32) (ht:t<32) (hd:d<32) (m0:0≤m) (m1:m<4294967296) (h9:k≠9) (h10:k≠10) (h43:k≠43) (h44:k≠44):Calls Tryz.prog 194 #[.pointer (some ⟨sb,0,none⟩),.agg #[.int .i64 k,.int .i64 s,.int .i64 t,.int .i64 d,.int .u32 m]] w fun e w'=>e=.returned (.int .i64 (trapD S k t d).1)∧StAt w' sb (trapD S k t d).2∧Kept w w' (·=sb):=by
 have X:trapD S k t d=(10,S):=by unfold trapD;simp[h9,h10,h43,h44]
 rw[X]
 have b9:=nk h9
 have b10:=nk h10
 have b43:=nk h43
 have b44:=nk h44
 clear h9 h10 h43 h44 X
 have D0:Hid (Dq (w.alloc (.cells #[.int .i64 k,.int .i64 s,.int .i64 t,.int .i64 d,.int .u32 m] 113)) w.heap.size sb S k s t d m):=Dq.start A ok k hs ht hd m0 m1
 have K0:Kept w (w.alloc (.cells #[.int .i64 k,.int .i64 s,.int .i64 t,.int .i64 d,.int .u32 m] 113)) (·=sb):=Kept.of_below _ ((Below.refl _ _).alloc (Nat.le_refl _) _)
 clear A
 go_enter Tryz.func194,Tryz.ntmps194
 go_upto_region 1 with fail
 generalize w.alloc (.cells #[.int .i64 k,.int .i64 s,.int .i64 t,.int .i64 d,.int .u32 m] 113)=W at *
 generalize w.heap.size=ib at *
 have i0:=D0.out.i0
 have i1:=D0.out.i1
 have i2:=D0.out.i2
 have i3:=D0.out.i3
 have i4:=D0.out.i4
 have A1:=D0.out.a
 go_wp2
 go_ret
 exact ⟨rfl,A1,K0⟩
theorem trapD_any (A:StAt w sb S) (ok:S.ok) (hs:s<32) (ht:t<32) (hd:d<32) (m0:0≤m) (m1:m<4294967296):Calls Tryz.prog 194 #[.pointer (some ⟨sb,0,none⟩),.agg #[.int .i64 k,.int .i64 s,.int .i64 t,.int .i64 d,.int .u32 m]] w fun e w'=>e=.returned (.int .i64 (trapD S k t d).1)∧StAt w' sb (trapD S k t d).2∧Kept w w' (·=sb):=by
 by_cases h9:k=9
 ·exact trap_9 A ok hs ht hd m0 m1 h9
 by_cases h10:k=10
 ·exact trap_10 A ok hs ht hd m0 m1 h10
 by_cases h43:k=43
 ·by_cases d8:d=8
  ·exact trap_43_8 A ok hs ht hd m0 m1 h43 d8
  by_cases d9:d=9
  ·exact trap_43_9 A ok hs ht hd m0 m1 h43 d9
  by_cases d11:d=11
  ·exact trap_43_11 A ok hs ht hd m0 m1 h43 d11
  by_cases d12:d=12
  ·exact trap_43_12 A ok hs ht hd m0 m1 h43 d12
  by_cases d13:d=13
  ·exact trap_43_13 A ok hs ht hd m0 m1 h43 d13
  by_cases d14:d=14
  ·exact trap_43_14 A ok hs ht hd m0 m1 h43 d14
  exact trap_43_no A ok hs ht hd m0 m1 h43 d8 d9 d11 d12 d13 d14
 by_cases h44:k=44
 ·by_cases d11:d=11
  ·exact trap_44_11 A ok hs ht hd m0 m1 h44 d11
  by_cases d12:d=12
  ·exact trap_44_12 A ok hs ht hd m0 m1 h44 d12
  by_cases d14:d=14
  ·exact trap_44_14 A ok hs ht hd m0 m1 h44 d14
  exact trap_44_no A ok hs ht hd m0 m1 h44 d11 d12 d14
 exact trap_no A ok hs ht hd m0 m1 h9 h10 h43 h44
end
section
variable {w : World} {sb : Nat} {S : St} {k s t d : Nat} {m : Int}
end
def sumD (S:St) (k s t d:Nat) (m:Int):Int × St :=
 if k=15∨k=16 then (-1,{ S with hi:=hi (nm (opA S k s t) (decide (k=15))*nm (opB S k s t m) (decide (k=15))),lo:=lo (nm (opA S k s t) (decide (k=15))*nm (opB S k s t m) (decide (k=15))) })
 else if k=17∨k=18 then (-1,if opB S k s t m=0 then S else { S with lo:=quo (opA S k s t) (opB S k s t m) (decide (k=17)),hi:=rst (opA S k s t) (opB S k s t m) (decide (k=17)) })
 else if k=12 then (-1,{ S with hi:=opA S k s t }) else if k=14 then (-1,{ S with lo:=opA S k s t })
 else if overI k (opA S k s t) (opB S k s t m)=true then (12,S) else (-1,S.putR (opT k t d) (resI S k (opA S k s t) (opB S k s t m)))
theorem wdS {m:Int} (h0:0≤m) (h1:m<32):wd m 16 true=m:=by
 obtain ⟨n,rfl⟩:∃ n:Nat,m=n:=⟨m.toNat,by omega⟩
 have h:∀ n:Nat,n<32→wd (n:Int) 16 true=n:=by decide
 exact h n (by omega)
section
variable {w : World} {sb : Nat} {S : St} {k s t d : Nat} {m : Int}
end
section
variable {w : World} {sb : Nat} {S : St} {k s t d : Nat} {m : Int}
end
def branchD (S:St) (k s t d:Nat) (m:Int):Int × Int × St :=
 if S.sl=true then (-1,10,S) else (if takenI S k s t=true then targI S k s m else -1,-1,if k=30 then S.putR 31 (lo (S.pc+8)) else if k=8 then S.putR d (lo (S.pc+8)) else S)
theorem lo_sg4 {x:Int} (h0:0≤x) (h1:x<4294967296):lo (4*sg x)=lo (4*x):=by
 unfold sg Num.lo;split<;>omega
theorem far_eq {p m:Int} (p0:0≤p) (p1:p<4294967296) (m0:0≤m) (m1:m<67108864):bits .or .u32 (bits .and .u32 p 4026531840) (lo (4*m))=p/268435456*268435456+4*m:=by
 have e1:lo (4*m)=4*m:=by unfold Num.lo;omega
 rw[e1,u32_and p _ p0 p1 (by omega) (by omega),show (4026531840:Int).toNat=4294967295-268435455 from rfl,and_low p.toNat 268435455 28 (by omega) (by omega) (by omega)]
 rw[show (2:Nat)^28-1-268435455=0 from rfl,Nat.and_zero,Nat.add_zero]
 rw[u32_or _ _ (by omega) (by omega) (by omega) (by omega)]
 obtain ⟨q,hq⟩:∃ q:Nat,p.toNat/2^28=q:=⟨_,rfl⟩
 obtain ⟨n,rfl⟩:∃ n:Nat,m=n:=⟨m.toNat,by omega⟩
 rw[hq,show (((2^28*q:Nat):Int)).toNat=2^28*q by omega,show (4*(n:Int)).toNat=4*n by omega,or_low (2^28*q) (4*n) 28 (by omega),Nat.mul_div_cancel_left _ (by omega),Nat.mul_mod_right,Nat.zero_or]
 omega
section
variable {w : World} {sb : Nat} {S : St} {k s t d : Nat} {m : Int}
end
end Go.Proofs.YtflagpkmebdckaaGreatDoor
namespace Go.Proofs.YtflagpkmebdckaaGreatDoor
open Num
set_option linter.unusedVariables false
def St.fix (S:St):St:={ S.putR 0 0 with pc:=S.nx,nx:=Num.lo (S.nx+4),sl:=false }
def St.fixB (S:St) (to:Int):St:={ S.putR 0 0 with pc:=S.nx,nx:=(if (0:Int)≤to then to else Num.lo (S.nx+4)),sl:=true }
theorem St.r_eq {S:St} {r':Nat→Int} (h:∀ i,r' i=S.r i):({ S with r:=r' }:St)=S:=by
 have e:r'=S.r:=funext h
 rw[e]
theorem putR_0 {S:St} (h:S.r 0=0):S.putR 0 0=S:=by
 unfold St.putR
 refine St.r_eq fun i=>?_
 split
 ·rename_i e;rw[e,h]
 ·rfl
theorem putR_set {S:St} (h:S.r 0=0) (n:Nat) (v:Int):(S.putR n v).putR 0 0=S.set n v:=by
 unfold St.set
 split
 ·refine St.r_eq (S:=S) fun i=>?_
  show (if i=0 then 0 else if i=n then v else S.r i)=S.r i
  by_cases e:i=0
  ·rw[if_pos e,e,h]
  ·rw[if_neg e,if_neg (by omega)]
 ·have e:(fun i=>if i=0 then (0:Int) else if i=n then v else S.r i)=fun i=>if i=n then v else S.r i:=by
   funext i
   by_cases e:i=0
   ·rw[if_pos e,if_neg (by omega),e,h]
   ·rw[if_neg e]
  show ({ S with r:=fun i=>if i=0 then (0:Int) else if i=n then v else S.r i }:St)=_
  rw[e]
theorem set_nx (S:St) (n:Nat) (v:Int):(S.set n v).nx=S.nx:=by unfold St.set;split<;>rfl
theorem fix_set {S:St} (h:S.r 0=0) (n:Nat) (v:Int):(S.putR n v).fix=(S.set n v).on:=by
 unfold St.fix St.on
 rw[putR_set h,set_nx]
 rfl
theorem fix_on {S:St} (h:S.r 0=0):S.fix=S.on:=by
 unfold St.fix St.on
 rw[putR_0 h]
theorem sumD_nx (S:St) (k s t d:Nat) (m:Int):(sumD S k s t d m).2.nx=S.nx:=by
 unfold sumD
 (repeat' split)<;>first|rfl|(dsimp only;split<;>rfl)
theorem sumD_eq {S:St} (h:S.r 0=0) (k s t d:Nat) (m:Int):(sumD S k s t d m).1=(sumP S k s t d m).1∧((sumP S k s t d m).1=-1→(sumD S k s t d m).2.fix=(sumP S k s t d m).2)∧((sumP S k s t d m).1≠-1→(sumD S k s t d m).2=(sumP S k s t d m).2):=by
 unfold sumD sumP
 by_cases h1:k=15∨k=16
 ·rw[if_pos h1,if_pos h1];exact ⟨rfl,fun _=>fix_on h,fun e=>absurd rfl e⟩
 rw[if_neg h1,if_neg h1]
 by_cases h2:k=17∨k=18
 ·rw[if_pos h2,if_pos h2]
  refine ⟨rfl,fun _=>?_,fun e=>absurd rfl e⟩
  dsimp only
  by_cases hz:opB S k s t m=0
  ·rw[if_pos hz,if_pos hz];exact fix_on h
  ·rw[if_neg hz,if_neg hz];exact fix_on h
 rw[if_neg h2,if_neg h2]
 by_cases h3:k=12
 ·rw[if_pos h3,if_pos h3];exact ⟨rfl,fun _=>fix_on h,fun e=>absurd rfl e⟩
 rw[if_neg h3,if_neg h3]
 by_cases h4:k=14
 ·rw[if_pos h4,if_pos h4];exact ⟨rfl,fun _=>fix_on h,fun e=>absurd rfl e⟩
 rw[if_neg h4,if_neg h4]
 by_cases h5:overI k (opA S k s t) (opB S k s t m)=true
 ·rw[if_pos h5,if_pos h5];exact ⟨rfl,fun e=>absurd e (by simp),fun _=>rfl⟩
 ·rw[if_neg h5,if_neg h5];exact ⟨rfl,fun _=>fix_set h _ _,fun e=>absurd rfl e⟩
theorem trapD_nx (S:St) (k t d:Nat):(trapD S k t d).2.nx=S.nx:=by
 unfold trapD fromD toD
 (repeat' split)<;>rfl
theorem trapD_eq {S:St} (ok:S.ok) (h:S.r 0=0) (k t d:Nat) (hk:k≠45):(trapD S k t d).1=(trapP S k t d).1∧((trapP S k t d).1=-1→(trapD S k t d).2.fix=(trapP S k t d).2)∧((trapP S k t d).1≠-1→(trapD S k t d).2=(trapP S k t d).2):=by
 unfold trapD trapP
 by_cases h1:k=9
 ·rw[if_pos h1,if_pos h1];exact ⟨rfl,fun e=>absurd e (by simp),fun _=>rfl⟩
 rw[if_neg h1,if_neg h1]
 by_cases h2:k=10
 ·rw[if_pos h2,if_pos h2];exact ⟨rfl,fun e=>absurd e (by simp),fun _=>rfl⟩
 rw[if_neg h2,if_neg h2]
 by_cases h3:k=43
 ·rw[if_pos h3,if_pos h3]
  unfold fromD fromP
  by_cases d8:d=8
  ·rw[if_pos d8,if_pos d8];exact ⟨rfl,fun _=>fix_set h _ _,fun e=>absurd rfl e⟩
  rw[if_neg d8,if_neg d8]
  by_cases d9:d=9
  ·rw[if_pos d9,if_pos d9];exact ⟨rfl,fun _=>fix_set h _ _,fun e=>absurd rfl e⟩
  rw[if_neg d9,if_neg d9]
  by_cases d11:d=11
  ·rw[if_pos d11,if_pos d11];exact ⟨rfl,fun _=>fix_set h _ _,fun e=>absurd rfl e⟩
  rw[if_neg d11,if_neg d11]
  by_cases d12:d=12
  ·rw[if_pos d12,if_pos d12];exact ⟨rfl,fun _=>fix_set h _ _,fun e=>absurd rfl e⟩
  rw[if_neg d12,if_neg d12]
  by_cases d13:d=13
  ·rw[if_pos d13,if_pos d13];exact ⟨rfl,fun _=>fix_set h _ _,fun e=>absurd rfl e⟩
  rw[if_neg d13,if_neg d13]
  by_cases d14:d=14
  ·rw[if_pos d14,if_pos d14];exact ⟨rfl,fun _=>fix_set h _ _,fun e=>absurd rfl e⟩
  rw[if_neg d14,if_neg d14]
  exact ⟨rfl,fun e=>absurd e (by simp),fun _=>rfl⟩
 rw[if_neg h3,if_neg h3]
 by_cases h4:k=44
 ·rw[if_pos h4,if_pos h4]
  unfold toD toP
  by_cases d11:d=11
  ·rw[if_pos d11,if_pos d11];exact ⟨rfl,fun _=>fix_on h,fun e=>absurd rfl e⟩
  rw[if_neg d11,if_neg d11]
  by_cases d12:d=12
  ·rw[if_pos d12,if_pos d12,and3_eq (ok.r t).1 (ok.r t).2];exact ⟨rfl,fun _=>fix_on h,fun e=>absurd rfl e⟩
  rw[if_neg d12,if_neg d12]
  by_cases d14:d=14
  ·rw[if_pos d14,if_pos d14];exact ⟨rfl,fun _=>fix_on h,fun e=>absurd rfl e⟩
  rw[if_neg d14,if_neg d14]
  exact ⟨rfl,fun e=>absurd e (by simp),fun _=>rfl⟩
 rw[if_neg h4,if_neg h4,if_neg hk]
 exact ⟨rfl,fun e=>absurd e (by simp),fun _=>rfl⟩
theorem branchD_nx (S:St) (k s t d:Nat) (m:Int):(branchD S k s t d m).2.2.nx=S.nx:=by
 unfold branchD
 split
 ·rfl
 ·dsimp only
  (repeat' split)<;>rfl
theorem branchD_eq {S:St} (ok:S.ok) (h:S.r 0=0) (k s t d:Nat) (m:Int) (hsl:S.sl=false):(branchD S k s t d m).2.2.fixB (branchD S k s t d m).1=(branchP S k s t d m).2∧(branchP S k s t d m).1=-1∧(branchD S k s t d m).2.1=-1∧((branchD S k s t d m).1=-1∨u32 (branchD S k s t d m).1):=by
 have hn:¬ S.sl=true:=by rw[hsl];decide
 unfold branchD branchP
 rw[if_neg hn,if_neg hn]
 have ht:=targI_bd ok k s m
 have e:(if 0≤(if takenI S k s t=true then targI S k s m else -1) then (if takenI S k s t=true then targI S k s m else -1) else lo (S.nx+4))=if takenI S k s t=true then targI S k s m else lo (S.nx+4):=by
  by_cases hc:takenI S k s t=true
  ·simp only[if_pos hc];rw[if_pos ht.1]
  ·simp only[if_neg hc];rw[if_neg (by omega)]
 refine ⟨?_,rfl,rfl,?_⟩
 ·dsimp only
  unfold St.fixB
  by_cases k30:k=30
  ·simp only[if_pos k30]
   rw[putR_set h]
   show ({ S.set 31 (lo (S.pc+8)) with pc:=S.nx,nx:=_,sl:=true }:St)=_
   rw[show (S.putR 31 (lo (S.pc+8))).nx=S.nx from rfl,e]
  ·by_cases k8:k=8
   ·simp only[if_neg k30,if_pos k8]
    rw[putR_set h]
    show ({ S.set d (lo (S.pc+8)) with pc:=S.nx,nx:=_,sl:=true }:St)=_
    rw[show (S.putR d (lo (S.pc+8))).nx=S.nx from rfl,e]
   ·simp only[if_neg k30,if_neg k8]
    rw[putR_0 h,e]
 ·dsimp only
  split
  ·exact Or.inr ht
  ·exact Or.inl rfl
end Go.Proofs.YtflagpkmebdckaaGreatDoor
namespace Go.Proofs.YtflagpkmebdckaaGreatDoor.Low
open Go.RowKit Go.Maps
open Num
set_option linter.unusedVariables false
set_option maxHeartbeats 8000000
theorem bdN {B:Nat} {a w:World} (h:Below B a w) (n:Nat):Below B a (w.drewN n):=h.trans ⟨rfl,rfl,rfl,Nat.le_refl _,fun _ _=>rfl⟩
theorem nkL {k n:Nat} (h:k≠n):((k:Int)==(n:Int))=false:=by simp;omega
section
variable {w : World}
theorem immC_any (k:Nat) (s t d m:Int) (m0:0≤m) (m1:m<4294967296):Calls Tryz.prog 110 #[.agg #[.int .i64 k,.int .i64 s,.int .i64 t,.int .i64 d,.int .u32 m]] w fun e w'=>e=.returned (.int .u32 (immI k m))∧Below w.heap.size w w':=by
  by_cases h39:k=39
  · subst h39;go_enter Tryz.func110,Tryz.ntmps110;go_wp2;go_ret;exact ⟨rfl,(Below.refl _ _).alloc (Nat.le_refl _) _⟩
  by_cases h40:k=40
  · subst h40;go_enter Tryz.func110,Tryz.ntmps110;go_wp2;go_ret;exact ⟨rfl,(Below.refl _ _).alloc (Nat.le_refl _) _⟩
  by_cases h41:k=41
  · subst h41;go_enter Tryz.func110,Tryz.ntmps110;go_wp2;go_ret;exact ⟨rfl,(Below.refl _ _).alloc (Nat.le_refl _) _⟩
  by_cases h42:k=42
  · subst h42;go_enter Tryz.func110,Tryz.ntmps110;go_wp2;go_ret;exact ⟨rfl,(Below.refl _ _).alloc (Nat.le_refl _) _⟩
  have e:immI k m=wd m 16 true:=by unfold immI;rw[if_neg (by omega)]
  rw[e]
  have b39:=nkL h39
  have b40:=nkL h40
  have b41:=nkL h41
  have b42:=nkL h42
  clear e h39 h40 h41 h42
  go_enter Tryz.func110,Tryz.ntmps110
  go_wp2_with (go_at_call 42;refine (wide_any _ _ _ m0 m1 _).mono ?_;rintro e w' ⟨rfl,rfl⟩)
  go_ret
  exact ⟨rfl,(Below.refl _ _).alloc (Nat.le_refl _) _⟩
theorem bytesC_any (k:Nat) (hk:46≤k∧k≤53):Calls Tryz.prog 108 #[.int .i64 k] w fun e w'=>e=.returned (.tuple #[.int .i64 (szI k),.bool (sgI k)])∧Below w.heap.size w w':=by
  have h:k=46∨k=47∨k=48∨k=49∨k=50∨k=51∨k=52∨k=53:=by omega
  rcases h with rfl|rfl|rfl|rfl|rfl|rfl|rfl|rfl <;>
    (go_enter Tryz.func108,Tryz.ntmps108
     go_wp2
     first
       | (go_ret2;exact ⟨rfl,Below.refl _ _⟩)
       | (go_quiet (fail);go_wp2;go_ret2;exact ⟨rfl,bdN (Below.refl _ _) _⟩))
theorem overOf_any (k:Nat):Calls Tryz.prog 223 #[.int .i64 k] w fun e w'=>e=.returned (.string (kindS (ovK k)))∧w'=w:=by
  by_cases h19:k=19
  · subst h19;go_enter Tryz.func223,Tryz.ntmps223;go_wp2;go_ret;exact ⟨rfl,rfl⟩
  by_cases h35:k=35
  · subst h35;go_enter Tryz.func223,Tryz.ntmps223;go_wp2;go_ret;exact ⟨rfl,rfl⟩
  by_cases h21:k=21
  · subst h21;go_enter Tryz.func223,Tryz.ntmps223;go_wp2;go_ret;exact ⟨rfl,rfl⟩
  have e:kindS (ovK k)=kindS 0:=by unfold ovK;rw[if_neg (by omega),if_neg (by omega)]
  rw[e]
  have b19:=nkL h19
  have b35:=nkL h35
  have b21:=nkL h21
  clear e h19 h35 h21
  go_enter Tryz.func223,Tryz.ntmps223
  go_wp2
  go_ret
  exact ⟨rfl,rfl⟩
theorem kindOfL_any (k:Nat):Calls Tryz.prog 224 #[.int .i64 k] w fun e w'=>e=.returned (.string (kindS (rsK k)))∧w'=w:=by
  by_cases h21:k=21
  · subst h21;go_enter Tryz.func224,Tryz.ntmps224;go_wp2;go_ret;exact ⟨rfl,rfl⟩
  by_cases h22:k=22
  · subst h22;go_enter Tryz.func224,Tryz.ntmps224;go_wp2;go_ret;exact ⟨rfl,rfl⟩
  by_cases h23:k=23
  · subst h23;go_enter Tryz.func224,Tryz.ntmps224;go_wp2;go_ret;exact ⟨rfl,rfl⟩
  by_cases h39:k=39
  · subst h39;go_enter Tryz.func224,Tryz.ntmps224;go_wp2;go_ret;exact ⟨rfl,rfl⟩
  by_cases h24:k=24
  · subst h24;go_enter Tryz.func224,Tryz.ntmps224;go_wp2;go_ret;exact ⟨rfl,rfl⟩
  by_cases h40:k=40
  · subst h40;go_enter Tryz.func224,Tryz.ntmps224;go_wp2;go_ret;exact ⟨rfl,rfl⟩
  by_cases h25:k=25
  · subst h25;go_enter Tryz.func224,Tryz.ntmps224;go_wp2;go_ret;exact ⟨rfl,rfl⟩
  by_cases h41:k=41
  · subst h41;go_enter Tryz.func224,Tryz.ntmps224;go_wp2;go_ret;exact ⟨rfl,rfl⟩
  by_cases h26:k=26
  · subst h26;go_enter Tryz.func224,Tryz.ntmps224;go_wp2;go_ret;exact ⟨rfl,rfl⟩
  by_cases h27:k=27
  · subst h27;go_enter Tryz.func224,Tryz.ntmps224;go_wp2;go_ret;exact ⟨rfl,rfl⟩
  by_cases h37:k=37
  · subst h37;go_enter Tryz.func224,Tryz.ntmps224;go_wp2;go_ret;exact ⟨rfl,rfl⟩
  by_cases h28:k=28
  · subst h28;go_enter Tryz.func224,Tryz.ntmps224;go_wp2;go_ret;exact ⟨rfl,rfl⟩
  by_cases h38:k=38
  · subst h38;go_enter Tryz.func224,Tryz.ntmps224;go_wp2;go_ret;exact ⟨rfl,rfl⟩
  by_cases h1:k=1
  · subst h1;go_enter Tryz.func224,Tryz.ntmps224;go_wp2;go_ret;exact ⟨rfl,rfl⟩
  by_cases h4:k=4
  · subst h4;go_enter Tryz.func224,Tryz.ntmps224;go_wp2;go_ret;exact ⟨rfl,rfl⟩
  by_cases h2:k=2
  · subst h2;go_enter Tryz.func224,Tryz.ntmps224;go_wp2;go_ret;exact ⟨rfl,rfl⟩
  by_cases h5:k=5
  · subst h5;go_enter Tryz.func224,Tryz.ntmps224;go_wp2;go_ret;exact ⟨rfl,rfl⟩
  by_cases h3:k=3
  · subst h3;go_enter Tryz.func224,Tryz.ntmps224;go_wp2;go_ret;exact ⟨rfl,rfl⟩
  by_cases h6:k=6
  · subst h6;go_enter Tryz.func224,Tryz.ntmps224;go_wp2;go_ret;exact ⟨rfl,rfl⟩
  have e:kindS (rsK k)=kindS 3:=by unfold rsK;rw[if_neg (by omega),if_neg (by omega),if_neg (by omega),if_neg (by omega),if_neg (by omega),if_neg (by omega),if_neg (by omega),if_neg (by omega),if_neg (by omega),if_neg (by omega)]
  rw[e]
  have b21:=nkL h21
  have b22:=nkL h22
  have b23:=nkL h23
  have b39:=nkL h39
  have b24:=nkL h24
  have b40:=nkL h40
  have b25:=nkL h25
  have b41:=nkL h41
  have b26:=nkL h26
  have b27:=nkL h27
  have b37:=nkL h37
  have b28:=nkL h28
  have b38:=nkL h38
  have b1:=nkL h1
  have b4:=nkL h4
  have b2:=nkL h2
  have b5:=nkL h5
  have b3:=nkL h3
  have b6:=nkL h6
  clear e h21 h22 h23 h39 h24 h40 h25 h41 h26 h27 h37 h28 h38 h1 h4 h2 h5 h3 h6
  go_enter Tryz.func224,Tryz.ntmps224
  go_wp2
  go_ret
  exact ⟨rfl,rfl⟩
theorem operandsL_any (k:Nat) (s t d m:Int):Calls Tryz.prog 222 #[.agg #[.int .i64 k,.int .i64 s,.int .i64 t,.int .i64 d,.int .u32 m]] w fun e w'=>e=.returned (.tuple #[.int .i64 (oD k ⟨k,s,t,d,m⟩),.int .i64 (oA k ⟨k,s,t,d,m⟩),.int .i64 (oB k ⟨k,s,t,d,m⟩)])∧Below w.heap.size w w':=by
  by_cases h1:k=1∨k=2∨k=3∨k=4∨k=5∨k=6∨k=35∨k=36∨k=37∨k=38∨k=39∨k=40∨k=41
  · rcases h1 with rfl|rfl|rfl|rfl|rfl|rfl|rfl|rfl|rfl|rfl|rfl|rfl|rfl <;>
      (go_enter Tryz.func222,Tryz.ntmps222
       go_wp2
       go_quiet (fail)
       go_wp2
       go_ret3
       exact ⟨rfl,bdN ((Below.refl _ _).alloc (Nat.le_refl _) _) _⟩)
  have eD:oD k ⟨k,s,t,d,m⟩=d:=by unfold oD;rw[if_neg (by omega)]
  have eA:oA k ⟨k,s,t,d,m⟩=s:=by unfold oA;rw[if_neg (by omega)]
  have eB:oB k ⟨k,s,t,d,m⟩=t:=by unfold oB;rw[if_neg (by omega),if_neg (by omega),if_neg (by omega)]
  rw[eD,eA,eB]
  have b1:=nkL (k:=k) (n:=1) (by omega)
  have b2:=nkL (k:=k) (n:=2) (by omega)
  have b3:=nkL (k:=k) (n:=3) (by omega)
  have b4:=nkL (k:=k) (n:=4) (by omega)
  have b5:=nkL (k:=k) (n:=5) (by omega)
  have b6:=nkL (k:=k) (n:=6) (by omega)
  have b35:=nkL (k:=k) (n:=35) (by omega)
  have b36:=nkL (k:=k) (n:=36) (by omega)
  have b37:=nkL (k:=k) (n:=37) (by omega)
  have b38:=nkL (k:=k) (n:=38) (by omega)
  have b39:=nkL (k:=k) (n:=39) (by omega)
  have b40:=nkL (k:=k) (n:=40) (by omega)
  have b41:=nkL (k:=k) (n:=41) (by omega)
  clear eD eA eB h1
  go_enter Tryz.func222,Tryz.ntmps222
  go_wp2
  go_quiet (fail)
  go_wp2
  go_ret3
  exact ⟨rfl,bdN ((Below.refl _ _).alloc (Nat.le_refl _) _) _⟩
theorem targetC_any (k:Nat) (s t d m pc:Int) (m0:0≤m) (m1:m<4294967296):Calls Tryz.prog 115 #[.agg #[.int .i64 k,.int .i64 s,.int .i64 t,.int .i64 d,.int .u32 m],.int .u32 pc] w fun e w'=>e=.returned (.int .u32 (tgI ⟨k,s,t,d,m⟩ pc))∧Below w.heap.size w w':=by
  have hI:=fun W=>immC_any (w:=W) k s t d m m0 m1
  by_cases h29:k=29
  · subst h29;go_enter Tryz.func115,Tryz.ntmps115;go_wp2;go_ret;exact ⟨rfl,(Below.refl _ _).alloc (Nat.le_refl _) _⟩
  by_cases h30:k=30
  · subst h30;go_enter Tryz.func115,Tryz.ntmps115;go_wp2;go_ret;exact ⟨rfl,(Below.refl _ _).alloc (Nat.le_refl _) _⟩
  have e:tgI ⟨k,s,t,d,m⟩ pc=lo (lo (pc+4)+lo (4*immI k m)):=by unfold tgI;rw[if_neg (by simp[Ix.n];omega)];rfl
  rw[e]
  have b29:=nkL h29
  have b30:=nkL h30
  clear e h29 h30
  go_enter Tryz.func115,Tryz.ntmps115
  go_wp2_with fail
  refine (hI _).mono ?_
  rintro e w1 ⟨rfl,hb⟩
  have hB:Hid (Below w.heap.size w w1):=((Below.refl _ _).alloc (Nat.le_refl _) _).trans (hb.mono (by simp))
  clear hb hI
  go_wp2
  go_ret
  exact ⟨rfl,hB.out⟩
end
structure LB (w0 w W:World) (lb ib:Nat) (pc many at_:Int) (l:List Opx) (v0 v:Value) (k s t d m:Int):Prop where
 f:LAt w0 W lb pc many at_ l v
 kp:LKept w W lb v0 v
 c0:W.cell? ⟨ib,0,none⟩=some (.int .i64 k)
 c1:W.cell? ⟨ib,1,none⟩=some (.int .i64 s)
 c2:W.cell? ⟨ib,2,none⟩=some (.int .i64 t)
 c3:W.cell? ⟨ib,3,none⟩=some (.int .i64 d)
 c4:W.cell? ⟨ib,4,none⟩=some (.int .u32 m)
 n1:ib≠lb
 n2:v.ownBlock≠some ib
section
variable {w0 w W : World} {lb ib : Nat} {pc many at_ : Int} {l l' : List Opx} {v0 v : Value} {k s t d m : Int}
theorem LB.start (F:LAt w0 w lb pc many at_ l v) (k s t d m:Int):LB w0 w (w.alloc (.cells #[.int .i64 k,.int .i64 s,.int .i64 t,.int .i64 d,.int .u32 m] 113)) lb w.heap.size pc many at_ l v v k s t d m :=
 have hA:Below w.heap.size w (w.alloc (.cells #[.int .i64 k,.int .i64 s,.int .i64 t,.int .i64 d,.int .u32 m] 113)):=(Below.refl _ _).alloc (Nat.le_refl _) _
 ⟨F.stays hA,LKept.ahead hA (LKept.refl _ _ _),by simp,by simp,by simp,by simp,by simp,F.lne,F.vlt⟩
theorem LB.pure (B:LB w0 w W lb ib pc many at_ l v0 v k s t d m) {W':World} (h:Below W.heap.size W W'):LB w0 w W' lb ib pc many at_ l v0 v k s t d m :=
 ⟨B.f.stays h,B.kp.behind h,K.cell_stays h (Nat.le_refl _) B.c0,K.cell_stays h (Nat.le_refl _) B.c1,K.cell_stays h (Nat.le_refl _) B.c2,K.cell_stays h (Nat.le_refl _) B.c3,K.cell_stays h (Nat.le_refl _) B.c4,B.n1,B.n2⟩
theorem LB.add (B:LB w0 w W lb ib pc many at_ l v0 v k s t d m) {W':World} {v':Value} (F:LAt w0 W' lb pc many at_ l' v') (L:LKept W W' lb v v'):LB w0 w W' lb ib pc many at_ l' v0 v' k s t d m :=
 ⟨F,B.kp.trans L,L.cell B.c0 B.n1 B.n2,L.cell B.c1 B.n1 B.n2,L.cell B.c2 B.n1 B.n2,L.cell B.c3 B.n1 B.n2,L.cell B.c4 B.n1 B.n2,B.n1,(L.keep ib (World.block_lt_of_cell? _ _ B.c0) B.n1 B.n2).2⟩
theorem LB.done (B:LB w0 w W lb ib pc many at_ l v0 v k s t d m):LP w0 w lb pc many at_ l v0 (.returned (.tuple #[])) W:=⟨rfl,_,B.f,B.kp⟩
theorem LB.load (B:LB w0 w W lb ib pc many at_ l v0 v k s t d m):(loadVar 113 ⟨ib,0,none⟩).run Tryz.prog W=.ok (.agg #[.int .i64 k,.int .i64 s,.int .i64 t,.int .i64 d,.int .u32 m]) W:=by
 have c0:=B.c0;have c1:=B.c1;have c2:=B.c2;have c3:=B.c3;have c4:=B.c4
 simp[go_sem,c0,c1,c2,c3,c4]
end
end Go.Proofs.YtflagpkmebdckaaGreatDoor.Low
