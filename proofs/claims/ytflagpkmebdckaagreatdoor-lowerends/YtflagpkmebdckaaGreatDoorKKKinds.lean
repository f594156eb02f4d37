
import Derived.Test.YtflagpkmebdckaaGreatDoorKKDecode
import Derived.Test.YtflagpkmebdckaaGreatDoorKMk4
import Derived.Test.YtflagpkmebdckaaGreatDoorKKRowsOf
import Derived.Test.YtflagpkmebdckaaGreatDoorKKRowOf
import Derived.Test.YtflagpkmebdckaaGreatDoorQKDecF
namespace Go.Proofs.YtflagpkmebdckaaGreatDoor.K
open Go.RowKit Go.Extern.Stop Go.Stop Go.Extern
open Num Tab
set_option linter.unusedVariables false
theorem kind_nat (k:Nat) (hk:k<54) (l:List UInt8) (hl:kind k=l) (w:World):Calls Tryz.prog 91 #[.int .i64 k] w fun e w'=>e=.returned (.string ⟨l.toArray⟩)∧w'=w:=by
 have h:kindI k=l:=by unfold kindI;rw[if_pos (by omega)];exact hl
 rw[←h];exact kind_any k w
end Go.Proofs.YtflagpkmebdckaaGreatDoor.K
namespace Go.Proofs.YtflagpkmebdckaaGreatDoor
open Go.RowKit Go.Maps
open Num
set_option linter.unusedVariables false
section
variable {w : World} {pb sb bb : Nat} {S : St} {k s t d : Nat} {m : Int}
theorem St.ok_ct {S:St} (o:S.ok) {x y:Int} {z:Bool} (hx:u32 x) (hy:u32 y):St.ok { S with pc:=x,nx:=y,sl:=z }:=⟨o.r,o.hi,o.lo,hx,hy,o.st,o.ca,o.ep,o.bd,o.cm,o.c0,o.c1⟩
end
section
variable {w : World} {pb sb bb : Nat} {S : St} {k s t d : Nat} {m : Int}
theorem St.ok_cm {S:St} (o:S.ok) {y:Int} (hy:u32 y):St.ok { S with cm:=y }:=⟨o.r,o.hi,o.lo,o.pc,o.nx,o.st,o.ca,o.ep,o.bd,hy,o.c0,o.c1⟩
theorem St.ok_ep {S:St} (o:S.ok) {y:Int} (hy:u32 y):St.ok { S with ep:=y }:=⟨o.r,o.hi,o.lo,o.pc,o.nx,o.st,o.ca,hy,o.bd,o.cm,o.c0,o.c1⟩
end
section
variable {w : World} {pb sb bb : Nat} {S : St} {k s t d : Nat} {m : Int}
theorem St.ok_hl {S:St} (o:S.ok) {x y:Int} (hx:u32 x) (hy:u32 y):St.ok { S with hi:=x,lo:=y }:=⟨o.r,hx,hy,o.pc,o.nx,o.st,o.ca,o.ep,o.bd,o.cm,o.c0,o.c1⟩
end
section
variable {w : World} {pb sb bb : Nat} {S : St} {k s t d : Nat} {m : Int} {base rb bp bw bh N : Nat} {b : Bs} {vo vt : Value}
theorem branchP_ok (o:S.ok) (k s t d:Nat) (m:Int):(branchP S k s t d m).2.ok:=by
 unfold branchP
 split
 ·exact o
 ·have h1:St.ok (if k=30 then S.set 31 (Num.lo (S.pc+8)) else if k=8 then S.set d (Num.lo (S.pc+8)) else S):=by
   split
   ·exact St.set_ok o _ (lo_bd _)
   split
   ·exact St.set_ok o _ (lo_bd _)
   ·exact o
  have h2:u32 (if takenI S k s t=true then targI S k s m else Num.lo (S.nx+4)):=by
   split
   ·exact targI_bd o _ _ _
   ·exact lo_bd _
  exact St.ok_ct h1 o.nx h2
theorem fromP_ok (o:S.ok) (t d:Nat):(fromP S t d).2.ok:=by
 unfold fromP
 split
 ·exact St.on_ok (St.set_ok o _ o.bd)
 split
 ·exact St.on_ok (St.set_ok o _ (lo_bd _))
 split
 ·exact St.on_ok (St.set_ok o _ o.cm)
 split
 ·exact St.on_ok (St.set_ok o _ o.st)
 split
 ·exact St.on_ok (St.set_ok o _ o.ca)
 split
 ·exact St.on_ok (St.set_ok o _ o.ep)
 ·exact o
theorem toP_ok (o:S.ok) (t d:Nat):(toP S t d).2.ok:=by
 unfold toP
 split
 ·exact St.on_ok (St.ok_cm o (o.r t))
 split
 ·exact St.on_ok (St.ok_st o (and_bd (o.r t) ⟨by omega,by omega⟩))
 split
 ·exact St.on_ok (St.ok_ep o (o.r t))
 ·exact o
theorem backP_ok (o:S.ok):(backP S).2.ok:=by
 unfold backP
 split
 ·exact o
 ·exact St.ok_st (St.jump_ok o o.ep) (andNot_bd o.st ⟨by omega,by omega⟩)
theorem trapP_ok (o:S.ok) (k t d:Nat):(trapP S k t d).2.ok:=by
 unfold trapP
 split
 ·exact o
 split
 ·exact o
 split
 ·exact fromP_ok o t d
 split
 ·exact toP_ok o t d
 split
 ·exact backP_ok o
 ·exact o
theorem sumP_ok (o:S.ok) (k s t d:Nat) {m:Int} (m0:0≤m) (m1:m<4294967296):(sumP S k s t d m).2.ok:=by
 have ha:=opA_bd o k s t
 have hb:=opB_bd o k s t m0 m1
 unfold sumP
 split
 ·exact St.on_ok (St.ok_hl o (hi_bd _) (lo_bd _))
 split
 ·dsimp only
  split
  ·exact St.on_ok o
  ·exact St.on_ok (St.ok_hl o (rst_bd _ _ _) (quo_bd _ _ _))
 split
 ·exact St.on_ok (St.ok_hl o ha o.lo)
 split
 ·exact St.on_ok (St.ok_hl o o.hi ha)
 split
 ·exact o
 ·exact St.on_ok (St.set_ok o _ (resI_bd o k ha hb))
end
end Go.Proofs.YtflagpkmebdckaaGreatDoor
namespace Go.Proofs.YtflagpkmebdckaaGreatDoor.Low
open Go.RowKit Go.Maps
open Num
set_option linter.unusedVariables false
set_option maxRecDepth 100000
set_option maxHeartbeats 8000000
section
variable {w0 w : World} {lb : Nat} {pc many at_ : Int} {l : List Opx} {v : Value}
theorem sumL_any (F:LAt w0 w lb pc many at_ l v) (hn:l.length≤900) (k:Nat) (s t d m:Int) (m0:0≤m) (m1:m<4294967296) :
  Calls Tryz.prog 111 #[.pointer (some ⟨lb,0,none⟩),.agg #[.int .i64 k,.int .i64 s,.int .i64 t,.int .i64 d,.int .u32 m]] w (LP w0 w lb pc many at_ (l++sumL ⟨k,s,t,d,m⟩ at_) v):=by
 by_cases h15:k=15
 ·subst h15
  have B:Hid _:=LB.start F 15 s t d m
  clear F
  go_enter Tryz.func111,Tryz.ntmps111
  go_upto_region 1 with fail
  generalize hW:w.alloc (.cells #[.int .i64 15,.int .i64 s,.int .i64 t,.int .i64 d,.int .u32 m] 113)=W at B ⊢
  generalize hib:w.heap.size=ib at B ⊢
  clear hW hib
  have c0:=B.out.c0;have c1:=B.out.c1;have c2:=B.out.c2;have c3:=B.out.c3;have c4:=B.out.c4
  go_wp2_with fail
  refine (hiLo_any B.out.f hn 15 s t d m ⟨#[109,117,108,104]⟩ ⟨#[109,117,108]⟩).mono ?_
  rintro e W1 ⟨rfl,v1,F1,L1⟩
  have B1:Hid _:=B.out.add F1 L1
  clear c0 c1 c2 c3 c4 B F1 L1
  have B:Hid _:=B1.out
  clear B1
  have c0:=B.out.c0;have c1:=B.out.c1;have c2:=B.out.c2;have c3:=B.out.c3;have c4:=B.out.c4
  clear c0 c1 c2 c3 c4
  go_wp2
  go_end0
  have:=B.out.done
  exact this
 by_cases h16:k=16
 ·subst h16
  have B:Hid _:=LB.start F 16 s t d m
  clear F
  go_enter Tryz.func111,Tryz.ntmps111
  go_upto_region 1 with fail
  generalize hW:w.alloc (.cells #[.int .i64 16,.int .i64 s,.int .i64 t,.int .i64 d,.int .u32 m] 113)=W at B ⊢
  generalize hib:w.heap.size=ib at B ⊢
  clear hW hib
  have c0:=B.out.c0;have c1:=B.out.c1;have c2:=B.out.c2;have c3:=B.out.c3;have c4:=B.out.c4
  go_wp2_with fail
  refine (hiLo_any B.out.f hn 16 s t d m ⟨#[109,117,108,104,117]⟩ ⟨#[109,117,108]⟩).mono ?_
  rintro e W1 ⟨rfl,v1,F1,L1⟩
  have B1:Hid _:=B.out.add F1 L1
  clear c0 c1 c2 c3 c4 B F1 L1
  have B:Hid _:=B1.out
  clear B1
  have c0:=B.out.c0;have c1:=B.out.c1;have c2:=B.out.c2;have c3:=B.out.c3;have c4:=B.out.c4
  clear c0 c1 c2 c3 c4
  go_wp2
  go_end0
  have:=B.out.done
  exact this
 by_cases h17:k=17
 ·subst h17
  have B:Hid _:=LB.start F 17 s t d m
  clear F
  go_enter Tryz.func111,Tryz.ntmps111
  go_upto_region 1 with fail
  generalize hW:w.alloc (.cells #[.int .i64 17,.int .i64 s,.int .i64 t,.int .i64 d,.int .u32 m] 113)=W at B ⊢
  generalize hib:w.heap.size=ib at B ⊢
  clear hW hib
  have c0:=B.out.c0;have c1:=B.out.c1;have c2:=B.out.c2;have c3:=B.out.c3;have c4:=B.out.c4
  go_wp2_with fail
  refine (hiLo_any B.out.f hn 17 s t d m ⟨#[114,101,109]⟩ ⟨#[113,117,111]⟩).mono ?_
  rintro e W1 ⟨rfl,v1,F1,L1⟩
  have B1:Hid _:=B.out.add F1 L1
  clear c0 c1 c2 c3 c4 B F1 L1
  have B:Hid _:=B1.out
  clear B1
  have c0:=B.out.c0;have c1:=B.out.c1;have c2:=B.out.c2;have c3:=B.out.c3;have c4:=B.out.c4
  clear c0 c1 c2 c3 c4
  go_wp2
  go_end0
  have:=B.out.done
  exact this
 by_cases h18:k=18
 ·subst h18
  have B:Hid _:=LB.start F 18 s t d m
  clear F
  go_enter Tryz.func111,Tryz.ntmps111
  go_upto_region 1 with fail
  generalize hW:w.alloc (.cells #[.int .i64 18,.int .i64 s,.int .i64 t,.int .i64 d,.int .u32 m] 113)=W at B ⊢
  generalize hib:w.heap.size=ib at B ⊢
  clear hW hib
  have c0:=B.out.c0;have c1:=B.out.c1;have c2:=B.out.c2;have c3:=B.out.c3;have c4:=B.out.c4
  go_wp2_with fail
  refine (hiLo_any B.out.f hn 18 s t d m ⟨#[114,101,109,117]⟩ ⟨#[113,117,111,117]⟩).mono ?_
  rintro e W1 ⟨rfl,v1,F1,L1⟩
  have B1:Hid _:=B.out.add F1 L1
  clear c0 c1 c2 c3 c4 B F1 L1
  have B:Hid _:=B1.out
  clear B1
  have c0:=B.out.c0;have c1:=B.out.c1;have c2:=B.out.c2;have c3:=B.out.c3;have c4:=B.out.c4
  clear c0 c1 c2 c3 c4
  go_wp2
  go_end0
  have:=B.out.done
  exact this
 by_cases h11:k=11
 ·subst h11
  have B:Hid _:=LB.start F 11 s t d m
  clear F
  go_enter Tryz.func111,Tryz.ntmps111
  go_upto_region 1 with fail
  generalize hW:w.alloc (.cells #[.int .i64 11,.int .i64 s,.int .i64 t,.int .i64 d,.int .u32 m] 113)=W at B ⊢
  generalize hib:w.heap.size=ib at B ⊢
  clear hW hib
  have c0:=B.out.c0;have c1:=B.out.c1;have c2:=B.out.c2;have c3:=B.out.c3;have c4:=B.out.c4
  go_wp2_with fail
  refine (wrA B.out.f (by omega) ⟨#[99,111,112,121]⟩ d 32 0 0 0).mono ?_
  rintro e W1 ⟨rfl,v1,F1,L1⟩
  have B1:Hid _:=B.out.add F1 L1
  clear c0 c1 c2 c3 c4 B F1 L1
  have B:Hid _:=B1.out
  clear B1
  have c0:=B.out.c0;have c1:=B.out.c1;have c2:=B.out.c2;have c3:=B.out.c3;have c4:=B.out.c4
  clear c0 c1 c2 c3 c4
  go_wp2
  go_end0
  have:=B.out.done
  exact this
 by_cases h13:k=13
 ·subst h13
  have B:Hid _:=LB.start F 13 s t d m
  clear F
  go_enter Tryz.func111,Tryz.ntmps111
  go_upto_region 1 with fail
  generalize hW:w.alloc (.cells #[.int .i64 13,.int .i64 s,.int .i64 t,.int .i64 d,.int .u32 m] 113)=W at B ⊢
  generalize hib:w.heap.size=ib at B ⊢
  clear hW hib
  have c0:=B.out.c0;have c1:=B.out.c1;have c2:=B.out.c2;have c3:=B.out.c3;have c4:=B.out.c4
  go_wp2_with fail
  refine (wrA B.out.f (by omega) ⟨#[99,111,112,121]⟩ d 33 0 0 0).mono ?_
  rintro e W1 ⟨rfl,v1,F1,L1⟩
  have B1:Hid _:=B.out.add F1 L1
  clear c0 c1 c2 c3 c4 B F1 L1
  have B:Hid _:=B1.out
  clear B1
  have c0:=B.out.c0;have c1:=B.out.c1;have c2:=B.out.c2;have c3:=B.out.c3;have c4:=B.out.c4
  clear c0 c1 c2 c3 c4
  go_wp2
  go_end0
  have:=B.out.done
  exact this
 by_cases h12:k=12
 ·subst h12
  have B:Hid _:=LB.start F 12 s t d m
  clear F
  go_enter Tryz.func111,Tryz.ntmps111
  go_upto_region 1 with fail
  generalize hW:w.alloc (.cells #[.int .i64 12,.int .i64 s,.int .i64 t,.int .i64 d,.int .u32 m] 113)=W at B ⊢
  generalize hib:w.heap.size=ib at B ⊢
  clear hW hib
  have c0:=B.out.c0;have c1:=B.out.c1;have c2:=B.out.c2;have c3:=B.out.c3;have c4:=B.out.c4
  go_wp2_with fail
  refine (wrA B.out.f (by omega) ⟨#[99,111,112,121]⟩ 32 s 0 0 0).mono ?_
  rintro e W1 ⟨rfl,v1,F1,L1⟩
  have B1:Hid _:=B.out.add F1 L1
  clear c0 c1 c2 c3 c4 B F1 L1
  have B:Hid _:=B1.out
  clear B1
  have c0:=B.out.c0;have c1:=B.out.c1;have c2:=B.out.c2;have c3:=B.out.c3;have c4:=B.out.c4
  clear c0 c1 c2 c3 c4
  go_wp2
  go_end0
  have:=B.out.done
  exact this
 by_cases h14:k=14
 ·subst h14
  have B:Hid _:=LB.start F 14 s t d m
  clear F
  go_enter Tryz.func111,Tryz.ntmps111
  go_upto_region 1 with fail
  generalize hW:w.alloc (.cells #[.int .i64 14,.int .i64 s,.int .i64 t,.int .i64 d,.int .u32 m] 113)=W at B ⊢
  generalize hib:w.heap.size=ib at B ⊢
  clear hW hib
  have c0:=B.out.c0;have c1:=B.out.c1;have c2:=B.out.c2;have c3:=B.out.c3;have c4:=B.out.c4
  go_wp2_with fail
  refine (wrA B.out.f (by omega) ⟨#[99,111,112,121]⟩ 33 s 0 0 0).mono ?_
  rintro e W1 ⟨rfl,v1,F1,L1⟩
  have B1:Hid _:=B.out.add F1 L1
  clear c0 c1 c2 c3 c4 B F1 L1
  have B:Hid _:=B1.out
  clear B1
  have c0:=B.out.c0;have c1:=B.out.c1;have c2:=B.out.c2;have c3:=B.out.c3;have c4:=B.out.c4
  clear c0 c1 c2 c3 c4
  go_wp2
  go_end0
  have:=B.out.done
  exact this
 by_cases h42:k=42
 ·subst h42
  have B:Hid _:=LB.start F 42 s t d m
  clear F
  go_enter Tryz.func111,Tryz.ntmps111
  go_upto_region 1 with fail
  generalize hW:w.alloc (.cells #[.int .i64 42,.int .i64 s,.int .i64 t,.int .i64 d,.int .u32 m] 113)=W at B ⊢
  generalize hib:w.heap.size=ib at B ⊢
  clear hW hib
  have c0:=B.out.c0;have c1:=B.out.c1;have c2:=B.out.c2;have c3:=B.out.c3;have c4:=B.out.c4
  go_upto_region 20 with fail
  refine zP 8 [(0,0),(1,0),(2,1),(3,1),(4,2),(5,0),(6,2),(7,2)] (fun W=>W.cell? ⟨ib,0,none⟩=some (.int .i64 42)∧W.cell? ⟨ib,1,none⟩=some (.int .i64 s)∧W.cell? ⟨ib,2,none⟩=some (.int .i64 t)∧W.cell? ⟨ib,3,none⟩=some (.int .i64 d)∧W.cell? ⟨ib,4,none⟩=some (.int .u32 m)) (by kernel_rfl) (by kernel_rfl) (fun _ _ _ d _ h=>by cases d<;>exact h) ⟨c0,c1,c2,c3,c4⟩ ?_
  repeat (first|(refine zF (by rfl) (by rfl) (fun W=>by (go_simp;try with_reducible rfl)) (fun K hK=>?_);go_simp;refine hK _ ?_;clear hK K)|(refine zQ (by rfl) (by rfl) (fun W hW=>by (obtain ⟨d0,d1,d2,d3,d4⟩:=hW;go_simp;try with_reducible rfl)) (fun K hK=>?_);go_simp;refine hK _ ?_;clear hK K))
  refine zSr (by rfl) (by rfl) (fun K hK=>?_)
  go_simp
  refine (immC_any 42 s t d m m0 m1).mono ?_
  rintro e W1 ⟨rfl,hb⟩
  have B1:Hid _:=(B.out.pure ((Below.refl _ _).drew)).pure hb
  clear c0 c1 c2 c3 c4 hb B
  have B:Hid _:=B1.out
  clear B1
  have c0:=B.out.c0;have c1:=B.out.c1;have c2:=B.out.c2;have c3:=B.out.c3;have c4:=B.out.c4
  refine hK _ _ (fun _=>⟨c0,c1,c2,c3,c4⟩) ?_
  clear hK K
  repeat (first|(refine zF (by rfl) (by rfl) (fun W=>by (go_simp;try with_reducible rfl)) (fun K hK=>?_);go_simp;refine hK _ ?_;clear hK K)|(refine zQ (by rfl) (by rfl) (fun W hW=>by (obtain ⟨d0,d1,d2,d3,d4⟩:=hW;go_simp;try with_reducible rfl)) (fun K hK=>?_);go_simp;refine hK _ ?_;clear hK K))
  refine zSr (by rfl) (by rfl) (fun K hK=>?_)
  go_simp
  refine hK _ _ (fun _=>⟨c0,c1,c2,c3,c4⟩) ?_
  clear hK K
  refine zSr (by rfl) (by rfl) (fun K hK=>?_)
  go_simp
  refine (wrA B.out.f (by omega) ⟨#[115,101,116]⟩ t 0 0 (lo (m*65536)) 0).mono ?_
  rintro e W2 ⟨rfl,v2,F2,L2⟩
  have B2:Hid _:=B.out.add F2 L2
  clear c0 c1 c2 c3 c4 B F2 L2
  have B:Hid _:=B2.out
  clear B2
  have c0:=B.out.c0;have c1:=B.out.c1;have c2:=B.out.c2;have c3:=B.out.c3;have c4:=B.out.c4
  refine hK _ _ (fun _=>⟨c0,c1,c2,c3,c4⟩) ?_
  clear hK K
  refine zN ?_
  clear c0 c1 c2 c3 c4
  go_wp2
  go_end0
  have:=B.out.done
  exact this
 have e:sumL ⟨k,s,t,d,m⟩ at_=resL ⟨k,s,t,d,m⟩ at_:=by unfold sumL;rw[if_neg (by simp[Ix.n];omega),if_neg (by simp[Ix.n];omega),if_neg (by simp[Ix.n];omega),if_neg (by simp[Ix.n];omega),if_neg (by simp[Ix.n];omega),if_neg (by simp[Ix.n];omega),if_neg (by simp[Ix.n];omega),if_neg (by simp[Ix.n];omega),if_neg (by simp[Ix.n];omega)]
 rw[e]
 have b15:=nkL h15
 have b16:=nkL h16
 have b17:=nkL h17
 have b18:=nkL h18
 have b11:=nkL h11
 have b13:=nkL h13
 have b12:=nkL h12
 have b14:=nkL h14
 have b42:=nkL h42
 clear e h15 h16 h17 h18 h11 h13 h12 h14 h42
 have B:Hid _:=LB.start F k s t d m
 clear F
 go_enter Tryz.func111,Tryz.ntmps111
 go_upto_region 1 with fail
 generalize hW:w.alloc (.cells #[.int .i64 k,.int .i64 s,.int .i64 t,.int .i64 d,.int .u32 m] 113)=W at B ⊢
 generalize hib:w.heap.size=ib at B ⊢
 clear hW hib
 have c0:=B.out.c0;have c1:=B.out.c1;have c2:=B.out.c2;have c3:=B.out.c3;have c4:=B.out.c4
 go_wp2_with fail
 refine (result_any B.out.f hn k s t d m m0 m1).mono ?_
 rintro e W1 ⟨rfl,v1,F1,L1⟩
 have B1:Hid _:=B.out.add F1 L1
 clear c0 c1 c2 c3 c4 B F1 L1
 have B:Hid _:=B1.out
 clear B1
 have c0:=B.out.c0;have c1:=B.out.c1;have c2:=B.out.c2;have c3:=B.out.c3;have c4:=B.out.c4
 clear c0 c1 c2 c3 c4
 go_wp2
 go_end0
 have:=B.out.done
 exact this
theorem loadL_any (F:LAt w0 w lb pc many at_ l v) (hn:l.length≤900) (k:Nat) (hk:46≤k∧k≤50) (s t d m:Int) (m0:0≤m) (m1:m<4294967296) :
  Calls Tryz.prog 107 #[.pointer (some ⟨lb,0,none⟩),.agg #[.int .i64 k,.int .i64 s,.int .i64 t,.int .i64 d,.int .u32 m]] w (LP w0 w lb pc many at_ (l++ldL ⟨k,s,t,d,m⟩ at_) v):=by
 have hby:=fun W=>bytesC_any (w:=W) k (by omega)
 have him:=fun W=>immC_any (w:=W) k s t d m m0 m1
 have B:Hid _:=LB.start F k s t d m
 clear F
 have e:ldL ⟨k,s,t,d,m⟩ at_=[⟨kindS 23,if t=0 then 36 else t,s,if sgI k=true then -szI k else szI k,immI k m,at_⟩]:=rfl
 rw[e]
 have hz:szI k=1∨szI k=2∨szI k=4:=by unfold szI;split;simp;split;simp;simp
 have hz0:1≤szI k:=by omega
 have hz1:szI k≤4:=by omega
 clear e hz
 generalize szI k=z at *
 generalize sgI k=g at *
 generalize immI k m=im at *
 by_cases ht:t=0
 ·subst ht
  rw[if_pos rfl]
  cases g with
  | false =>
   rw[if_neg (by decide)]
   go_enter Tryz.func107,Tryz.ntmps107
   go_upto_region 1 with fail
   generalize hW:w.alloc (.cells #[.int .i64 k,.int .i64 s,.int .i64 0,.int .i64 d,.int .u32 m] 113)=W at B ⊢
   generalize hib:w.heap.size=ib at B ⊢
   clear hW hib
   have c0:=B.out.c0;have c1:=B.out.c1;have c2:=B.out.c2;have c3:=B.out.c3;have c4:=B.out.c4
   go_wp2_with fail
   refine (hby _).mono ?_
   rintro e W1 ⟨rfl,hb⟩
   have B1:Hid _:=B.out.pure hb
   clear c0 c1 c2 c3 c4 hb B
   have B:Hid _:=B1.out
   clear B1
   have c0:=B.out.c0;have c1:=B.out.c1;have c2:=B.out.c2;have c3:=B.out.c3;have c4:=B.out.c4
   go_upto_region 7 with fail
   refine zP 9 [(0,0),(1,0),(2,0),(3,1),(4,0),(5,1),(6,2),(7,2),(8,2)] (fun W=>W.cell? ⟨ib,0,none⟩=some (.int .i64 k)∧W.cell? ⟨ib,1,none⟩=some (.int .i64 s)∧W.cell? ⟨ib,2,none⟩=some (.int .i64 0)∧W.cell? ⟨ib,3,none⟩=some (.int .i64 d)∧W.cell? ⟨ib,4,none⟩=some (.int .u32 m)) (by kernel_rfl) (by kernel_rfl) (fun _ _ _ d _ h=>by cases d<;>exact h) ⟨c0,c1,c2,c3,c4⟩ ?_
   repeat (first|(refine zF (by rfl) (by rfl) (fun W=>by (go_simp;try with_reducible rfl)) (fun K hK=>?_);go_simp;refine hK _ ?_;clear hK K)|(refine zQ (by rfl) (by rfl) (fun W hW=>by (obtain ⟨d0,d1,d2,d3,d4⟩:=hW;go_simp;try with_reducible rfl)) (fun K hK=>?_);go_simp;refine hK _ ?_;clear hK K))
   refine zSr (by rfl) (by rfl) (fun K hK=>?_)
   go_simp
   refine (him _).mono ?_
   rintro e W2 ⟨rfl,hb⟩
   have B2:Hid _:=(B.out.pure ((Below.refl _ _).drew)).pure hb
   clear c0 c1 c2 c3 c4 hb B
   have B:Hid _:=B2.out
   clear B2
   have c0:=B.out.c0;have c1:=B.out.c1;have c2:=B.out.c2;have c3:=B.out.c3;have c4:=B.out.c4
   refine hK _ _ (fun _=>⟨c0,c1,c2,c3,c4⟩) ?_
   clear hK K
   repeat (first|(refine zF (by rfl) (by rfl) (fun W=>by (go_simp;try with_reducible rfl)) (fun K hK=>?_);go_simp;refine hK _ ?_;clear hK K)|(refine zQ (by rfl) (by rfl) (fun W hW=>by (obtain ⟨d0,d1,d2,d3,d4⟩:=hW;go_simp;try with_reducible rfl)) (fun K hK=>?_);go_simp;refine hK _ ?_;clear hK K))
   refine zSr (by rfl) (by rfl) (fun K hK=>?_)
   go_simp
   refine hK _ _ (fun _=>⟨c0,c1,c2,c3,c4⟩) ?_
   clear hK K
   refine zSr (by rfl) (by rfl) (fun K hK=>?_)
   go_simp
   refine (add_any B.out.f (by omega) ⟨#[108,111,97,100]⟩ 36 s z im 0).mono ?_
   rintro e W3 ⟨rfl,v3,F3,L3⟩
   have B3:Hid _:=B.out.add F3 L3
   clear c0 c1 c2 c3 c4 B F3 L3
   have B:Hid _:=B3.out
   clear B3
   have c0:=B.out.c0;have c1:=B.out.c1;have c2:=B.out.c2;have c3:=B.out.c3;have c4:=B.out.c4
   refine hK _ _ (fun _=>⟨c0,c1,c2,c3,c4⟩) ?_
   clear hK K
   refine zN ?_
   clear c0 c1 c2 c3 c4
   go_wp2
   go_end0
   have:=B.out.done
   exact this
  | true =>
   rw[if_pos rfl]
   go_enter Tryz.func107,Tryz.ntmps107
   go_upto_region 1 with fail
   generalize hW:w.alloc (.cells #[.int .i64 k,.int .i64 s,.int .i64 0,.int .i64 d,.int .u32 m] 113)=W at B ⊢
   generalize hib:w.heap.size=ib at B ⊢
   clear hW hib
   have c0:=B.out.c0;have c1:=B.out.c1;have c2:=B.out.c2;have c3:=B.out.c3;have c4:=B.out.c4
   go_wp2_with fail
   refine (hby _).mono ?_
   rintro e W1 ⟨rfl,hb⟩
   have B1:Hid _:=B.out.pure hb
   clear c0 c1 c2 c3 c4 hb B
   have B:Hid _:=B1.out
   clear B1
   have c0:=B.out.c0;have c1:=B.out.c1;have c2:=B.out.c2;have c3:=B.out.c3;have c4:=B.out.c4
   go_upto_region 7 with fail
   refine zP 9 [(0,0),(1,0),(2,0),(3,1),(4,0),(5,1),(6,2),(7,2),(8,2)] (fun W=>W.cell? ⟨ib,0,none⟩=some (.int .i64 k)∧W.cell? ⟨ib,1,none⟩=some (.int .i64 s)∧W.cell? ⟨ib,2,none⟩=some (.int .i64 0)∧W.cell? ⟨ib,3,none⟩=some (.int .i64 d)∧W.cell? ⟨ib,4,none⟩=some (.int .u32 m)) (by kernel_rfl) (by kernel_rfl) (fun _ _ _ d _ h=>by cases d<;>exact h) ⟨c0,c1,c2,c3,c4⟩ ?_
   repeat (first|(refine zF (by rfl) (by rfl) (fun W=>by (go_simp;try with_reducible rfl)) (fun K hK=>?_);go_simp;refine hK _ ?_;clear hK K)|(refine zQ (by rfl) (by rfl) (fun W hW=>by (obtain ⟨d0,d1,d2,d3,d4⟩:=hW;go_simp;try with_reducible rfl)) (fun K hK=>?_);go_simp;refine hK _ ?_;clear hK K))
   refine zSr (by rfl) (by rfl) (fun K hK=>?_)
   go_simp
   refine (him _).mono ?_
   rintro e W2 ⟨rfl,hb⟩
   have B2:Hid _:=(B.out.pure ((Below.refl _ _).drew)).pure hb
   clear c0 c1 c2 c3 c4 hb B
   have B:Hid _:=B2.out
   clear B2
   have c0:=B.out.c0;have c1:=B.out.c1;have c2:=B.out.c2;have c3:=B.out.c3;have c4:=B.out.c4
   refine hK _ _ (fun _=>⟨c0,c1,c2,c3,c4⟩) ?_
   clear hK K
   repeat (first|(refine zF (by rfl) (by rfl) (fun W=>by (go_simp;try with_reducible rfl)) (fun K hK=>?_);go_simp;refine hK _ ?_;clear hK K)|(refine zQ (by rfl) (by rfl) (fun W hW=>by (obtain ⟨d0,d1,d2,d3,d4⟩:=hW;go_simp;try with_reducible rfl)) (fun K hK=>?_);go_simp;refine hK _ ?_;clear hK K))
   refine zSr (by rfl) (by rfl) (fun K hK=>?_)
   go_simp
   refine hK _ _ (fun _=>⟨c0,c1,c2,c3,c4⟩) ?_
   clear hK K
   refine zSr (by rfl) (by rfl) (fun K hK=>?_)
   go_simp
   refine (add_any B.out.f (by omega) ⟨#[108,111,97,100]⟩ 36 s (-z) im 0).mono ?_
   rintro e W3 ⟨rfl,v3,F3,L3⟩
   have B3:Hid _:=B.out.add F3 L3
   clear c0 c1 c2 c3 c4 B F3 L3
   have B:Hid _:=B3.out
   clear B3
   have c0:=B.out.c0;have c1:=B.out.c1;have c2:=B.out.c2;have c3:=B.out.c3;have c4:=B.out.c4
   refine hK _ _ (fun _=>⟨c0,c1,c2,c3,c4⟩) ?_
   clear hK K
   refine zN ?_
   clear c0 c1 c2 c3 c4
   go_wp2
   go_end0
   have:=B.out.done
   exact this
 ·have ht':(t==0)=false:=by simpa using ht
  rw[if_neg ht]
  cases g with
  | false =>
   rw[if_neg (by decide)]
   go_enter Tryz.func107,Tryz.ntmps107
   go_upto_region 1 with fail
   generalize hW:w.alloc (.cells #[.int .i64 k,.int .i64 s,.int .i64 t,.int .i64 d,.int .u32 m] 113)=W at B ⊢
   generalize hib:w.heap.size=ib at B ⊢
   clear hW hib
   have c0:=B.out.c0;have c1:=B.out.c1;have c2:=B.out.c2;have c3:=B.out.c3;have c4:=B.out.c4
   go_wp2_with fail
   refine (hby _).mono ?_
   rintro e W1 ⟨rfl,hb⟩
   have B1:Hid _:=B.out.pure hb
   clear c0 c1 c2 c3 c4 hb B
   have B:Hid _:=B1.out
   clear B1
   have c0:=B.out.c0;have c1:=B.out.c1;have c2:=B.out.c2;have c3:=B.out.c3;have c4:=B.out.c4
   go_upto_region 7 with fail
   refine zP 9 [(0,0),(1,0),(2,0),(3,1),(4,0),(5,1),(6,2),(7,2),(8,2)] (fun W=>W.cell? ⟨ib,0,none⟩=some (.int .i64 k)∧W.cell? ⟨ib,1,none⟩=some (.int .i64 s)∧W.cell? ⟨ib,2,none⟩=some (.int .i64 t)∧W.cell? ⟨ib,3,none⟩=some (.int .i64 d)∧W.cell? ⟨ib,4,none⟩=some (.int .u32 m)) (by kernel_rfl) (by kernel_rfl) (fun _ _ _ d _ h=>by cases d<;>exact h) ⟨c0,c1,c2,c3,c4⟩ ?_
   repeat (first|(refine zF (by rfl) (by rfl) (fun W=>by (go_simp;try with_reducible rfl)) (fun K hK=>?_);go_simp;refine hK _ ?_;clear hK K)|(refine zQ (by rfl) (by rfl) (fun W hW=>by (obtain ⟨d0,d1,d2,d3,d4⟩:=hW;go_simp;try with_reducible rfl)) (fun K hK=>?_);go_simp;refine hK _ ?_;clear hK K))
   refine zSr (by rfl) (by rfl) (fun K hK=>?_)
   go_simp
   refine (him _).mono ?_
   rintro e W2 ⟨rfl,hb⟩
   have B2:Hid _:=(B.out.pure ((Below.refl _ _).drew)).pure hb
   clear c0 c1 c2 c3 c4 hb B
   have B:Hid _:=B2.out
   clear B2
   have c0:=B.out.c0;have c1:=B.out.c1;have c2:=B.out.c2;have c3:=B.out.c3;have c4:=B.out.c4
   refine hK _ _ (fun _=>⟨c0,c1,c2,c3,c4⟩) ?_
   clear hK K
   repeat (first|(refine zF (by rfl) (by rfl) (fun W=>by (go_simp;try with_reducible rfl)) (fun K hK=>?_);go_simp;refine hK _ ?_;clear hK K)|(refine zQ (by rfl) (by rfl) (fun W hW=>by (obtain ⟨d0,d1,d2,d3,d4⟩:=hW;go_simp;try with_reducible rfl)) (fun K hK=>?_);go_simp;refine hK _ ?_;clear hK K))
   refine zSr (by rfl) (by rfl) (fun K hK=>?_)
   go_simp
   refine hK _ _ (fun _=>⟨c0,c1,c2,c3,c4⟩) ?_
   clear hK K
   refine zSr (by rfl) (by rfl) (fun K hK=>?_)
   go_simp
   refine (add_any B.out.f (by omega) ⟨#[108,111,97,100]⟩ t s z im 0).mono ?_
   rintro e W3 ⟨rfl,v3,F3,L3⟩
   have B3:Hid _:=B.out.add F3 L3
   clear c0 c1 c2 c3 c4 B F3 L3
   have B:Hid _:=B3.out
   clear B3
   have c0:=B.out.c0;have c1:=B.out.c1;have c2:=B.out.c2;have c3:=B.out.c3;have c4:=B.out.c4
   refine hK _ _ (fun _=>⟨c0,c1,c2,c3,c4⟩) ?_
   clear hK K
   refine zN ?_
   clear c0 c1 c2 c3 c4
   go_wp2
   go_end0
   have:=B.out.done
   exact this
  | true =>
   rw[if_pos rfl]
   go_enter Tryz.func107,Tryz.ntmps107
   go_upto_region 1 with fail
   generalize hW:w.alloc (.cells #[.int .i64 k,.int .i64 s,.int .i64 t,.int .i64 d,.int .u32 m] 113)=W at B ⊢
   generalize hib:w.heap.size=ib at B ⊢
   clear hW hib
   have c0:=B.out.c0;have c1:=B.out.c1;have c2:=B.out.c2;have c3:=B.out.c3;have c4:=B.out.c4
   go_wp2_with fail
   refine (hby _).mono ?_
   rintro e W1 ⟨rfl,hb⟩
   have B1:Hid _:=B.out.pure hb
   clear c0 c1 c2 c3 c4 hb B
   have B:Hid _:=B1.out
   clear B1
   have c0:=B.out.c0;have c1:=B.out.c1;have c2:=B.out.c2;have c3:=B.out.c3;have c4:=B.out.c4
   go_upto_region 7 with fail
   refine zP 9 [(0,0),(1,0),(2,0),(3,1),(4,0),(5,1),(6,2),(7,2),(8,2)] (fun W=>W.cell? ⟨ib,0,none⟩=some (.int .i64 k)∧W.cell? ⟨ib,1,none⟩=some (.int .i64 s)∧W.cell? ⟨ib,2,none⟩=some (.int .i64 t)∧W.cell? ⟨ib,3,none⟩=some (.int .i64 d)∧W.cell? ⟨ib,4,none⟩=some (.int .u32 m)) (by kernel_rfl) (by kernel_rfl) (fun _ _ _ d _ h=>by cases d<;>exact h) ⟨c0,c1,c2,c3,c4⟩ ?_
   repeat (first|(refine zF (by rfl) (by rfl) (fun W=>by (go_simp;try with_reducible rfl)) (fun K hK=>?_);go_simp;refine hK _ ?_;clear hK K)|(refine zQ (by rfl) (by rfl) (fun W hW=>by (obtain ⟨d0,d1,d2,d3,d4⟩:=hW;go_simp;try with_reducible rfl)) (fun K hK=>?_);go_simp;refine hK _ ?_;clear hK K))
   refine zSr (by rfl) (by rfl) (fun K hK=>?_)
   go_simp
   refine (him _).mono ?_
   rintro e W2 ⟨rfl,hb⟩
   have B2:Hid _:=(B.out.pure ((Below.refl _ _).drew)).pure hb
   clear c0 c1 c2 c3 c4 hb B
   have B:Hid _:=B2.out
   clear B2
   have c0:=B.out.c0;have c1:=B.out.c1;have c2:=B.out.c2;have c3:=B.out.c3;have c4:=B.out.c4
   refine hK _ _ (fun _=>⟨c0,c1,c2,c3,c4⟩) ?_
   clear hK K
   repeat (first|(refine zF (by rfl) (by rfl) (fun W=>by (go_simp;try with_reducible rfl)) (fun K hK=>?_);go_simp;refine hK _ ?_;clear hK K)|(refine zQ (by rfl) (by rfl) (fun W hW=>by (obtain ⟨d0,d1,d2,d3,d4⟩:=hW;go_simp;try with_reducible rfl)) (fun K hK=>?_);go_simp;refine hK _ ?_;clear hK K))
   refine zSr (by rfl) (by rfl) (fun K hK=>?_)
   go_simp
   refine hK _ _ (fun _=>⟨c0,c1,c2,c3,c4⟩) ?_
   clear hK K
   refine zSr (by rfl) (by rfl) (fun K hK=>?_)
   go_simp
   refine (add_any B.out.f (by omega) ⟨#[108,111,97,100]⟩ t s (-z) im 0).mono ?_
   rintro e W3 ⟨rfl,v3,F3,L3⟩
   have B3:Hid _:=B.out.add F3 L3
   clear c0 c1 c2 c3 c4 B F3 L3
   have B:Hid _:=B3.out
   clear B3
   have c0:=B.out.c0;have c1:=B.out.c1;have c2:=B.out.c2;have c3:=B.out.c3;have c4:=B.out.c4
   refine hK _ _ (fun _=>⟨c0,c1,c2,c3,c4⟩) ?_
   clear hK K
   refine zN ?_
   clear c0 c1 c2 c3 c4
   go_wp2
   go_end0
   have:=B.out.done
   exact this
end
set_option maxHeartbeats 8000000
section
variable {w0 w : World} {lb : Nat} {pc many at_ : Int} {l : List Opx} {v : Value}
theorem branchL_any (F:LAt w0 w lb pc many at_ l v) (hn:l.length≤900) (p0:0≤pc) (p1:pc<4294967296) (a0:0≤at_) (a1:at_≤30) (k:Nat) (hk:k=31∨k=32∨k=33∨k=34∨k=7∨k=8∨k=29∨k=30) (s t d m:Int) :
  Calls Tryz.prog 106 #[.pointer (some ⟨lb,0,none⟩),.agg #[.int .i64 k,.int .i64 s,.int .i64 t,.int .i64 d,.int .u32 m]] w (LP w0 w lb pc many at_ (l++brL pc ⟨k,s,t,d,m⟩ at_) v):=by
 rcases hk with rfl|rfl|rfl|rfl|rfl|rfl|rfl|rfl
 ·have B:Hid _:=LB.start F 31 s t d m
  clear F
  go_enter Tryz.func106,Tryz.ntmps106
  go_upto_region 1 with fail
  generalize hW:w.alloc (.cells #[.int .i64 31,.int .i64 s,.int .i64 t,.int .i64 d,.int .u32 m] 113)=W at B ⊢
  generalize hib:w.heap.size=ib at B ⊢
  clear hW hib
  have c0:=B.out.c0;have c1:=B.out.c1;have c2:=B.out.c2;have c3:=B.out.c3;have c4:=B.out.c4
  go_wp2_with fail
  refine (add_any B.out.f (by omega) ⟨#[120,111,114]⟩ 35 s t 0 0).mono ?_
  rintro e W1 ⟨rfl,v1,F1,L1⟩
  have B1:Hid _:=B.out.add F1 L1
  clear c0 c1 c2 c3 c4 B F1 L1
  have B:Hid _:=B1.out
  clear B1
  have c0:=B.out.c0;have c1:=B.out.c1;have c2:=B.out.c2;have c3:=B.out.c3;have c4:=B.out.c4
  have k0:=B.out.f.c0
  have k3:=B.out.f.c3
  go_upto_region 11 with fail
  go_quiet (fail)
  have hb:=bdN (Below.refl W1.heap.size W1) nq
  have B2:Hid _:=B.out.pure hb
  clear c0 c1 c2 c3 c4 hb B k0 k3
  have B:Hid _:=B2.out
  clear B2
  generalize W1.drewN nq=Wd at *
  have c0:=B.out.c0;have c1:=B.out.c1;have c2:=B.out.c2;have c3:=B.out.c3;have c4:=B.out.c4
  go_wp2
  go_end0
  have:=B.out.done
  exact this
 ·have B:Hid _:=LB.start F 32 s t d m
  clear F
  go_enter Tryz.func106,Tryz.ntmps106
  go_upto_region 1 with fail
  generalize hW:w.alloc (.cells #[.int .i64 32,.int .i64 s,.int .i64 t,.int .i64 d,.int .u32 m] 113)=W at B ⊢
  generalize hib:w.heap.size=ib at B ⊢
  clear hW hib
  have c0:=B.out.c0;have c1:=B.out.c1;have c2:=B.out.c2;have c3:=B.out.c3;have c4:=B.out.c4
  go_wp2_with fail
  refine (add_any B.out.f (by omega) ⟨#[120,111,114]⟩ 35 s t 0 0).mono ?_
  rintro e W1 ⟨rfl,v1,F1,L1⟩
  have B1:Hid _:=B.out.add F1 L1
  clear c0 c1 c2 c3 c4 B F1 L1
  have B:Hid _:=B1.out
  clear B1
  have c0:=B.out.c0;have c1:=B.out.c1;have c2:=B.out.c2;have c3:=B.out.c3;have c4:=B.out.c4
  have k0:=B.out.f.c0
  have k3:=B.out.f.c3
  go_upto_region 11 with fail
  go_quiet (fail)
  have hb:=bdN (Below.refl W1.heap.size W1) nq
  have B2:Hid _:=B.out.pure hb
  clear c0 c1 c2 c3 c4 hb B k0 k3
  have B:Hid _:=B2.out
  clear B2
  generalize W1.drewN nq=Wd at *
  have c0:=B.out.c0;have c1:=B.out.c1;have c2:=B.out.c2;have c3:=B.out.c3;have c4:=B.out.c4
  go_wp2
  go_end0
  have:=B.out.done
  exact this
 ·have B:Hid _:=LB.start F 33 s t d m
  clear F
  go_enter Tryz.func106,Tryz.ntmps106
  go_upto_region 1 with fail
  generalize hW:w.alloc (.cells #[.int .i64 33,.int .i64 s,.int .i64 t,.int .i64 d,.int .u32 m] 113)=W at B ⊢
  generalize hib:w.heap.size=ib at B ⊢
  clear hW hib
  have c0:=B.out.c0;have c1:=B.out.c1;have c2:=B.out.c2;have c3:=B.out.c3;have c4:=B.out.c4
  go_wp2_with fail
  refine (add_any B.out.f (by omega) ⟨#[115,108,116]⟩ 35 0 s 0 0).mono ?_
  rintro e W1 ⟨rfl,v1,F1,L1⟩
  have B1:Hid _:=B.out.add F1 L1
  clear c0 c1 c2 c3 c4 B F1 L1
  have B:Hid _:=B1.out
  clear B1
  have c0:=B.out.c0;have c1:=B.out.c1;have c2:=B.out.c2;have c3:=B.out.c3;have c4:=B.out.c4
  have k0:=B.out.f.c0
  have k3:=B.out.f.c3
  go_upto_region 11 with fail
  go_quiet (fail)
  have hb:=bdN (Below.refl W1.heap.size W1) nq
  have B2:Hid _:=B.out.pure hb
  clear c0 c1 c2 c3 c4 hb B k0 k3
  have B:Hid _:=B2.out
  clear B2
  generalize W1.drewN nq=Wd at *
  have c0:=B.out.c0;have c1:=B.out.c1;have c2:=B.out.c2;have c3:=B.out.c3;have c4:=B.out.c4
  go_wp2
  go_end0
  have:=B.out.done
  exact this
 ·have B:Hid _:=LB.start F 34 s t d m
  clear F
  go_enter Tryz.func106,Tryz.ntmps106
  go_upto_region 1 with fail
  generalize hW:w.alloc (.cells #[.int .i64 34,.int .i64 s,.int .i64 t,.int .i64 d,.int .u32 m] 113)=W at B ⊢
  generalize hib:w.heap.size=ib at B ⊢
  clear hW hib
  have c0:=B.out.c0;have c1:=B.out.c1;have c2:=B.out.c2;have c3:=B.out.c3;have c4:=B.out.c4
  go_wp2_with fail
  refine (add_any B.out.f (by omega) ⟨#[115,108,116]⟩ 35 0 s 0 0).mono ?_
  rintro e W1 ⟨rfl,v1,F1,L1⟩
  have B1:Hid _:=B.out.add F1 L1
  clear c0 c1 c2 c3 c4 B F1 L1
  have B:Hid _:=B1.out
  clear B1
  have c0:=B.out.c0;have c1:=B.out.c1;have c2:=B.out.c2;have c3:=B.out.c3;have c4:=B.out.c4
  have k0:=B.out.f.c0
  have k3:=B.out.f.c3
  go_upto_region 11 with fail
  go_quiet (fail)
  have hb:=bdN (Below.refl W1.heap.size W1) nq
  have B2:Hid _:=B.out.pure hb
  clear c0 c1 c2 c3 c4 hb B k0 k3
  have B:Hid _:=B2.out
  clear B2
  generalize W1.drewN nq=Wd at *
  have c0:=B.out.c0;have c1:=B.out.c1;have c2:=B.out.c2;have c3:=B.out.c3;have c4:=B.out.c4
  go_wp2
  go_end0
  have:=B.out.done
  exact this
 ·have B:Hid _:=LB.start F 7 s t d m
  clear F
  go_enter Tryz.func106,Tryz.ntmps106
  go_upto_region 1 with fail
  generalize hW:w.alloc (.cells #[.int .i64 7,.int .i64 s,.int .i64 t,.int .i64 d,.int .u32 m] 113)=W at B ⊢
  generalize hib:w.heap.size=ib at B ⊢
  clear hW hib
  have c0:=B.out.c0;have c1:=B.out.c1;have c2:=B.out.c2;have c3:=B.out.c3;have c4:=B.out.c4
  go_wp2_with fail
  refine (add_any B.out.f (by omega) ⟨#[99,111,112,121]⟩ 35 s 0 0 0).mono ?_
  rintro e W1 ⟨rfl,v1,F1,L1⟩
  have B1:Hid _:=B.out.add F1 L1
  clear c0 c1 c2 c3 c4 B F1 L1
  have B:Hid _:=B1.out
  clear B1
  have c0:=B.out.c0;have c1:=B.out.c1;have c2:=B.out.c2;have c3:=B.out.c3;have c4:=B.out.c4
  have k0:=B.out.f.c0
  have k3:=B.out.f.c3
  go_upto_region 11 with fail
  go_quiet (fail)
  have hb:=bdN (Below.refl W1.heap.size W1) nq
  have B2:Hid _:=B.out.pure hb
  clear c0 c1 c2 c3 c4 hb B k0 k3
  have B:Hid _:=B2.out
  clear B2
  generalize W1.drewN nq=Wd at *
  have c0:=B.out.c0;have c1:=B.out.c1;have c2:=B.out.c2;have c3:=B.out.c3;have c4:=B.out.c4
  go_wp2
  go_end0
  have:=B.out.done
  exact this
 ·have B:Hid _:=LB.start F 8 s t d m
  clear F
  go_enter Tryz.func106,Tryz.ntmps106
  go_upto_region 1 with fail
  generalize hW:w.alloc (.cells #[.int .i64 8,.int .i64 s,.int .i64 t,.int .i64 d,.int .u32 m] 113)=W at B ⊢
  generalize hib:w.heap.size=ib at B ⊢
  clear hW hib
  have c0:=B.out.c0;have c1:=B.out.c1;have c2:=B.out.c2;have c3:=B.out.c3;have c4:=B.out.c4
  go_wp2_with fail
  refine (add_any B.out.f (by omega) ⟨#[99,111,112,121]⟩ 35 s 0 0 0).mono ?_
  rintro e W1 ⟨rfl,v1,F1,L1⟩
  have B1:Hid _:=B.out.add F1 L1
  clear c0 c1 c2 c3 c4 B F1 L1
  have B:Hid _:=B1.out
  clear B1
  have c0:=B.out.c0;have c1:=B.out.c1;have c2:=B.out.c2;have c3:=B.out.c3;have c4:=B.out.c4
  have k0:=B.out.f.c0
  have k3:=B.out.f.c3
  go_upto_region 11 with fail
  go_quiet (fail)
  have hb:=bdN (Below.refl W1.heap.size W1) nq
  have B2:Hid _:=B.out.pure hb
  clear c0 c1 c2 c3 c4 hb B k0 k3
  have B:Hid _:=B2.out
  clear B2
  generalize W1.drewN nq=Wd at *
  have c0:=B.out.c0;have c1:=B.out.c1;have c2:=B.out.c2;have c3:=B.out.c3;have c4:=B.out.c4
  go_wp2_with fail
  refine (wrA B.out.f (by simp;omega) ⟨#[115,101,116]⟩ d 0 0 (linkI pc at_) 0).mono ?_
  rintro e W3 ⟨rfl,v3,F3,L3⟩
  have B3:Hid _:=B.out.add F3 L3
  clear c0 c1 c2 c3 c4 B F3 L3
  have B:Hid _:=B3.out
  clear B3
  have c0:=B.out.c0;have c1:=B.out.c1;have c2:=B.out.c2;have c3:=B.out.c3;have c4:=B.out.c4
  clear c0 c1 c2 c3 c4
  go_wp2
  go_end0
  have:=B.out.done
  rw[List.append_assoc]at this;exact this
 ·have B:Hid _:=LB.start F 29 s t d m
  clear F
  go_enter Tryz.func106,Tryz.ntmps106
  go_upto_region 1 with fail
  generalize hW:w.alloc (.cells #[.int .i64 29,.int .i64 s,.int .i64 t,.int .i64 d,.int .u32 m] 113)=W at B ⊢
  generalize hib:w.heap.size=ib at B ⊢
  clear hW hib
  have c0:=B.out.c0;have c1:=B.out.c1;have c2:=B.out.c2;have c3:=B.out.c3;have c4:=B.out.c4
  have k0:=B.out.f.c0
  have k3:=B.out.f.c3
  go_upto_region 11 with fail
  go_quiet (fail)
  have hb:=bdN (Below.refl W.heap.size W) nq
  have B2:Hid _:=B.out.pure hb
  clear c0 c1 c2 c3 c4 hb B k0 k3
  have B:Hid _:=B2.out
  clear B2
  generalize W.drewN nq=Wd at *
  have c0:=B.out.c0;have c1:=B.out.c1;have c2:=B.out.c2;have c3:=B.out.c3;have c4:=B.out.c4
  go_wp2
  go_end0
  have:=B.out.done
  show LP w0 w lb pc many at_ (l++[]) v _ _;rw[List.append_nil];exact this
 ·have B:Hid _:=LB.start F 30 s t d m
  clear F
  go_enter Tryz.func106,Tryz.ntmps106
  go_upto_region 1 with fail
  generalize hW:w.alloc (.cells #[.int .i64 30,.int .i64 s,.int .i64 t,.int .i64 d,.int .u32 m] 113)=W at B ⊢
  generalize hib:w.heap.size=ib at B ⊢
  clear hW hib
  have c0:=B.out.c0;have c1:=B.out.c1;have c2:=B.out.c2;have c3:=B.out.c3;have c4:=B.out.c4
  have k0:=B.out.f.c0
  have k3:=B.out.f.c3
  go_upto_region 11 with fail
  go_quiet (fail)
  have hb:=bdN (Below.refl W.heap.size W) nq
  have B2:Hid _:=B.out.pure hb
  clear c0 c1 c2 c3 c4 hb B k0 k3
  have B:Hid _:=B2.out
  clear B2
  generalize W.drewN nq=Wd at *
  have c0:=B.out.c0;have c1:=B.out.c1;have c2:=B.out.c2;have c3:=B.out.c3;have c4:=B.out.c4
  go_wp2_with fail
  refine (wrA B.out.f (by omega) ⟨#[115,101,116]⟩ 31 0 0 (linkI pc at_) 0).mono ?_
  rintro e W3 ⟨rfl,v3,F3,L3⟩
  have B3:Hid _:=B.out.add F3 L3
  clear c0 c1 c2 c3 c4 B F3 L3
  have B:Hid _:=B3.out
  clear B3
  have c0:=B.out.c0;have c1:=B.out.c1;have c2:=B.out.c2;have c3:=B.out.c3;have c4:=B.out.c4
  clear c0 c1 c2 c3 c4
  go_wp2
  go_end0
  have:=B.out.done
  exact this
end
set_option maxHeartbeats 8000000
section
variable {w0 w : World} {lb : Nat} {pc many at_ : Int} {l : List Opx} {v : Value}
theorem kd_2:∀ k,k<54→Tab.kdL.getD k 0=2→k=31∨k=32∨k=33∨k=34∨k=7∨k=8∨k=29∨k=30:=by decide
theorem kd_4:∀ k,k<54→Tab.kdL.getD k 0=4→46≤k∧k≤50:=by decide
theorem kd_5:∀ k,k<54→Tab.kdL.getD k 0=5→46≤k∧k≤53:=by decide
theorem kd_all:∀ k,k<54→Tab.kdL.getD k 0=1∨Tab.kdL.getD k 0=2∨Tab.kdL.getD k 0=3∨Tab.kdL.getD k 0=4∨Tab.kdL.getD k 0=5:=by decide
theorem lower_any (F:LAt w0 w lb pc many at_ l v) (hn:l.length≤900) (p0:0≤pc) (p1:pc<4294967296) (a0:0≤at_) (a1:at_≤30) (k:Nat) (hk:k<54) (s t d m:Int) (m0:0≤m) (m1:m<4294967296) (h3:Tab.kdL.getD k 0≠3) :
  Calls Tryz.prog 58 #[.pointer (some ⟨lb,0,none⟩),.agg #[.int .i64 k,.int .i64 s,.int .i64 t,.int .i64 d,.int .u32 m]] w (LP w0 w lb pc many at_ (l++insX pc ⟨k,s,t,d,m⟩ at_) v):=by
 have hki:=fun W=>K.kind_nat k hk _ rfl W
 change ∀ W,Calls Tryz.prog 91 #[.int .i64 k] W fun e w'=>e=.returned (.string ⟨(Tab.kwL.getD (Tab.kdL.getD k 0) []).toArray⟩)∧w'=W at hki
 have hin:insX pc ⟨k,s,t,d,m⟩ at_=if Tab.kdL.getD k 0=2 then brL pc ⟨k,s,t,d,m⟩ at_ else if Tab.kdL.getD k 0=4 then ldL ⟨k,s,t,d,m⟩ at_ else if Tab.kdL.getD k 0=5 then stL ⟨k,s,t,d,m⟩ at_ else sumL ⟨k,s,t,d,m⟩ at_:=by
  unfold insX
  have e:Ix.kd ⟨k,s,t,d,m⟩=Tab.kdL.getD k 0:=by unfold Ix.kd;rw[if_pos (by simp;omega)];rfl
  rw[e]
 rw[hin]
 clear hin
 have hb2:=kd_2 k hk
 have hb4:=kd_4 k hk
 have hb5:=kd_5 k hk
 have him:=fun W=>immC_any (w:=W) k s t d m m0 m1
 have B:Hid _:=LB.start F k s t d m
 have hc:=kd_all k hk
 clear F
 generalize Tab.kdL.getD k 0=kd at *
 rcases hc with rfl|rfl|rfl|rfl|rfl
 ·clear hb2 hb4 hb5
  rw[show Tab.kwL.getD 1 []=[115,117,109] from rfl]at hki
  go_enter Tryz.func58,Tryz.ntmps58
  go_upto_region 1 with fail
  generalize hW:w.alloc (.cells #[.int .i64 k,.int .i64 s,.int .i64 t,.int .i64 d,.int .u32 m] 113)=W at B ⊢
  generalize hib:w.heap.size=ib at B ⊢
  clear hW hib
  have c0:=B.out.c0;have c1:=B.out.c1;have c2:=B.out.c2;have c3:=B.out.c3;have c4:=B.out.c4
  go_wp2_with fail
  refine (hki _).mono ?_
  rintro e W1 ⟨rfl,hb⟩
  rw[hb];clear hb
  go_wp2_with fail
  refine (sumL_any B.out.f hn k s t d m m0 m1).mono ?_
  rintro e W2 ⟨rfl,v2,F2,L2⟩
  have B2:Hid _:=B.out.add F2 L2
  clear c0 c1 c2 c3 c4 B F2 L2
  have B:Hid _:=B2.out
  clear B2
  have c0:=B.out.c0;have c1:=B.out.c1;have c2:=B.out.c2;have c3:=B.out.c3;have c4:=B.out.c4
  clear c0 c1 c2 c3 c4
  go_wp2
  go_end0
  have:=B.out.done
  exact this
 ·have hb:=hb2 rfl
  clear hb2 hb4 hb5
  rw[show Tab.kwL.getD 2 []=[98,114,97,110,99,104] from rfl]at hki
  go_enter Tryz.func58,Tryz.ntmps58
  go_upto_region 1 with fail
  generalize hW:w.alloc (.cells #[.int .i64 k,.int .i64 s,.int .i64 t,.int .i64 d,.int .u32 m] 113)=W at B ⊢
  generalize hib:w.heap.size=ib at B ⊢
  clear hW hib
  have c0:=B.out.c0;have c1:=B.out.c1;have c2:=B.out.c2;have c3:=B.out.c3;have c4:=B.out.c4
  go_wp2_with fail
  refine (hki _).mono ?_
  rintro e W1 ⟨rfl,hb⟩
  rw[hb];clear hb
  go_wp2_with fail
  refine (branchL_any B.out.f hn p0 p1 a0 a1 k hb s t d m).mono ?_
  rintro e W2 ⟨rfl,v2,F2,L2⟩
  have B2:Hid _:=B.out.add F2 L2
  clear c0 c1 c2 c3 c4 B F2 L2
  have B:Hid _:=B2.out
  clear B2
  have c0:=B.out.c0;have c1:=B.out.c1;have c2:=B.out.c2;have c3:=B.out.c3;have c4:=B.out.c4
  clear c0 c1 c2 c3 c4
  go_wp2
  go_end0
  have:=B.out.done
  exact this
 ·exact absurd rfl h3
 ·have hb:=hb4 rfl
  clear hb2 hb4 hb5
  rw[show Tab.kwL.getD 4 []=[108,111,97,100] from rfl]at hki
  go_enter Tryz.func58,Tryz.ntmps58
  go_upto_region 1 with fail
  generalize hW:w.alloc (.cells #[.int .i64 k,.int .i64 s,.int .i64 t,.int .i64 d,.int .u32 m] 113)=W at B ⊢
  generalize hib:w.heap.size=ib at B ⊢
  clear hW hib
  have c0:=B.out.c0;have c1:=B.out.c1;have c2:=B.out.c2;have c3:=B.out.c3;have c4:=B.out.c4
  go_wp2_with fail
  refine (hki _).mono ?_
  rintro e W1 ⟨rfl,hb⟩
  rw[hb];clear hb
  go_wp2_with fail
  refine (loadL_any B.out.f hn k hb s t d m m0 m1).mono ?_
  rintro e W2 ⟨rfl,v2,F2,L2⟩
  have B2:Hid _:=B.out.add F2 L2
  clear c0 c1 c2 c3 c4 B F2 L2
  have B:Hid _:=B2.out
  clear B2
  have c0:=B.out.c0;have c1:=B.out.c1;have c2:=B.out.c2;have c3:=B.out.c3;have c4:=B.out.c4
  clear c0 c1 c2 c3 c4
  go_wp2
  go_end0
  have:=B.out.done
  exact this
 ·have hby:=fun W=>bytesC_any (w:=W) k (hb5 rfl)
  have e:stL ⟨k,s,t,d,m⟩ at_=[⟨kindS 24,szI k,s,t,immI k m,at_⟩]:=rfl
  rw[if_neg (by decide),if_neg (by decide),if_pos rfl,e]
  clear e hb2 hb4 hb5
  generalize szI k=z at *
  generalize sgI k=g at *
  generalize immI k m=im at *
  rw[show Tab.kwL.getD 5 []=[115,116,111,114,101] from rfl]at hki
  go_enter Tryz.func58,Tryz.ntmps58
  go_upto_region 1 with fail
  generalize hW:w.alloc (.cells #[.int .i64 k,.int .i64 s,.int .i64 t,.int .i64 d,.int .u32 m] 113)=W at B ⊢
  generalize hib:w.heap.size=ib at B ⊢
  clear hW hib
  have c0:=B.out.c0;have c1:=B.out.c1;have c2:=B.out.c2;have c3:=B.out.c3;have c4:=B.out.c4
  go_wp2_with fail
  refine (hki _).mono ?_
  rintro e W1 ⟨rfl,hb⟩
  rw[hb];clear hb
  go_wp2_with fail
  refine (hby _).mono ?_
  rintro e W2 ⟨rfl,hb⟩
  have B2:Hid _:=B.out.pure hb
  clear c0 c1 c2 c3 c4 hb B
  have B:Hid _:=B2.out
  clear B2
  have c0:=B.out.c0;have c1:=B.out.c1;have c2:=B.out.c2;have c3:=B.out.c3;have c4:=B.out.c4
  go_upto_region 9 with fail
  refine zP 10 [(0,0),(1,0),(2,0),(3,1),(4,0),(5,1),(6,1),(7,2),(8,2),(9,2)] (fun W=>W.cell? ⟨ib,0,none⟩=some (.int .i64 k)∧W.cell? ⟨ib,1,none⟩=some (.int .i64 s)∧W.cell? ⟨ib,2,none⟩=some (.int .i64 t)∧W.cell? ⟨ib,3,none⟩=some (.int .i64 d)∧W.cell? ⟨ib,4,none⟩=some (.int .u32 m)) (by kernel_rfl) (by kernel_rfl) (fun _ _ _ d _ h=>by cases d<;>exact h) ⟨c0,c1,c2,c3,c4⟩ ?_
  repeat (first|(refine zF (by rfl) (by rfl) (fun W=>by (go_simp;try with_reducible rfl)) (fun K hK=>?_);go_simp;refine hK _ ?_;clear hK K)|(refine zQ (by rfl) (by rfl) (fun W hW=>by (obtain ⟨d0,d1,d2,d3,d4⟩:=hW;go_simp;try with_reducible rfl)) (fun K hK=>?_);go_simp;refine hK _ ?_;clear hK K))
  refine zSr (by rfl) (by rfl) (fun K hK=>?_)
  go_simp
  refine (him _).mono ?_
  rintro e W3 ⟨rfl,hb⟩
  have B3:Hid _:=(B.out.pure ((Below.refl _ _).drew)).pure hb
  clear c0 c1 c2 c3 c4 hb B
  have B:Hid _:=B3.out
  clear B3
  have c0:=B.out.c0;have c1:=B.out.c1;have c2:=B.out.c2;have c3:=B.out.c3;have c4:=B.out.c4
  refine hK _ _ (fun _=>⟨c0,c1,c2,c3,c4⟩) ?_
  clear hK K
  repeat (first|(refine zF (by rfl) (by rfl) (fun W=>by (go_simp;try with_reducible rfl)) (fun K hK=>?_);go_simp;refine hK _ ?_;clear hK K)|(refine zQ (by rfl) (by rfl) (fun W hW=>by (obtain ⟨d0,d1,d2,d3,d4⟩:=hW;go_simp;try with_reducible rfl)) (fun K hK=>?_);go_simp;refine hK _ ?_;clear hK K))
  refine zSr (by rfl) (by rfl) (fun K hK=>?_)
  go_simp
  refine hK _ _ (fun _=>⟨c0,c1,c2,c3,c4⟩) ?_
  clear hK K
  refine zSr (by rfl) (by rfl) (fun K hK=>?_)
  go_simp
  refine (add_any B.out.f (by omega) ⟨#[115,116,111,114,101]⟩ z s t im 0).mono ?_
  rintro e W4 ⟨rfl,v4,F4,L4⟩
  have B4:Hid _:=B.out.add F4 L4
  clear c0 c1 c2 c3 c4 B F4 L4
  have B:Hid _:=B4.out
  clear B4
  have c0:=B.out.c0;have c1:=B.out.c1;have c2:=B.out.c2;have c3:=B.out.c3;have c4:=B.out.c4
  refine hK _ _ (fun _=>⟨c0,c1,c2,c3,c4⟩) ?_
  clear hK K
  refine zN ?_
  clear c0 c1 c2 c3 c4
  go_wp2
  go_end0
  have:=B.out.done
  exact this
end
end Go.Proofs.YtflagpkmebdckaaGreatDoor.Low
