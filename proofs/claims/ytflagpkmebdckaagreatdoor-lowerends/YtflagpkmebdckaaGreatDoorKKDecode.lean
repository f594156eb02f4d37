
import Derived.Deep.RegionWith
import Derived.Test.YtflagpkmebdckaaGreatDoorKNum
import Derived.Test.YtflagpkmebdckaaGreatDoorKWatch
import Derived.Test.YtflagpkmebdckaaGreatDoorQIrChk
import Derived.Test.YtflagpkmebdckaaGreatDoorQIrChk2
import Derived.Test.YtflagpkmebdckaaGreatDoorKApp
import Derived.Test.YtflagpkmebdckaaGreatDoorQIrChk3
import Derived.Test.YtflagpkmebdckaaGreatDoorKOptFns
import Derived.Test.YtflagpkmebdckaaGreatDoorKKEnc
import Derived.Test.YtflagpkmebdckaaGreatDoorKDoc1
namespace Go.Proofs.YtflagpkmebdckaaGreatDoor.K
open Go.RowKit Go.Extern.Stop Go.Stop Go.Extern
open Num Tab
set_option linter.unusedVariables false
section
variable {C : Nat} {w wr : World} {l : List UInt8} {p : Nat} {o s t d m : Int}
end
end Go.Proofs.YtflagpkmebdckaaGreatDoor.K
namespace Go.Proofs.YtflagpkmebdckaaGreatDoor
open Num
set_option linter.unusedVariables false
def u32 (x:Int):Prop:=0≤x∧x<4294967296
theorem u32_and_bd {a b:Int} (ha:u32 a) (hb:u32 b):u32 (bits .and .u32 a b):=by
 obtain ⟨x,rfl⟩:∃ n:Nat,a=n:=⟨a.toNat,by have:=ha.1;omega⟩
 obtain ⟨y,rfl⟩:∃ n:Nat,b=n:=⟨b.toNat,by have:=hb.1;omega⟩
 have h1:=ha.2
 have h2:=hb.2
 rw[u32_and_nat x y (by omega) (by omega)]
 exact ⟨by omega,by have:x &&& y≤x:=Nat.and_le_left;omega⟩
theorem u32_or_bd {a b:Int} (ha:u32 a) (hb:u32 b):u32 (bits .or .u32 a b):=by
 obtain ⟨x,rfl⟩:∃ n:Nat,a=n:=⟨a.toNat,by have:=ha.1;omega⟩
 obtain ⟨y,rfl⟩:∃ n:Nat,b=n:=⟨b.toNat,by have:=hb.1;omega⟩
 have h1:=ha.2
 have h2:=hb.2
 rw[u32_or_nat x y (by omega) (by omega)]
 exact ⟨by omega,by have:x ||| y<2^32:=Nat.or_lt_two_pow (by omega) (by omega);omega⟩
theorem u32_xor_bd {a b:Int} (ha:u32 a) (hb:u32 b):u32 (bits .xor .u32 a b):=by
 obtain ⟨x,rfl⟩:∃ n:Nat,a=n:=⟨a.toNat,by have:=ha.1;omega⟩
 obtain ⟨y,rfl⟩:∃ n:Nat,b=n:=⟨b.toNat,by have:=hb.1;omega⟩
 have h1:=ha.2
 have h2:=hb.2
 rw[u32_xor_nat x y (by omega) (by omega)]
 exact ⟨by omega,by have:x ^^^ y<2^32:=Nat.xor_lt_two_pow (by omega) (by omega);omega⟩
theorem u32_ite {c:Prop} [Decidable c] {x y:Int} (hx:u32 x) (hy:u32 y):u32 (if c then x else y):=by split<;>assumption
theorem valV_bd (k:Nat) {a b d i:Int} (ha:u32 a) (hb:u32 b) (hd:u32 d) (hi:u32 i):u32 (valV k a b d i):=by
 have h1:u32 1:=⟨by omega,by omega⟩
 have h0:u32 0:=⟨by omega,by omega⟩
 unfold valV
 repeat' (first|exact shf_bd ha.1 ha.2|apply u32_ite)
 all_goals first|assumption|exact lo_bd _|exact hi_bd _|exact u32_and_bd ha hb|exact u32_or_bd ha hb|exact u32_xor_bd ha hb|exact u32_xor_bd ⟨by omega,by omega⟩ (u32_or_bd ha hb)|exact shf_bd ha.1 ha.2|exact quo_bd _ _ _|exact rst_bd _ _ _
end Go.Proofs.YtflagpkmebdckaaGreatDoor
namespace Go.Proofs.YtflagpkmebdckaaGreatDoor
open Go.RowKit Go.Maps
open Num
set_option linter.unusedVariables false
structure St where
 r:Nat→Int
 hi:Int
 lo:Int
 pc:Int
 nx:Int
 sl:Bool
 st:Int
 ca:Int
 ep:Int
 bd:Int
 cm:Int
 ct:Int
structure St.ok (S:St):Prop where
 r:∀ i,u32 (S.r i)
 hi:u32 S.hi
 lo:u32 S.lo
 pc:u32 S.pc
 nx:u32 S.nx
 st:u32 S.st
 ca:u32 S.ca
 ep:u32 S.ep
 bd:u32 S.bd
 cm:u32 S.cm
 c0:-9223372036854775808≤S.ct
 c1:S.ct<9223372036854775807
def stV (S:St) (j:Nat):Value :=
 if j<32 then .int .u32 (S.r j) else if j=32 then .int .u32 S.hi else if j=33 then .int .u32 S.lo else if j=34 then .int .u32 S.pc else if j=35 then .int .u32 S.nx else if j=36 then .bool S.sl else if j=37 then .int .u32 S.st else if j=38 then .int .u32 S.ca else if j=39 then .int .u32 S.ep else if j=40 then .int .u32 S.bd else if j=41 then .int .u32 S.cm else .int .i64 S.ct
structure StAt (w:World) (sb:Nat) (S:St):Prop where
 c:∀ j,j<43→w.cell? ⟨sb,j,none⟩=some (stV S j)
 fz:∀ j,w.frozen? ⟨sb,j,none⟩=false
theorem StAt.lt {w:World} {sb:Nat} {S:St} (h:StAt w sb S):sb<w.heap.size:=World.block_lt_of_cell? _ _ (h.c 0 (by omega))
theorem StAt.block {w w':World} {sb:Nat} {S:St} (h:StAt w sb S) (hb:w'.heap[sb]?=w.heap[sb]?):StAt w' sb S :=
 ⟨fun j hj=>(World.cell?_of_block (a:=⟨sb,j,none⟩) hb).trans (h.c j hj),fun j=>(World.frozen?_of_block (a:=⟨sb,j,none⟩) hb).trans (h.fz j)⟩
theorem StAt.stays {w w':World} {sb:Nat} {S:St} (h:StAt w sb S) (hb:Below w.heap.size w w'):StAt w' sb S:=h.block (hb.block _ h.lt)
theorem StAt.drew {w:World} {sb:Nat} {S:St} (h:StAt w sb S):StAt w.drew sb S:=⟨h.c,h.fz⟩
theorem StAt.drewN {w:World} {sb:Nat} {S:St} (h:StAt w sb S) (n:Nat):StAt (w.drewN n) sb S:=⟨h.c,h.fz⟩
theorem StAt.put {w:World} {sb:Nat} {S S':St} {j:Nat} {v:Value} (h:StAt w sb S) (hj:j<43) (hv:stV S' j=v) (ho:∀ i,i<43→i≠j→stV S' i=stV S i):StAt (w.setCell ⟨sb,j,none⟩ v) sb S':=by
 refine ⟨fun i hi=>?_,fun i=>by rw[World.frozen?_setCell];exact h.fz i⟩
 by_cases e:i=j
 ·subst e;rw[World.cell?_setCell_same _ _ _ (h.c i hi),hv]
 ·rw[World.cell?_setCell_other _ _ _ _ (by intro e';injection e' with e1 e2;exact e e2.symm),h.c i hi,ho i hi e]
theorem StAt.told {w:World} {sb:Nat} {S:St} (h:StAt w sb S):w.cell? ⟨sb,32,none⟩=some (.int .u32 S.hi)∧w.cell? ⟨sb,33,none⟩=some (.int .u32 S.lo)∧w.cell? ⟨sb,34,none⟩=some (.int .u32 S.pc)∧w.cell? ⟨sb,35,none⟩=some (.int .u32 S.nx)∧w.cell? ⟨sb,36,none⟩=some (.bool S.sl)∧w.cell? ⟨sb,37,none⟩=some (.int .u32 S.st)∧w.cell? ⟨sb,38,none⟩=some (.int .u32 S.ca)∧w.cell? ⟨sb,39,none⟩=some (.int .u32 S.ep)∧w.cell? ⟨sb,40,none⟩=some (.int .u32 S.bd)∧w.cell? ⟨sb,41,none⟩=some (.int .u32 S.cm)∧w.cell? ⟨sb,42,none⟩=some (.int .i64 S.ct) :=
 ⟨h.c 32 (by omega),h.c 33 (by omega),h.c 34 (by omega),h.c 35 (by omega),h.c 36 (by omega),h.c 37 (by omega),h.c 38 (by omega),h.c 39 (by omega),h.c 40 (by omega),h.c 41 (by omega),h.c 42 (by omega)⟩
theorem StAt.reg {w:World} {sb:Nat} {S:St} (h:StAt w sb S) {i:Nat} (hi:i<32):w.cell? ⟨sb,i,none⟩=some (.int .u32 (S.r i)):=by
 rw[h.c i (by omega)];unfold stV;rw[if_pos hi]
abbrev StRow (w:World) (b:Nat) (S:St):Prop:=RowIs w b 25 43 (stV S)
theorem StRow.at {w:World} {b:Nat} {S:St} (h:StRow w b S):StAt w b S:=⟨fun j hj=>h.cell hj,fun j=>h.fz j⟩
end Go.Proofs.YtflagpkmebdckaaGreatDoor
namespace Go.Proofs.YtflagpkmebdckaaGreatDoor
open Go.RowKit
open Num
set_option linter.unusedVariables false
set_option maxHeartbeats 1000000
theorem isSize_any (n:Int) (ld:Bool) (w:World):Calls Tryz.prog 123 #[.int .i64 n,.bool ld] w fun e w'=>e=.returned (.bool (alw (if ld=true then 3 else 4) n))∧w'=w:=by
 cases ld with
 | false =>
  have e0:Hid (alw 4 n=((n==1)||(n==2)||(n==4))):=by show _=_;unfold alw;rw[Bool.eq_iff_iff];simp;omega
  show Calls _ _ _ _ fun e w'=>e=.returned (.bool (alw 4 n))∧w'=w
  by_cases h1:n=1
  ·subst h1
   go_enter Tryz.func123,Tryz.ntmps123
   go_wp2
   go_ret
   exact ⟨by rw[e0.out];rfl,rfl⟩
  by_cases h2:n=2
  ·subst h2
   go_enter Tryz.func123,Tryz.ntmps123
   go_wp2
   go_ret
   exact ⟨by rw[e0.out];rfl,rfl⟩
  by_cases h4:n=4
  ·subst h4
   go_enter Tryz.func123,Tryz.ntmps123
   go_wp2
   go_ret
   exact ⟨by rw[e0.out];rfl,rfl⟩
  have g1:(n==1)=false:=by simpa using h1
  have g2:(n==2)=false:=by simpa using h2
  have g4:(n==4)=false:=by simpa using h4
  have e1:Hid (alw 4 n=false):=by show _=_;rw[e0.out,g1,g2,g4];rfl
  clear h1 h2 h4
  go_enter Tryz.func123,Tryz.ntmps123
  go_wp2
  go_ret
  exact ⟨by rw[e1.out];simp,rfl⟩
 | true =>
  have e0:Hid (alw 3 n=((n==1)||(n==2)||(n==4)||(n==-1)||(n==-2))):=by show _=_;unfold alw;rw[Bool.eq_iff_iff];simp;omega
  show Calls _ _ _ _ fun e w'=>e=.returned (.bool (alw 3 n))∧w'=w
  by_cases h1:n=1
  ·subst h1
   go_enter Tryz.func123,Tryz.ntmps123
   go_wp2
   go_ret
   exact ⟨by rw[e0.out];rfl,rfl⟩
  by_cases h2:n=2
  ·subst h2
   go_enter Tryz.func123,Tryz.ntmps123
   go_wp2
   go_ret
   exact ⟨by rw[e0.out];rfl,rfl⟩
  by_cases h4:n=4
  ·subst h4
   go_enter Tryz.func123,Tryz.ntmps123
   go_wp2
   go_ret
   exact ⟨by rw[e0.out];rfl,rfl⟩
  by_cases hm1:n=-1
  ·subst hm1
   go_enter Tryz.func123,Tryz.ntmps123
   go_wp2
   go_ret
   exact ⟨by rw[e0.out];rfl,rfl⟩
  by_cases hm2:n=-2
  ·subst hm2
   go_enter Tryz.func123,Tryz.ntmps123
   go_wp2
   go_ret
   exact ⟨by rw[e0.out];rfl,rfl⟩
  have g1:(n==1)=false:=by simpa using h1
  have g2:(n==2)=false:=by simpa using h2
  have g4:(n==4)=false:=by simpa using h4
  have gm1:(n==-1)=false:=by simpa using hm1
  have gm2:(n==-2)=false:=by simpa using hm2
  have e1:Hid (alw 3 n=false):=by show _=_;rw[e0.out,g1,g2,g4,gm1,gm2];rfl
  clear h1 h2 h4 hm1 hm2
  go_enter Tryz.func123,Tryz.ntmps123
  go_wp2
  go_ret
  exact ⟨by rw[e1.out];simp,rfl⟩
structure BoxOd (W:World) (x:Nat) (o:Opx):Prop where
 c0:W.cell? ⟨x,0,none⟩=some (.string o.s)
 c1:W.cell? ⟨x,1,none⟩=some (.int .i64 o.d)
 c2:W.cell? ⟨x,2,none⟩=some (.int .i64 o.a)
 c3:W.cell? ⟨x,3,none⟩=some (.int .i64 o.b)
 c4:W.cell? ⟨x,4,none⟩=some (.int .u32 o.i)
 c5:W.cell? ⟨x,5,none⟩=some (.int .i64 o.t)
theorem BoxOd.new (w:World) (o:Opx):BoxOd (w.alloc (.cells #[.string o.s,.int .i64 o.d,.int .i64 o.a,.int .i64 o.b,.int .u32 o.i,.int .i64 o.t] 139)) w.heap.size o:=⟨bcD,bcD,bcD,bcD,bcD,bcD⟩
theorem opE_2 {o:Opx} {many:Int} (h0:o.k≠0) (h:bndB o many=false):opE o many=2:=by unfold opE;rw[if_neg h0,if_pos h]
theorem opE_3 {o:Opx} {many:Int} (h0:o.k≠0) (h:bndB o many=true) (h2:shpB o=false):opE o many=3:=by unfold opE;rw[if_neg h0,if_neg (by rw[h];simp),if_pos h2]
theorem opE_0 {o:Opx} {many:Int} (h0:o.k≠0) (h:bndB o many=true) (h2:shpB o=true):opE o many=0:=by unfold opE;rw[if_neg h0,if_neg (by rw[h];simp),if_neg (by rw[h2];simp)]
def gB (T:Nat):Nat→Nat→Nat→Nat
 | 0,_,_=>0
 | n+1,x,y=>(T/2^(2*(x%2)+y%2))%2+2*gB T n (x/2) (y/2)
theorem gB_zero (T x y:Nat):gB T 0 x y=0:=rfl
theorem gB_succ (T n x y:Nat):gB T (n+1) x y=(T/2^(2*(x%2)+y%2))%2+2*gB T n (x/2) (y/2):=rfl
theorem gB_bd (T:Nat):∀ n x y,gB T n x y<2^n
 | 0,_,_=>by simp[gB]
 | n+1,x,y=>by
  have h1:=gB_bd T n (x/2) (y/2)
  have h2:=Nat.mod_lt (T/2^(2*(x%2)+y%2)) (show 0<2 by omega)
  unfold gB
  rw[Nat.pow_succ]
  omega
theorem two_ways (x:Nat):x%2=0∨x%2=1:=by omega
theorem gB_and:∀ n x y,x<2^n→y<2^n→gB 8 n x y=x &&& y
 | 0,x,y,hx,hy=>by simp at hx hy;subst hx;subst hy;rfl
 | n+1,x,y,hx,hy=>by
  rw[Nat.pow_succ]at hx hy
  have ih:=gB_and n (x/2) (y/2) (by omega) (by omega)
  have hd:(x &&& y)/2=x/2 &&& y/2:=by have:=@Nat.shiftRight_and_distrib 1 x y;simpa [Nat.shiftRight_succ] using this
  have hm:(x &&& y)%2=(x%2) &&& (y%2):=by have:=@Nat.and_mod_two_pow x y 1;rwa [Nat.pow_one]at this
  unfold gB
  rw[ih,←hd]
  clear hd ih
  generalize (x &&& y)=z at *
  rcases two_ways x with h|h<;>rcases two_ways y with g|g<;>rw[h,g]at hm<;>rw[h,g]<;>simp at hm ⊢<;>omega
theorem gB_or:∀ n x y,x<2^n→y<2^n→gB 14 n x y=x ||| y
 | 0,x,y,hx,hy=>by simp at hx hy;subst hx;subst hy;rfl
 | n+1,x,y,hx,hy=>by
  rw[Nat.pow_succ]at hx hy
  have ih:=gB_or n (x/2) (y/2) (by omega) (by omega)
  have hd:(x ||| y)/2=x/2 ||| y/2:=by have:=@Nat.shiftRight_or_distrib 1 x y;simpa [Nat.shiftRight_succ] using this
  have hm:(x ||| y)%2=(x%2) ||| (y%2):=by have:=@Nat.or_mod_two_pow x y 1;rwa [Nat.pow_one]at this
  unfold gB
  rw[ih,←hd]
  clear hd ih
  generalize (x ||| y)=z at *
  rcases two_ways x with h|h<;>rcases two_ways y with g|g<;>rw[h,g]at hm<;>rw[h,g]<;>simp at hm ⊢<;>omega
theorem gB_xor:∀ n x y,x<2^n→y<2^n→gB 6 n x y=x ^^^ y
 | 0,x,y,hx,hy=>by simp at hx hy;subst hx;subst hy;rfl
 | n+1,x,y,hx,hy=>by
  rw[Nat.pow_succ]at hx hy
  have ih:=gB_xor n (x/2) (y/2) (by omega) (by omega)
  have hd:(x ^^^ y)/2=x/2 ^^^ y/2:=by have:=@Nat.shiftRight_xor_distrib 1 x y;simpa [Nat.shiftRight_succ] using this
  have hm:(x ^^^ y)%2=(x%2) ^^^ (y%2):=by have:=@Nat.xor_mod_two_pow x y 1;rwa [Nat.pow_one]at this
  unfold gB
  rw[ih,←hd]
  clear hd ih
  generalize (x ^^^ y)=z at *
  rcases two_ways x with h|h<;>rcases two_ways y with g|g<;>rw[h,g]at hm<;>rw[h,g]<;>simp at hm ⊢<;>omega
theorem gB_nor (n x y:Nat):gB 1 n x y+gB 14 n x y+1=2^n:=by
 induction n generalizing x y with
 | zero=>simp[gB]
 | succ n ih =>
  have:=ih (x/2) (y/2)
  unfold gB
  rw[Nat.pow_succ]
  rcases two_ways x with h|h<;>rcases two_ways y with g|g<;>rw[h,g]<;>simp<;>omega
set_option maxHeartbeats 400000
attribute [local irreducible] gB
theorem bits_walk (T a b:Nat) (hT:T≤15) (ha:a<4294967296) (hb:b<4294967296) (w:World) :
  Calls Tryz.prog 227 #[.int .u32 (a:Int),.int .u32 (b:Int),.int .i64 (T:Int)] w fun e w'=>e=.returned (.int .u32 ((gB T 32 a b:Nat):Int))∧w'=w:=by
 have ha':(a:Int)<4294967296:=by omega
 have hb':(b:Int)<4294967296:=by omega
 have hT':(T:Int)≤15:=by omega
 have HGB:Hid (gB T 32 a b<4294967296):=gB_bd T 32 a b
 obtain ⟨R,hR⟩:∃ R,gB T 32 a b=R:=⟨_,rfl⟩
 rw[hR]at HGB ⊢
 have HG0:Hid (R=gB T 32 a b):=hR.symm
 clear hR
 go_enter Tryz.func227,Tryz.ntmps227
 go_wp2
 go_loop [7,8,9,10,11] (fun o p x y i=>∃ (n O P X Y:Nat),n≤32∧i=.int .i64 n∧o=.int .i64 O∧p=.int .i64 P∧x=.int .i64 X∧y=.int .i64 Y∧O<P∧P=2^n∧X<4294967296∧Y<4294967296∧R=O+P*gB T (32-n) X Y) (fun _ _ _ _ i=>32-(intOf i).toNat)
 case atStart=>exact ⟨0,0,1,a,b,by omega,rfl,rfl,rfl,rfl,rfl,by omega,rfl,ha,hb,by rw[Nat.zero_add,Nat.one_mul,Nat.sub_zero];exact HG0.out⟩
 case round =>
  obtain ⟨n,O,P,X,Y,hn,rfl,rfl,rfl,rfl,rfl,hO,hP,hX,hY,hG⟩:=hrel
  have HP:Hid (P=2^n):=hP
  have HG:Hid (R=O+P*gB T (32-n) X Y):=hG
  have hPb:P≤4294967296:=by rw[hP];exact Nat.le_trans (Nat.pow_le_pow_right (n:=2) (by omega) hn) (by decide)
  clear hP hG HG0
  by_cases hlt:n<32
  ·obtain ⟨p,X',hXe,hp,hpd,hpm⟩:∃ p X':Nat,X=2*X'+p∧p<2∧X/2=X'∧X%2=p:=⟨X%2,X/2,by omega,by omega,rfl,rfl⟩
   obtain ⟨q,Y',hYe,hq,hqd,hqm⟩:∃ q Y':Nat,Y=2*Y'+q∧q<2∧Y/2=Y'∧Y%2=q:=⟨Y%2,Y/2,by omega,by omega,rfl,rfl⟩
   have HS:Hid (gB T (32-n) X Y=(T/2^(2*p+q))%2+2*gB T (32-(n+1)) X' Y'):=by
    show _=_
    rw[show 32-n=(32-(n+1))+1 by omega,gB_succ,hpd,hpm,hqd,hqm]
   have x1:(X:Int)%2=p:=by omega
   have x2:(X:Int)/2=X':=by omega
   have y1:(Y:Int)%2=q:=by omega
   have y2:(Y:Int)/2=Y':=by omega
   have x3:(X:Int).tmod 2=p:=by rw[Int.tmod_eq_emod_of_nonneg (by omega)];exact x1
   have x4:(X:Int).tdiv 2=X':=by rw[Int.tdiv_eq_ediv_of_nonneg (by omega)];exact x2
   have y3:(Y:Int).tmod 2=q:=by rw[Int.tmod_eq_emod_of_nonneg (by omega)];exact y1
   have y4:(Y:Int).tdiv 2=Y':=by rw[Int.tdiv_eq_ediv_of_nonneg (by omega)];exact y2
   have hX':X'<4294967296:=by omega
   have hY':Y'<4294967296:=by omega
   have hp':(p:Int)<2:=by omega
   have hq':(q:Int)<2:=by omega
   have hX2:(X:Int)<4294967296:=by omega
   have hY2:(Y:Int)<4294967296:=by omega
   have hn':(n:Int)<32:=by omega
   have hO':(O:Int)<P:=by omega
   have hPb':(P:Int)≤4294967296:=by omega
   clear hXe hYe hpd hpm hqd hqm
   go_wp2
   go_loop [13,14] (fun t j=>∃ jj z:Nat,jj≤2*p+q∧j=.int .i64 jj∧t=.int .i64 z∧z≤15∧T/2^(2*p+q)=z/2^(2*p+q-jj)) (fun _ j=>4-(intOf j).toNat)
   case atStart=>exact ⟨0,T,by omega,rfl,rfl,hT,rfl⟩
   case round =>
    obtain ⟨jj,z,hjj,rfl,rfl,hz,hTz⟩:=hrel
    have HTZ:Hid (T/2^(2*p+q)=z/2^(2*p+q-jj)):=hTz
    have hz':(z:Int)≤15:=by omega
    clear hTz
    by_cases hjl:jj<2*p+q
    ·obtain ⟨z2,hz2⟩:∃ z2,z/2=z2:=⟨_,rfl⟩
     have d1:(z:Int)/2=z2:=by omega
     have d2:(z:Int).tdiv 2=z2:=by rw[Int.tdiv_eq_ediv_of_nonneg (by omega)];exact d1
     have HT2:Hid (T/2^(2*p+q)=z2/2^(2*p+q-(jj+1))):=by
      show _=_
      rw[HTZ.out,←hz2,show 2*p+q-jj=(2*p+q-(jj+1))+1 by omega,Nat.pow_succ,Nat.mul_comm,Nat.div_div_eq_div_mul]
     have hjl':(jj:Int)<2*p+q:=by omega
     have hz2':z2≤15:=by omega
     clear hz2
     go_wp2
     go_round
     case rel=>exact ⟨jj+1,z2,by omega,by go_num,rfl,hz2',HT2.out⟩
     case measure=>simp[intOf];omega
    ·obtain rfl:jj=2*p+q:=by omega
     obtain ⟨r,hr⟩:∃ r,z%2=r:=⟨_,rfl⟩
     have r1:(z:Int)%2=r:=by omega
     have r2:(z:Int).tmod 2=r:=by rw[Int.tmod_eq_emod_of_nonneg (by omega)];exact r1
     have HT2:Hid (T/2^(2*p+q)%2=r):=by show _=_;rw[HTZ.out,Nat.sub_self,Nat.pow_zero,Nat.div_one,hr]
     have HE:Hid (R=(O+P*r)+(2*P)*gB T (32-(n+1)) X' Y'):=by
      show _=_
      rw[HG.out,HS.out,HT2.out]
      generalize gB T (32-(n+1)) X' Y'=g
      rw[Nat.mul_add,←Nat.mul_assoc,Nat.mul_comm P 2,Nat.add_assoc]
     have HP2:Hid (2*P=2^(n+1)):=by show _=_;rw[Nat.pow_succ,HP.out,Nat.mul_comm]
     have hr2:r=0∨r=1:=by omega
     clear hr HTZ HG HS HP HT2
     rcases hr2 with rfl|rfl
     ·go_wp2
      go_round
      case rel=>exact ⟨n+1,O,2*P,X',Y',by omega,by go_num,by go_num,by go_num,rfl,rfl,by omega,HP2.out,hX',hY',by have:=HE.out;rwa [Nat.mul_zero,Nat.add_zero]at this⟩
      case measure=>simp[intOf];omega
     ·go_wp2
      go_round
      case rel=>exact ⟨n+1,O+P,2*P,X',Y',by omega,by go_num,by go_num,by go_num,rfl,rfl,by omega,HP2.out,hX',hY',by have:=HE.out;rwa [Nat.mul_one]at this⟩
      case measure=>simp[intOf];omega
  ·obtain rfl:n=32:=by omega
   have HR:Hid (O=R):=by show _=_;have:=HG.out;rw[Nat.sub_self,gB_zero]at this;omega
   have hO':(O:Int)<4294967296:=by have:=HR.out;have:=HGB.out;omega
   go_wp2
   go_ret
   exact ⟨ret_int (by rw[←HR.out]),rfl⟩
end Go.Proofs.YtflagpkmebdckaaGreatDoor
namespace Go.Proofs.YtflagpkmebdckaaGreatDoor
open Go.RowKit
open Num
set_option linter.unusedVariables false
set_option maxHeartbeats 1000000
theorem gB_ones:∀ n z,z<2^n→gB 6 n (2^n-1) z=2^n-1-z
 | 0,z,hz=>by simp at hz;subst hz;rfl
 | n+1,z,hz=>by
  have h0:0<2^n:=Nat.two_pow_pos n
  rw[Nat.pow_succ]at hz
  have ih:=gB_ones n (z/2) (by omega)
  have e1:(2^(n+1)-1)%2=1:=by rw[Nat.pow_succ];omega
  have e2:(2^(n+1)-1)/2=2^n-1:=by rw[Nat.pow_succ];omega
  rw[gB_succ,e1,e2,ih,Nat.pow_succ]
  rcases two_ways z with g|g<;>rw[g]<;>simp<;>omega
theorem xor_ones (z:Nat) (hz:z<4294967296):4294967295 ^^^ z=4294967295-z:=by
 rw[←gB_xor 32 4294967295 z (by decide) hz]
 exact gB_ones 32 z hz
theorem bitsD (T:Nat) (hT:T≤15) (op:BinOp) (a b:Int) (h0:0≤a) (h1:a<4294967296) (g0:0≤b) (g1:b<4294967296) (v:Int) (hv:∀ x y:Nat,x<4294967296→y<4294967296→a=x→b=y→v=((gB T 32 x y:Nat):Int)) (w:World) :
  Calls Tryz.prog 227 #[.int .u32 a,.int .u32 b,.int .i64 (T:Int)] w fun e w'=>e=.returned (.int .u32 v)∧w'=w:=by
 obtain ⟨x,rfl⟩:∃ n:Nat,a=n:=⟨a.toNat,by omega⟩
 obtain ⟨y,rfl⟩:∃ n:Nat,b=n:=⟨b.toNat,by omega⟩
 rw[hv x y (by omega) (by omega) rfl rfl]
 exact bits_walk T x y hT (by omega) (by omega) w
theorem bits_8 (a b:Int) (h0:0≤a) (h1:a<4294967296) (g0:0≤b) (g1:b<4294967296) (w:World):Calls Tryz.prog 227 #[.int .u32 a,.int .u32 b,.int .i64 8] w fun e w'=>e=.returned (.int .u32 (bits .and .u32 a b))∧w'=w :=
 bitsD 8 (by omega) .and a b h0 h1 g0 g1 _ (fun x y hx hy ea eb=>by rw[ea,eb,u32_and_nat x y hx hy,gB_and 32 x y hx hy]) w
theorem bits_14 (a b:Int) (h0:0≤a) (h1:a<4294967296) (g0:0≤b) (g1:b<4294967296) (w:World):Calls Tryz.prog 227 #[.int .u32 a,.int .u32 b,.int .i64 14] w fun e w'=>e=.returned (.int .u32 (bits .or .u32 a b))∧w'=w :=
 bitsD 14 (by omega) .or a b h0 h1 g0 g1 _ (fun x y hx hy ea eb=>by rw[ea,eb,u32_or_nat x y hx hy,gB_or 32 x y hx hy]) w
theorem bits_6 (a b:Int) (h0:0≤a) (h1:a<4294967296) (g0:0≤b) (g1:b<4294967296) (w:World):Calls Tryz.prog 227 #[.int .u32 a,.int .u32 b,.int .i64 6] w fun e w'=>e=.returned (.int .u32 (bits .xor .u32 a b))∧w'=w :=
 bitsD 6 (by omega) .xor a b h0 h1 g0 g1 _ (fun x y hx hy ea eb=>by rw[ea,eb,u32_xor_nat x y hx hy,gB_xor 32 x y hx hy]) w
theorem bits_1 (a b:Int) (h0:0≤a) (h1:a<4294967296) (g0:0≤b) (g1:b<4294967296) (w:World):Calls Tryz.prog 227 #[.int .u32 a,.int .u32 b,.int .i64 1] w fun e w'=>e=.returned (.int .u32 (bits .xor .u32 4294967295 (bits .or .u32 a b)))∧w'=w :=
 bitsD 1 (by omega) .xor a b h0 h1 g0 g1 _ (fun x y hx hy ea eb=>by
  have hz:(x ||| y)<4294967296:=Nat.or_lt_two_pow (n:=32) hx hy
  have hn:=gB_nor 32 x y
  rw[gB_or 32 x y hx hy]at hn
  have hn2:gB 1 32 x y+(x ||| y)+1=4294967296:=hn
  have e:=u32_xor_nat 4294967295 (x ||| y) (by omega) hz
  rw[ea,eb,u32_or_nat x y hx hy]
  rw[show ((4294967295:Nat):Int)=4294967295 from rfl]at e
  rw[e,xor_ones _ hz]
  omega) w
theorem p2A (a b:Int) (h0:0≤a) (h1:a<4294967296) (g0:0≤b) (g1:b<4294967296) (w:World):Calls Tryz.prog 102 #[.int .u32 a,.int .u32 b] w fun e w'=>e=.returned (.int .u32 (lo (a+b)))∧w'=w:=by
 go_enter Tryz.func102,Tryz.ntmps102
 go_wp2_with (go_at_call 101;refine (wdA _ (by omega) (by omega) _).mono ?_;rintro e w' ⟨rfl,rfl⟩)
 go_ret
 exact ⟨rfl,rfl⟩
theorem plus3_any (a b:Int) (h0:0≤a) (h1:a<4294967296) (g0:0≤b) (g1:b<4294967296) (w:World):Calls Tryz.prog 127 #[.int .u32 a,.int .u32 b] w fun e w'=>e=.returned (.int .u32 (lo (a+b)))∧w'=w:=by
 go_enter Tryz.func127,Tryz.ntmps127
 go_wp2_with (go_at_call 101;refine (wdA _ (by omega) (by omega) _).mono ?_;rintro e w' ⟨rfl,rfl⟩)
 go_ret
 exact ⟨rfl,rfl⟩
theorem bitD_any (y:Bool) (w:World):Calls Tryz.prog 228 #[.bool y] w fun e w'=>e=.returned (.int .u32 (if y=true then 1 else 0))∧w'=w:=by
 cases y
 all_goals
  go_enter Tryz.func228,Tryz.ntmps228
  go_wp2
  go_ret
  exact ⟨rfl,rfl⟩
theorem sumOf_3 (a b:Int) (h0:0≤a) (h1:a<4294967296) (g0:0≤b) (g1:b<4294967296) (w:World):Calls Tryz.prog 190 #[.string ⟨#[97,100,100]⟩,.int .u32 a,.int .u32 b] w fun e w'=>e=.returned (.int .u32 (lo (a+b)))∧w'=w:=by
 have hc0:=fun w=>p2A a b h0 h1 g0 g1 w
 go_enter Tryz.func190,Tryz.ntmps190
 go_wp2_with fail
 refine (hc0 _).mono ?_
 rintro e w1 ⟨rfl,hw⟩
 rw[hw]
 clear hw w1
 go_wp2
 go_ret
 exact ⟨rfl,rfl⟩
theorem sumOf_4 (a b:Int) (h0:0≤a) (h1:a<4294967296) (g0:0≤b) (g1:b<4294967296) (w:World):Calls Tryz.prog 190 #[.string ⟨#[115,117,98]⟩,.int .u32 a,.int .u32 b] w fun e w'=>e=.returned (.int .u32 (lo (a-b)))∧w'=w:=by
 have hc0:=fun w=>wdA (a-b) (by omega) (by omega) w
 go_enter Tryz.func190,Tryz.ntmps190
 go_wp2_with fail
 refine (hc0 _).mono ?_
 rintro e w1 ⟨rfl,hw⟩
 rw[hw]
 clear hw w1
 go_wp2
 go_ret
 exact ⟨rfl,rfl⟩
theorem sumOf_5 (a b:Int) (h0:0≤a) (h1:a<4294967296) (g0:0≤b) (g1:b<4294967296) (w:World):Calls Tryz.prog 190 #[.string ⟨#[97,110,100]⟩,.int .u32 a,.int .u32 b] w fun e w'=>e=.returned (.int .u32 (bits .and .u32 a b))∧w'=w:=by
 have hc0:=fun w=>bits_8 a b h0 h1 g0 g1 w
 generalize bits .and .u32 a b=y at *
 go_enter Tryz.func190,Tryz.ntmps190
 go_wp2_with fail
 refine (hc0 _).mono ?_
 rintro e w1 ⟨rfl,hw⟩
 rw[hw]
 clear hw w1
 go_wp2
 go_ret
 exact ⟨rfl,rfl⟩
theorem sumOf_6 (a b:Int) (h0:0≤a) (h1:a<4294967296) (g0:0≤b) (g1:b<4294967296) (w:World):Calls Tryz.prog 190 #[.string ⟨#[111,114]⟩,.int .u32 a,.int .u32 b] w fun e w'=>e=.returned (.int .u32 (bits .or .u32 a b))∧w'=w:=by
 have hc0:=fun w=>bits_14 a b h0 h1 g0 g1 w
 generalize bits .or .u32 a b=y at *
 go_enter Tryz.func190,Tryz.ntmps190
 go_wp2_with fail
 refine (hc0 _).mono ?_
 rintro e w1 ⟨rfl,hw⟩
 rw[hw]
 clear hw w1
 go_wp2
 go_ret
 exact ⟨rfl,rfl⟩
theorem sumOf_7 (a b:Int) (h0:0≤a) (h1:a<4294967296) (g0:0≤b) (g1:b<4294967296) (w:World):Calls Tryz.prog 190 #[.string ⟨#[120,111,114]⟩,.int .u32 a,.int .u32 b] w fun e w'=>e=.returned (.int .u32 (bits .xor .u32 a b))∧w'=w:=by
 have hc0:=fun w=>bits_6 a b h0 h1 g0 g1 w
 generalize bits .xor .u32 a b=y at *
 go_enter Tryz.func190,Tryz.ntmps190
 go_wp2_with fail
 refine (hc0 _).mono ?_
 rintro e w1 ⟨rfl,hw⟩
 rw[hw]
 clear hw w1
 go_wp2
 go_ret
 exact ⟨rfl,rfl⟩
theorem sumOf_8 (a b:Int) (h0:0≤a) (h1:a<4294967296) (g0:0≤b) (g1:b<4294967296) (w:World):Calls Tryz.prog 190 #[.string ⟨#[110,111,114]⟩,.int .u32 a,.int .u32 b] w fun e w'=>e=.returned (.int .u32 (bits .xor .u32 4294967295 (bits .or .u32 a b)))∧w'=w:=by
 have hc0:=fun w=>bits_1 a b h0 h1 g0 g1 w
 generalize bits .xor .u32 4294967295 (bits .or .u32 a b)=y at *
 go_enter Tryz.func190,Tryz.ntmps190
 go_wp2_with fail
 refine (hc0 _).mono ?_
 rintro e w1 ⟨rfl,hw⟩
 rw[hw]
 clear hw w1
 go_wp2
 go_ret
 exact ⟨rfl,rfl⟩
theorem sumOf_9 (a b:Int) (h0:0≤a) (h1:a<4294967296) (g0:0≤b) (g1:b<4294967296) (w:World):Calls Tryz.prog 190 #[.string ⟨#[115,108,116]⟩,.int .u32 a,.int .u32 b] w fun e w'=>e=.returned (.int .u32 (if lessB a b true=true then 1 else 0))∧w'=w:=by
 have hc0:=fun w=>lessOf_any a b true h0 h1 g0 g1 w
 have hc1:=fun w=>bitD_any (lessB a b true) w
 generalize lessB a b true=y at *
 generalize (if y=true then (1:Int) else 0)=v at *
 go_enter Tryz.func190,Tryz.ntmps190
 go_wp2_with fail
 refine (hc0 _).mono ?_
 rintro e w1 ⟨rfl,hw⟩
 rw[hw]
 clear hw w1
 go_wp2_with fail
 refine (hc1 _).mono ?_
 rintro e w2 ⟨rfl,hw⟩
 rw[hw]
 clear hw w2
 go_wp2
 go_ret
 exact ⟨rfl,rfl⟩
theorem sumOf_10 (a b:Int) (h0:0≤a) (h1:a<4294967296) (g0:0≤b) (g1:b<4294967296) (w:World):Calls Tryz.prog 190 #[.string ⟨#[115,108,116,117]⟩,.int .u32 a,.int .u32 b] w fun e w'=>e=.returned (.int .u32 (if lessB a b false=true then 1 else 0))∧w'=w:=by
 have hc0:=fun w=>lessOf_any a b false h0 h1 g0 g1 w
 have hc1:=fun w=>bitD_any (lessB a b false) w
 generalize lessB a b false=y at *
 generalize (if y=true then (1:Int) else 0)=v at *
 go_enter Tryz.func190,Tryz.ntmps190
 go_wp2_with fail
 refine (hc0 _).mono ?_
 rintro e w1 ⟨rfl,hw⟩
 rw[hw]
 clear hw w1
 go_wp2_with fail
 refine (hc1 _).mono ?_
 rintro e w2 ⟨rfl,hw⟩
 rw[hw]
 clear hw w2
 go_wp2
 go_ret
 exact ⟨rfl,rfl⟩
theorem sumOf_11 (a b:Int) (h0:0≤a) (h1:a<4294967296) (g0:0≤b) (g1:b<4294967296) (w:World):Calls Tryz.prog 190 #[.string ⟨#[115,104,108]⟩,.int .u32 a,.int .u32 b] w fun e w'=>e=.returned (.int .u32 (shf 60 a b))∧w'=w:=by
 have hc0:=fun w=>shA 60 a b h0 h1 g0 w
 generalize shf 60 a b=y at *
 go_enter Tryz.func190,Tryz.ntmps190
 go_wp2_with fail
 refine (hc0 _).mono ?_
 rintro e w1 ⟨rfl,hw⟩
 rw[hw]
 clear hw w1
 go_wp2
 go_ret
 exact ⟨rfl,rfl⟩
theorem sumOf_12 (a b:Int) (h0:0≤a) (h1:a<4294967296) (g0:0≤b) (g1:b<4294967296) (w:World):Calls Tryz.prog 190 #[.string ⟨#[115,104,114]⟩,.int .u32 a,.int .u32 b] w fun e w'=>e=.returned (.int .u32 (shf 62 a b))∧w'=w:=by
 have hc0:=fun w=>shA 62 a b h0 h1 g0 w
 generalize shf 62 a b=y at *
 go_enter Tryz.func190,Tryz.ntmps190
 go_wp2_with fail
 refine (hc0 _).mono ?_
 rintro e w1 ⟨rfl,hw⟩
 rw[hw]
 clear hw w1
 go_wp2
 go_ret
 exact ⟨rfl,rfl⟩
theorem sumOf_13 (a b:Int) (h0:0≤a) (h1:a<4294967296) (g0:0≤b) (g1:b<4294967296) (w:World):Calls Tryz.prog 190 #[.string ⟨#[115,97,114]⟩,.int .u32 a,.int .u32 b] w fun e w'=>e=.returned (.int .u32 (shf 126 a b))∧w'=w:=by
 have hc0:=fun w=>shA 126 a b h0 h1 g0 w
 generalize shf 126 a b=y at *
 go_enter Tryz.func190,Tryz.ntmps190
 go_wp2_with fail
 refine (hc0 _).mono ?_
 rintro e w1 ⟨rfl,hw⟩
 rw[hw]
 clear hw w1
 go_wp2
 go_ret
 exact ⟨rfl,rfl⟩
theorem sumOf_14 (a b:Int) (h0:0≤a) (h1:a<4294967296) (g0:0≤b) (g1:b<4294967296) (w:World):Calls Tryz.prog 190 #[.string ⟨#[109,117,108]⟩,.int .u32 a,.int .u32 b] w fun e w'=>e=.returned (.int .u32 (lo (a*b)))∧w'=w:=by
 have hc0:=fun w=>mulOf_u a b h0 h1 g0 g1 w
 generalize lo (a*b)=y at *
 go_enter Tryz.func190,Tryz.ntmps190
 go_wp2_with fail
 refine (hc0 _).mono ?_
 rintro e w1 ⟨rfl,hw⟩
 rw[hw]
 clear hw w1
 go_wp2
 go_ret
 exact ⟨rfl,rfl⟩
theorem sumOf_15 (a b:Int) (h0:0≤a) (h1:a<4294967296) (g0:0≤b) (g1:b<4294967296) (w:World):Calls Tryz.prog 190 #[.string ⟨#[109,117,108,104]⟩,.int .u32 a,.int .u32 b] w fun e w'=>e=.returned (.int .u32 (hi (nm a true*nm b true)))∧w'=w:=by
 have hc0:=fun w=>mulOf_any a b true h0 h1 g0 g1 w
 generalize hi (nm a true*nm b true)=y at *
 go_enter Tryz.func190,Tryz.ntmps190
 go_wp2_with fail
 refine (hc0 _).mono ?_
 rintro e w1 ⟨rfl,hw⟩
 rw[hw]
 clear hw w1
 go_wp2
 go_ret
 exact ⟨rfl,rfl⟩
theorem sumOf_16 (a b:Int) (h0:0≤a) (h1:a<4294967296) (g0:0≤b) (g1:b<4294967296) (w:World):Calls Tryz.prog 190 #[.string ⟨#[109,117,108,104,117]⟩,.int .u32 a,.int .u32 b] w fun e w'=>e=.returned (.int .u32 (hi (a*b)))∧w'=w:=by
 have hc0:=fun w=>mulOf_u a b h0 h1 g0 g1 w
 generalize hi (a*b)=y at *
 go_enter Tryz.func190,Tryz.ntmps190
 go_wp2_with fail
 refine (hc0 _).mono ?_
 rintro e w1 ⟨rfl,hw⟩
 rw[hw]
 clear hw w1
 go_wp2
 go_ret
 exact ⟨rfl,rfl⟩
theorem sumOf_any (k:Nat) (hk:3≤k∧k≤16) (a b d i:Int) (h0:0≤a) (h1:a<4294967296) (g0:0≤b) (g1:b<4294967296) (w:World):Calls Tryz.prog 190 #[.string (kindS k),.int .u32 a,.int .u32 b] w fun e w'=>e=.returned (.int .u32 (valV k a b d i))∧w'=w:=by
 have h:k=3∨k=4∨k=5∨k=6∨k=7∨k=8∨k=9∨k=10∨k=11∨k=12∨k=13∨k=14∨k=15∨k=16:=by omega
 rcases h with rfl|rfl|rfl|rfl|rfl|rfl|rfl|rfl|rfl|rfl|rfl|rfl|rfl|rfl
 ·exact sumOf_3 a b h0 h1 g0 g1 w
 ·exact sumOf_4 a b h0 h1 g0 g1 w
 ·exact sumOf_5 a b h0 h1 g0 g1 w
 ·exact sumOf_6 a b h0 h1 g0 g1 w
 ·exact sumOf_7 a b h0 h1 g0 g1 w
 ·exact sumOf_8 a b h0 h1 g0 g1 w
 ·exact sumOf_9 a b h0 h1 g0 g1 w
 ·exact sumOf_10 a b h0 h1 g0 g1 w
 ·exact sumOf_11 a b h0 h1 g0 g1 w
 ·exact sumOf_12 a b h0 h1 g0 g1 w
 ·exact sumOf_13 a b h0 h1 g0 g1 w
 ·exact sumOf_14 a b h0 h1 g0 g1 w
 ·exact sumOf_15 a b h0 h1 g0 g1 w
 ·exact sumOf_16 a b h0 h1 g0 g1 w
end Go.Proofs.YtflagpkmebdckaaGreatDoor
namespace Go.Proofs.YtflagpkmebdckaaGreatDoor
open Go.RowKit Go.Maps
open Num
set_option linter.unusedVariables false
theorem ccheck_ok (pe:Nat→Addr) {w:World} (E:Eg pe w) {v:Value} {l:List Opx} (A:OpsIn w v l) (hl:(l.length:Int)≤1000000) (pc many:Int) (m0:-9223372036854775808≤many) (m1:many≤9223372036854775807) (hf:codeF many l=(0,-1)) :
  Calls Tryz.prog 71 #[.agg #[.int .u32 pc,.int .i64 many,v]] w fun e w'=>e=.returned .nilIface∧Below w.heap.size w w':=by
 refine (check_any pe E A hl pc many m0 m1).mono ?_
 rintro e w' ⟨⟨x,rfl,hC⟩,hb⟩
 rw[hf]at hC
 rcases hC with ⟨_,h⟩|⟨h,_⟩
 ·exact ⟨by rw[h];rfl,hb⟩
 ·omega
theorem set_same {w:World} {a:Addr} {v:Value} (h:(w.cell? a).isSome=true):(w.setCell a v).cell? a=some v:=World.cell?_setCell_same' w a v h
theorem set_other {w:World} {g i j:Nat} {v:Value} (h:i≠j):(w.setCell ⟨g,i,none⟩ v).cell? ⟨g,j,none⟩=w.cell? ⟨g,j,none⟩:=World.cell?_setCell_other _ _ _ _ (by intro e;injection e with _ e;exact h (by omega))
set_option maxRecDepth 100000
set_option maxHeartbeats 1000000
theorem oper_append_movedG {P:Program} {o:Oper} {a:Act} {w:World} {K:Act→World→Prop} {Q:Exit→Act→World→Prop} (s x:Operand) (t:TypeId)
  (ho:o.op=.call { callee:=.builtin .append,args:=#[s,x],argTypes:=#[t,t] })
  (base:Nat) (e:TypeId) (i:TypeInfo) (z:Value) (size bytes:Nat) (ht:P.underlying t=some (.slice e)) (hi:P.info? e=some i) (hz:i.zero=some z)
  (hsize:i.size=size) (hby:i.bytes=bytes) (hzs:z.cells.size=size) (hsz:0<size)
  (v:Value) (n:Nat) (xs:List Value) (hs:a.eval s=v) (hown:w.ownsRow base e size v n xs)
  (ad:Addr) (m c:Nat) (news:List Value) (hx:a.eval x=.slice (some ad) m c) (hl:news.length=m*size) (hnews:∀ j u,news[j]?=some u→w.cell? (ad.add j)=some u) (h1:∀ u∈news,u.oneCell'=true)
  (h63:n+m≤maxLen) (hbytes:(n+m)*bytes≤140737488355328) (hbase:base≤w.heap.size)
  (h:∀ v' w',w'.ownsRow base e size v' (n+m) (xs++news)→w.grownBy w' v.ownBlock→Moved w v v'→K (a.put o.dst v') w'):Oper.wp P o a w K Q:=by
 obtain ⟨v',w',hr,h2,h3,h4⟩:=run_append_moved (P:=P) w base t o.type e i z size bytes ht hi hz hsize hby hzs hsz v n xs hown ad m c news hl hnews h1 h63 hbytes hbase
 unfold Oper.wp execOp
 simp only[ho,resolve,invoke,builtin,Sem.run_bind,Sem.run_pure,Result.andThen_ok,List.map_toArray,List.map_cons,List.map_nil,hs,hx,hr]
 exact h v' w' h2 h3 h4
def pdL (p:List Pq):List Value:=p.flatMap fun q=>pdC q.1
theorem pdL_snoc (p:List Pq) (q:Pq):pdL (p++[q])=pdL p++pdC q.1:=by unfold pdL;rw[List.flatMap_append];simp
theorem pdL_get:∀ (p:List Pq) (j:Nat) (q:Pq) (i:Nat),p[j]?=some q→i<3→(pdL p)[j*3+i]?=(pdC q.1)[i]?
 | [],j,q,i,h,_=>by simp at h
 | r :: p,0,q,i,h,hi=>by
  simp at h;subst h
  show (pdC r.1++pdL p)[0*3+i]?=_
  rw[List.getElem?_append_left (by simp[pdC];omega)];simp
 | r :: p,j+1,q,i,h,hi=>by
  show (pdC r.1++pdL p)[(j+1)*3+i]?=_
  rw[List.getElem?_append_right (by simp[pdC];omega),←pdL_get p j q i (by simpa using h) hi]
  congr 1;simp[pdC];omega
structure GAt (w:World) (base mb stb sb:Nat) (X:Nat→Int) (p:List Pq) (vi:Value):Prop where
 x:∀ j,j<64→w.cell? ⟨mb,1+j,none⟩=some (.int .u32 (X j))
 s0:w.cell? ⟨mb,0,none⟩=some (.pointer (some ⟨stb,0,none⟩))
 g0:w.cell? ⟨mb,65,none⟩=some (.pointer (some ⟨sb,0,none⟩))
 g1:w.cell? ⟨mb,66,none⟩=some vi
 fz:∀ j,w.frozen? ⟨mb,j,none⟩=false
 row:w.ownsRow base 158 3 vi p.length (pdL p)
 lb:base≤mb
 ne:∀ k,vi.ownBlock=some k→k≠mb
 xb:∀ j,u32 (X j)
 bs:base≤w.heap.size
section
variable {w w' : World} {base mb stb sb : Nat} {X : Nat → Int} {p : List Pq} {vi : Value}
theorem GAt.lt (M:GAt w base mb stb sb X p vi):mb<w.heap.size:=World.block_lt_of_cell? _ _ M.g0
theorem GAt.blk (M:GAt w base mb stb sb X p vi):∀ k,vi.ownBlock=some k→k<w.heap.size∧base≤k:=by
 intro k hk
 rcases M.row.2 with ⟨rfl,_⟩|⟨g,cap,cur,rfl,hg,hh,_⟩
 ·cases hk
 ·injection hk with hk;subst hk;exact ⟨(Array.getElem?_eq_some_iff.1 hh).1,hg⟩
theorem GAt.blocks (M:GAt w base mb stb sb X p vi) (hs:w.heap.size≤w'.heap.size) (h:∀ k,k=mb∨vi.ownBlock=some k→w'.heap[k]?=w.heap[k]?):GAt w' base mb stb sb X p vi:=by
 have hb:=h mb (.inl rfl)
 have c:∀ (j:Nat) (v:Value),w.cell? ⟨mb,j,none⟩=some v→w'.cell? ⟨mb,j,none⟩=some v:=fun j v e=>(World.cell?_of_block (a:=⟨mb,j,none⟩) hb).trans e
 exact ⟨fun j hj=>c _ _ (M.x j hj),c _ _ M.s0,c _ _ M.g0,c _ _ M.g1,fun j=>(World.frozen?_of_block (a:=⟨mb,j,none⟩) hb).trans (M.fz j),owns_blocks M.row (fun k hk=>h k (.inr hk)),M.lb,M.ne,M.xb,Nat.le_trans M.bs hs⟩
theorem GAt.stays (M:GAt w base mb stb sb X p vi) (h:Below w.heap.size w w'):GAt w' base mb stb sb X p vi :=
 M.blocks h.size (fun k hk=>h.block k (by
  rcases hk with rfl|hk
  ·exact M.lt
  ·exact (M.blk k hk).1))
theorem GAt.drewN (M:GAt w base mb stb sb X p vi) (n:Nat):GAt (w.drewN n) base mb stb sb X p vi:=⟨M.x,M.s0,M.g0,M.g1,M.fz,M.row,M.lb,M.ne,M.xb,M.bs⟩
theorem GAt.turned {b c:Nat} (M:GAt w base mb stb sb X p vi) (t:Turned w w' b c) (hb:b<base) (hc:c<base):GAt w' base mb stb sb X p vi :=
 M.blocks t.size (fun k hk=>t.block k (by
  rcases hk with rfl|hk
  ·exact M.lt
  ·exact (M.blk k hk).1) (by
  rcases hk with rfl|hk
  ·have:=M.lb;omega
  ·have:=M.blk k hk;omega) (by
  rcases hk with rfl|hk
  ·have:=M.lb;omega
  ·have:=M.blk k hk;omega))
theorem GAt.pd (M:GAt w base mb stb sb X p vi):PdIn w.heap.size w vi p:=by
 rcases M.row.2 with ⟨rfl,h⟩|⟨g,cap,cur,rfl,hg,hh,hn,_⟩
 ·exact .inl ⟨rfl,List.length_eq_zero_iff.1 h⟩
 ·refine .inr ⟨g,0,cap,rfl,(Array.getElem?_eq_some_iff.1 hh).1,fun j q hq=>?_⟩
  have c:∀ i,i<3→∀ u,(pdC q.1)[i]?=some u→w.cell? ⟨g,0+j*3+i,none⟩=some u:=by
   intro i hi u hu
   have:=M.row.cells (g:=g) rfl (j*3+i) u (by rw[pdL_get p j q i hq hi];exact hu)
   rw[add_lit]at this
   rw[Nat.zero_add];exact this
  exact ⟨c 0 (by omega) _ rfl,c 1 (by omega) _ rfl,c 2 (by omega) _ rfl⟩
end
section
variable {w : World} {base mb stb sb bp bw bh N : Nat} {X : Nat → Int} {p : List Pq} {vi : Value} {m : Nat → Int} {wt ht : Int → Bool}
theorem pq_ok (p:List Pq):∀ q∈pqs p,q.ok:=by
 intro q hq
 obtain ⟨r,_,rfl⟩:=List.mem_map.1 hq
 exact r.2
structure Kx (w w':World) (mb:Nat) (vi:Value):Prop where
 os:w'.os=w.os
 tape:w'.tape=w.tape
 output:w'.output=w.output
 size:w.heap.size≤w'.heap.size
 block:∀ k,k<w.heap.size→k≠mb→vi.ownBlock≠some k→w'.heap[k]?=w.heap[k]?
theorem Kx.alloc (w:World) (o:Obj) (mb:Nat) (vi:Value):Kx w (w.alloc o) mb vi:=⟨rfl,rfl,rfl,by simp,fun k hk _ _=>Below.heap_alloc w o k hk⟩
theorem Kx.drew {w w':World} {mb:Nat} {vi:Value} (h:Kx w w' mb vi):Kx w w'.drew mb vi:=⟨h.os,h.tape,h.output,h.size,h.block⟩
theorem Kx.setCell {w w':World} {mb:Nat} {vi:Value} (h:Kx w w' mb vi) (j:Nat) (v:Value):Kx w (w'.setCell ⟨mb,j,none⟩ v) mb vi :=
 ⟨h.os,h.tape,h.output,by simp;exact h.size,fun k hk k1 k2=>(Below.heap_setCell w' ⟨mb,j,none⟩ v k k1).trans (h.block k hk k1 k2)⟩
theorem Kx.trans {w w1 w2:World} {mb:Nat} {vi:Value} (h:Kx w w1 mb vi) (g:Kx w1 w2 mb vi):Kx w w2 mb vi :=
 ⟨g.os.trans h.os,g.tape.trans h.tape,g.output.trans h.output,Nat.le_trans h.size g.size,fun k hk k1 k2=>(g.block k (Nat.lt_of_lt_of_le hk h.size) k1 k2).trans (h.block k hk k1 k2)⟩
theorem Kx.below {w w1 w2:World} {mb:Nat} {vi:Value} (h:Kx w w1 mb vi) (g:Below w1.heap.size w1 w2):Kx w w2 mb vi :=
 ⟨g.os.trans h.os,g.tape.trans h.tape,g.output.trans h.output,Nat.le_trans h.size g.size,fun k hk k1 k2=>(g.block k (Nat.lt_of_lt_of_le hk h.size)).trans (h.block k hk k1 k2)⟩
theorem infoPd:(Tryz.prog.info? 158).map (fun i=>(i.zero,i.size,i.bytes))=some (some (.agg #[.int .u32 0,.int .i64 0,.int .u32 0]),3,24):=by kernel_rfl
theorem GAt.wait {w w1:World} {v':Value} (M:GAt w base mb stb sb X p vi) (q:Pq) (hg:w.grownBy w1 vi.ownBlock) (hr:w1.ownsRow base 158 3 v' (p.length+1) (pdL p++pdC q.1)) (hm:Moved w vi v'):GAt (w1.setCell ⟨mb,66,none⟩ v') base mb stb sb X (p++[q]) v':=by
 have hb:w1.heap[mb]?=w.heap[mb]?:=hg.block mb M.lt (fun e=>M.ne mb e.symm rfl)
 have c:∀ (j:Nat) (v:Value),w.cell? ⟨mb,j,none⟩=some v→w1.cell? ⟨mb,j,none⟩=some v:=fun j v e=>(World.cell?_of_block (a:=⟨mb,j,none⟩) hb).trans e
 have o:∀ (j:Nat) (v:Value),j≠66→w1.cell? ⟨mb,j,none⟩=some v→(w1.setCell ⟨mb,66,none⟩ v').cell? ⟨mb,j,none⟩=some v:=fun j v hj e=>by
  rw[World.cell?_setCell_other _ _ _ _ (by intro e';injection e' with e1 e2;exact hj e2.symm)];exact e
 have hne:∀ k,v'.ownBlock=some k→k≠mb:=by
  intro k hk
  rcases hm k hk with h|h
  ·exact M.ne k h
  ·have:=M.lt;omega
 refine ⟨fun j hj=>o _ _ (by omega) (c _ _ (M.x j hj)),o _ _ (by omega) (c _ _ M.s0),o _ _ (by omega) (c _ _ M.g0),World.cell?_setCell_same _ _ _ (c _ _ M.g1),fun j=>by rw[World.frozen?_setCell];exact (World.frozen?_of_block (a:=⟨mb,j,none⟩) hb).trans (M.fz j),?_,M.lb,hne,M.xb,by simp;exact Nat.le_trans M.bs hg.size⟩
 rw[pdL_snoc,List.length_append]
 exact owns_blocks hr (fun k hk=>Below.heap_setCell w1 ⟨mb,66,none⟩ v' k (fun e=>hne k hk e))
theorem hold_any (G:GAt w base mb stb sb X p vi) (hp:p.length≤1000) (q:Pq) :
  Calls Tryz.prog 149 #[.pointer (some ⟨mb,65,none⟩),.agg #[.int .u32 q.1.a,.int .i64 q.1.s,.int .u32 q.1.v]] w fun e w'=>e=.returned (.tuple #[])∧∃ vi',GAt w' base mb stb sb X (p++[q]) vi'∧Moved w vi vi'∧Kx w w' mb vi:=by
 obtain ⟨⟨qa,qs,qv⟩,hq⟩:=q
 have B0:Below w.heap.size w (w.alloc (.cells #[.int .u32 qa,.int .i64 qs,.int .u32 qv] 158)):=(Below.refl _ _).alloc (Nat.le_refl _) _
 have k0:(w.alloc (.cells #[.int .u32 qa,.int .i64 qs,.int .u32 qv] 158)).cell? ⟨w.heap.size,0,none⟩=some (.int .u32 qa):=by simp
 have k1:(w.alloc (.cells #[.int .u32 qa,.int .i64 qs,.int .u32 qv] 158)).cell? ⟨w.heap.size,1,none⟩=some (.int .i64 qs):=by simp
 have k2:(w.alloc (.cells #[.int .u32 qa,.int .i64 qs,.int .u32 qv] 158)).cell? ⟨w.heap.size,2,none⟩=some (.int .u32 qv):=by simp
 have G0:Hid (GAt (w.alloc (.cells #[.int .u32 qa,.int .i64 qs,.int .u32 qv] 158)) base mb stb sb X p vi):=G.stays B0
 have hvb:∀ k,vi.ownBlock=some k→k<w.heap.size:=fun k hk=>(G.blk k hk).1
 have hbs:=G.bs
 have hmw:=G.lt
 have HB0:Hid (Below w.heap.size w (w.alloc (.cells #[.int .u32 qa,.int .i64 qs,.int .u32 qv] 158))):=B0
 have hVs:(w.alloc (.cells #[.int .u32 qa,.int .i64 qs,.int .u32 qv] 158)).heap.size=w.heap.size+1:=by simp
 obtain ⟨i0,hi,hz0,hz1,hz2⟩:=info_parts infoPd
 clear G B0
 go_enter Tryz.func149,Tryz.ntmps149
 go_upto_region 1 with fail
 generalize w.alloc (.cells #[.int .u32 qa,.int .i64 qs,.int .u32 qv] 158)=V at *
 have g1:=G0.out.g1
 refine zP 10 [(0,0),(1,0),(2,0),(3,0),(4,1),(5,1),(6,2),(7,2),(8,0),(9,0),(10,2)] (fun W=>W.cell? ⟨mb,66,none⟩=some vi∧W.cell? ⟨w.heap.size,0,none⟩=some (.int .u32 qa)∧W.cell? ⟨w.heap.size,1,none⟩=some (.int .i64 qs)∧W.cell? ⟨w.heap.size,2,none⟩=some (.int .u32 qv)) (by kernel_rfl) (by kernel_rfl) (fun _ _ _ d _ h=>by cases d<;>exact h) ⟨g1,k0,k1,k2⟩ ?_
 repeat (first|(refine zF (by rfl) (by rfl) (fun W=>by (go_simp;try with_reducible rfl)) (fun K hK=>?_);go_simp;refine hK _ ?_;clear hK K)|(refine zQ (by rfl) (by rfl) (fun W hW=>by (obtain ⟨z0,z1,z2,z3⟩:=hW;go_simp;try with_reducible rfl)) (fun K hK=>?_);go_simp;refine hK _ ?_;clear hK K))
 refine zSr (by rfl) (by rfl) (fun K hK=>?_)
 go_simp
 have hmV:mb<V.heap.size:=by omega
 have cU:∀ (b j:Nat) (u:Value),V.cell? ⟨b,j,none⟩=some u→((V.alloc (.cells #[.int .u32 qa,.int .i64 qs,.int .u32 qv] 158)).drew).cell? ⟨b,j,none⟩=some u:=fun b j u h=>(World.grownBy_alloc V _ none).cell h (by simp)
 refine hK _ _ (fun _=>⟨cU _ _ _ g1,cU _ _ _ k0,cU _ _ _ k1,cU _ _ _ k2⟩) ?_
 clear hK K
 have G1:Hid (GAt ((V.alloc (.cells #[.int .u32 qa,.int .i64 qs,.int .u32 qv] 158)).drew) base mb stb sb X p vi):=(G0.out.stays ((Below.refl _ _).alloc (Nat.le_refl _) _)).drewN 1
 have HB1:Hid (Below w.heap.size w ((V.alloc (.cells #[.int .u32 qa,.int .i64 qs,.int .u32 qv] 158)).drew)):=(HB0.out.alloc (by omega) _).drew
 have hnews:∀ (j:Nat) (u:Value),(pdC ⟨qa,qs,qv⟩)[j]?=some u→((V.alloc (.cells #[.int .u32 qa,.int .i64 qs,.int .u32 qv] 158)).drew).cell? ((⟨V.heap.size,0,none⟩:Addr).add j)=some u:=by
  intro j u hj
  show (V.alloc (.cells #[.int .u32 qa,.int .i64 qs,.int .u32 qv] 158)).cell? _=_
  rw[add_lit,cell_of_row _ _ _ _ _ _ (heap_alloc_new V _)]
  simpa [pdC] using hj
 rw[hVs]at hnews
 have hU0:=cU _ _ _ k0
 have hU1:=cU _ _ _ k1
 have hU2:=cU _ _ _ k2
 have hUs:((V.alloc (.cells #[.int .u32 qa,.int .i64 qs,.int .u32 qv] 158)).drew).heap.size=w.heap.size+2:=by simp[hVs]
 generalize (V.alloc (.cells #[.int .u32 qa,.int .i64 qs,.int .u32 qv] 158)).drew=U at *
 refine zSr (by rfl) (by rfl) (fun K hK=>?_)
 refine oper_append_movedG _ _ 234 rfl base 158 i0 (.agg #[.int .u32 0,.int .i64 0,.int .u32 0]) 3 24 Tryz.underlying234 hi hz0 hz1 hz2 rfl (by decide) vi p.length (pdL p) (by rfl) G1.out.row ⟨w.heap.size+1,0,none⟩ 1 1 (pdC ⟨qa,qs,qv⟩) (by rfl) rfl hnews (by simp[pdC,Value.oneCell']) (by unfold maxLen;omega) (by omega) (by omega) ?_
 intro v' w3 ho hg hm
 obtain ⟨g',cap',rfl⟩:=own_pos ho
 have hbk:w3.heap[mb]?=U.heap[mb]?:=hg.block mb (by omega) (fun e=>G1.out.ne mb e.symm rfl)
 have hbw:w3.heap[w.heap.size]?=U.heap[w.heap.size]?:=hg.block w.heap.size (by omega) (fun e=>by have:=hvb _ e.symm;omega)
 have hc1:w3.cell? ⟨mb,66,none⟩=some vi:=(World.cell?_of_block (a:=⟨mb,66,none⟩) hbk).trans G1.out.g1
 have hf1:w3.frozen? ⟨mb,66,none⟩=false:=(World.frozen?_of_block (a:=⟨mb,66,none⟩) hbk).trans (G1.out.fz 66)
 refine hK _ _ (fun _=>⟨hc1,(World.cell?_of_block (a:=⟨w.heap.size,0,none⟩) hbw).trans hU0,(World.cell?_of_block (a:=⟨w.heap.size,1,none⟩) hbw).trans hU1,(World.cell?_of_block (a:=⟨w.heap.size,2,none⟩) hbw).trans hU2⟩) ?_
 clear hK K
 refine zF (by rfl) (by rfl) (fun W=>by (go_simp;try with_reducible rfl)) (fun K hK=>?_);go_simp;refine hK _ ?_;clear hK K
 refine zF (by rfl) (by rfl) (fun W=>by (go_simp;try with_reducible rfl)) (fun K hK=>?_);go_simp;refine hK _ ?_;clear hK K
 refine zSr (by rfl) (by rfl) (fun K hK=>?_)
 go_simp
 refine hK _ _ (fun h=>absurd h (by decide)) ?_
 clear hK K
 refine zN ?_
 go_wp2
 go_end0
 refine ⟨rfl,_,G1.out.wait ⟨⟨qa,qs,qv⟩,hq⟩ hg ho hm,?_,?_⟩
 ·intro k hk
  rcases hm k hk with h|h
  ·exact .inl h
  ·exact .inr (by omega)
 ·refine ⟨hg.os.trans HB1.out.os,hg.tape.trans HB1.out.tape,hg.output.trans HB1.out.output,?_,fun k hk hm1 hv1=>?_⟩
  ·have:=HB1.out.size;have:=hg.size;simp;omega
  ·rw[Below.heap_setCell w3 ⟨mb,66,none⟩ _ k hm1,hg.block k (by omega) (fun e=>hv1 e.symm)]
   exact HB1.out.block k hk
end
end Go.Proofs.YtflagpkmebdckaaGreatDoor
