
import Derived.Laws.CopyOwn
import Derived.RangeFuncBox
import Derived.RangeFuncLeaves
import Derived.RangeFuncNested
import Derived.RangeFuncCalls
import Derived.Shelf.Abstract
import Derived.WalkKit
import Derived.OwnWalkIn
import Derived.TacticsInMore
import Derived.LoopNIn
import Derived.LoopIn
import Derived.Test.YtflagpkmebdckaaGreatDoorKNum
import Derived.Test.YtflagpkmebdckaaGreatDoorKOptFns
import Derived.Test.YtflagpkmebdckaaGreatDoorKDoc1
import Derived.Test.YtflagpkmebdckaaGreatDoorKKDecode
namespace Go.Proofs.YtflagpkmebdckaaGreatDoor.Low
open Num
set_option linter.unusedVariables false
structure Ix where
 k:Int
 s:Int
 t:Int
 d:Int
 m:Int
abbrev Ix.n (i:Ix):Nat:=i.k.toNat
structure Ix.bd (i:Ix):Prop where
 k0:-9223372036854775808≤i.k
 k1:i.k≤9223372036854775807
 s0:-9223372036854775808≤i.s
 s1:i.s≤9223372036854775807
 t0:-9223372036854775808≤i.t
 t1:i.t≤9223372036854775807
 d0:-9223372036854775808≤i.d
 d1:i.d≤9223372036854775807
 m0:0≤i.m
 m1:i.m<4294967296
def Ix.wordB (i:Ix):Bool:=decide (1≤i.k)&&decide (i.k<54)&&Tab.okB (Tab.sh i.n) i.s i.t i.d i.m
def Ix.kd (i:Ix):Nat:=if 0≤i.k∧i.k<54 then Tab.kdL.getD i.n 0 else 0
def immI (k:Nat) (m:Int):Int:=if k=39∨k=40∨k=41∨k=42 then m else wd m 16 true
def szI (k:Nat):Int:=if k=46∨k=49∨k=51 then 1 else if k=47∨k=50∨k=52 then 2 else 4
def sgI (k:Nat):Bool:=decide (k=46∨k=47)
def opx (n:Nat) (d a b i t:Int):Opx:=⟨kindS n,d,a,b,i,t⟩
def wrO (o:Opx):List Opx:=if o.d=0 then [] else [o]
def oD (k:Nat) (i:Ix):Int:=if 35≤k∧k≤41 then i.t else i.d
def oA (k:Nat) (i:Ix):Int:=if 1≤k∧k≤6 then i.t else i.s
def oB (k:Nat) (i:Ix):Int:=if 1≤k∧k≤3 then 34 else if 4≤k∧k≤6 then i.s else if 35≤k∧k≤41 then 34 else i.t
def ovK (k:Nat):Nat:=if k=19∨k=35 then 21 else if k=21 then 22 else 0
def rsK (k:Nat):Nat :=
 if k=21∨k=22 then 4 else if k=23∨k=39 then 5 else if k=24∨k=40 then 6 else if k=25∨k=41 then 7 else if k=26 then 8 else if k=27∨k=37 then 9 else if k=28∨k=38 then 10 else if k=1∨k=4 then 11 else if k=2∨k=5 then 12 else if k=3∨k=6 then 13 else 3
def resL (i:Ix) (n:Int):List Opx :=
 if oD i.n i=0∧ovK i.n=0 then [] else
  (if oB i.n i=34 then [opx 1 34 0 0 (immI i.n i.m) n] else [])++(if ovK i.n=0 then [] else [opx (ovK i.n) 0 (oA i.n i) (oB i.n i) 0 n])++wrO (opx (rsK i.n) (oD i.n i) (oA i.n i) (oB i.n i) 0 n)
def hiLoL (h l:Nat) (i:Ix) (n:Int):List Opx:=[opx h 32 i.s i.t 0 n,opx l 33 i.s i.t 0 n]
def sumL (i:Ix) (n:Int):List Opx :=
 if i.n=15 then hiLoL 15 14 i n else if i.n=16 then hiLoL 16 14 i n else if i.n=17 then hiLoL 18 17 i n else if i.n=18 then hiLoL 20 19 i n
 else if i.n=11 then wrO (opx 2 i.d 32 0 0 n) else if i.n=13 then wrO (opx 2 i.d 33 0 0 n) else if i.n=12 then [opx 2 32 i.s 0 0 n] else if i.n=14 then [opx 2 33 i.s 0 0 n]
 else if i.n=42 then wrO (opx 1 i.t 0 0 (lo (i.m*65536)) n) else resL i n
def linkI (pc n:Int):Int:=lo (pc+4*(n+2))
def brL (pc:Int) (i:Ix) (n:Int):List Opx :=
 (if i.n=31∨i.n=32 then [opx 7 35 i.s i.t 0 n] else if i.n=33∨i.n=34 then [opx 9 35 0 i.s 0 n] else if i.n=7∨i.n=8 then [opx 2 35 i.s 0 0 n] else [])
 ++ (if i.n=30 then [opx 1 31 0 0 (linkI pc n) n] else if i.n=8 then wrO (opx 1 i.d 0 0 (linkI pc n) n) else [])
def ldL (i:Ix) (n:Int):List Opx:=[opx 23 (if i.t=0 then 36 else i.t) i.s (if sgI i.n=true then -szI i.n else szI i.n) (immI i.n i.m) n]
def stL (i:Ix) (n:Int):List Opx:=[opx 24 (szI i.n) i.s i.t (immI i.n i.m) n]
def insX (pc:Int) (i:Ix) (n:Int):List Opx:=if i.kd=2 then brL pc i n else if i.kd=4 then ldL i n else if i.kd=5 then stL i n else sumL i n
def insXs (pc:Int):List Ix→Int→List Opx
 | [],_=>[]
 | i :: l,n=>insX pc i n++insXs pc l (n+1)
theorem insXs_app (pc:Int):∀ (a b:List Ix) (n:Int),insXs pc (a++b) n=insXs pc a n++insXs pc b (n+a.length)
 | [],b,n=>by simp[insXs]
 | i :: a,b,n=>by
  show insX pc i n++insXs pc (a++b) (n+1)=(insX pc i n++insXs pc a (n+1))++insXs pc b (n+((a.length+1:Nat):Int))
  rw[insXs_app pc a b (n+1),List.append_assoc]
  congr 3;omega
def tgI (i:Ix) (pc:Int):Int:=if i.n=29∨i.n=30 then bits .or .u32 (bits .and .u32 (lo (pc+4)) 4026531840) (lo (4*i.m)) else lo (lo (pc+4)+lo (4*immI i.n i.m))
def leaveB (i:Ix) (to be n:Int):List Opx :=
 if i.n=32∨i.n=34 then [opx 25 0 35 0 to n,opx 26 0 0 0 be n] else if i.n=31∨i.n=33 then [opx 25 0 35 0 be n,opx 26 0 0 0 to n] else if i.n=7∨i.n=8 then [opx 27 0 35 0 0 n] else [opx 26 0 0 0 to n]
def lastBr (l:List Ix):Option Ix:=if 2≤l.length then (match l[l.length-2]? with|some i=>if i.kd=2 then some i else none|none=>none) else none
def leaveL (pc:Int) (l:List Ix):List Opx:=match lastBr l with
 | some i=>leaveB i (tgI i (lo (pc+4*((l.length:Int)-2)))) (lo (pc+4*l.length)) ((l.length:Int)-1)
 | none=>[opx 26 0 0 0 (lo (pc+4*l.length)) ((l.length:Int)-1)]
def lowL (pc:Int) (l:List Ix):List Opx:=insXs pc l 0++leaveL pc l
def stI:List Ix→Nat
 | []=>0
 | i :: l=>(if i.kd=5 then 1 else 0)+stI l
theorem stI_app:∀ a b:List Ix,stI (a++b)=stI a+stI b
 | [],b=>by simp[stI]
 | i :: a,b=>by simp[stI,stI_app a b];omega
def insB (len n:Nat) (i:Ix):Bool:=i.wordB&&decide (i.kd≠3)&&(decide (i.kd≠2)||decide (n+2=len))
def regB (len:Nat):Nat→Nat→List Ix→Bool
 | _,_,[]=>true
 | n,st,i :: l=>insB len n i&&decide (st+(if i.kd=5 then 1 else 0)≤8)&&regB len (n+1) (st+(if i.kd=5 then 1 else 0)) l
def regE (l:List Ix):Nat:=if l.length=0 then 6 else if 24<l.length then 2 else if regB l.length 0 0 l=true then 0 else 4
theorem regB_iff (len:Nat):∀ (l:List Ix) (n st:Nat),regB len n st l=true↔(∀ (j:Nat) (i:Ix),l[j]?=some i→insB len (n+j) i=true)∧(st≤8∨l=[]→st+stI l≤8∨l=[])∧(l≠[]→st+stI l≤8)
 | [],n,st=>by simp[regB]
 | i :: l,n,st=>by
  have ih:=regB_iff len l (n+1) (st+(if i.kd=5 then 1 else 0))
  show (insB len n i&&decide (st+(if i.kd=5 then 1 else 0)≤8)&&regB len (n+1) (st+(if i.kd=5 then 1 else 0)) l)=true↔_
  rw[Bool.and_eq_true,Bool.and_eq_true,ih,decide_eq_true_eq]
  have es:stI (i :: l)=(if i.kd=5 then 1 else 0)+stI l:=rfl
  constructor
  ·rintro ⟨⟨h1,h2⟩,h3,h4,h5⟩
   refine ⟨fun j q hq=>?_,fun _=>.inl ?_,fun _=>?_⟩
   ·cases j with
    | zero=>simp at hq;subst hq;simpa using h1
    | succ j=>simp at hq;have:=h3 j q hq;rwa [show n+(j+1)=n+1+j by omega]
   all_goals
    rw[es]
    by_cases hl:l=[]
    ·subst hl;simp[stI];omega
    ·have:=h5 hl;omega
  ·rintro ⟨h1,h2,h3⟩
   have h4:=h3 (by simp)
   rw[es]at h4
   refine ⟨⟨by simpa using h1 0 i rfl,by omega⟩,fun j q hq=>?_,fun _=>?_,fun _=>by omega⟩
   ·have:=h1 (j+1) q (by simpa using hq);rwa [show n+(j+1)=n+1+j by omega]at this
   ·left;omega
structure RegOk (l:List Ix):Prop where
 l0:1≤l.length
 l1:l.length≤24
 st:stI l≤8
 ins:∀ (j:Nat) (i:Ix),l[j]?=some i→insB l.length j i=true
theorem regE_zero {l:List Ix} (h:regE l=0):RegOk l:=by
 unfold regE at h
 split at h
 ·cases h
 split at h
 ·cases h
 split at h
 ·rename_i h1 h2 h3
  obtain ⟨g1,g2,g3⟩:=(regB_iff l.length l 0 0).1 h3
  exact ⟨by omega,by omega,by have:=g3 (by intro e;rw[e]at h1;exact h1 rfl);omega,fun j i hj=>by simpa using g1 j i hj⟩
 ·cases h
structure InsOk (i:Ix):Prop where
 k1:1≤i.n
 k2:i.n<54
 kk:i.k=i.n
 s0:0≤i.s
 s1:i.s<32
 t0:0≤i.t
 t1:i.t<32
 d0:0≤i.d
 d1:i.d<32
 kd:i.kd=Tab.kdL.getD i.n 0
 nt:i.kd≠3
 ok:Tab.okB (Tab.sh i.n) i.s i.t i.d i.m=true
theorem insB_ok {len n:Nat} {i:Ix} (h:insB len n i=true):InsOk i∧(i.kd=2→n+2=len):=by
 unfold insB Ix.wordB at h
 simp only[Bool.and_eq_true,Bool.or_eq_true,decide_eq_true_eq]at h
 obtain ⟨⟨⟨⟨h1,h2⟩,h3⟩,h4⟩,h5⟩:=h
 have h3':=h3
 unfold Tab.okB at h3
 simp only[Bool.and_eq_true,decide_eq_true_eq]at h3
 obtain ⟨⟨⟨a,b⟩,c⟩,d⟩:=h3
 refine ⟨⟨by unfold Ix.n;omega,by unfold Ix.n;omega,by unfold Ix.n;omega,?_,?_,?_,?_,?_,?_,by unfold Ix.kd;rw[if_pos (by omega)],h4,h3'⟩,fun e=>by rcases h5 with h5|h5;exact absurd e h5;exact h5⟩
 ·rcases Tab.well_of a with h|h<;>omega
 ·rcases Tab.well_of a with h|h<;>omega
 ·rcases Tab.well_of b with h|h<;>omega
 ·rcases Tab.well_of b with h|h<;>omega
 ·rcases Tab.well_of c with h|h<;>omega
 ·rcases Tab.well_of c with h|h<;>omega
end Go.Proofs.YtflagpkmebdckaaGreatDoor.Low
namespace Go.Proofs.YtflagpkmebdckaaGreatDoor
open Num
set_option linter.unusedVariables false
export Low (immI szI sgI)
def St.set (S:St) (n:Nat) (v:Int):St:=if n=0 then S else { S with r:=fun i=>if i=n then v else S.r i }
def St.on (S:St):St:={ S with pc:=S.nx,nx:=Num.lo (S.nx+4),sl:=false }
def St.jump (S:St) (a:Int):St:={ S with pc:=a,nx:=Num.lo (a+4),sl:=false }
def bitI (b:Bool):Int:=if b=true then 1 else 0
def bitsI (k:Nat) (a b:Int):Int :=
 if k=23∨k=39 then bits .and .u32 a b else if k=24∨k=40 then bits .or .u32 a b else if k=25∨k=41 then bits .xor .u32 a b else if k=26 then bits .xor .u32 4294967295 (bits .or .u32 a b)
 else if k=27∨k=37 then bitI (lessB a b true) else if k=28∨k=38 then bitI (lessB a b false) else if k=1∨k=4 then shf 60 a b else if k=2∨k=5 then shf 62 a b else if k=3∨k=6 then shf 126 a b else shf 60 b 16
def resI (S:St) (k:Nat) (a b:Int):Int :=
 if k=19∨k=35 then lo (a+b) else if k=21 then lo (a-b) else if k=20∨k=36 then lo (a+b) else if k=22 then lo (a-b) else if k=11 then S.hi else if k=13 then S.lo else bitsI k a b
def overI (k:Nat) (a b:Int):Bool:=if k=19∨k=35 then ov (sg a+sg b) else if k=21 then ov (sg a-sg b) else false
def opA (S:St) (k s t:Nat):Int:=if k=1∨k=2∨k=3∨k=4∨k=5∨k=6 then S.r t else S.r s
def opB (S:St) (k s t:Nat) (m:Int):Int:=if k=1∨k=2∨k=3 then immI k m else if k=4∨k=5∨k=6 then S.r s else if 35≤k∧k≤42 then immI k m else S.r t
def opT (k t d:Nat):Nat:=if 35≤k∧k≤42 then t else d
def sumP (S:St) (k s t d:Nat) (m:Int):Int × St :=
 if k=15∨k=16 then (-1,St.on { S with hi:=hi (nm (opA S k s t) (decide (k=15))*nm (opB S k s t m) (decide (k=15))),lo:=lo (nm (opA S k s t) (decide (k=15))*nm (opB S k s t m) (decide (k=15))) })
 else if k=17∨k=18 then (-1,if opB S k s t m=0 then S.on else St.on { S with lo:=quo (opA S k s t) (opB S k s t m) (decide (k=17)),hi:=rst (opA S k s t) (opB S k s t m) (decide (k=17)) })
 else if k=12 then (-1,St.on { S with hi:=opA S k s t }) else if k=14 then (-1,St.on { S with lo:=opA S k s t })
 else if overI k (opA S k s t) (opB S k s t m)=true then (12,S) else (-1,(S.set (opT k t d) (resI S k (opA S k s t) (opB S k s t m))).on)
def adI (S:St) (k s:Nat) (m:Int):Int:=lo (S.r s+immI k m)
def takenI (S:St) (k s t:Nat):Bool:=if k=31 then decide (S.r s=S.r t) else if k=32 then !decide (S.r s=S.r t) else if k=33 then !lessB 0 (S.r s) true else if k=34 then lessB 0 (S.r s) true else true
def targI (S:St) (k s:Nat) (m:Int):Int:=if k=29∨k=30 then bits .or .u32 (bits .and .u32 (lo (S.pc+4)) 4026531840) (lo (4*m)) else if k=7∨k=8 then S.r s else lo (lo (S.pc+4)+lo (4*immI k m))
def branchP (S:St) (k s t d:Nat) (m:Int):Int × St :=
 if S.sl=true then (10,S) else
  (-1,{ (if k=30 then S.set 31 (lo (S.pc+8)) else if k=8 then S.set d (lo (S.pc+8)) else S) with pc:=S.nx,nx:=if takenI S k s t=true then targI S k s m else lo (S.nx+4),sl:=true })
end Go.Proofs.YtflagpkmebdckaaGreatDoor
namespace Go.Proofs.YtflagpkmebdckaaGreatDoor
open Go.RowKit Go.Maps
open Num
set_option linter.unusedVariables false
structure BoxO (W:World) (x:Nat) (o:Opx):Prop where
 c0:W.cell? ⟨x,0,none⟩=some (.string o.s)
 c1:W.cell? ⟨x,1,none⟩=some (.int .i64 o.d)
 c2:W.cell? ⟨x,2,none⟩=some (.int .i64 o.a)
 c3:W.cell? ⟨x,3,none⟩=some (.int .i64 o.b)
 c4:W.cell? ⟨x,4,none⟩=some (.int .u32 o.i)
 c5:W.cell? ⟨x,5,none⟩=some (.int .i64 o.t)
theorem BoxO.lt {W:World} {x:Nat} {o:Opx} (B:BoxO W x o):x<W.heap.size:=World.block_lt_of_cell? _ _ B.c0
theorem BoxO.block {W W':World} {x:Nat} {o:Opx} (B:BoxO W x o) (h:W'.heap[x]?=W.heap[x]?):BoxO W' x o:=by
 have c:∀ j,W'.cell? ⟨x,j,none⟩=W.cell? ⟨x,j,none⟩:=fun j=>World.cell?_of_block (a:=⟨x,j,none⟩) h
 exact ⟨(c 0).trans B.c0,(c 1).trans B.c1,(c 2).trans B.c2,(c 3).trans B.c3,(c 4).trans B.c4,(c 5).trans B.c5⟩
theorem BoxO.new (w:World) (o:Opx):BoxO (w.alloc (.cells #[.string o.s,.int .i64 o.d,.int .i64 o.a,.int .i64 o.b,.int .u32 o.i,.int .i64 o.t] 139)) w.heap.size o:=by
 have c:∀ j,(w.alloc (.cells #[.string o.s,.int .i64 o.d,.int .i64 o.a,.int .i64 o.b,.int .u32 o.i,.int .i64 o.t] 139)).cell? ⟨w.heap.size,j,none⟩=(#[.string o.s,.int .i64 o.d,.int .i64 o.a,.int .i64 o.b,.int .u32 o.i,.int .i64 o.t]:Array Value)[j]?:=fun j=>cell_of_row _ _ _ _ _ _ (heap_alloc_new w _)
 exact ⟨c 0,c 1,c 2,c 3,c 4,c 5⟩
section
variable {w : World} {base mb stb sb bp bw bh N : Nat} {X : Nat → Int} {p : List Pq} {vi : Value} {m : Nat → Int} {wt ht : Int → Bool}
theorem GAt.put {w:World} (M:GAt w base mb stb sb X p vi) (d:Nat) (hd:d<64) (v:Int) (hv:u32 v):GAt (w.setCell ⟨mb,1+d,none⟩ (.int .u32 v)) base mb stb sb (setX X d v) p vi:=by
 have o:∀ (j:Nat) (u:Value),j≠1+d→w.cell? ⟨mb,j,none⟩=some u→(w.setCell ⟨mb,1+d,none⟩ (.int .u32 v)).cell? ⟨mb,j,none⟩=some u:=fun j u hj e=>by
  rw[World.cell?_setCell_other _ _ _ _ (by intro e';injection e' with e1 e2;exact hj e2.symm)];exact e
 refine ⟨fun j hj=>?_,o _ _ (by omega) M.s0,o _ _ (by omega) M.g0,o _ _ (by omega) M.g1,fun j=>by rw[World.frozen?_setCell];exact M.fz j,owns_blocks M.row (fun k hk=>Below.heap_setCell w ⟨mb,1+d,none⟩ _ k (fun e=>M.ne k hk e)),M.lb,M.ne,fun j=>?_,by simp;exact M.bs⟩
 ·unfold setX
  by_cases e:j=d
  ·subst e;rw[if_pos (by simp)];exact World.cell?_setCell_same _ _ _ (M.x j hj)
  ·rw[if_neg (by simpa using e)];exact o _ _ (by omega) (M.x j hj)
 ·unfold setX;split
  ·exact hv
  ·exact M.xb j
theorem GAt.drew {w:World} (M:GAt w base mb stb sb X p vi):GAt w.drew base mb stb sb X p vi:=⟨M.x,M.s0,M.g0,M.g1,M.fz,M.row,M.lb,M.ne,M.xb,M.bs⟩
theorem GAt.opened {w:World} (M:GAt w base mb stb sb X p vi) (o:Obj):GAt (w.alloc o) base mb stb sb X p vi:=M.stays ((Below.refl _ _).alloc (Nat.le_refl _) _)
end
structure OAt (W:World) (B:Nat) (s:ByteArray) (d a b i t:Int):Prop where
 c0:W.cell? ⟨B,0,none⟩=some (.string s)
 c1:W.cell? ⟨B,1,none⟩=some (.int .i64 d)
 c2:W.cell? ⟨B,2,none⟩=some (.int .i64 a)
 c3:W.cell? ⟨B,3,none⟩=some (.int .i64 b)
 c4:W.cell? ⟨B,4,none⟩=some (.int .u32 i)
 c5:W.cell? ⟨B,5,none⟩=some (.int .i64 t)
theorem OAt.new (w:World) (s:ByteArray) (d a b i t:Int):OAt (w.alloc (.cells #[.string s,.int .i64 d,.int .i64 a,.int .i64 b,.int .u32 i,.int .i64 t] 139)) w.heap.size s d a b i t:=by
 refine ⟨?_,?_,?_,?_,?_,?_⟩<;>simp
theorem OAt.stays {W W':World} {B:Nat} {s:ByteArray} {d a b i t:Int} (O:OAt W B s d a b i t) (h:Below W.heap.size W W'):OAt W' B s d a b i t:=by
 have c:∀ (j:Nat) (u:Value),W.cell? ⟨B,j,none⟩=some u→W'.cell? ⟨B,j,none⟩=some u:=fun j u e=>(h.cell (p:=⟨B,j,none⟩) (World.block_lt_of_cell? W ⟨B,j,none⟩ e)).trans e
 exact ⟨c _ _ O.c0,c _ _ O.c1,c _ _ O.c2,c _ _ O.c3,c _ _ O.c4,c _ _ O.c5⟩
theorem OAt.drew {W:World} {B:Nat} {s:ByteArray} {d a b i t:Int} (O:OAt W B s d a b i t):OAt W.drew B s d a b i t:=⟨O.c0,O.c1,O.c2,O.c3,O.c4,O.c5⟩
theorem OAt.lt {W:World} {B:Nat} {s:ByteArray} {d a b i t:Int} (O:OAt W B s d a b i t):B<W.heap.size:=World.block_lt_of_cell? _ _ O.c0
theorem kt (k j:Nat) (h1:1≤k) (h2:k<28) (g1:1≤j) (g2:j<28) (hne:k≠j):((kindS k).toList==kinds.getD j [])=false:=by
 rw[kn_eq _ j g1 g2,kn_kind k h1 h2];simpa using hne
structure XBox (W:World) (x:Nat):Prop where
 c:∀ j,j<7→∃ u,W.cell? ⟨x,j,none⟩=some u
 f:∀ j,W.frozen? ⟨x,j,none⟩=false
theorem XBox.lt {W:World} {x:Nat} (F:XBox W x):x<W.heap.size:=by obtain ⟨u,a⟩:=F.c 0 (by omega);exact World.block_lt_of_cell? _ _ a
theorem XBox.block {W W':World} {x:Nat} (F:XBox W x) (h:W'.heap[x]?=W.heap[x]?):XBox W' x :=
 ⟨fun j hj=>by obtain ⟨u,a⟩:=F.c j hj;exact ⟨u,(World.cell?_of_block (a:=⟨x,j,none⟩) h).trans a⟩,fun j=>(World.frozen?_of_block (a:=⟨x,j,none⟩) h).trans (F.f j)⟩
theorem XBox.stays {W W':World} {x:Nat} (F:XBox W x) (h:Below W.heap.size W W'):XBox W' x:=F.block (h.block _ F.lt)
theorem XBox.drew {W:World} {x:Nat} (F:XBox W x):XBox W.drew x:=⟨F.c,F.f⟩
theorem XBox.new (w:World):XBox (w.alloc (.cells #[.int .i64 0,.int .u32 0,.int .u32 0,.int .i64 0,.int .u32 0,.bool false,.int .u32 0] 160)) w.heap.size:=by
 refine ⟨fun j hj=>?_,fun j=>World.frozen?_alloc_at _ _ _ _ rfl⟩
 have:j=0∨j=1∨j=2∨j=3∨j=4∨j=5∨j=6:=by omega
 rcases this with rfl|rfl|rfl|rfl|rfl|rfl|rfl
 ·exact ⟨.int .i64 0,by simp⟩
 ·exact ⟨.int .u32 0,by simp⟩
 ·exact ⟨.int .u32 0,by simp⟩
 ·exact ⟨.int .i64 0,by simp⟩
 ·exact ⟨.int .u32 0,by simp⟩
 ·exact ⟨.bool false,by simp⟩
 ·exact ⟨.int .u32 0,by simp⟩
theorem ef_load {w:World} {B:Nat} {v:Nat→Value} (z:∀ j,j<7→w.cell? ⟨B,j,none⟩=some (v j)):(loadVar 160 ⟨B,0,none⟩).run Tryz.prog w=.ok (.agg #[v 0,v 1,v 2,v 3,v 4,v 5,v 6]) w:=by
 have z0:=z 0 (by omega)
 have z1:=z 1 (by omega)
 have z2:=z 2 (by omega)
 have z3:=z 3 (by omega)
 have z4:=z 4 (by omega)
 have z5:=z 5 (by omega)
 have z6:=z 6 (by omega)
 simp[go_sem,z0,z1,z2,z3,z4,z5,z6]
def putN (W:World) (B:Nat) (v:Nat→Value):Nat→World
 | 0=>W
 | n+1=>(putN W B v n).setCell ⟨B,n,none⟩ (v n)
theorem putN_cell {W:World} {B:Nat} {v:Nat→Value}:∀ n j,(∃ u,W.cell? ⟨B,j,none⟩=some u)→(putN W B v n).cell? ⟨B,j,none⟩=if j<n then some (v j) else W.cell? ⟨B,j,none⟩
 | 0,j,_=>by rw[if_neg (by omega)];rfl
 | n+1,j,h=>by
  have ih:=putN_cell (v:=v) n j h
  show ((putN W B v n).setCell ⟨B,n,none⟩ (v n)).cell? ⟨B,j,none⟩=_
  by_cases e:j=n
  ·subst e
   rw[if_neg (by omega)]at ih
   rw[if_pos (by omega)]
   obtain ⟨u,hu⟩:=h
   exact World.cell?_setCell_same _ _ _ (ih.trans hu)
  ·rw[World.cell?_setCell_other _ _ _ _ (by intro e';injection e' with e1 e2;exact e e2.symm),ih]
   by_cases h1:j<n
   ·rw[if_pos h1,if_pos (by omega)]
   ·rw[if_neg h1,if_neg (by omega)]
theorem ef_put {W:World} {B:Nat} (F:XBox W B) (v0 v1 v2 v3 v4 v5 v6:Value):(loadVar 160 ⟨B,0,none⟩).run Tryz.prog (((((((W.setCell ⟨B,0,none⟩ v0).setCell ⟨B,1,none⟩ v1).setCell ⟨B,2,none⟩ v2).setCell ⟨B,3,none⟩ v3).setCell ⟨B,4,none⟩ v4).setCell ⟨B,5,none⟩ v5).setCell ⟨B,6,none⟩ v6)=.ok (.agg #[v0,v1,v2,v3,v4,v5,v6]) (((((((W.setCell ⟨B,0,none⟩ v0).setCell ⟨B,1,none⟩ v1).setCell ⟨B,2,none⟩ v2).setCell ⟨B,3,none⟩ v3).setCell ⟨B,4,none⟩ v4).setCell ⟨B,5,none⟩ v5).setCell ⟨B,6,none⟩ v6):=by
 have h:=ef_load (w:=putN W B (fun j=>match j with|0=>v0|1=>v1|2=>v2|3=>v3|4=>v4|5=>v5|_=>v6) 7) (B:=B) (v:=fun j=>match j with|0=>v0|1=>v1|2=>v2|3=>v3|4=>v4|5=>v5|_=>v6) (fun j hj=>by rw[putN_cell 7 j (F.c j hj),if_pos hj])
 exact h
theorem ef_below {w W:World} {b B:Nat} (h:Below b w W) (hB:b≤B) (v0 v1 v2 v3 v4 v5 v6:Value):Below b w (((((((W.setCell ⟨B,0,none⟩ v0).setCell ⟨B,1,none⟩ v1).setCell ⟨B,2,none⟩ v2).setCell ⟨B,3,none⟩ v3).setCell ⟨B,4,none⟩ v4).setCell ⟨B,5,none⟩ v5).setCell ⟨B,6,none⟩ v6) :=
 ((((((h.setCell (p:=⟨B,0,none⟩) hB _).setCell (p:=⟨B,1,none⟩) hB _).setCell (p:=⟨B,2,none⟩) hB _).setCell (p:=⟨B,3,none⟩) hB _).setCell (p:=⟨B,4,none⟩) hB _).setCell (p:=⟨B,5,none⟩) hB _).setCell (p:=⟨B,6,none⟩) hB _
set_option maxRecDepth 100000
set_option maxHeartbeats 4000000
section
variable {w : World} {base mb stb sb bp bw bh N : Nat} {X : Nat → Int} {p : List Pq} {vi : Value} {m : Nat → Int} {wt ht : Int → Bool}
theorem Turned.refl (w:World) (b c:Nat):Turned w w b c:=⟨rfl,rfl,rfl,Nat.le_refl _,fun _ _ _ _=>rfl⟩
theorem Turned.trans {w w1 w2:World} {b c:Nat} (h:Turned w w1 b c) (g:Turned w1 w2 b c):Turned w w2 b c :=
 ⟨g.os.trans h.os,g.tape.trans h.tape,g.output.trans h.output,Nat.le_trans h.size g.size,fun k hk n1 n2=>(g.block k (Nat.lt_of_lt_of_le hk h.size) n1 n2).trans (h.block k hk n1 n2)⟩
theorem turned_drew (w:World) (b c:Nat):Turned w w.drew b c:=⟨rfl,rfl,rfl,Nat.le_refl _,fun _ _ _ _=>rfl⟩
theorem RamIs.drew (R:RamIs w sb bp bw bh N m wt ht):RamIs w.drew sb bp bw bh N m wt ht:=⟨R.c0,R.c1,R.c2,R.pw,R.ph,R.wh,R.sp,R.sh,R.ps,R.ws,R.hs,R.mb⟩
theorem pqs_take_snoc {j:Nat} {q:Pq} (h:p[j]?=some q):pqs (p.take (j+1))=pqs (p.take j)++[q.1]:=by
 unfold pqs;rw[List.take_add_one,h];simp
theorem gopen_any (R:RamIs w sb bp bw bh N m wt ht) (G:GAt w base mb stb sb X p vi) (hp:p.length≤1000) (hN:N≤1000000) (hbp:bp<base) (hbh:bh<base) (hwt:∀ q∈pqs p,wt (q.a/256)=false) :
  Calls Tryz.prog 150 #[.pointer (some ⟨mb,65,none⟩)] w fun e w'=>e=.returned (.tuple #[])∧RamIs w' sb bp bw bh (N+2*p.length) (vw m (pqs p)) wt ht∧Turned w w' bp bh:=by
 have g1:=G.g1
 have GH:Hid (GAt w base mb stb sb X p vi):=G
 have RH:Hid (RamIs w sb bp bw bh N m wt ht):=R
 have WH:Hid (∀ q∈pqs p,wt (q.a/256)=false):=hwt
 obtain ⟨ao,cap,hvi⟩:∃ ao cap,vi=.slice ao p.length cap:=by
  rcases G.row.2 with ⟨rfl,h⟩|⟨g,cap,cur,rfl,_⟩
  ·exact ⟨none,0,by rw[h]⟩
  ·exact ⟨_,_,rfl⟩
 clear G R hwt
 rw[hvi]at g1
 go_enter Tryz.func150,Tryz.ntmps150
 go_wp2
 go_loopw [9] (fun i wr=>∃ j:Nat,j≤p.length∧i=.int .i64 j∧RamIs wr sb bp bw bh (N+2*j) (vw m (pqs (p.take j))) wt ht∧Turned w wr bp bh) (fun i _=>p.length-(intOf i).toNat)
 case atStart=>exact ⟨0,Nat.zero_le _,rfl,RH.out,Turned.refl _ _ _⟩
 case round =>
  obtain ⟨j,hj,rfl,Rr,Tr⟩:=hrel
  by_cases hlt:j<p.length
  ·obtain ⟨q,hq⟩:∃ q,p[j]?=some q:=⟨p[j],List.getElem?_eq_getElem hlt⟩
   have Gr:=GH.out.turned Tr hbp hbh
   have hpd:=Gr.pd
   have q0:=Gr.g0
   have hmr:=Gr.lt
   rcases hpd with ⟨_,rfl⟩|⟨b,off,cap2,e,hb,hc⟩
   ·simp at hlt
   rw[hvi]at e
   injection e with e1 e2 e3
   subst e1 e3
   obtain ⟨c0,c1,c2⟩:=hc j q hq
   have hqo:=q.2
   have hqm:q.1∈pqs p:=List.mem_map.2 ⟨q,List.mem_of_getElem? hq,rfl⟩
   have hqw:=WH.out _ hqm
   have HV:Hid (vw m (pqs (p.take (j+1)))=q.1.put (vw m (pqs (p.take j)))):=by
    show _=_;rw[pqs_take_snoc hq,vw_snoc]
   have RR:Hid (RamIs wr sb bp bw bh (N+2*j) (vw m (pqs (p.take j))) wt ht):=Rr
   have TT:Hid (Turned w wr bp bh):=Tr
   have hlt':(j:Int)<p.length:=by omega
   clear hc Rr Tr Gr hqm hq g1
   generalize vw m (pqs (p.take j))=mj at *
   obtain ⟨⟨qa,qs,qv⟩,hqk⟩:=q
   simp only at c0 c1 c2 hqw
   have hqk:Hid (Pend.ok ⟨qa,qs,qv⟩):=hqk
   clear hqo
   go_upto_region 3 with fail
   have k0:(wr.alloc (.cells #[.int .u32 qa,.int .i64 qs,.int .u32 qv] 158)).cell? ⟨mb,65,none⟩=some (.pointer (some ⟨sb,0,none⟩)):=(World.grownBy_alloc wr _ none).cell q0 (by simp)
   have k1:(wr.alloc (.cells #[.int .u32 qa,.int .i64 qs,.int .u32 qv] 158)).cell? ⟨wr.heap.size,0,none⟩=some (.int .u32 qa):=by simp
   have k2:(wr.alloc (.cells #[.int .u32 qa,.int .i64 qs,.int .u32 qv] 158)).cell? ⟨wr.heap.size,1,none⟩=some (.int .i64 qs):=by simp
   have k3:(wr.alloc (.cells #[.int .u32 qa,.int .i64 qs,.int .u32 qv] 158)).cell? ⟨wr.heap.size,2,none⟩=some (.int .u32 qv):=by simp
   have R1:Hid (RamIs (wr.alloc (.cells #[.int .u32 qa,.int .i64 qs,.int .u32 qv] 158)).drew sb bp bw bh (N+2*j) mj wt ht):=(RR.out.grow (World.grownBy_alloc wr _ none)).drew
   have T1:Hid (Turned w (wr.alloc (.cells #[.int .u32 qa,.int .i64 qs,.int .u32 qv] 158)).drew bp bh):=(TT.out.of_below ((Below.refl _ _).alloc (Nat.le_refl _) _)).trans (turned_drew _ _ _)
   generalize wr.alloc (.cells #[.int .u32 qa,.int .i64 qs,.int .u32 qv] 158)=V at *
   have hst:=store_ok R1.out qa qs qv hqk.out.a0 (by have:=(chk_ok hqk.out.c).2.2;simp only at this;omega) hqk.out.v0 hqk.out.v1 (by unfold maxLen;omega) hqk.out.c
   refine zP 11 [(0,0),(1,0),(2,0),(3,1),(4,0),(5,1),(6,0),(7,1),(8,0),(9,1),(10,2)] (fun W=>W.cell? ⟨mb,65,none⟩=some (.pointer (some ⟨sb,0,none⟩))∧W.cell? ⟨wr.heap.size,0,none⟩=some (.int .u32 qa)∧W.cell? ⟨wr.heap.size,1,none⟩=some (.int .i64 qs)∧W.cell? ⟨wr.heap.size,2,none⟩=some (.int .u32 qv)) (by kernel_rfl) (by kernel_rfl) (fun _ _ _ d _ h=>by cases d<;>exact h) ⟨by simpa using k0,by simpa using k1,by simpa using k2,by simpa using k3⟩ ?_
   repeat (first|(refine zF (by rfl) (by rfl) (fun W=>by (go_simp;try with_reducible rfl)) (fun K hK=>?_);go_simp;refine hK _ ?_;clear hK K)|(refine zQ (by rfl) (by rfl) (fun W hW=>by (obtain ⟨z0,z1,z2,z3⟩:=hW;go_simp;try with_reducible rfl)) (fun K hK=>?_);go_simp;refine hK _ ?_;clear hK K))
   refine zSr (by rfl) (by rfl) (fun K hK=>?_)
   go_simp
   refine hst.mono ?_
   rintro e w2 ⟨rfl,R2,t2⟩
   have nm1:mb≠bp∧mb≠bh:=by have:=GH.out.lb;omega
   have nw1:wr.heap.size≠bp∧wr.heap.size≠bh:=by have:=GH.out.bs;have:=TT.out.size;omega
   refine hK _ _ (fun _=>⟨t2.cell (A:=⟨mb,65,none⟩) (by simpa using k0) nm1.1 nm1.2,t2.cell (A:=⟨wr.heap.size,0,none⟩) (by simpa using k1) nw1.1 nw1.2,t2.cell (A:=⟨wr.heap.size,1,none⟩) (by simpa using k2) nw1.1 nw1.2,t2.cell (A:=⟨wr.heap.size,2,none⟩) (by simpa using k3) nw1.1 nw1.2⟩) ?_
   clear hK K
   refine zN ?_
   have R3:Hid (RamIs w2 sb bp bw bh (N+2*(j+1)) (Pend.put mj ⟨qa,qs,qv⟩) wt ht):=(R2.hits (fun x=>by rw[hqw];simp)).mono (by omega)
   have T3:Hid (Turned w w2 bp bh):=T1.out.trans t2
   clear R2 t2 hst k0 k1 k2 k3 R1 T1
   go_wp2
   go_roundw
   case rel=>exact ⟨j+1,by omega,by go_num,by rw[HV.out];exact R3.out,T3.out⟩
   case measure=>simp[intOf];omega
  ·obtain rfl:j=p.length:=by omega
   rw[List.take_length]at Rr
   go_wp2
   go_end0
   exact ⟨rfl,Rr,Tr⟩
end
set_option maxHeartbeats 4000000
theorem RowIs.spliceAt {w:World} {b:Nat} {t:TypeId} {n:Nat} {f:Nat→Value} {cur:Array Value} (off:Nat) (h1:w.heap[b]?=some (.cells cur t (0,0))) (h2:cur.size=n) (h3:∀ j,j<n→cur[j]?=some (f j)) (cs:List Value) (hn:off+cs.length≤n) (g:Nat→Value) (hg:∀ j,j<cs.length→cs[j]?=some (g (off+j))) (ho:∀ j,j<n→(j<off∨off+cs.length≤j)→g j=f j) :
  RowIs (w.setRow b (cur.toList.take off++(cs++cur.toList.drop (off+cs.length))).toArray) b t n g:=by
 refine ⟨_,setRow_heap w b _ _ t _ h1,by simp[h2];omega,fun j hj=>?_⟩
 rw[List.getElem?_toArray]
 by_cases h0:j<off
 ·rw[List.getElem?_append_left (by simp[h2];omega),List.getElem?_take,if_pos h0,Array.getElem?_toList,h3 j hj,ho j hj (.inl h0)]
 ·have hl:(cur.toList.take off).length=off:=by simp[h2];omega
  rw[List.getElem?_append_right (by rw[hl];omega),hl]
  by_cases h:j-off<cs.length
  ·rw[List.getElem?_append_left h,hg _ h,show off+(j-off)=j by omega]
  ·rw[List.getElem?_append_right (by omega),List.getElem?_drop,show off+cs.length+(j-off-cs.length)=j by omega,Array.getElem?_toList,h3 j hj,ho j hj (.inr (by omega))]
theorem wp_copy_row {P:Program} {w:World} {o:Oper} {a:Act} {K:Act→World→Prop} {Q:Exit→Act→World→Prop} (d s:Operand) (dT sT:TypeId)
  (ho:o.op=.call { callee:=.builtin .copy,args:=#[d,s],argTypes:=#[dT,sT] }) (elem:TypeId) (hu:P.underlying dT=some (.slice elem)) (hsz:(P.info? elem).map (·.size)=some 1)
  (g off dLen dCap:Nat) (ad:Addr) (sLen sCap:Nat) (hd:a.eval d=.slice (some ⟨g,off,none⟩) dLen dCap) (hs:a.eval s=.slice (some ad) sLen sCap)
  (cur:Array Value) (t:TypeId) (hg:w.heap[g]?=some (.cells cur t (0,0))) (cs:List Value) (hn:cs.length=Nat.min sLen dLen)
  (hsrc:∀ j v,cs[j]?=some v→w.cell? (ad.add j)=some v) (hfit:off+cs.length≤cur.size) (h1:∀ v∈cs,v.oneCell'=true)
  (h:K (a.put o.dst (goInt cs.length)) (w.setRow g (cur.toList.take off++(cs++cur.toList.drop (off+cs.length))).toArray)):o.wp P a w K Q:=by
 have hrun:=run_copy_row (P:=P) w dT sT o.type elem g off dLen dCap ad sLen sCap cur t cs hu hsz hg hn hsrc hfit h1
 unfold Oper.wp
 simp[execOp,ho,resolve,invoke,builtin,hd,hs,hrun,Result.andThen]
 exact h
theorem setRow_else (w:World) (g k:Nat) (cs:Array Value) (h:k≠g):(w.setRow g cs).heap[k]?=w.heap[k]?:=setRow_other w g k cs h
def xl (X:Nat→Int) (n:Nat):List Value:=(List.range n).map fun j=>.int .u32 (X j)
theorem xl_len (X:Nat→Int) (n:Nat):(xl X n).length=n:=by simp[xl]
theorem xl_get (X:Nat→Int) (n j:Nat) (h:j<n):(xl X n)[j]?=some (.int .u32 (X j)):=by simp[xl,List.getElem?_map,List.getElem?_range h]
theorem xl_one (X:Nat→Int) (n:Nat):∀ v∈xl X n,v.oneCell'=true:=by
 intro v hv;obtain ⟨j,_,rfl⟩:=List.mem_map.1 hv;rfl
theorem xl_src {w:World} {b off:Nat} {X:Nat→Int} {n:Nat} (h:∀ j,j<n→w.cell? ⟨b,off+j,none⟩=some (.int .u32 (X j))):∀ j v,(xl X n)[j]?=some v→w.cell? ((⟨b,off,none⟩:Addr).add j)=some v:=by
 intro j v hv
 have hj:j<n:=by have:=(List.getElem?_eq_some_iff.1 hv).1;simpa [xl] using this
 rw[xl_get X n j hj]at hv
 have e:(⟨b,off,none⟩:Addr).add j=⟨b,off+j,none⟩:=by unfold Addr.add;split<;>simp_all
 rw[e,h j hj];exact hv
theorem RamIs.blocks {w w':World} {sb bp bw bh N:Nat} {m:Nat→Int} {wt ht:Int→Bool} (R:RamIs w sb bp bw bh N m wt ht) (h:∀ k,k=sb∨k=bp∨k=bw∨k=bh→w'.heap[k]?=w.heap[k]?):RamIs w' sb bp bw bh N m wt ht:=by
 have hs:=h sb (Or.inl rfl)
 have c:∀ (j:Nat) (v:Value),w.cell? ⟨sb,j,none⟩=some v→w'.cell? ⟨sb,j,none⟩=some v:=fun j v e=>(World.cell?_of_block (a:=⟨sb,j,none⟩) hs).trans e
 refine ⟨c _ _ R.c0,c _ _ R.c1,c _ _ R.c2,R.pw,R.ph,R.wh,R.sp,R.sh,?_,?_,?_,R.mb⟩
 ·obtain ⟨D,⟨es,clock,hb,r⟩,g⟩:=R.ps
  exact ⟨D,⟨es,clock,(h bp (by simp)).trans hb,r⟩,g⟩
 ·obtain ⟨D,⟨es,clock,hb,r⟩,g⟩:=R.ws
  exact ⟨D,⟨es,clock,(h bw (by simp)).trans hb,r⟩,g⟩
 ·obtain ⟨D,⟨es,clock,hb,r⟩,g⟩:=R.hs
  exact ⟨D,⟨es,clock,(h bh (by simp)).trans hb,r⟩,g⟩
def gsV (stb:Nat) (X:Nat→Int) (sb:Nat) (vi:Value) (j:Nat):Value:=if j=0 then .pointer (some ⟨stb,0,none⟩) else if j<65 then .int .u32 (X (j-1)) else if j=65 then .pointer (some ⟨sb,0,none⟩) else vi
abbrev GRow (w:World) (mb stb sb:Nat) (X:Nat→Int) (vi:Value):Prop:=RowIs w mb 238 67 (gsV stb X sb vi)
def begX (S:St) (j:Nat):Int:=if j<32 then S.r j else if j=32 then S.hi else if j=33 then S.lo else 0
theorem GRow.gat {w:World} {base mb stb sb:Nat} {X:Nat→Int} (h:GRow w mb stb sb X (.slice none 0 0)) (lb:base≤mb) (xb:∀ j,u32 (X j)) (bs:base≤w.heap.size):GAt w base mb stb sb X [] (.slice none 0 0) :=
 ⟨fun j hj=>by have:=h.cell (j:=1+j) (by omega);rw[this];unfold gsV;rw[if_neg (by omega),if_pos (by omega),show 1+j-1=j by omega],h.cell (j:=0) (by omega),h.cell (j:=65) (by omega),h.cell (j:=66) (by omega),fun j=>h.fz j,World.ownsRow_nil _ _ _ _,lb,(fun k hk=>by cases hk),xb,bs⟩
theorem guest_zero:Tryz.zeroCells238.toList=(List.range 67).map (fun j=>if j=0 then Value.pointer none else if j<65 then .int .u32 0 else if j=65 then .pointer none else .slice none 0 0):=by kernel_rfl
theorem guest_made (w:World) (stb sb:Nat):GRow (w.alloc (.cells (((Tryz.zeroCells238.setIfInBounds 0 (.pointer (some ⟨stb,0,none⟩))).setIfInBounds 65 (.pointer (some ⟨sb,0,none⟩))).setIfInBounds 66 (.slice none 0 0)) 238)) w.heap.size stb sb (fun _=>0) (.slice none 0 0):=by
 have hsz:Tryz.zeroCells238.size=67:=by rw[←Array.length_toList,guest_zero];simp
 refine ⟨_,heap_alloc_new w _,by simp[hsz],fun j hj=>?_⟩
 unfold gsV
 rw[Array.getElem?_setIfInBounds,Array.getElem?_setIfInBounds,Array.getElem?_setIfInBounds]
 by_cases e66:66=j
 ·subst e66;simp[hsz]
 ·rw[if_neg e66]
  by_cases e65:65=j
  ·subst e65;simp[hsz]
  ·rw[if_neg e65]
   by_cases e0:0=j
   ·subst e0;simp[hsz]
   ·rw[if_neg e0,if_neg (Ne.symm e0),if_pos (by omega),←Array.getElem?_toList,guest_zero,List.getElem?_map,List.getElem?_range hj]
    simp[Ne.symm e0,show j<65 by omega]
theorem begin_ok {w:World} {stb sb:Nat} {S:St} (hS:StRow w stb S) (pc:Int) (p0:0≤pc) (p1:pc<4294967296) (hsl:S.sl=false) (hpc:S.pc=pc) (hnx:S.nx=lo (pc+4)) :
  Calls Tryz.prog 77 #[.int .u32 pc,.pointer (some ⟨stb,0,none⟩),.pointer (some ⟨sb,0,none⟩)] w fun e w'=>∃ mb,e=.returned (.tuple #[.pointer (some ⟨mb,0,none⟩),.nilIface])∧w.heap.size≤mb∧GRow w' mb stb sb (begX S) (.slice none 0 0)∧Below w.heap.size w w':=by
 have hA:=hS.at
 obtain ⟨q32,q33,q34,q35,q36,_,_,_,_,_,q42⟩:=hA.told
 have SH:Hid (StRow w stb S):=hS
 rw[hsl]at q36
 rw[hpc]at q34
 rw[hnx]at q35
 have hlo:lo (pc+4)=(pc+4)%4294967296:=rfl
 rw[hlo]at q35
 have hst:=hS.lt
 clear hS hA hsl hpc hnx hlo
 have hM:=guest_made w stb sb
 have hBA:Hid (Below w.heap.size w (w.alloc (.cells (((Tryz.zeroCells238.setIfInBounds 0 (.pointer (some ⟨stb,0,none⟩))).setIfInBounds 65 (.pointer (some ⟨sb,0,none⟩))).setIfInBounds 66 (.slice none 0 0)) 238))):=(Below.refl _ _).alloc (Nat.le_refl _) _
 have hSA:StRow (w.alloc (.cells (((Tryz.zeroCells238.setIfInBounds 0 (.pointer (some ⟨stb,0,none⟩))).setIfInBounds 65 (.pointer (some ⟨sb,0,none⟩))).setIfInBounds 66 (.slice none 0 0)) 238)) stb S:=SH.out.stays ((Below.refl _ _).alloc (Nat.le_refl _) _)
 have hzA:(w.alloc (.cells (((Tryz.zeroCells238.setIfInBounds 0 (.pointer (some ⟨stb,0,none⟩))).setIfInBounds 65 (.pointer (some ⟨sb,0,none⟩))).setIfInBounds 66 (.slice none 0 0)) 238)).heap.size=w.heap.size+1:=by simp
 go_enter Tryz.func77,Tryz.ntmps77
 go_upto_region 4 with fail
 generalize w.alloc (.cells (((Tryz.zeroCells238.setIfInBounds 0 (.pointer (some ⟨stb,0,none⟩))).setIfInBounds 65 (.pointer (some ⟨sb,0,none⟩))).setIfInBounds 66 (.slice none 0 0)) 238)=U at *
 generalize ((Tryz.zeroCells238.setIfInBounds 0 (.pointer (some ⟨stb,0,none⟩))).setIfInBounds 65 (.pointer (some ⟨sb,0,none⟩))).setIfInBounds 66 (.slice none 0 0)=Ag at *
 obtain ⟨cur,h1,h2,h3⟩:=hM
 refine zP 9 [(0,0),(1,0),(2,0),(3,0),(4,0),(5,0),(6,0),(7,0),(8,2)] (fun W=>True) (by kernel_rfl) (by kernel_rfl) (fun _ _ _ d _ h=>by cases d<;>exact h) trivial ?_
 repeat (refine zF (by rfl) (by rfl) (fun W=>by (go_simp;try with_reducible rfl)) (fun K hK=>?_);go_simp;refine hK _ ?_;clear hK K)
 refine zSr (by rfl) (by rfl) (fun K hK=>?_)
 have hsr:∀ j,j<32→U.drew.cell? ⟨stb,0+j,none⟩=some (.int .u32 (S.r j)):=fun j hj=>by have:=hSA.cell (j:=j) (by omega);rw[Nat.zero_add,show U.drew.cell? ⟨stb,j,none⟩=U.cell? ⟨stb,j,none⟩ from rfl,this];unfold stV;rw[if_pos hj]
 refine wp_copy_row _ _ 46 46 rfl 22 Tryz.underlying46 size23 w.heap.size 1 64 64 ⟨stb,0,none⟩ 32 32 rfl rfl cur 238 h1 (xl S.r 32) (by rw[xl_len];rfl) (xl_src hsr) (by rw[xl_len,h2];omega) (xl_one _ _) ?_
 have hR1:GRow (U.drew.setRow w.heap.size (cur.toList.take 1++(xl S.r 32++cur.toList.drop (1+(xl S.r 32).length))).toArray) w.heap.size stb sb (fun j=>if j<32 then S.r j else 0) (.slice none 0 0):=by
  refine RowIs.spliceAt (w:=U.drew) 1 h1 h2 h3 (xl S.r 32) (by rw[xl_len];omega) _ (fun j hj=>?_) (fun j hj hl=>?_)
  ·rw[xl_len]at hj;rw[xl_get _ _ _ hj];unfold gsV;rw[if_neg (by omega),if_pos (by omega),show 1+j-1=j by omega];simp[hj]
  ·rw[xl_len]at hl;unfold gsV
   by_cases e0:j=0
   ·rw[if_pos e0,if_pos e0]
   ·rw[if_neg e0,if_neg e0];simp[show ¬ j-1<32 by omega]
 have hO1:∀ k,k≠w.heap.size→(U.drew.setRow w.heap.size (cur.toList.take 1++(xl S.r 32++cur.toList.drop (1+(xl S.r 32).length))).toArray).heap[k]?=U.heap[k]?:=fun k hk=>setRow_else U.drew w.heap.size k _ hk
 have hB1:Hid (Below w.heap.size w (U.drew.setRow w.heap.size (cur.toList.take 1++(xl S.r 32++cur.toList.drop (1+(xl S.r 32).length))).toArray)):=⟨hBA.out.os,hBA.out.tape,hBA.out.output,by have:=hBA.out.size;simp[World.setRow];omega,fun k hk=>(hO1 k (by omega)).trans (hBA.out.block k hk)⟩
 generalize U.drew.setRow w.heap.size (cur.toList.take 1++(xl S.r 32++cur.toList.drop (1+(xl S.r 32).length))).toArray=V at *
 refine hK _ _ (fun _=>trivial) ?_
 clear hK K hsr
 refine zN ?_
 have hS1:StRow V stb S:=SH.out.stays hB1.out
 have c32:=hS1.at.told.1
 have c33:=hS1.at.told.2.1
 have x32:=hR1.cell (j:=33) (by omega)
 have x33:=hR1.cell (j:=34) (by omega)
 have f32:=hR1.fz 33
 have f33:=hR1.fz 34
 clear q32 q33 q34 q35 q36 q42
 go_upto_region 5 with fail
 refine zP 13 [(0,0),(1,0),(2,0),(3,0),(4,0),(5,1),(6,0),(7,0),(8,0),(9,1),(10,0),(11,0),(12,0),(14,0),(15,0),(13,2),(16,0),(17,2)] (fun W=>W.cell? ⟨stb,32,none⟩=some (.int .u32 S.hi)∧W.cell? ⟨stb,33,none⟩=some (.int .u32 S.lo)) (by kernel_rfl) (by kernel_rfl) (fun _ _ _ d _ h=>by cases d<;>exact h) ⟨c32,c33⟩ ?_
 repeat (first|(refine zF (by rfl) (by rfl) (fun W=>by (go_simp;try with_reducible rfl)) (fun K hK=>?_);go_simp;refine hK _ ?_;clear hK K)|(refine zQ (by rfl) (by rfl) (fun W hW=>by (obtain ⟨z0,z1⟩:=hW;go_simp;try with_reducible rfl)) (fun K hK=>?_);go_simp;refine hK _ ?_;clear hK K))
 refine zSr (by rfl) (by rfl) (fun K hK=>?_)
 go_simp
 refine hK _ _ (fun h=>absurd h (by decide)) ?_
 clear hK K
 repeat (refine zF (by rfl) (by rfl) (fun W=>by (go_simp;try with_reducible rfl)) (fun K hK=>?_);go_simp;refine hK _ ?_;clear hK K)
 refine zSr (by rfl) (by rfl) (fun K hK=>?_)
 go_simp
 refine hK _ _ (fun h=>absurd h (by decide)) ?_
 clear hK K
 refine zN ?_
 go_wp2
 go_ret2
 refine ⟨w.heap.size,rfl,Nat.le_refl _,?_,?_⟩
 ·have r1:=hR1.put 33 (.int .u32 S.hi) (gsV stb (fun j=>if j<32 then S.r j else if j=32 then S.hi else 0) sb (.slice none 0 0)) (by simp[gsV]) (fun j hj hn=>by
   unfold gsV
   by_cases e0:j=0
   ·rw[if_pos e0,if_pos e0]
   ·have e:¬ j-1=32:=by omega
    simp[e])
  have r2:=r1.put 34 (.int .u32 S.lo) (gsV stb (begX S) sb (.slice none 0 0)) (by simp[gsV,begX]) (fun j hj hn=>by
   unfold gsV begX
   by_cases e0:j=0
   ·rw[if_pos e0,if_pos e0]
   ·have e:¬ j-1=33:=by omega
    simp[e])
  exact r2
 ·exact ((hB1.out.setCell (p:=⟨w.heap.size,33,none⟩) (Nat.le_refl _) _).setCell (p:=⟨w.heap.size,34,none⟩) (Nat.le_refl _) _).drew
theorem RowIs.splice0 {w:World} {b:Nat} {t:TypeId} {n:Nat} {f:Nat→Value} {cur:Array Value} (h1:w.heap[b]?=some (.cells cur t (0,0))) (h2:cur.size=n) (h3:∀ j,j<n→cur[j]?=some (f j)) (cs:List Value) (hn:cs.length≤n) (g:Nat→Value) (hg:∀ j,j<cs.length→cs[j]?=some (g j)) (ho:∀ j,j<n→cs.length≤j→g j=f j) :
  RowIs (w.setRow b (cur.toList.take 0++(cs++cur.toList.drop (0+cs.length))).toArray) b t n g:=by
 refine ⟨_,setRow_heap w b _ _ t _ h1,by simp[h2];omega,fun j hj=>?_⟩
 rw[List.getElem?_toArray]
 simp only[List.take_zero,List.nil_append,Nat.zero_add]
 by_cases h:j<cs.length
 ·rw[List.getElem?_append_left h];exact hg j h
 ·rw[List.getElem?_append_right (by omega),List.getElem?_drop,show cs.length+(j-cs.length)=j by omega,Array.getElem?_toList,h3 j hj,ho j hj (by omega)]
theorem stV_ct (S:St) (x:Int) (j:Nat) (h:j<42):stV { S with ct:=x } j=stV S j:=by
 have h':j<32∨j=32∨j=33∨j=34∨j=35∨j=36∨j=37∨j=38∨j=39∨j=40∨j=41:=by omega
 rcases h' with h'|rfl|rfl|rfl|rfl|rfl|rfl|rfl|rfl|rfl|rfl
 ·unfold stV;rw[if_pos h',if_pos h']
 all_goals rfl
def leftS (S:St) (X:Nat→Int) (to many:Int):St:={ S with r:=X,hi:=X 32,lo:=X 33,pc:=to,nx:=lo (to+4),ct:=S.ct+many }
section
variable {w : World} {base mb stb sb bp bw bh N : Nat} {X : Nat → Int} {p : List Pq} {vi : Value} {m : Nat → Int} {wt ht : Int → Bool}
theorem GAt.turn1 {w w':World} (M:GAt w base mb stb sb X p vi) (b:Nat) (hb:b<base) (hs:w.heap.size≤w'.heap.size) (h:∀ k,k≠b→w'.heap[k]?=w.heap[k]?):GAt w' base mb stb sb X p vi :=
 M.blocks hs (fun k hk=>h k (by
  rcases hk with rfl|hk
  ·have:=M.lb;omega
  ·have:=(M.blk k hk).2;omega))
theorem RamIs.turn1 {w w':World} (R:RamIs w sb bp bw bh N m wt ht) (b:Nat) (h1:sb≠b) (h2:bp≠b) (h3:bw≠b) (h4:bh≠b) (h:∀ k,k≠b→w'.heap[k]?=w.heap[k]?):RamIs w' sb bp bw bh N m wt ht :=
 R.blocks (fun k hk=>h k (by rcases hk with rfl|rfl|rfl|rfl<;>assumption))
theorem leave_any {S:St} (R:RamIs w sb bp bw bh N m wt ht) (G:GAt w base mb stb sb X p vi) (hS:StRow w stb S) (hp:p.length≤1000) (hN:N≤1000000) (hbp:bp<base) (hbh:bh<base) (hst:stb<base) (n1:sb≠stb) (n2:bp≠stb) (n3:bw≠stb) (n4:bh≠stb) (hwt:∀ q∈pqs p,wt (q.a/256)=false)
  (to many:Int) (t0:0≤to) (t1:to<4294967296) (c0:0≤S.ct) (c1:S.ct≤1152921504606846976) (m0:1≤many) (m1:many≤24) :
  Calls Tryz.prog 80 #[.pointer (some ⟨mb,0,none⟩),.int .u32 to,.int .i64 many] w fun e w'=>e=.returned (.tuple #[])∧StRow w' stb (leftS S X to many)∧RamIs w' sb bp bw bh (N+2*p.length) (vw m (pqs p)) wt ht∧w.heap.size≤w'.heap.size∧(∀ k,k<w.heap.size→k≠stb→k≠bp→k≠bh→w'.heap[k]?=w.heap[k]?)∧w'.os=w.os∧w'.tape=w.tape∧w'.output=w.output:=by
 obtain ⟨cur,h1,h2,h3⟩:=hS
 have WH:Hid (∀ q∈pqs p,wt (q.a/256)=false):=hwt
 have RH:Hid (RamIs w sb bp bw bh N m wt ht):=R
 have GH:Hid (GAt w base mb stb sb X p vi):=G
 have hms:mb≠stb:=by have:=G.lb;omega
 have s0:=G.s0
 clear hwt R G
 go_enter Tryz.func80,Tryz.ntmps80
 go_upto_region 1 with fail
 clear s0
 refine zP 9 [(0,0),(1,0),(2,0),(3,0),(4,0),(5,0),(6,0),(7,0),(8,2)] (fun W=>True) (by kernel_rfl) (by kernel_rfl) (fun _ _ _ d _ h=>by cases d<;>exact h) trivial ?_
 repeat (refine zF (by rfl) (by rfl) (fun W=>by (go_simp;try with_reducible rfl)) (fun K hK=>?_);go_simp;refine hK _ ?_;clear hK K)
 refine zSr (by rfl) (by rfl) (fun K hK=>?_)
 have hsr:∀ j,j<32→w.drew.cell? ⟨mb,1+j,none⟩=some (.int .u32 (X j)):=fun j hj=>GH.out.x j (by omega)
 refine wp_copy_row _ _ 46 46 rfl 22 Tryz.underlying46 size23 stb 0 32 32 ⟨mb,1,none⟩ 64 64 rfl rfl cur 25 h1 (xl X 32) (by rw[xl_len];rfl) (xl_src hsr) (by rw[xl_len,h2];omega) (xl_one _ _) ?_
 have hS1:StRow (w.drew.setRow stb (cur.toList.take 0++(xl X 32++cur.toList.drop (0+(xl X 32).length))).toArray) stb { S with r:=X }:=by
  refine RowIs.splice0 (w:=w.drew) h1 h2 h3 (xl X 32) (by rw[xl_len];omega) _ (fun j hj=>?_) (fun j hj hl=>?_)
  ·rw[xl_len]at hj;rw[xl_get _ _ _ hj];unfold stV;rw[if_pos hj]
  ·rw[xl_len]at hl;unfold stV;have:¬ j<32:=by omega
   simp[this]
 have hO1:∀ k,k≠stb→(w.drew.setRow stb (cur.toList.take 0++(xl X 32++cur.toList.drop (0+(xl X 32).length))).toArray).heap[k]?=w.heap[k]?:=fun k hk=>setRow_else w.drew stb k _ hk
 have hz1:(w.drew.setRow stb (cur.toList.take 0++(xl X 32++cur.toList.drop (0+(xl X 32).length))).toArray).heap.size=w.heap.size:=by simp[World.setRow]
 have ho1:(w.drew.setRow stb (cur.toList.take 0++(xl X 32++cur.toList.drop (0+(xl X 32).length))).toArray).os=w.os∧(w.drew.setRow stb (cur.toList.take 0++(xl X 32++cur.toList.drop (0+(xl X 32).length))).toArray).tape=w.tape∧(w.drew.setRow stb (cur.toList.take 0++(xl X 32++cur.toList.drop (0+(xl X 32).length))).toArray).output=w.output:=⟨rfl,rfl,rfl⟩
 generalize w.drew.setRow stb (cur.toList.take 0++(xl X 32++cur.toList.drop (0+(xl X 32).length))).toArray=V at *
 refine hK _ _ (fun _=>trivial) ?_
 clear hK K hsr
 refine zN ?_
 go_upto_region 2 with fail
 have GV:Hid (GAt V base mb stb sb X p vi):=GH.out.turn1 stb hst (by omega) hO1
 have x32:=GV.out.x 32 (by omega)
 have x33:=GV.out.x 33 (by omega)
 have hA:=hS1.at
 obtain ⟨q32,q33,q34,q35,_,_,_,_,_,_,q42⟩:=hA.told
 have f32:=hA.fz 32
 have f33:=hA.fz 33
 refine zP 14 [(0,0),(1,0),(2,0),(3,0),(4,0),(5,0),(6,1),(7,0),(8,0),(9,0),(10,0),(11,1),(12,0),(13,0),(14,2),(15,0),(16,0),(17,2)] (fun W=>W.cell? ⟨mb,33,none⟩=some (.int .u32 (X 32))∧W.cell? ⟨mb,34,none⟩=some (.int .u32 (X 33))) (by kernel_rfl) (by kernel_rfl) (fun _ _ _ d _ h=>by cases d<;>exact h) ⟨by simpa using x32,by simpa using x33⟩ ?_
 repeat (first|(refine zF (by rfl) (by rfl) (fun W=>by (go_simp;try with_reducible rfl)) (fun K hK=>?_);go_simp;refine hK _ ?_;clear hK K)|(refine zQ (by rfl) (by rfl) (fun W hW=>by (obtain ⟨z0,z1⟩:=hW;go_simp;try with_reducible rfl)) (fun K hK=>?_);go_simp;refine hK _ ?_;clear hK K))
 refine zSr (by rfl) (by rfl) (fun K hK=>?_)
 go_simp
 refine hK _ _ (fun h=>absurd h (by decide)) ?_
 clear hK K
 repeat (first|(refine zF (by rfl) (by rfl) (fun W=>by (go_simp;try with_reducible rfl)) (fun K hK=>?_);go_simp;refine hK _ ?_;clear hK K))
 refine zSr (by rfl) (by rfl) (fun K hK=>?_)
 go_simp
 refine hK _ _ (fun h=>absurd h (by decide)) ?_
 clear hK K
 refine zN ?_
 have hS2:StRow ((V.setCell ⟨stb,32,none⟩ (.int .u32 (X 32))).setCell ⟨stb,33,none⟩ (.int .u32 (X 33))).drew stb { S with r:=X,hi:=X 32,lo:=X 33 }:=by
  have r1:=hS1.put 32 (.int .u32 (X 32)) (stV { S with r:=X,hi:=X 32 }) rfl (fun j hj hn=>by unfold stV;simp[hn])
  exact r1.put 33 (.int .u32 (X 33)) (stV { S with r:=X,hi:=X 32,lo:=X 33 }) rfl (fun j hj hn=>by unfold stV;simp[hn])
 have hO2:∀ k,k≠stb→(((V.setCell ⟨stb,32,none⟩ (.int .u32 (X 32))).setCell ⟨stb,33,none⟩ (.int .u32 (X 33))).drew).heap[k]?=w.heap[k]?:=fun k hk=>((Below.heap_setCell _ ⟨stb,33,none⟩ _ k hk).trans (Below.heap_setCell _ ⟨stb,32,none⟩ _ k hk)).trans (hO1 k hk)
 have hz2:(((V.setCell ⟨stb,32,none⟩ (.int .u32 (X 32))).setCell ⟨stb,33,none⟩ (.int .u32 (X 33))).drew).heap.size=w.heap.size:=by simp[hz1]
 have ho2:(((V.setCell ⟨stb,32,none⟩ (.int .u32 (X 32))).setCell ⟨stb,33,none⟩ (.int .u32 (X 33))).drew).os=w.os∧(((V.setCell ⟨stb,32,none⟩ (.int .u32 (X 32))).setCell ⟨stb,33,none⟩ (.int .u32 (X 33))).drew).tape=w.tape∧(((V.setCell ⟨stb,32,none⟩ (.int .u32 (X 32))).setCell ⟨stb,33,none⟩ (.int .u32 (X 33))).drew).output=w.output:=ho1
 generalize ((V.setCell ⟨stb,32,none⟩ (.int .u32 (X 32))).setCell ⟨stb,33,none⟩ (.int .u32 (X 33))).drew=V2 at *
 clear q32 q33 q34 q35 q42 f32 f33 hA hS1 x32 x33 hz1 ho1
 have hA:=hS2.at
 obtain ⟨_,_,q34,q35,_,_,_,_,_,_,q42⟩:=hA.told
 have f34:=hA.fz 34
 have f35:=hA.fz 35
 have f42:=hA.fz 42
 go_wp2_with fail
 have hS3:StRow (((V2.setCell ⟨stb,34,none⟩ (.int .u32 to)).setCell ⟨stb,35,none⟩ (.int .u32 ((to+4)%4294967296))).setCell ⟨stb,42,none⟩ (.int .i64 (S.ct+many))) stb (leftS S X to many):=by
  have r1:=hS2.put 34 (.int .u32 to) (stV { S with r:=X,hi:=X 32,lo:=X 33,pc:=to }) rfl (fun j hj hn=>by unfold stV;simp[hn])
  have r2:=r1.put 35 (.int .u32 ((to+4)%4294967296)) (stV { S with r:=X,hi:=X 32,lo:=X 33,pc:=to,nx:=lo (to+4) }) rfl (fun j hj hn=>by unfold stV;simp[hn])
  exact r2.put 42 (.int .i64 (S.ct+many)) (stV (leftS S X to many)) rfl (fun j hj hn=>stV_ct { S with r:=X,hi:=X 32,lo:=X 33,pc:=to,nx:=lo (to+4) } (S.ct+many) j (by omega))
 have hO3:∀ k,k≠stb→(((V2.setCell ⟨stb,34,none⟩ (.int .u32 to)).setCell ⟨stb,35,none⟩ (.int .u32 ((to+4)%4294967296))).setCell ⟨stb,42,none⟩ (.int .i64 (S.ct+many))).heap[k]?=w.heap[k]?:=fun k hk=>(((Below.heap_setCell _ ⟨stb,42,none⟩ _ k hk).trans (Below.heap_setCell _ ⟨stb,35,none⟩ _ k hk)).trans (Below.heap_setCell _ ⟨stb,34,none⟩ _ k hk)).trans (hO2 k hk)
 have hz3:(((V2.setCell ⟨stb,34,none⟩ (.int .u32 to)).setCell ⟨stb,35,none⟩ (.int .u32 ((to+4)%4294967296))).setCell ⟨stb,42,none⟩ (.int .i64 (S.ct+many))).heap.size=w.heap.size:=by simp[hz2]
 have ho3:(((V2.setCell ⟨stb,34,none⟩ (.int .u32 to)).setCell ⟨stb,35,none⟩ (.int .u32 ((to+4)%4294967296))).setCell ⟨stb,42,none⟩ (.int .i64 (S.ct+many))).os=w.os∧(((V2.setCell ⟨stb,34,none⟩ (.int .u32 to)).setCell ⟨stb,35,none⟩ (.int .u32 ((to+4)%4294967296))).setCell ⟨stb,42,none⟩ (.int .i64 (S.ct+many))).tape=w.tape∧(((V2.setCell ⟨stb,34,none⟩ (.int .u32 to)).setCell ⟨stb,35,none⟩ (.int .u32 ((to+4)%4294967296))).setCell ⟨stb,42,none⟩ (.int .i64 (S.ct+many))).output=w.output:=ho2
 generalize ((V2.setCell ⟨stb,34,none⟩ (.int .u32 to)).setCell ⟨stb,35,none⟩ (.int .u32 ((to+4)%4294967296))).setCell ⟨stb,42,none⟩ (.int .i64 (S.ct+many))=V3 at *
 refine (gopen_any (RH.out.turn1 stb n1 n2 n3 n4 hO3) (GH.out.turn1 stb hst (by omega) hO3) hp hN hbp hbh WH.out).mono ?_
 rintro e w4 ⟨rfl,R4,t4⟩
 go_wp2
 go_end0
 refine ⟨rfl,hS3.block (t4.block stb (by rw[hz3];exact (Array.getElem?_eq_some_iff.1 h1).1) (Ne.symm n2) (Ne.symm n4)),R4,by have:=t4.size;omega,fun k hk k1 k2 k3=>(t4.block k (by omega) k2 k3).trans (hO3 k k1),t4.os.trans ho3.1,t4.tape.trans ho3.2.1,t4.output.trans ho3.2.2⟩
end
end Go.Proofs.YtflagpkmebdckaaGreatDoor
namespace Go.Proofs.YtflagpkmebdckaaGreatDoor.Low
open Go.RowKit Go.Maps
open Num
set_option linter.unusedVariables false
set_option maxRecDepth 100000
set_option maxHeartbeats 4000000
def LP (w0 w:World) (lb:Nat) (pc many at_:Int) (l:List Opx) (v:Value) (e:Ending) (w':World):Prop:=e=.returned (.tuple #[])∧∃ v',LAt w0 w' lb pc many at_ l v'∧LKept w w' lb v v'
theorem LKept.cell {w w':World} {lb:Nat} {v v':Value} (h:LKept w w' lb v v') {b j:Nat} {u:Value} (hc:w.cell? ⟨b,j,none⟩=some u) (h1:b≠lb) (h2:v.ownBlock≠some b):w'.cell? ⟨b,j,none⟩=some u :=
 (World.cell?_of_block (a:=⟨b,j,none⟩) (h.keep b (World.block_lt_of_cell? _ _ hc) h1 h2).1).trans hc
section
variable {w0 w : World} {lb : Nat} {pc many at_ : Int} {l : List Opx} {v : Value}
theorem LAt.vlt (F:LAt w0 w lb pc many at_ l v):v.ownBlock≠some w.heap.size:=fun e=>by have:=(owns_ltL F.row _ e).2;omega
theorem LAt.lne (F:LAt w0 w lb pc many at_ l v):w.heap.size≠lb:=by have:=F.lt;omega
theorem wrA (F:LAt w0 w lb pc many at_ l v) (hn:l.length≤1000) (s:ByteArray) (d a b i t0:Int) :
  Calls Tryz.prog 177 #[.pointer (some ⟨lb,0,none⟩),.agg #[.string s,.int .i64 d,.int .i64 a,.int .i64 b,.int .u32 i,.int .i64 t0]] w (LP w0 w lb pc many at_ (l++wrO ⟨s,d,a,b,i,at_⟩) v):=by
 have hA:Below w.heap.size w (w.alloc (.cells #[.string s,.int .i64 d,.int .i64 a,.int .i64 b,.int .u32 i,.int .i64 t0] 139)):=(Below.refl _ _).alloc (Nat.le_refl _) _
 have FA:Hid _:=F.stays hA
 have hAH:Hid _:=hA
 clear hA F
 by_cases hd:d=0
 ·subst hd
  have e:wrO ⟨s,0,a,b,i,at_⟩=[]:=rfl
  rw[e,List.append_nil]
  go_enter Tryz.func177,Tryz.ntmps177
  go_wp2
  go_end0
  exact ⟨rfl,_,FA.out,LKept.ahead hAH.out (LKept.refl _ _ _)⟩
 ·have e:wrO ⟨s,d,a,b,i,at_⟩=[⟨s,d,a,b,i,at_⟩]:=if_neg hd
  rw[e]
  have hd':(d==0)=false:=by simpa using hd
  go_enter Tryz.func177,Tryz.ntmps177
  go_wp2_with fail
  refine (add_any FA.out hn s d a b i t0).mono ?_
  rintro e w' ⟨rfl,v',F',L'⟩
  have L2:Hid _:=LKept.ahead hAH.out L'
  have F2:Hid _:=F'
  clear F' L' FA hAH
  go_wp2
  go_end0
  exact ⟨rfl,_,F2.out,L2.out⟩
theorem out_any (F:LAt w0 w lb pc many at_ l v) (hn:l.length≤1000) (to:Int) :
  Calls Tryz.prog 114 #[.pointer (some ⟨lb,0,none⟩),.int .u32 to] w (LP w0 w lb pc many at_ (l++[opx 26 0 0 0 to at_]) v):=by
 have FA:Hid _:=F
 clear F
 go_enter Tryz.func114,Tryz.ntmps114
 go_wp2_with fail
 refine (add_any FA.out hn ⟨#[111,117,116]⟩ 0 0 0 to 0).mono ?_
 rintro e w' ⟨rfl,v',F',L'⟩
 have L2:Hid _:=L'
 have F2:Hid _:=F'
 clear F' L' FA
 go_wp2
 go_end0
 exact ⟨rfl,_,F2.out,L2.out⟩
theorem either_any (F:LAt w0 w lb pc many at_ l v) (hn:l.length≤900) (yes no:Int) :
  Calls Tryz.prog 116 #[.pointer (some ⟨lb,0,none⟩),.int .u32 yes,.int .u32 no] w (LP w0 w lb pc many at_ (l++[opx 25 0 35 0 yes at_,opx 26 0 0 0 no at_]) v):=by
 have FA:Hid _:=F
 clear F
 go_enter Tryz.func116,Tryz.ntmps116
 go_wp2_with fail
 refine (add_any FA.out (by omega) ⟨#[105,102]⟩ 0 35 0 yes 0).mono ?_
 rintro e w1 ⟨rfl,v1,F1,L1⟩
 have F1':Hid _:=F1
 have L1':Hid _:=L1
 clear F1 L1 FA
 go_wp2_with fail
 refine (out_any F1'.out (by simp;omega) no).mono ?_
 rintro e w2 ⟨rfl,v2,F2,L2⟩
 have L3:Hid _:=L1'.out.trans L2
 have F3:Hid _:=F2
 clear F2 L2 F1' L1'
 go_wp2
 go_end0
 refine ⟨rfl,_,?_,L3.out⟩
 have:=F3.out
 rw[List.append_assoc]at this
 exact this
theorem hiLo_any (F:LAt w0 w lb pc many at_ l v) (hn:l.length≤900) (o s t d m:Int) (s1 s2:ByteArray) :
  Calls Tryz.prog 178 #[.pointer (some ⟨lb,0,none⟩),.agg #[.int .i64 o,.int .i64 s,.int .i64 t,.int .i64 d,.int .u32 m],.string s1,.string s2] w (LP w0 w lb pc many at_ (l++[⟨s1,32,s,t,0,at_⟩,⟨s2,33,s,t,0,at_⟩]) v):=by
 have hA:Below w.heap.size w (w.alloc (.cells #[.int .i64 o,.int .i64 s,.int .i64 t,.int .i64 d,.int .u32 m] 113)):=(Below.refl _ _).alloc (Nat.le_refl _) _
 have FA:Hid _:=F.stays hA
 have hv:=F.vlt
 have hl:=F.lne
 have hAH:Hid _:=hA
 clear hA F
 go_enter Tryz.func178,Tryz.ntmps178
 go_wp2_with fail
 refine (wrA FA.out (by omega) s1 32 s t 0 0).mono ?_
 have c1:(w.alloc (.cells #[.int .i64 o,.int .i64 s,.int .i64 t,.int .i64 d,.int .u32 m] 113)).cell? ⟨w.heap.size,1,none⟩=some (.int .i64 s):=by simp
 have c2:(w.alloc (.cells #[.int .i64 o,.int .i64 s,.int .i64 t,.int .i64 d,.int .u32 m] 113)).cell? ⟨w.heap.size,2,none⟩=some (.int .i64 t):=by simp
 rintro e w1 ⟨rfl,v1,F1,L1⟩
 have k1:=L1.cell c1 hl hv
 have k2:=L1.cell c2 hl hv
 have F1':Hid _:=F1
 have L1':Hid _:=LKept.ahead hAH.out L1
 clear F1 L1 FA c1 c2 hAH
 generalize hgb:w.heap.size=gb at k1 k2 ⊢
 clear hgb
 go_wp2_with fail
 refine (wrA F1'.out (by simp[wrO];omega) s2 33 s t 0 0).mono ?_
 rintro e w2 ⟨rfl,v2,F2,L2⟩
 have L3:Hid _:=L1'.out.trans L2
 have F3:Hid _:=F2
 clear F2 L2 F1' L1' k1 k2
 go_wp2
 go_end0
 refine ⟨rfl,_,?_,L3.out⟩
 have:=F3.out
 rw[List.append_assoc]at this
 exact this
end
end Go.Proofs.YtflagpkmebdckaaGreatDoor.Low
namespace Go.Proofs.YtflagpkmebdckaaGreatDoor
open Go.RowKit Go.Maps Go.Shelf
open Num
set_option linter.unusedVariables false
attribute [local go_sem] Oper.semAt_some
structure Opx.okW (o:Opx):Prop where
 w0:0≤wrX o
 w1:wrX o<64
 r:∀ x∈rdX o,0≤x∧x<64
 ok:o.ok
abbrev Oq:={ o:Opx // o.okW }
def oq0:Oq:=⟨⟨⟨#[]⟩,0,0,0,0,0⟩,⟨by decide,by decide,by decide,⟨by decide,by decide,by decide,by decide,by decide,by decide,by decide,by decide,by decide,by decide⟩⟩⟩
def bk (p:List Oq) (k:Nat):Nat × Oq:=(p.length-1-k,p[p.length-1-k]?.getD oq0)
def OpsC (W:World) (b off:Nat) (l:List Opx):Prop:=∀ (i:Nat) (o:Opx),l[i]?=some o→∀ (j:Nat) (u:Value),(opC o)[j]?=some u→W.cell? ⟨b,off+i*6+j,none⟩=some u
theorem OpsC.block {W W':World} {b off:Nat} {l:List Opx} (C:OpsC W b off l) (h:W'.heap[b]?=W.heap[b]?):OpsC W' b off l:=fun i o hi j u hj=>(World.cell?_of_block (a:=⟨b,off+i*6+j,none⟩) h).trans (C i o hi j u hj)
end Go.Proofs.YtflagpkmebdckaaGreatDoor
