
import Derived.Lib.ParseIntB
import Derived.Lib.ItoaNum
import Derived.Lib.Strings
import Derived.BigQuiet
import Derived.Lib.SliceRun
import Derived.Laws.BytesArg
import Derived.Test.YtflagpkmebdckaaGreatDoorKNum
import Derived.Test.YtflagpkmebdckaaGreatDoorKApp
import Derived.Test.YtflagpkmebdckaaGreatDoorKOptFns
import Derived.Test.YtflagpkmebdckaaGreatDoorKLowPure
import Derived.Test.YtflagpkmebdckaaGreatDoorKRunPure
import Derived.Test.YtflagpkmebdckaaGreatDoorKGHost1
namespace Go.Proofs.YtflagpkmebdckaaGreatDoor.Txt
open Go.Lib
set_option linter.unusedVariables false
def step (a:Nat) (c:UInt8):Nat:=a*10+(c.toNat-48)
def val (l:List UInt8):Nat:=l.foldl step 0
end Go.Proofs.YtflagpkmebdckaaGreatDoor.Txt
namespace Go.Proofs.YtflagpkmebdckaaGreatDoor.Fm
open Go.Lib Tab Txt
set_option linter.unusedVariables false
def nmL:List (List UInt8):=[[],[115,108,108],[115,114,108],[115,114,97],[115,108,108,118],[115,114,108,118],[115,114,97,118],[106,114],[106,97,108,114],[115,121,115,99,97,108,108],[98,114,101,97,107],[109,102,104,105],[109,116,104,105],[109,102,108,111],[109,116,108,111],[109,117,108,116],[109,117,108,116,117],[100,105,118],[100,105,118,117],[97,100,100],[97,100,100,117],[115,117,98],[115,117,98,117],[97,110,100],[111,114],[120,111,114],[110,111,114],[115,108,116],[115,108,116,117],[106],[106,97,108],[98,101,113],[98,110,101],[98,108,101,122],[98,103,116,122],[97,100,100,105],[97,100,100,105,117],[115,108,116,105],[115,108,116,105,117],[97,110,100,105],[111,114,105],[120,111,114,105],[108,117,105],[109,102,99,48],[109,116,99,48],[101,114,101,116],[108,98],[108,104],[108,119],[108,98,117],[108,104,117],[115,98],[115,104],[115,119]]
def orL:List (List UInt8):=[[],[68,84,97],[68,84,97],[68,84,97],[68,84,83],[68,84,83],[68,84,83],[83],[68,83],[],[],[68],[83],[68],[83],[83,84],[83,84],[83,84],[83,84],[68,83,84],[68,83,84],[68,83,84],[68,83,84],[68,83,84],[68,83,84],[68,83,84],[68,83,84],[68,83,84],[68,83,84],[106],[106],[83,84,110],[83,84,110],[83,110],[83,110],[84,83,110],[84,83,110],[84,83,110],[84,83,110],[84,83,117],[84,83,117],[84,83,117],[84,117],[84,68],[84,68],[],[84,109],[84,109],[84,109],[84,109],[84,109],[84,109],[84,109],[84,109]]
def nme (k:Nat):List UInt8:=nmL.getD k []
def ordr (k:Nat):List UInt8:=orL.getD k []
structure F where
 s:Int
 t:Int
 d:Int
 m:Int
def regB (c:UInt8):Bool:=c==83||c==84||c==68
def numB (c:UInt8):Bool:=regB c||c==97||c==105||c==117||c==106
def lowB (c:UInt8):Int:=if c=105 then -32768 else 0
def highB (c:UInt8):Int:=if regB c||c==97 then 31 else if c=105 then 32767 else if c=117 then 65535 else if c=106 then 67108863 else 0
def s16 (m:Int):Int:=(m+32768)%65536-32768
def vl (f:F) (c:UInt8):Int:=if c=83 then f.s else if c=84 then f.t else if c=68 then f.d else if c=105 then s16 f.m else f.m
def setF (f:F) (c:UInt8) (n:Int):F:=if c=83 then { f with s:=n } else if c=84 then { f with t:=n } else if c=68 then { f with d:=n } else if c=105 then { f with m:=n%65536 } else { f with m:=n%4294967296 }
def inB (c:UInt8) (n:Int):Bool:=decide (lowB c≤n∧n≤highB c)
def put (c:UInt8) (n:Int):Option F→Option F
 | none=>none
 | some f=>if numB c then (if inB c n then some (setF f c n) else none) else some f
def ops:List Nat:=(List.range 53).map (·+1)
inductive PR where
 | name|text|bound|ok (k:Nat) (f:F)
def fin (k:Nat):Option (List UInt8 × Option F)→PR
 | none=>.text
 | some ([],some f)=>.ok k f
 | some ([],none)=>.bound
 | some (_ :: _,_)=>.text
def pc (o:UInt8):List UInt8:=if regB o then [36,o] else if o=110 then [105] else if o=109 then [105,40,36,83,41] else [o]
end Go.Proofs.YtflagpkmebdckaaGreatDoor.Fm
namespace Go.Proofs.YtflagpkmebdckaaGreatDoor
open Go.RowKit Go.Maps
open Num
set_option linter.unusedVariables false
theorem nk {k n:Nat} (h:k≠n):((k:Int)==(n:Int))=false:=by simp;omega
theorem immI_bd {k:Nat} {m:Int} (m0:0≤m) (m1:m<4294967296):u32 (immI k m):=by
 unfold immI;split
 ·exact ⟨m0,m1⟩
 ·exact wd_bd m0 m1 _
theorem St.set_ok {S:St} (o:S.ok) (n:Nat) {v:Int} (hv:u32 v):(S.set n v).ok:=by
 unfold St.set
 split
 ·exact o
 ·exact ⟨fun i=>by show u32 (if i=n then v else S.r i);split;exact hv;exact o.r i,o.hi,o.lo,o.pc,o.nx,o.st,o.ca,o.ep,o.bd,o.cm,o.c0,o.c1⟩
theorem St.on_ok {S:St} (o:S.ok):S.on.ok:=⟨o.r,o.hi,o.lo,o.nx,lo_bd _,o.st,o.ca,o.ep,o.bd,o.cm,o.c0,o.c1⟩
theorem St.jump_ok {S:St} (o:S.ok) {a:Int} (ha:u32 a):(S.jump a).ok:=⟨o.r,o.hi,o.lo,ha,lo_bd _,o.st,o.ca,o.ep,o.bd,o.cm,o.c0,o.c1⟩
section
variable {w : World} {pb sb bb : Nat} {S : St} {k s t d : Nat} {m : Int}
end
theorem owns_pos {w:World} {base:Nat} {e:TypeId} {size n:Nat} {v:Value} {xs:List Value} (h:w.ownsRow base e size v (n+1) xs):∃ g cap,v=.slice (some ⟨g,0,none⟩) (n+1) cap:=by
 rcases h.2 with ⟨_,h⟩|⟨g,cap,cur,rfl,_⟩
 ·omega
 ·exact ⟨g,cap,rfl⟩
def outN (out:List Int) (a v:Int):List Int:=if a=65536 then out++[v%256] else out
def lampN (lamp a v:Int):Int:=if a=65544 then v else lamp
section
variable {w : World} {base bb sb bp bw bh N : Nat} {m : Nat → Int} {wt ht : Int → Bool} {out : List Int} {lamp : Int} {tr : List Acc} {vo vt : Value}
def devV (a c lamp:Int):Int:=if a=65540 then c%4294967296 else if a=65544 then lamp else 0
theorem acc_cells (w:World) (x:Acc):∀ (j:Nat) (u:Value),(accC x)[j]?=some u→(w.alloc (.cells #[.int .i64 x.c,.bool x.s,.int .u32 x.a,.int .u32 x.v] 187)).cell? ((⟨w.heap.size,0,none⟩:Addr).add j)=some u:=by
 intro j u hj
 rw[add_lit,cell_of_row _ _ _ _ _ _ (heap_alloc_new w _)]
 unfold accC at hj
 simpa using hj
end
section
variable {w : World} {base bb sb bp bw bh N : Nat} {m : Nat → Int} {wt ht : Int → Bool} {out : List Int} {lamp : Int} {tr : List Acc} {vo vt : Value}
end
theorem RamIs.lt {w:World} {sb bp bw bh N:Nat} {m:Nat→Int} {wt ht:Int→Bool} (R:RamIs w sb bp bw bh N m wt ht):sb<w.heap.size∧bp<w.heap.size∧bw<w.heap.size∧bh<w.heap.size :=
 ⟨World.block_lt_of_cell? _ _ R.c0,R.ps.lt,R.ws.lt,R.hs.lt⟩
section
variable {w : World} {base bb sb bp bw bh N : Nat} {m : Nat → Int} {wt ht : Int → Bool} {out : List Int} {lamp : Int} {tr : List Acc} {vo vt : Value}
def outS (out:List Int):ByteArray:=strOfNums out
end
theorem Er.stays {ps pa pf:Addr} {w w':World} (E:Er ps pa pf w) (h:Below w.heap.size w w'):Er ps pa pf w' :=
 ⟨by rw[h.cell (World.block_lt_of_cell? _ _ E.s)];exact E.s,by rw[h.cell (World.block_lt_of_cell? _ _ E.a)];exact E.a,by rw[h.cell (World.block_lt_of_cell? _ _ E.f)];exact E.f⟩
theorem Er.below {ps pa pf:Addr} {w w':World} (E:Er ps pa pf w) (h:Below w.heap.size w w'):Er ps pa pf w':=E.stays h
def F0:Int→Bool:=fun _=>false
section
variable {w wr : World} {base bb sb bp bw bh sb' bp' bw' bh' : Nat} {j N N' : Nat} {m : Nat → Int} {out : List Int} {lamp : Int} {tr : List Acc} {vo vt : Value}
end
section
variable {w : World} {bx by_ bb sb bp bw bh N : Nat} {m : Nat → Int} {wt ht : Int → Bool} {out : List Int} {lamp : Int} {tr : List Acc} {vo vt : Value} {base' db rb gb kb : Nat} {vt' : Value}
end
structure Bs where
 m:Nat→Int
 out:List Int
 lamp:Int
 tr:List Acc
def bad (a s:Int):Bool:=!dev a s&&decide (chk a s≠0)
def Bs.put (b:Bs) (a s v c:Int):Bs:=if dev a s=true then ⟨b.m,outN b.out a v,lampN b.lamp a v,b.tr++[⟨c,true,a,v⟩]⟩ else if chk a s=0 then ⟨upd b.m a s v,b.out,b.lamp,b.tr⟩ else b
def Bs.got (b:Bs) (a s c:Int):Bs:=if dev a s=true then ⟨b.m,b.out,b.lamp,b.tr++[⟨c,false,a,devV a c b.lamp⟩]⟩ else b
def Bs.val (b:Bs) (a s:Int) (sg:Bool) (c:Int):Int:=if dev a s=true then devV a c b.lamp else if chk a s=0 then ld b.m a s sg else 0
theorem dev_chk {a s:Int} (h:chk a s=0):dev a s=false:=by
 have:=(chk_ok h).2.2
 unfold dev;simp;omega
theorem Bs.put_out (b:Bs) (a s v c:Int):(b.put a s v c).out.length≤b.out.length+1:=by
 unfold Bs.put
 split
 ·show (outN b.out a v).length≤_
  unfold outN;split<;>simp
 ·split
  ·show b.out.length≤_;omega
  ·omega
theorem Bs.put_tr (b:Bs) (a s v c:Int):(b.put a s v c).tr.length≤b.tr.length+1:=by
 unfold Bs.put
 split
 ·show (b.tr++[_]).length≤_;simp
 ·split
  ·show b.tr.length≤_;omega
  ·omega
theorem Bs.got_tr (b:Bs) (a s c:Int):(b.got a s c).tr.length≤b.tr.length+1:=by
 unfold Bs.got
 split
 ·show (b.tr++[_]).length≤_;simp
 ·omega
theorem Bs.got_out (b:Bs) (a s c:Int):(b.got a s c).out=b.out:=by unfold Bs.got;split<;>rfl
section
variable {w : World} {base bb sb bp bw bh N : Nat} {b : Bs} {vo vt : Value}
end
section
variable {w : World} {base db rb gb kb : Nat} {b : Bs} {vd : Value}
end
end Go.Proofs.YtflagpkmebdckaaGreatDoor
namespace Go.Proofs.YtflagpkmebdckaaGreatDoor
open Num
set_option linter.unusedVariables false
def fromP (S:St) (t d:Nat):Int × St :=
 if d=8 then (-1,(S.set t S.bd).on) else if d=9 then (-1,(S.set t (lo S.ct)).on) else if d=11 then (-1,(S.set t S.cm).on) else if d=12 then (-1,(S.set t S.st).on) else if d=13 then (-1,(S.set t S.ca).on) else if d=14 then (-1,(S.set t S.ep).on) else (10,S)
def toP (S:St) (t d:Nat):Int × St :=
 if d=11 then (-1,St.on { S with cm:=S.r t }) else if d=12 then (-1,St.on { S with st:=bits .and .u32 (S.r t) 3 }) else if d=14 then (-1,St.on { S with ep:=S.r t }) else (10,S)
def backP (S:St):Int × St:=if bits .and .u32 S.st 2=0∨S.sl=true then (10,S) else (-1,{ S.jump S.ep with st:=bits .andNot .u32 S.st 2 })
def trapP (S:St) (k t d:Nat):Int × St:=if k=9 then (8,S) else if k=10 then (9,S) else if k=43 then fromP S t d else if k=44 then toP S t d else if k=45 then backP S else (10,S)
def insP (S:St) (b:Bs) (k s t d:Nat) (m:Int):Int × St × Bs :=
 if Tab.kind k=[98,114,97,110,99,104] then ((branchP S k s t d m).1,(branchP S k s t d m).2,b)
 else if Tab.kind k=[108,111,97,100] then
  if bad (adI S k s m) (szI k)=true then (4,{ S with bd:=adI S k s m },b) else (-1,(S.set t (b.val (adI S k s m) (szI k) (sgI k) S.ct)).on,b.got (adI S k s m) (szI k) S.ct)
 else if Tab.kind k=[115,116,111,114,101] then
  if bad (adI S k s m) (szI k)=true then (5,{ S with bd:=adI S k s m },b) else (-1,S.on,b.put (adI S k s m) (szI k) (S.r t) S.ct)
 else if Tab.kind k=[116,114,97,112] then ((trapP S k t d).1,(trapP S k t d).2,b)
 else ((sumP S k s t d m).1,(sumP S k s t d m).2,b)
theorem and_bd {a b:Int} (ha:u32 a) (hb:u32 b):u32 (bits .and .u32 a b):=by
 rw[u32_and a b ha.1 ha.2 hb.1 hb.2]
 have h:=Nat.and_lt_two_pow (n:=32) a.toNat (show b.toNat<2^32 by have:=hb.1;have:=hb.2;omega)
 exact ⟨by omega,by omega⟩
theorem or_bd {a b:Int} (ha:u32 a) (hb:u32 b):u32 (bits .or .u32 a b):=by
 rw[u32_or a b ha.1 ha.2 hb.1 hb.2]
 have h:=Nat.or_lt_two_pow (n:=32) (show a.toNat<2^32 by have:=ha.1;have:=ha.2;omega) (show b.toNat<2^32 by have:=hb.1;have:=hb.2;omega)
 exact ⟨by omega,by omega⟩
theorem xor_bd {a b:Int} (ha:u32 a) (hb:u32 b):u32 (bits .xor .u32 a b):=by
 rw[u32_xor a b ha.1 ha.2 hb.1 hb.2]
 have h:=Nat.xor_lt_two_pow (n:=32) (show a.toNat<2^32 by have:=ha.1;have:=ha.2;omega) (show b.toNat<2^32 by have:=hb.1;have:=hb.2;omega)
 exact ⟨by omega,by omega⟩
theorem andNot_bd {a b:Int} (ha:u32 a) (hb:u32 b):u32 (bits .andNot .u32 a b):=by
 rw[u32_andNot a b ha.1 ha.2 hb.1 hb.2]
 have h:=Nat.and_lt_two_pow (n:=32) a.toNat (show 4294967295-b.toNat<2^32 by omega)
 exact ⟨by omega,by omega⟩
theorem bitI_bd (b:Bool):u32 (bitI b):=by unfold bitI;split<;>exact ⟨by omega,by omega⟩
theorem bitsI_bd (k:Nat) {a b:Int} (ha:u32 a) (hb:u32 b):u32 (bitsI k a b):=by
 unfold bitsI
 split
 ·exact and_bd ha hb
 split
 ·exact or_bd ha hb
 split
 ·exact xor_bd ha hb
 split
 ·exact xor_bd ⟨by omega,by omega⟩ (or_bd ha hb)
 split
 ·exact bitI_bd _
 split
 ·exact bitI_bd _
 split
 ·exact shf_bd ha.1 ha.2
 split
 ·exact shf_bd ha.1 ha.2
 split
 ·exact shf_bd ha.1 ha.2
 ·exact shf_bd hb.1 hb.2
theorem resI_bd {S:St} (o:S.ok) (k:Nat) {a b:Int} (ha:u32 a) (hb:u32 b):u32 (resI S k a b):=by
 unfold resI
 split
 ·exact lo_bd _
 split
 ·exact lo_bd _
 split
 ·exact lo_bd _
 split
 ·exact lo_bd _
 split
 ·exact o.hi
 split
 ·exact o.lo
 ·exact bitsI_bd k ha hb
theorem opA_bd {S:St} (o:S.ok) (k s t:Nat):u32 (opA S k s t):=by unfold opA;split<;>exact o.r _
theorem opB_bd {S:St} (o:S.ok) (k s t:Nat) {m:Int} (m0:0≤m) (m1:m<4294967296):u32 (opB S k s t m):=by
 unfold opB
 split
 ·exact immI_bd m0 m1
 split
 ·exact o.r _
 split
 ·exact immI_bd m0 m1
 ·exact o.r _
theorem targI_bd {S:St} (o:S.ok) (k s:Nat) (m:Int):u32 (targI S k s m):=by
 unfold targI
 split
 ·exact or_bd (and_bd (lo_bd _) ⟨by omega,by omega⟩) (lo_bd _)
 split
 ·exact o.r _
 ·exact lo_bd _
end Go.Proofs.YtflagpkmebdckaaGreatDoor
namespace Go.Proofs.YtflagpkmebdckaaGreatDoor
open Go.RowKit
open Num
set_option linter.unusedVariables false
set_option maxRecDepth 100000
set_option maxHeartbeats 1000000
theorem devErr_any (a s:Int) (h0:16384≤a) (h1:a<4294967296) (s0:-9223372036854775808≤s) (s1:s≤9223372036854775807) (w:World):Calls Tryz.prog 243 #[.int .u32 a,.int .i64 s] w fun e w'=>e=.returned (.int .i64 (if dev a s=true then 0 else rc a s))∧w'=w:=by
 have hre:=reach_any a s (by omega) h1 s0 s1 w
 have HR:Hid (rc a s=if s≠1∧s≠2∧s≠4 then 3 else if a%s≠0 then 9 else if 16384≤a then 10 else 0):=rc_eq a s
 by_cases hc:rc a s=10
 ·have hc':(rc a s != 10)=false:=by simpa using hc
  have hsm:(s=1∨s=2∨s=4)∧a%s=0:=by
   have:=HR.out;rw[hc]at this
   split at this
   ·omega
   ·split at this
    ·omega
    ·exact ⟨by omega,by omega⟩
  rw[hc]at hre
  cases hd:dev a s with
  | true =>
   rw[if_pos rfl]
   unfold dev at hd;simp at hd
   obtain ⟨rfl,hm,h2,h3⟩:=hd
   clear hc HR hsm hm hc'
   go_enter Tryz.func243,Tryz.ntmps243
   go_wp2_with (go_at_call 44;refine hre.mono ?_;rintro e w' ⟨rfl,rfl⟩)
   go_ret
   exact ⟨rfl,rfl⟩
  | false =>
   rw[if_neg (by decide),hc]
   by_cases h4:s=4
   ·have e4:(s==4)=true:=by simpa using h4
    subst h4
    have hm:a%4=0:=hsm.2
    unfold dev at hd;simp at hd
    have hd:=hd hm
    clear hc HR hsm hc' hm
    by_cases hl:65536≤a
    ·have hh:¬ a≤65548:=by have:=hd hl;omega
     clear hd
     go_enter Tryz.func243,Tryz.ntmps243
     go_wp2_with (go_at_call 44;refine hre.mono ?_;rintro e w' ⟨rfl,rfl⟩)
     go_ret
     exact ⟨rfl,rfl⟩
    ·clear hd
     go_enter Tryz.func243,Tryz.ntmps243
     go_wp2_with (go_at_call 44;refine hre.mono ?_;rintro e w' ⟨rfl,rfl⟩)
     go_ret
     exact ⟨rfl,rfl⟩
   ·have e4:(s==4)=false:=by simpa using h4
    clear hc HR hsm hc' hd h4
    go_enter Tryz.func243,Tryz.ntmps243
    go_wp2_with (go_at_call 44;refine hre.mono ?_;rintro e w' ⟨rfl,rfl⟩)
    go_ret
    exact ⟨rfl,rfl⟩
 ·have hc':(rc a s != 10)=true:=by simpa using hc
  have hd:dev a s=false:=by
   cases hd:dev a s with
   | false=>rfl
   | true =>
    unfold dev at hd;simp at hd
    obtain ⟨rfl,hm,h2,h3⟩:=hd
    exact absurd (by rw[HR.out,if_neg (by omega),if_neg (by omega),if_pos h0]) hc
  rw[if_neg (by rw[hd];decide)]
  clear HR hd hc
  generalize rc a s=r at *
  go_enter Tryz.func243,Tryz.ntmps243
  go_wp2_with (go_at_call 44;refine hre.mono ?_;rintro e w' ⟨rfl,rfl⟩)
  go_ret
  exact ⟨rfl,rfl⟩
end Go.Proofs.YtflagpkmebdckaaGreatDoor
