
import Derived.Lib.BufferMore
import Derived.Test.YtflagpkmebdckaaGreatDoorKNum
import Derived.Test.YtflagpkmebdckaaGreatDoorQIrChk2
import Derived.Test.YtflagpkmebdckaaGreatDoorKApp
import Derived.Test.YtflagpkmebdckaaGreatDoorKOptFns
import Derived.Test.YtflagpkmebdckaaGreatDoorKKDecode
import Derived.Test.YtflagpkmebdckaaGreatDoorKLowPure
import Derived.Test.YtflagpkmebdckaaGreatDoorKRunPure
import Derived.Test.YtflagpkmebdckaaGreatDoorKRes1
namespace Go.Proofs.YtflagpkmebdckaaGreatDoor
open Num
set_option linter.unusedVariables false
def ptO (o:Opx):Nat:=if o.k=23∨o.k=24 then 1 else if 25≤o.k then 2 else 0
def ctP (p:Nat) (l:List Opx):Nat:=(l.filter fun o=>decide (ptO o=p)).length
def fitC (a b c:Nat):Bool:=decide (a≤3)&&decide (b≤1)&&decide (c≤1)&&decide (a+b+c≤4)
def fitB (l:List Opx):Bool:=fitC (ctP 0 l) (ctP 1 l) (ctP 2 l)
structure Mk where
 rows:List (List Opx)
 rdy:Nat→Nat
 ask:Nat→Nat
 bI:Nat
 bS:Nat
 bM:Nat
def mk0:Mk:=⟨[],fun _=>0,fun _=>0,0,0,0⟩
def frA (M:Mk) (l:List Int) (n:Nat):Nat:=l.foldl (fun n r=>max n (M.rdy r.toNat)) n
def frW (M:Mk) (o:Opx) (n:Nat):Nat:=if wrX o≠0 then max (max n (M.rdy (wrX o).toNat)) (M.ask (wrX o).toNat) else n
def frK (M:Mk) (o:Opx) (n:Nat):Nat:=if o.k=23 then max n M.bS else if o.k=24 then max n M.bM else if 25≤o.k then max n (M.rows.length-1) else n
def frR (M:Mk) (o:Opx):Nat:=frK M o (frW M o (frA M (rdX o) M.bI))
def roomB (o:Opx) (r:List Opx):Bool:=fitB (r++[o])
def rowN (M:Mk) (o:Opx):Nat:=frR M o+(M.rows.drop (frR M o)).findIdx (roomB o)
def putR (rs:List (List Opx)) (n:Nat) (o:Opx):List (List Opx):=if n<rs.length then rs.modify n (·++[o]) else rs++[[o]]
def setN (f:Nat→Nat) (r n:Nat):Nat→Nat:=fun k=>if k=r then n else f k
def ntA (f:Nat→Nat) (n:Nat) (l:List Int):Nat→Nat:=l.foldl (fun f r=>setN f r.toNat (max (f r.toNat) n)) f
def note (M:Mk) (o:Opx) (n:Nat):Mk where
 rows:=M.rows
 rdy:=if wrX o≠0 then setN M.rdy (wrX o).toNat (n+1) else M.rdy
 ask:=ntA M.ask n (rdX o)
 bI:=if o.k=25 then n+1 else M.bI
 bS:=if o.k=24 then n+1 else M.bS
 bM:=if o.k=23 then max M.bM (n+1) else if o.k=24 then n+1 else M.bM
def place (M:Mk) (o:Opx):Mk:=note { M with rows:=putR M.rows (rowN M o) o } o (rowN M o)
end Go.Proofs.YtflagpkmebdckaaGreatDoor
namespace Go.Proofs.YtflagpkmebdckaaGreatDoor
open Go.RowKit Go.Maps
set_option linter.unusedVariables false
def RowsI (w:World) (v:Value) (rs:List (List Opx)):Prop :=
 ∃ ao cap,v=.slice ao rs.length cap∧rs.length≤cap∧(0<rs.length→∃ b off:Nat,ao=some ⟨b,off,none⟩∧∀ (i:Nat) (row:List Opx),rs[i]?=some row→∃ u,w.cell? ⟨b,off+i,none⟩=some u∧OpsIn w u row)
theorem RowsI.stays {w w':World} {v:Value} {rs:List (List Opx)} (R:RowsI w v rs) (h:Below w.heap.size w w'):RowsI w' v rs:=by
 obtain ⟨ao,cap,e,hc,hh⟩:=R
 refine ⟨ao,cap,e,hc,fun hp=>?_⟩
 obtain ⟨b,off,eb,hcell⟩:=hh hp
 refine ⟨b,off,eb,fun i row hi=>?_⟩
 obtain ⟨u,hu,hO⟩:=hcell i row hi
 exact ⟨u,(h.cell (p:=⟨b,off+i,none⟩) (World.block_lt_of_cell? _ _ hu)).trans hu,hO.stays h⟩
def Few (rs:List (List Opx)):Prop:=rs.length≤1000∧∀ r∈rs,r.length≤1000
end Go.Proofs.YtflagpkmebdckaaGreatDoor
namespace Go.Proofs.YtflagpkmebdckaaGreatDoor
open Go.RowKit Go.Maps
open Num
set_option linter.unusedVariables false
theorem ld_bd {m:Nat→Int} (mb:∀ i,0≤m i∧m i<4294967296) (a s:Int) (sg:Bool):u32 (ld m a s sg):=by
 unfold ld
 have h:=mb (a/4).toNat
 have hp:(0:Int)<2^(bhd a s).toNat:=Int.pow_pos (by omega)
 refine wd_bd (Int.ediv_nonneg h.1 (by omega)) ?_ sg
 have:=Int.ediv_le_self (2^(bhd a s).toNat) h.1
 omega
theorem resZ_bd {wt:Int→Bool} {x m:Nat→Int} {o:Opx} {many:Int} (ok:o.ok) (h:opE o many=0) (hx:∀ i,i<64→0≤x i∧x i<4294967296) (mb:∀ i,0≤m i∧m i<4294967296):u32 (resZ wt x m o).v∧u32 (resZ wt x m o).a:=by
 obtain ⟨h0,⟨a0,a1⟩,hb,hb3,hd,hd4⟩:=opE_flds h
 have z:u32 0:=⟨by omega,by omega⟩
 have hi:u32 o.i:=⟨ok.i0,ok.i1⟩
 have ha:u32 (x o.a.toNat):=hx _ (by omega)
 have hl:=kn_lt o.s
 unfold resZ
 by_cases h21:o.k=21
 ·rw[if_pos h21];exact ⟨z,z⟩
 rw[if_neg h21]
 by_cases h22:o.k=22
 ·rw[if_pos h22];exact ⟨z,z⟩
 rw[if_neg h22]
 by_cases h23:o.k=23
 ·rw[if_pos h23]
  generalize (if o.b<0 then -o.b else o.b)=n
  split
  ·exact ⟨ld_bd mb _ _ _,z⟩
  ·exact ⟨z,z⟩
 rw[if_neg h23]
 by_cases h24:o.k=24
 ·rw[if_pos h24]
  have hbb:=hb (by show kn o.s≠23;exact h23)
  split
  ·exact ⟨hx _ (by omega),lo_bd _⟩
  ·exact ⟨z,z⟩
 rw[if_neg h24]
 by_cases h25:o.k=25
 ·rw[if_pos h25];exact ⟨z,hi⟩
 rw[if_neg h25]
 by_cases h26:o.k=26
 ·rw[if_pos h26];exact ⟨z,hi⟩
 rw[if_neg h26]
 by_cases h27:o.k=27
 ·rw[if_pos h27];exact ⟨z,ha⟩
 rw[if_neg h27]
 have hbb:=hb (by show kn o.s≠23;exact h23)
 have h0':o.k≠0:=h0
 have hdd:=hd (.inl ⟨by show 1≤kn o.s;omega,by show kn o.s≤20;unfold Opx.k at *;omega⟩)
 exact ⟨valV_bd _ ha (hx _ (by omega)) (hx _ (by omega)) hi,z⟩
theorem resZ_store {wt:Int→Bool} {x m:Nat→Int} {o:Opx} (hk:o.k=24) (ht:(resZ wt x m o).trap=false):chk (resZ wt x m o).a o.d=0∧wt ((resZ wt x m o).a/256)=false:=by
 unfold resZ at ht ⊢
 rw[if_neg (by omega),if_neg (by omega),if_neg (by omega),if_pos hk]at ht ⊢
 by_cases hc:chk (lo (x o.a.toNat+o.i)) o.d=0
 ·rw[if_pos hc]at ht ⊢;exact ⟨hc,ht⟩
 ·rw[if_neg hc]at ht;cases ht
theorem appZ_bd {M:Mz} {o:Opx} {r:Ro} (hx:∀ i,i<64→0≤M.x i∧M.x i<4294967296) (hr:u32 r.v):∀ i,i<64→0≤(appZ M o r).x i∧(appZ M o r).x i<4294967296:=by
 intro i hi
 show 0≤(if 0<wrX o then setX M.x (wrX o) r.v else M.x) i∧_<_
 by_cases h:0<wrX o
 ·simp only[appZ,if_pos h]
  unfold setX
  split
  ·exact hr
  ·exact hx i hi
 ·simp only[appZ,if_neg h];exact hx i hi
def roC (r:Ro):List Value:=[.int .u32 r.v,.int .u32 r.a,.bool r.trap,.bool r.leave]
def roL (l:List Ro):List Value:=l.flatMap roC
theorem roL_snoc (l:List Ro) (r:Ro):roL (l++[r])=roL l++roC r:=by unfold roL;rw[List.flatMap_append];simp
theorem roL_get:∀ (p:List Ro) (j:Nat) (q:Ro) (i:Nat),p[j]?=some q→i<4→(roL p)[j*4+i]?=(roC q)[i]?
 | [],j,q,i,h,_=>by simp at h
 | r :: p,0,q,i,h,hi=>by
  obtain rfl:r=q:=by simpa using h
  show (roC r++roL p)[0*4+i]?=_
  rw[Nat.zero_mul,Nat.zero_add,List.getElem?_append_left (by show i<4;exact hi)]
 | r :: p,j+1,q,i,h,hi=>by
  show (roC r++roL p)[(j+1)*4+i]?=_
  have e:(roC r).length=4:=rfl
  rw[List.getElem?_append_right (by rw[e];omega),e,show (j+1)*4+i-4=j*4+i by omega]
  exact roL_get p j q i (by simpa using h) hi
def resL (wt:Int→Bool) (x m:Nat→Int) (row:List Opx):List Ro:=row.map (resZ wt x m)
theorem ro_cells {w:World} {base:Nat} {v:Value} {l:List Ro} (h:w.ownsRow base 214 4 v l.length (roL l)):∃ ao cap,v=.slice ao l.length cap∧l.length≤cap∧(0<l.length→∃ g,ao=some ⟨g,0,none⟩∧base≤g∧∀ (i:Nat) (r:Ro),l[i]?=some r→∀ j u,(roC r)[j]?=some u→w.cell? ⟨g,i*4+j,none⟩=some u):=by
 obtain ⟨h1,h2⟩:=h
 rcases h2 with ⟨hv,hn⟩|⟨g,cap,cur,hv,hb,hg,r1,r2,r3,r4⟩
 ·refine ⟨none,0,by rw[hv,hn],by omega,fun hp=>by omega⟩
 ·refine ⟨_,cap,hv,r1,fun _=>⟨g,rfl,hb,fun i r hi j u hj=>?_⟩⟩
  rw[cell_of_row _ _ _ _ _ _ hg]
  have hil:i<l.length:=(List.getElem?_eq_some_iff.1 hi).1
  have hj4:j<4:=(List.getElem?_eq_some_iff.1 hj).1
  have:(cur.toList.take (l.length*4))[i*4+j]?=some u:=by rw[r4,roL_get l i r j hi hj4];exact hj
  rw[List.getElem?_take,if_pos (by omega)]at this
  rw[←Array.getElem?_toList];exact this
theorem infoRo:(Tryz.prog.info? 214).map (fun i=>(i.zero,i.size,i.bytes))=some (some (.agg #[.int .u32 0,.int .u32 0,.bool false,.bool false]),4,12):=by kernel_rfl
theorem rowZ_snoc (wt:Int→Bool) (x m:Nat→Int) (row:List Opx) (o:Opx):rowZ wt x m (row++[o])=appZ (rowZ wt x m row) o (resZ wt x m o):=by simp[rowZ]
theorem trapZ_none {wt:Int→Bool} {x m:Nat→Int} {row:List Opx} (h:∀ o∈row,(resZ wt x m o).trap=false):trapZ wt x m row=none:=by
 unfold trapZ
 rw[List.find?_eq_none.2 (fun o ho=>by rw[h o ho];simp)];rfl
theorem trapZ_at {wt:Int→Bool} {x m:Nat→Int} {row:List Opx} {k:Nat} {o:Opx} (ho:row[k]?=some o) (ht:(resZ wt x m o).trap=true) (hn:∀ q∈row.take k,(resZ wt x m q).trap=false):trapZ wt x m row=some o.t:=by
 unfold trapZ
 have e:row=row.take k++o :: row.drop (k+1):=by
  have hk:k<row.length:=(List.getElem?_eq_some_iff.1 ho).1
  have:row[k]=o:=(List.getElem?_eq_some_iff.1 ho).2
  rw[←this,←List.drop_eq_getElem_cons hk,List.take_append_drop]
 rw[e,List.find?_append,List.find?_eq_none.2 (fun q hq=>by rw[hn q hq];simp),List.find?_cons,ht]
 rfl
set_option maxRecDepth 100000
set_option maxHeartbeats 4000000
theorem opE_t0 {o:Opx} {many:Int} (h:opE o many=0):0≤o.t:=by
  unfold opE at h
  split at h
  · omega
  · split at h
    · omega
    · rename_i h2;simp[bndB]at h2;exact h2.2.2.2.1
structure FBox (W:World) (x:Nat):Prop where
  c0:∃ u,W.cell? ⟨x,0,none⟩=some u
  c1:∃ u,W.cell? ⟨x,1,none⟩=some u
  f0:W.frozen? ⟨x,0,none⟩=false
  f1:W.frozen? ⟨x,1,none⟩=false
theorem FBox.stays {W W':World} {x:Nat} (F:FBox W x) (h:Below W.heap.size W W'):FBox W' x:=by
  obtain ⟨⟨u,a⟩,⟨v,b⟩,c,d⟩:=F
  exact ⟨⟨u,by rw[h.cell (World.block_lt_of_cell? _ _ a)];exact a⟩,⟨v,by rw[h.cell (World.block_lt_of_cell? _ _ b)];exact b⟩,by rw[h.frozen (World.block_lt_of_cell? _ _ a)];exact c,by rw[h.frozen (World.block_lt_of_cell? _ _ b)];exact d⟩
theorem FBox.lt {W:World} {x:Nat} (F:FBox W x):x<W.heap.size:=by obtain ⟨⟨u,a⟩,_⟩:=F;exact World.block_lt_of_cell? _ _ a
theorem FBox.drewN {W:World} {x:Nat} (F:FBox W x) (n:Nat):FBox (W.drewN n) x:=⟨F.c0,F.c1,F.f0,F.f1⟩
theorem FBox.new (w:World):FBox (w.alloc (.cells #[.int .i64 0,.int .i64 0] 63)) w.heap.size:=⟨⟨.int .i64 0,by simp⟩,⟨.int .i64 0,by simp⟩,by simp,by simp⟩
theorem ftP {w W:World} (hB:Below w.heap.size w W) (F:FBox W w.heap.size) (a b:Int) :
    (loadVar 63 ⟨w.heap.size,0,none⟩).run Tryz.prog ((W.setCell ⟨w.heap.size,0,none⟩ (.int .i64 a)).setCell ⟨w.heap.size,1,none⟩ (.int .i64 b))=.ok (.agg #[.int .i64 a,.int .i64 b]) ((W.setCell ⟨w.heap.size,0,none⟩ (.int .i64 a)).setCell ⟨w.heap.size,1,none⟩ (.int .i64 b))∧Below w.heap.size w ((W.setCell ⟨w.heap.size,0,none⟩ (.int .i64 a)).setCell ⟨w.heap.size,1,none⟩ (.int .i64 b)):=by
  obtain ⟨⟨u,h0⟩,⟨v,h1⟩,_,_⟩:=F
  obtain ⟨z0,z1⟩:=putF2 (v0:=.int .i64 a) (v1:=.int .i64 b) h0 h1
  exact ⟨fault_load z0 z1,(hB.setCell (Nat.le_refl _) _).setCell (Nat.le_refl _) _⟩
theorem codeFault_any {w:World} {v:Value} {l:List Opx} (A:OpsIn w v l) (hl:(l.length:Int)≤1000000) (many:Int) (m0:-9223372036854775808≤many) (m1:many≤9223372036854775807) :
    Calls Tryz.prog 21 #[.int .i64 many,v] w fun e w'=>e=.returned (.agg #[.int .i64 (codeF many l).1,.int .i64 (codeF many l).2])∧Below w.heap.size w w':=by
  have A0:=A
  obtain ⟨ao,cap,rfl,hc,hh⟩:=A.sh
  have hst:∀ w',Below w.heap.size w w'→Calls Tryz.prog 64 #[.slice ao l.length cap] w' fun e w''=>e=.returned (.int .i64 (strs l))∧w''=w':=fun w' hb=>storesD_any (A.stays hb) hl
  have hba:=fun n w=>bare_any n w
  have HH:Hid (0<l.length→∃ b off:Nat,ao=some ⟨b,off,none⟩∧∀ (i:Nat) (o:Opx),l[i]?=some o→∀ (j:Nat) (u:Value),(opC o)[j]?=some u→w.cell? ⟨b,off+i*6+j,none⟩=some u):=hh
  have hOk:Hid (∀ o∈l,o.ok):=A.ok
  have hB0:Below w.heap.size w (w.alloc (.cells #[.int .i64 0,.int .i64 0] 63)):=(Below.refl _ _).alloc (Nat.le_refl _) _
  have hF0:=FBox.new w
  clear hh A A0
  by_cases hm1:many<1
  · have HF:Hid (codeF many l=(2,-1)):=by show _=_;unfold codeF;rw[if_pos (Or.inl hm1)]
    clear hst HH
    go_enter Tryz.func21,Tryz.ntmps21
    go_upto_region 1 with fail
    generalize w.alloc (.cells #[.int .i64 0,.int .i64 0] 63)=V at *
    have HB0:Hid (Below w.heap.size w V):=hB0
    have HF0:Hid (FBox V w.heap.size):=hF0
    clear hB0 hF0
    go_wp2_with fail
    refine (hba 2 _).mono ?_
    rintro e w2 ⟨rfl,hb2⟩
    obtain ⟨⟨u0,z0⟩,⟨u1,z1⟩,f0,f1⟩:=HF0.out.stays hb2
    have HB2:Hid (Below w.heap.size w w2):=HB0.out.trans (hb2.mono HB0.out.size)
    have HF2:Hid (FBox w2 w.heap.size):=HF0.out.stays hb2
    clear hb2 HB0 HF0
    go_wp2
    obtain ⟨q1,q2⟩:=ftP HB2.out HF2.out 2 (-1)
    refine bodyPost_ret (r1c (A:=⟨w.heap.size,0,none⟩) rfl _ _ _ rfl q1) rfl ?_
    exact ⟨by rw[HF.out],q2⟩
  by_cases hm2:24<many
  · have HF:Hid (codeF many l=(2,-1)):=by show _=_;unfold codeF;rw[if_pos (Or.inr hm2)]
    clear hst HH
    go_enter Tryz.func21,Tryz.ntmps21
    go_upto_region 1 with fail
    generalize w.alloc (.cells #[.int .i64 0,.int .i64 0] 63)=V at *
    have HB0:Hid (Below w.heap.size w V):=hB0
    have HF0:Hid (FBox V w.heap.size):=hF0
    clear hB0 hF0
    go_wp2_with fail
    refine (hba 2 _).mono ?_
    rintro e w2 ⟨rfl,hb2⟩
    obtain ⟨⟨u0,z0⟩,⟨u1,z1⟩,f0,f1⟩:=HF0.out.stays hb2
    have HB2:Hid (Below w.heap.size w w2):=HB0.out.trans (hb2.mono HB0.out.size)
    have HF2:Hid (FBox w2 w.heap.size):=HF0.out.stays hb2
    clear hb2 HB0 HF0
    go_wp2
    obtain ⟨q1,q2⟩:=ftP HB2.out HF2.out 2 (-1)
    refine bodyPost_ret (r1c (A:=⟨w.heap.size,0,none⟩) rfl _ _ _ rfl q1) rfl ?_
    exact ⟨by rw[HF.out],q2⟩
  have hm:¬ (many<1∨24<many):=by omega
  by_cases hl2:200<l.length
  · have HF:Hid (codeF many l=(8,-1)):=by show _=_;unfold codeF;rw[if_neg hm,if_pos (Or.inl hl2)]
    have hl2':(200:Int)<l.length:=by omega
    clear hst HH hm
    go_enter Tryz.func21,Tryz.ntmps21
    go_upto_region 1 with fail
    generalize w.alloc (.cells #[.int .i64 0,.int .i64 0] 63)=V at *
    have HB0:Hid (Below w.heap.size w V):=hB0
    have HF0:Hid (FBox V w.heap.size):=hF0
    clear hB0 hF0
    go_wp2_with fail
    refine (hba 8 _).mono ?_
    rintro e w2 ⟨rfl,hb2⟩
    obtain ⟨⟨u0,z0⟩,⟨u1,z1⟩,f0,f1⟩:=HF0.out.stays hb2
    have HB2:Hid (Below w.heap.size w w2):=HB0.out.trans (hb2.mono HB0.out.size)
    have HF2:Hid (FBox w2 w.heap.size):=HF0.out.stays hb2
    clear hb2 HB0 HF0
    go_wp2
    obtain ⟨q1,q2⟩:=ftP HB2.out HF2.out 8 (-1)
    refine bodyPost_ret (r1c (A:=⟨w.heap.size,0,none⟩) rfl _ _ _ rfl q1) rfl ?_
    exact ⟨by rw[HF.out],q2⟩
  have hl2':¬ (200:Int)<l.length:=by omega
  by_cases hs8:8<strs l
  · have HF:Hid (codeF many l=(8,-1)):=by show _=_;unfold codeF;rw[if_neg hm,if_pos (Or.inr hs8)]
    have hs8':(8:Int)<strs l:=by omega
    clear HH hm hl2
    go_enter Tryz.func21,Tryz.ntmps21
    go_upto_region 1 with fail
    generalize w.alloc (.cells #[.int .i64 0,.int .i64 0] 63)=V at *
    have HB0:Hid (Below w.heap.size w V):=hB0
    have HF0:Hid (FBox V w.heap.size):=hF0
    have hst':=hst V hB0
    clear hB0 hF0 hst
    go_wp2_with fail
    refine hst'.mono ?_
    rintro e w1 ⟨rfl,hw⟩
    rw[hw]
    clear hw w1 hst'
    go_wp2_with fail
    refine (hba 8 _).mono ?_
    rintro e w2 ⟨rfl,hb2⟩
    obtain ⟨⟨u0,z0⟩,⟨u1,z1⟩,f0,f1⟩:=HF0.out.stays hb2
    have HB2:Hid (Below w.heap.size w w2):=HB0.out.trans (hb2.mono HB0.out.size)
    have HF2:Hid (FBox w2 w.heap.size):=HF0.out.stays hb2
    clear hb2 HB0 HF0
    go_wp2
    obtain ⟨q1,q2⟩:=ftP HB2.out HF2.out 8 (-1)
    refine bodyPost_ret (r1c (A:=⟨w.heap.size,0,none⟩) rfl _ _ _ rfl q1) rfl ?_
    exact ⟨by rw[HF.out],q2⟩
  have hs8':¬ (8:Int)<strs l:=by omega
  have hn8:¬ (200<l.length∨8<strs l):=by omega
  by_cases hnil:l=[]
  · have HF:Hid (codeF many l=(3,-1)):=by show _=_;unfold codeF;rw[if_neg hm,if_neg hn8,if_pos (Or.inl hnil)]
    have hlen:l.length=0:=by rw[hnil];rfl
    have hc0:(l.length:Int)=0:=by omega
    subst hnil
    clear HH hm hl2 hn8 hOk
    go_enter Tryz.func21,Tryz.ntmps21
    go_upto_region 1 with fail
    generalize w.alloc (.cells #[.int .i64 0,.int .i64 0] 63)=V at *
    have HB0:Hid (Below w.heap.size w V):=hB0
    have HF0:Hid (FBox V w.heap.size):=hF0
    have hst':=hst V hB0
    clear hB0 hF0 hst
    go_wp2_with fail
    refine hst'.mono ?_
    rintro e w1 ⟨rfl,hw⟩
    rw[hw]
    clear hw w1 hst'
    go_wp2_with fail
    refine (hba 3 _).mono ?_
    rintro e w2 ⟨rfl,hb2⟩
    obtain ⟨⟨u0,z0⟩,⟨u1,z1⟩,f0,f1⟩:=HF0.out.stays hb2
    have HB2:Hid (Below w.heap.size w w2):=HB0.out.trans (hb2.mono HB0.out.size)
    have HF2:Hid (FBox w2 w.heap.size):=HF0.out.stays hb2
    clear hb2 HB0 HF0
    go_wp2
    obtain ⟨q1,q2⟩:=ftP HB2.out HF2.out 3 (-1)
    refine bodyPost_ret (r1c (A:=⟨w.heap.size,0,none⟩) rfl _ _ _ rfl q1) rfl ?_
    exact ⟨by rw[HF.out],q2⟩
  have hpos:0<l.length:=List.length_pos_iff.2 hnil
  obtain ⟨b,off,rfl,hcell⟩:=HH.out hpos
  obtain ⟨lo,hlo,hlast⟩:∃ o,l[l.length-1]?=some o∧l.getLast?=some o:=by
    have h:l[l.length-1]?=some l[l.length-1]:=List.getElem?_eq_getElem (by omega)
    exact ⟨_,h,by rw[List.getLast?_eq_getElem?];exact h⟩
  have hbl:b<w.heap.size:=World.block_lt_of_cell? _ _ (hcell _ _ hlo 0 _ rfl)
  have hlc:Hid (∀ w':World,Below w.heap.size w w'→∀ (i:Nat) (o:Opx),l[i]?=some o→w'.cell? ⟨b,off+i*6,none⟩=some (.string o.s)∧w'.cell? ⟨b,off+i*6+1,none⟩=some (.int .i64 o.d)∧w'.cell? ⟨b,off+i*6+2,none⟩=some (.int .i64 o.a)∧w'.cell? ⟨b,off+i*6+3,none⟩=some (.int .i64 o.b)∧w'.cell? ⟨b,off+i*6+4,none⟩=some (.int .u32 o.i)∧w'.cell? ⟨b,off+i*6+5,none⟩=some (.int .i64 o.t)):=by
    intro w' hw i o hi
    exact op_cells fun k u hk=>by rw[hw.cell hbl];exact hcell i o hi k u hk
  clear hcell HH
  have hlen1:((l.length:Int)-1).toNat=l.length-1:=by omega
  have hpos':¬ (l.length:Int)-1<0:=by omega
  have hpos2:(l.length:Int)-1<l.length:=by omega
  have hne0:¬ (l.length:Int)=0:=by omega
  have hio:=fun o w'=>isOutD_any o w'
  unfold opV at hio
  cases hob:outB lo with
  | false =>
    have HF:Hid (codeF many l=(3,-1)):=by show _=_;unfold codeF;rw[if_neg hm,if_neg hn8,if_pos (Or.inr (by rw[hlast];exact hob))]
    have hio:=hio lo
    rw[hob]at hio
    clear hm hl2 hn8 hOk hlast hob
    go_enter Tryz.func21,Tryz.ntmps21
    go_upto_region 1 with fail
    generalize w.alloc (.cells #[.int .i64 0,.int .i64 0] 63)=V at *
    have HB0:Hid (Below w.heap.size w V):=hB0
    have HF0:Hid (FBox V w.heap.size):=hF0
    have hst':=hst V hB0
    clear hB0 hF0 hst
    go_wp2_with fail
    refine hst'.mono ?_
    rintro e w1 ⟨rfl,hw⟩
    rw[hw]
    clear hw w1 hst'
    obtain ⟨x0,x1,x2,x3,x4,x5⟩:=hlc.out V HB0.out _ _ hlo
    go_wp2_with fail
    refine (hio _).mono ?_
    rintro e w1 ⟨rfl,hb1⟩
    replace HF0:Hid (FBox w1 w.heap.size):=HF0.out.stays hb1
    replace HB0:Hid (Below w.heap.size w w1):=HB0.out.trans (hb1.mono HB0.out.size)
    clear hb1 hio x0 x1 x2 x3 x4 x5 hlc hlo
    go_wp2_with fail
    refine (hba 3 _).mono ?_
    rintro e w2 ⟨rfl,hb2⟩
    obtain ⟨⟨u0,z0⟩,⟨u1,z1⟩,f0,f1⟩:=HF0.out.stays hb2
    have HB2:Hid (Below w.heap.size w w2):=HB0.out.trans (hb2.mono HB0.out.size)
    have HF2:Hid (FBox w2 w.heap.size):=HF0.out.stays hb2
    clear hb2 HB0 HF0
    go_wp2
    obtain ⟨q1,q2⟩:=ftP HB2.out HF2.out 3 (-1)
    refine bodyPost_ret (r1c (A:=⟨w.heap.size,0,none⟩) rfl _ _ _ rfl q1) rfl ?_
    exact ⟨by rw[HF.out],q2⟩
  | true =>
    have HF:Hid (codeF many l=opsF many 0 0 l):=by
      show _=_;unfold codeF;rw[if_neg hm,if_neg hn8,if_neg (by rw[hlast];simp[hob,hnil])]
    have hio2:=hio lo
    rw[hob]at hio2
    clear hm hl2 hn8 hlast hob hba hs8
    go_enter Tryz.func21,Tryz.ntmps21
    go_upto_region 1 with fail
    generalize w.alloc (.cells #[.int .i64 0,.int .i64 0] 63)=V at *
    have HB0:Hid (Below w.heap.size w V):=hB0
    have HF0:Hid (FBox V w.heap.size):=hF0
    have hst':=hst V hB0
    clear hB0 hF0 hst
    go_wp2_with fail
    refine hst'.mono ?_
    rintro e w1 ⟨rfl,hw⟩
    rw[hw]
    clear hw w1 hst'
    obtain ⟨x0,x1,x2,x3,x4,x5⟩:=hlc.out V HB0.out _ _ hlo
    go_wp2_with fail
    refine (hio2 _).mono ?_
    rintro e w1 ⟨rfl,hb1⟩
    replace HF0:Hid (FBox w1 w.heap.size):=HF0.out.stays hb1
    replace HB0:Hid (Below w.heap.size w w1):=HB0.out.trans (hb1.mono HB0.out.size)
    clear hb1 hio2 x0 x1 x2 x3 x4 x5 hlo
    go_wp2
    go_loopw [6] (fun i wr=>∃ (j:Nat) (ah:Int),j≤l.length∧i=.int .i64 j∧(j=0→ah=0)∧(∀ x,0<j→l[j-1]?=some x→ah=x.t)∧opsF many 0 0 l=opsF many ah j (l.drop j)∧Below w.heap.size w wr∧FBox wr w.heap.size) (fun i _=>l.length-(intOf i).toNat)
    case atStart=>exact ⟨0,0,Nat.zero_le _,rfl,fun _=>rfl,fun x h _=>absurd h (by omega),rfl,HB0.out,HF0.out⟩
    case round =>
      obtain ⟨j,ah,hj,rfl,hah0,hah,hop,hB,hFb⟩:=hrel
      have HO:Hid (opsF many 0 0 l=opsF many ah j (l.drop j)):=hop
      have HBr:Hid (Below w.heap.size w wr):=hB
      have HFr:Hid (FBox wr w.heap.size):=hFb
      have HA0:Hid (j=0→ah=0):=hah0
      have HAH:Hid (∀ x,0<j→l[j-1]?=some x→ah=x.t):=hah
      clear hop hB hFb HB0 HF0 hah0 hah
      by_cases hlt:j<l.length
      · obtain ⟨o,ho,hd,hom⟩:∃ o,l[j]?=some o∧l.drop j=o :: l.drop (j+1)∧o∈l:=⟨l[j],List.getElem?_eq_getElem hlt,List.drop_eq_getElem_cons hlt,List.getElem_mem hlt⟩
        have hem:(l.drop (j+1)).isEmpty=decide (l.length≤j+1):=by rw[Bool.eq_iff_iff,List.isEmpty_iff,List.drop_eq_nil_iff];simp
        rw[hd]at HO
        have HO2:Hid (opsF many 0 0 l=if opF o many ah (decide (l.length≤j+1))≠0 then (opF o many ah (decide (l.length≤j+1)),(j:Int)) else opsF many o.t (j+1) (l.drop (j+1))):=by
          show _=_;rw[HO.out,opsF_cons,hem]
        have HX:Hid (codeF many l=if opF o many ah (decide (l.length≤j+1))≠0 then (opF o many ah (decide (l.length≤j+1)),(j:Int)) else opsF many o.t (j+1) (l.drop (j+1))):=HF.out.trans HO2.out
        clear HO hd hem
        have hoK:o.ok:=hOk.out _ hom
        have hcl:=fun W hW=>hlc.out W hW _ _ ho
        have HCL:Hid (∀ W,Below w.heap.size w W→_):=hcl
        clear hcl
        obtain ⟨x0,x1,x2,x3,x4,x5⟩:=HCL.out wr HBr.out
        have hlt':(j:Int)<l.length:=by omega
        have HNX:Hid (∀ x,0<j+1→l[j+1-1]?=some x→o.t=x.t):=fun x _ hx=>by rw[show j+1-1=j by omega,ho]at hx;injection hx with hx;rw[hx]
        have hoe:=fun w'=>opError_any o hoK many w'
        unfold opV at hoe
        have hio3:=hio o
        obtain ⟨oe,hoE⟩:∃ x,opE o many=x:=⟨_,rfl⟩
        obtain ⟨ob,hoB⟩:∃ x,outB o=x:=⟨_,rfl⟩
        rw[hoE]at hoe
        rw[hoB]at hio3
        have hec:=opE_cases o many
        have ht0:Hid (oe=0→0≤o.t):=by rw[←hoE];intro h;exact opE_t0 h
        have HPF:Hid (opF o many ah (decide (l.length≤j+1))=if oe≠0 then oe else if o.t<ah∨ob=true∧decide (l.length≤j+1)=false then 3 else 0):=by show _=_;unfold opF;rw[hoE,hoB]
        rw[hoE]at hec
        have HEC:Hid (oe=0∨oe=2∨oe=3∨oe=4):=hec
        clear ho hOk HF hom hoE hoB hio hec
        go_wp2_with fail
        refine (hoe _).mono ?_
        rintro e w1 ⟨rfl,hb1⟩
        have HF1:Hid (FBox w1 w.heap.size):=HFr.out.stays hb1
        have HB1:Hid (Below w.heap.size w w1):=HBr.out.trans (hb1.mono HBr.out.size)
        clear hb1 hoe HFr HBr x0 x1 x2 x3 x4 x5
        obtain ⟨x0,x1,x2,x3,x4,x5⟩:=HCL.out w1 HB1.out
        go_wp2_with fail
        refine (hio3 _).mono ?_
        rintro e w2 ⟨rfl,hb2⟩
        have HF2:Hid (FBox w2 w.heap.size):=HF1.out.stays hb2
        have HB2:Hid (Below w.heap.size w w2):=HB1.out.trans (hb2.mono HB1.out.size)
        clear hb2 hio3 HF1 HB1 x0 x1 x2 x3 x4 x5
        obtain ⟨⟨u0,z0⟩,⟨u1,z1⟩,f0,f1⟩:=HF2.out
        -- the op alone is at fault
        by_cases hE0:oe=0
        · subst hE0
          have h00:=ht0.out rfl
          have HPF1:Hid (opF o many ah (decide (l.length≤j+1))=if o.t<ah∨ob=true∧decide (l.length≤j+1)=false then 3 else 0):=by show _=_;rw[HPF.out,if_neg (by simp)]
          clear HPF ht0 HEC
          by_cases hin:ob=true∧j+1<l.length
          · obtain ⟨rfl,hjl⟩:=hin
            have HE:Hid (opF o many ah (decide (l.length≤j+1))=3):=by show _=_;rw[HPF1.out,if_pos (Or.inr ⟨rfl,by simp;omega⟩)]
            have hjl':(j:Int)+1<l.length:=by omega
            clear HPF1 h00
            go_wp2
            obtain ⟨q1,q2⟩:=ftP HB2.out HF2.out 3 j
            refine bodyPost_ret (r1c (A:=⟨w.heap.size,0,none⟩) rfl _ _ _ rfl q1) rfl ?_
            exact ⟨by rw[HX.out,HE.out];rfl,q2⟩
          · have hin':¬ (ob=true∧decide (l.length≤j+1)=false):=by
              intro h;exact hin ⟨h.1,by have:=h.2;simp at this;omega⟩
            have hlog:(ob&&decide ((j:Int)+1<l.length))=false:=by
              cases ob<;>simp at hin' ⊢;omega
            by_cases hj0:j=0
            · have e0:=HA0.out hj0
              have HE:Hid (opF o many ah (decide (l.length≤j+1))=0):=by show _=_;rw[HPF1.out,if_neg (fun h=>h.elim (fun h=>by omega) hin')]
              have hj0':¬ (0:Int)<j:=by omega
              have HEND:Hid (opsF many 0 0 l=opsF many o.t (j+1) (l.drop (j+1))):=by show _=_;rw[HO2.out,HE.out];simp
              clear HPF1 HO2 HX HE hin' e0
              subst hj0
              have hlt2:0<l.length:=hlt
              have HC:Hid (ob=true→l.length≤1):=fun h=>by
                rw[h]at hlog;simp at hlog;omega
              cases ob with
              | false =>
                clear HC
                go_wp2
                go_roundw
                case rel=>exact ⟨1,o.t,hlt2,by first|rfl|go_num,fun h=>absurd h (by omega),HNX.out,HEND.out,HB2.out,HF2.out⟩
                case measure=>simp[intOf];omega
              | true =>
                clear hlog
                go_wp2
                all_goals first
                | (exfalso;have hC:=HC.out rfl;omega)
                | (exfalso;have hC:=HC.out;omega)
                | (exfalso;have hC:=HC.out;simp at hC;omega)
                | (go_roundw
                   case rel=>exact ⟨1,o.t,hlt2,by first|rfl|go_num,fun h=>absurd h (by omega),HNX.out,HEND.out,HB2.out,HF2.out⟩
                   case measure=>simp[intOf];omega)
            · obtain ⟨p,hp⟩:∃ p,l[j-1]?=some p:=⟨_,List.getElem?_eq_getElem (by omega)⟩
              have e0:=HAH.out p (by omega) hp
              subst e0
              have hj0':(0:Int)<j:=by omega
              obtain ⟨_,_,_,_,_,x5⟩:=HCL.out w2 HB2.out
              obtain ⟨_,_,_,_,_,y5⟩:=hlc.out w2 HB2.out _ _ hp
              have hjn:((j:Int)-1).toNat=j-1:=by omega
              have hjn2:¬ (j:Int)-1<0:=by omega
              have hjn3:(j:Int)-1<l.length:=by omega
              clear hp
              by_cases htp:o.t<p.t
              · have HE:Hid (opF o many p.t (decide (l.length≤j+1))=3):=by show _=_;rw[HPF1.out,if_pos (Or.inl htp)]
                clear HPF1 HO2 hin'
                cases ob
                all_goals
                  go_wp2
                  go_quiet (fail)
                  go_wp2
                  obtain ⟨q1,q2⟩:=ftP (below_drewN HB2.out nq) (HF2.out.drewN nq) 3 j
                  refine bodyPost_ret (r1c (A:=⟨w.heap.size,0,none⟩) rfl _ _ _ rfl q1) rfl ?_
                  exact ⟨by rw[HX.out,HE.out];rfl,q2⟩
              · have HE:Hid (opF o many p.t (decide (l.length≤j+1))=0):=by show _=_;rw[HPF1.out,if_neg (fun h=>h.elim (fun h=>by omega) hin')]
                have HEND:Hid (opsF many 0 0 l=opsF many o.t (j+1) (l.drop (j+1))):=by show _=_;rw[HO2.out,HE.out];simp
                clear HPF1 HO2 HX HE hin'
                cases ob
                all_goals
                  go_wp2
                  go_quiet (fail)
                  go_wp2
                  go_roundw
                  case rel=>exact ⟨j+1,o.t,by omega,by go_num,by omega,HNX.out,HEND.out,below_drewN HB2.out nq,HF2.out.drewN nq⟩
                  case measure=>simp[intOf];omega
        · have hp0:0<oe:=by have:=HEC.out;omega
          have hE0':(oe==0)=false:=by simpa using hE0
          have HE:Hid (opF o many ah (decide (l.length≤j+1))=oe):=by show _=_;rw[HPF.out,if_pos hE0]
          have HNE:Hid (oe≠0):=hE0
          clear HPF HEC ht0 hE0
          go_wp2
          obtain ⟨q1,q2⟩:=ftP HB2.out HF2.out oe j
          refine bodyPost_ret (r1c (A:=⟨w.heap.size,0,none⟩) rfl _ _ _ rfl q1) rfl ?_
          exact ⟨by rw[HX.out,HE.out,if_pos HNE.out],q2⟩
      · obtain rfl:j=l.length:=by omega
        have hfi:=fun w=>fine_any w
        have HF3:Hid (codeF many l=(0,-1)):=by show _=_;rw[HF.out,HO.out];simp[opsF]
        clear HO HF hlc hOk hio
        go_wp2_with fail
        refine (hfi _).mono ?_
        rintro e w2 ⟨rfl,hb2⟩
        obtain ⟨⟨u0,z0⟩,⟨u1,z1⟩,f0,f1⟩:=HFr.out.stays hb2
        have HB2:Hid (Below w.heap.size w w2):=HBr.out.trans (hb2.mono HBr.out.size)
        have HF2:Hid (FBox w2 w.heap.size):=HFr.out.stays hb2
        clear hb2
        go_wp2
        obtain ⟨q1,q2⟩:=ftP HB2.out HF2.out 0 (-1)
        refine bodyPost_ret (r1c (A:=⟨w.heap.size,0,none⟩) rfl _ _ _ rfl q1) rfl ?_
        exact ⟨by rw[HF3.out],q2⟩
structure RnAt (V W:World) (mb rb gb kb:Nat) (x m:Nat→Int) (wt:Int→Bool):Prop where
 bx:MBox W mb x (.pointer (some ⟨rb,0,none⟩))
 d:DRam W rb gb kb m wt
 b:Below V.heap.size V W
theorem RnAt.blocks {V W W':World} {base mb rb gb kb:Nat} {x m:Nat→Int} {wt:Int→Bool} (R:RnAt V W mb rb gb kb x m wt) (hV:V.heap.size≤base) (h1:mb<base) (h2:rb<base) (h3:gb<base) (h4:kb<base) (h:Below base W W'):RnAt V W' mb rb gb kb x m wt :=
 ⟨R.bx.block (h.block _ h1),R.d.blocks (fun k hk=>h.block k (by rcases hk with rfl|rfl|rfl<;>assumption)),R.b.trans (h.mono hV)⟩
theorem RnAt.drew {V W:World} {mb rb gb kb:Nat} {x m:Nat→Int} {wt:Int→Bool} (R:RnAt V W mb rb gb kb x m wt):RnAt V W.drew mb rb gb kb x m wt:=⟨R.bx.drew,R.d.blocks fun _ _=>rfl,R.b.drew⟩
theorem RnAt.setx {V W:World} {mb rb gb kb:Nat} {x m:Nat→Int} {wt:Int→Bool} (R:RnAt V W mb rb gb kb x m wt) (hV:V.heap.size≤mb) (h2:rb≠mb) (h3:gb≠mb) (h4:kb≠mb) (i:Nat) (hi:i<64) (v:Int) (x':Nat→Int) (h:∀ j,j<64→x' j=if j=i then v else x j):RnAt V (W.setCell ⟨mb,i,none⟩ (.int .u32 v)).drew mb rb gb kb x' m wt :=
 ⟨(R.bx.put i hi v h).drew,R.d.blocks (fun k hk=>Below.heap_setCell W ⟨mb,i,none⟩ _ k (by rcases hk with rfl|rfl|rfl<;>assumption)),(R.b.setCell hV _).drew⟩
theorem RnAt.store {V W W':World} {mb rb gb kb:Nat} {x m m':Nat→Int} {wt:Int→Bool} (R:RnAt V W mb rb gb kb x m wt) (hV:V.heap.size≤gb) (h1:mb≠gb) (D:DRam W' rb gb kb m' wt) (g:W.grownBy W' (some gb)):RnAt V W' mb rb gb kb x m' wt :=
 ⟨R.bx.block (g.block _ R.bx.lt (by intro e;exact h1 (Option.some.inj e))),D,⟨g.os.trans R.b.os,g.tape.trans R.b.tape,g.output.trans R.b.output,Nat.le_trans R.b.size g.size,fun k hk=>(g.block k (Nat.lt_of_lt_of_le hk R.b.size) (by intro e;have:=Option.some.inj e;omega)).trans (R.b.block k hk)⟩⟩
structure Ck22 (W:World) (mb rb g q xb:Nat) (ro:Ro) (o:Opx):Prop where
 a:W.cell? ⟨mb,64,none⟩=some (.pointer (some ⟨rb,0,none⟩))
 b:W.cell? ⟨g,q+1,none⟩=some (.int .u32 ro.a)
 c:W.cell? ⟨xb,1,none⟩=some (.int .i64 o.d)
 d:W.cell? ⟨g,q,none⟩=some (.int .u32 ro.v)
def stF (f:Nat→Value) (M:Mz) (many ct:Int) (j:Nat):Value :=
 if 1≤j∧j<34 then .int .u32 (M.x j) else if j=34 then .int .u32 M.lv else if j=35 then .int .u32 (lo (M.lv+4)) else if j=42 then .int .i64 (ct+many) else f j
def wbF (f:Nat→Value) (X:Nat→Int) (k j:Nat):Value:=if 1≤j∧j<k then .int .u32 (X j) else f j
theorem wbF_succ (f:Nat→Value) (X:Nat→Int) (k j:Nat) (hk:1≤k):wbF f X (k+1) j=if j=k then .int .u32 (X k) else wbF f X k j:=by
 unfold wbF
 by_cases e:j=k
 ·subst e;rw[if_pos rfl,if_pos (by omega)]
 ·rw[if_neg e]
  by_cases h:1≤j∧j<k
  ·rw[if_pos h,if_pos (by omega)]
  ·rw[if_neg h,if_neg (by omega)]
theorem RowIs.congrP {w:World} {b:Nat} {t:TypeId} {n:Nat} {f g:Nat→Value} (h:RowIs w b t n f) (e:∀ j,j<n→g j=f j):RowIs w b t n g:=by
 obtain ⟨cur,h1,h2,h3⟩:=h
 exact ⟨cur,h1,h2,fun j hj=>by rw[h3 j hj,e j hj]⟩
structure LvAt (wL W:World) (sb:Nat) (g:Nat→Value):Prop where
 s:RowIs W sb 25 43 g
 g:wL.grownBy W (some sb)
theorem LvAt.block {wL W:World} {sb:Nat} {g:Nat→Value} (A:LvAt wL W sb g) (k:Nat) (hk:k<wL.heap.size) (h:k≠sb):W.heap[k]?=wL.heap[k]?:=A.g.block k hk (by intro e;exact h (Option.some.inj e))
theorem LvAt.put {wL W:World} {sb:Nat} {g:Nat→Value} (A:LvAt wL W sb g) (i:Nat) (v:Value) (g':Nat→Value) (hg:g' i=v) (ho:∀ j,j<43→j≠i→g' j=g j):LvAt wL (W.setCell ⟨sb,i,none⟩ v) sb g':=⟨RowIs.put A.s i v g' hg ho,grown_trans A.g (grown_set _ _)⟩
theorem LvAt.drew {wL W:World} {sb:Nat} {g:Nat→Value} (A:LvAt wL W sb g):LvAt wL W.drew sb g:=⟨A.s,⟨A.g.os,A.g.tape,A.g.output,A.g.size,A.g.block⟩⟩
def RunPost (w:World) (sb rb:Nat) (f:Nat→Value) (many ct:Int):Oz→Ending→World→Prop
 | .trap t,e,w'=>e=.returned (.agg #[.bool true,.int .i64 t,.bool false])∧Below w.heap.size w w'
 | .fell,e,w'=>e=.returned (.agg #[.bool false,.int .i64 0,.bool true])∧Below w.heap.size w w'
 | .leave M,e,w'=>e=.returned (.agg #[.bool false,.int .i64 0,.bool false])∧RowIs w' sb 25 43 (stF f M many ct)∧(∃ gb',w'.cell? ⟨rb,0,none⟩=some (.slice (some ⟨gb',0,none⟩) 4096 4096)∧w.heap.size≤gb'∧∀ i,i<4096→w'.cell? ⟨gb',i,none⟩=some (.int .u32 (M.m i)))∧(∀ k,k<w.heap.size→k≠sb→k≠rb→w'.heap[k]?=w.heap[k]?)∧w.heap.size≤w'.heap.size∧w'.os=w.os∧w'.tape=w.tape∧w'.output=w.output
structure EBox (W:World) (x:Nat):Prop where
 c0:∃ u,W.cell? ⟨x,0,none⟩=some u
 c1:∃ u,W.cell? ⟨x,1,none⟩=some u
 c2:∃ u,W.cell? ⟨x,2,none⟩=some u
 f:∀ j,W.frozen? ⟨x,j,none⟩=false
theorem EBox.lt {W:World} {x:Nat} (F:EBox W x):x<W.heap.size:=by obtain ⟨⟨u,a⟩,_⟩:=F;exact World.block_lt_of_cell? _ _ a
theorem EBox.block {W W':World} {x:Nat} (F:EBox W x) (h:W'.heap[x]?=W.heap[x]?):EBox W' x:=by
 obtain ⟨⟨u,a⟩,⟨v,b⟩,⟨t,c⟩,d⟩:=F
 exact ⟨⟨u,(World.cell?_of_block (a:=⟨x,0,none⟩) h).trans a⟩,⟨v,(World.cell?_of_block (a:=⟨x,1,none⟩) h).trans b⟩,⟨t,(World.cell?_of_block (a:=⟨x,2,none⟩) h).trans c⟩,fun j=>(World.frozen?_of_block (a:=⟨x,j,none⟩) h).trans (d j)⟩
theorem EBox.new (w:World):EBox (w.alloc (.cells #[.bool false,.int .i64 0,.bool false] 68)) w.heap.size:=⟨⟨.bool false,by simp⟩,⟨.int .i64 0,by simp⟩,⟨.bool false,by simp⟩,fun j=>World.frozen?_alloc_at _ _ _ _ rfl⟩
theorem end_load {w:World} {B:Nat} {a b c:Value} (z0:w.cell? ⟨B,0,none⟩=some a) (z1:w.cell? ⟨B,1,none⟩=some b) (z2:w.cell? ⟨B,2,none⟩=some c):(loadVar 68 ⟨B,0,none⟩).run Tryz.prog w=.ok (.agg #[a,b,c]) w:=by
 simp[go_sem,z0,z1,z2]
theorem ofsE {B i j:Nat} (h:i≠j):(⟨B,i,none⟩:Addr)≠⟨B,j,none⟩:=by intro e;injection e with e1 e2;exact h e2
theorem end_put {W:World} {B:Nat} (F:EBox W B) (v0 v1 v2:Value):(loadVar 68 ⟨B,0,none⟩).run Tryz.prog (((W.setCell ⟨B,0,none⟩ v0).setCell ⟨B,1,none⟩ v1).setCell ⟨B,2,none⟩ v2)=.ok (.agg #[v0,v1,v2]) (((W.setCell ⟨B,0,none⟩ v0).setCell ⟨B,1,none⟩ v1).setCell ⟨B,2,none⟩ v2):=by
 obtain ⟨⟨u0,z0⟩,⟨u1,z1⟩,⟨u2,z2⟩,_⟩:=F
 have a1:=World.cell?_setCell_same W ⟨B,0,none⟩ v0 z0
 have a2:(W.setCell ⟨B,0,none⟩ v0).cell? ⟨B,1,none⟩=some u1:=by rw[World.cell?_setCell_other _ _ _ _ (ofsE (by omega))];exact z1
 have a3:(W.setCell ⟨B,0,none⟩ v0).cell? ⟨B,2,none⟩=some u2:=by rw[World.cell?_setCell_other _ _ _ _ (ofsE (by omega))];exact z2
 have b1:=World.cell?_setCell_same (W.setCell ⟨B,0,none⟩ v0) ⟨B,1,none⟩ v1 a2
 have b3:((W.setCell ⟨B,0,none⟩ v0).setCell ⟨B,1,none⟩ v1).cell? ⟨B,2,none⟩=some u2:=by rw[World.cell?_setCell_other _ _ _ _ (ofsE (by omega))];exact a3
 have b0:((W.setCell ⟨B,0,none⟩ v0).setCell ⟨B,1,none⟩ v1).cell? ⟨B,0,none⟩=some v0:=by rw[World.cell?_setCell_other _ _ _ _ (ofsE (by omega))];exact a1
 exact end_load (by rw[World.cell?_setCell_other _ _ _ _ (ofsE (by omega))];exact b0) (by rw[World.cell?_setCell_other _ _ _ _ (ofsE (by omega))];exact b1) (World.cell?_setCell_same _ _ _ b3)
theorem nwX_bd {r:Nat→Int} (h:∀ j,j<34→0≤r j∧r j<4294967296):∀ i,i<64→0≤nwX r 34 i∧nwX r 34 i<4294967296:=by
 intro i hi
 unfold nwX
 split
 ·exact h i (by omega)
 ·omega
theorem rowZ_lv {wt:Int→Bool} {x m:Nat→Int} {many:Int} (hx:∀ i,i<64→0≤x i∧x i<4294967296) (mb:∀ i,0≤m i∧m i<4294967296):∀ (row:List Opx) (M:Mz),(∀ o∈row,o.ok∧opE o many=0)→(M.lv=-1∨u32 M.lv)→((row.foldl (fun M o=>appZ M o (resZ wt x m o)) M).lv=-1∨u32 (row.foldl (fun M o=>appZ M o (resZ wt x m o)) M).lv)
 | [],M,_,h=>h
 | o :: row,M,hw,h=>by
  refine rowZ_lv hx mb row _ (fun q hq=>hw q (by simp[hq])) ?_
  show (if (resZ wt x m o).leave=true then (resZ wt x m o).a else M.lv)=-1∨u32 (if (resZ wt x m o).leave=true then (resZ wt x m o).a else M.lv)
  split
  ·exact .inr (resZ_bd (hw o (by simp)).1 (hw o (by simp)).2 hx mb).2
  ·exact h
theorem rowZ_xbd {wt:Int→Bool} {x m:Nat→Int} {many:Int} (hx:∀ i,i<64→0≤x i∧x i<4294967296) (mb:∀ i,0≤m i∧m i<4294967296):∀ (row:List Opx) (M:Mz),(∀ o∈row,o.ok∧opE o many=0)→(∀ i,i<64→0≤M.x i∧M.x i<4294967296)→∀ i,i<64→0≤(row.foldl (fun M o=>appZ M o (resZ wt x m o)) M).x i∧(row.foldl (fun M o=>appZ M o (resZ wt x m o)) M).x i<4294967296
 | [],M,_,h=>h
 | o :: row,M,hw,h=>rowZ_xbd hx mb row _ (fun q hq=>hw q (by simp[hq])) (appZ_bd h (resZ_bd (hw o (by simp)).1 (hw o (by simp)).2 hx mb).1)
theorem runZ_cons (wt:Int→Bool) (row:List Opx) (rows:List (List Opx)) (x m:Nat→Int):runZ wt (row :: rows) x m=match trapZ wt x m row with
  | some t=>.trap t
  | none=>if (rowZ wt x m row).lv<0 then runZ wt rows (rowZ wt x m row).x (rowZ wt x m row).m else .leave (rowZ wt x m row):=rfl
structure Ck9 (W:World) (mb rb b o1 b1 o2:Nat) (x:Nat→Int) (u:Value) (o:Opx):Prop where
 bx:MBox W mb x (.pointer (some ⟨rb,0,none⟩))
 c:W.cell? ⟨b,o1,none⟩=some u
 c0:W.cell? ⟨b1,o2,none⟩=some (.string o.s)
 c1:W.cell? ⟨b1,o2+1,none⟩=some (.int .i64 o.d)
 c2:W.cell? ⟨b1,o2+2,none⟩=some (.int .i64 o.a)
 c3:W.cell? ⟨b1,o2+3,none⟩=some (.int .i64 o.b)
 c4:W.cell? ⟨b1,o2+4,none⟩=some (.int .u32 o.i)
 c5:W.cell? ⟨b1,o2+5,none⟩=some (.int .i64 o.t)
theorem Ck9.blocks {W W':World} {mb rb b o1 b1 o2:Nat} {x:Nat→Int} {u:Value} {o:Opx} (C:Ck9 W mb rb b o1 b1 o2 x u o) (h1:W'.heap[mb]?=W.heap[mb]?) (h2:W'.heap[b]?=W.heap[b]?) (h3:W'.heap[b1]?=W.heap[b1]?):Ck9 W' mb rb b o1 b1 o2 x u o :=
 have c:∀ j,W'.cell? ⟨b1,j,none⟩=W.cell? ⟨b1,j,none⟩:=fun j=>World.cell?_of_block (a:=⟨b1,j,none⟩) h3
 ⟨C.bx.block h1,(World.cell?_of_block (a:=⟨b,o1,none⟩) h2).trans C.c,(c _).trans C.c0,(c _).trans C.c1,(c _).trans C.c2,(c _).trans C.c3,(c _).trans C.c4,(c _).trans C.c5⟩
structure RoB (W:World) (x:Nat) (r:Ro):Prop where
 c0:W.cell? ⟨x,0,none⟩=some (.int .u32 r.v)
 c1:W.cell? ⟨x,1,none⟩=some (.int .u32 r.a)
 c2:W.cell? ⟨x,2,none⟩=some (.bool r.trap)
 c3:W.cell? ⟨x,3,none⟩=some (.bool r.leave)
theorem putRo {w:World} {B:Nat} {u0 u1 u2 u3:Value} (r:Ro) (z0:w.cell? ⟨B,0,none⟩=some u0) (z1:w.cell? ⟨B,1,none⟩=some u1) (z2:w.cell? ⟨B,2,none⟩=some u2) (z3:w.cell? ⟨B,3,none⟩=some u3):RoB ((((w.setCell ⟨B,0,none⟩ (.int .u32 r.v)).setCell ⟨B,1,none⟩ (.int .u32 r.a)).setCell ⟨B,2,none⟩ (.bool r.trap)).setCell ⟨B,3,none⟩ (.bool r.leave)) B r:=by
 have o:∀ {W:World} {i j:Nat} {v t:Value},i≠j→W.cell? ⟨B,j,none⟩=some t→(W.setCell ⟨B,i,none⟩ v).cell? ⟨B,j,none⟩=some t:=fun {W i j v t} h e=>by rw[World.cell?_setCell_other _ _ _ _ (ofsE h)];exact e
 exact ⟨o (by omega) (o (by omega) (o (by omega) (World.cell?_setCell_same _ _ _ z0))),o (by omega) (o (by omega) (World.cell?_setCell_same _ _ _ (o (by omega) z1))),o (by omega) (World.cell?_setCell_same _ _ _ (o (by omega) (o (by omega) z2))),World.cell?_setCell_same _ _ _ (o (by omega) (o (by omega) (o (by omega) z3)))⟩
end Go.Proofs.YtflagpkmebdckaaGreatDoor
