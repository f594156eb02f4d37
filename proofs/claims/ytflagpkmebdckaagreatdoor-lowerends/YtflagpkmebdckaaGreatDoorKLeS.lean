
import Derived.Test.YtflagpkmebdckaaGreatDoorKOptFns
import Derived.Test.YtflagpkmebdckaaGreatDoorKRunPure
import Derived.Test.YtflagpkmebdckaaGreatDoorKPlPure
import Derived.Test.YtflagpkmebdckaaGreatDoorKEqSt0
import Derived.Test.YtflagpkmebdckaaGreatDoorKMk5
import Derived.Test.YtflagpkmebdckaaGreatDoorKInsOf
import Derived.Test.YtflagpkmebdckaaGreatDoorKPlaceOfZ
import Derived.Test.YtflagpkmebdckaaGreatDoorQKEncodeOf
namespace Go.Proofs.YtflagpkmebdckaaGreatDoor.K
open Go.RowKit Go.Extern.Stop Go.Stop Go.Extern
open Num Tab Fm
set_option maxHeartbeats 1000000 in
theorem encodeOf_out (o s t d m:Int) (ho:¬ (0<o∧o<54)) (w:World):Calls Tryz.prog 60 #[ins o s t d m] w fun e w'=>e=.returned (.tuple #[.int .u32 0,.int .i64 4])∧Below w.heap.size w w':=by
 by_cases h:o<1
 ·go_enter Tryz.func60,Tryz.ntmps60
  go_wp2
  go_ret2
  exact ⟨rfl,(Below.refl _ _).alloc (Nat.le_refl _) _⟩
 ·have h':1≤o:=by omega
  have h2:54≤o:=by omega
  go_enter Tryz.func60,Tryz.ntmps60
  go_wp2
  go_ret2
  exact ⟨rfl,(Below.refl _ _).alloc (Nat.le_refl _) _⟩
end Go.Proofs.YtflagpkmebdckaaGreatDoor.K
namespace Go.Proofs.YtflagpkmebdckaaGreatDoor
open Go.RowKit Go.Maps
open Num Low
set_option linter.unusedVariables false
set_option maxRecDepth 100000
set_option maxHeartbeats 8000000
theorem ok_mtop {i:Ix} (h:InsOk i):i.m≤Tab.top (Tab.sh i.n):=by
 have:=h.ok
 unfold Tab.okB at this
 simp only[Bool.and_eq_true,decide_eq_true_eq]at this
 exact this.2
theorem ok_v1 {i:Ix} (h:InsOk i):i.n=1∨i.n=2∨i.n=3→i.m<32:=fun e=>by
 have:=ok_mtop h
 have t:Tab.top (Tab.sh i.n)=31:=by rcases e with e|e|e<;>rw[e]<;>rfl
 omega
theorem ok_v2 {i:Ix} (h:InsOk i):i.n=29∨i.n=30→i.m<67108864:=fun e=>by
 have:=ok_mtop h
 have t:Tab.top (Tab.sh i.n)=67108863:=by rcases e with e|e<;>rw[e]<;>rfl
 omega
theorem stepsI_snoc (wt:Int→Bool):∀ (l:List Ix) (i:Ix) (S:St) (m:Nat→Int),stepsI wt (l++[i]) S m=match stepsI wt l S m with
  | some (S',m')=>stepI wt S' m' i
  | none=>none
 | [],i,S,m=>by
  show (match stepI wt S m i with|some (S',m')=>some (S',m')|none=>none)=stepI wt S m i
  cases stepI wt S m i<;>rfl
 | a :: l,i,S,m=>by
  show (match stepI wt S m a with|some (S',m')=>stepsI wt (l++[i]) S' m'|none=>none)=match (match stepI wt S m a with|some (S',m')=>stepsI wt l S' m'|none=>none) with|some (S',m')=>stepI wt S' m' i|none=>none
  cases stepI wt S m a with
  | none=>rfl
  | some x=>exact stepsI_snoc wt l i x.1 x.2
theorem stepsI_none (wt:Int→Bool):∀ (l r:List Ix) (S:St) (m:Nat→Int),stepsI wt l S m=none→stepsI wt (l++r) S m=none
 | [],r,S,m,h=>by cases h
 | a :: l,r,S,m,h=>by
  show (match stepI wt S m a with|some (S',m')=>stepsI wt (l++r) S' m'|none=>none)=none
  revert h
  show (match stepI wt S m a with|some (S',m')=>stepsI wt l S' m'|none=>none)=none→_
  cases stepI wt S m a with
  | none=>exact fun _=>rfl
  | some x=>exact stepsI_none wt l r x.1 x.2
def Far (wt:Int→Bool) (l:List Ix) (S:St) (m:Nat→Int) (S':St) (m':Nat→Int) (ht:Int→Bool):Prop :=
 (stepsI wt l S m=some (S',m')∧∀ p:Nat,p<64→ht p=false)∨(stepsI wt l S m=none∧∃ p:Nat,p<64∧ht p=true)
theorem htI_mono (wt ht:Int→Bool) (S:St) (k s:Nat) (m:Int) {p:Nat} (h:ht p=true):htI wt ht S k s m p=true:=by
 unfold htI htD hitN
 (repeat' split)<;>simp[h]
theorem adI_page (S:St) (k s:Nat) (m:Int) (h:chk (adI S k s m) (szI k)=0):0≤adI S k s m/256∧adI S k s m/256<64:=by
 have h0:0≤adI S k s m:=(lo_bd _).1
 have:=(chk_ok h).2.2
 omega
theorem Far.next {wt:Int→Bool} {l:List Ix} {S:St} {m:Nat→Int} {S':St} {b:Bs} {ht:Int→Bool} (F:Far wt l S m S' b.m ht) (i:Ix) (O:InsOk i) (he:(insP S' b i.n i.s.toNat i.t.toNat i.d.toNat i.m).1=-1) (htr:(insP S' b i.n i.s.toNat i.t.toNat i.d.toNat i.m).2.2.tr=b.tr) :
  Far wt (l++[i]) S m { (insP S' b i.n i.s.toNat i.t.toNat i.d.toNat i.m).2.1 with ct:=S'.ct+1 } (insP S' b i.n i.s.toNat i.t.toNat i.d.toNat i.m).2.2.m (htI wt ht S' i.n i.s.toNat i.m):=by
 have hk:0≤i.k∧i.k<54:=by have:=O.kk;have:=O.k2;omega
 rcases F with ⟨h1,h2⟩|⟨h1,p,h2,h3⟩
 ·have hs:=stepI_ins wt S' b i hk O.nt
  have e:=stepsI_snoc wt l i S m
  rw[h1]at e
  replace e:stepsI wt (l++[i]) S m=stepI wt S' b.m i:=e
  cases hx:stepI wt S' b.m i with
  | none =>
   rw[hx]at hs e
   have hs:giveUp wt S' b i.n i.s.toNat i.t.toNat i.d.toNat i.m:=hs
   refine Or.inr ⟨e,?_⟩
   rcases hs with g|⟨_,g⟩|⟨g1,g2,g3,g4⟩
   ·rw[he]at g;omega
   ·exact absurd htr g
   ·have hb:bad (adI S' i.n i.s.toNat i.m) (szI i.n)=false:=by
     cases hb:bad (adI S' i.n i.s.toNat i.m) (szI i.n) with
     | false=>rfl
     | true =>
      exfalso
      have e5:(insP S' b i.n i.s.toNat i.t.toNat i.d.toNat i.m).1=5:=by unfold insP;rw[if_neg (by rw[g1];decide),if_neg (by rw[g1];decide),if_pos g1,if_pos hb]
      rw[e5]at he;omega
    have hc:chk (adI S' i.n i.s.toNat i.m) (szI i.n)=0:=by
     unfold bad at hb;rw[g3]at hb;simpa using hb
    have hp:=adI_page S' i.n i.s.toNat i.m hc
    refine ⟨(adI S' i.n i.s.toNat i.m/256).toNat,by omega,?_⟩
    unfold htI;rw[if_pos g1]
    unfold htD;rw[if_neg (by rw[g3];decide),if_pos hc]
    unfold hitN
    rw[show (((adI S' i.n i.s.toNat i.m/256).toNat:Nat):Int)=adI S' i.n i.s.toNat i.m/256 by omega,g4]
    simp
  | some y =>
   obtain ⟨T,q⟩:=y
   rw[hx]at hs e
   obtain ⟨s1,s2,s3⟩:=hs
   refine Or.inl ⟨?_,fun p hp=>?_⟩
   ·rw[e,←s2,s1]
   ·unfold htI
    split
    ·rename_i g1
     unfold htD
     split
     ·exact h2 p hp
     ·rename_i g3
      split
      ·rename_i hc
       unfold hitN
       rw[h2 p hp]
       by_cases ep:(p:Int)=adI S' i.n i.s.toNat i.m/256
       ·have g4:¬ wt (adI S' i.n i.s.toNat i.m/256)=true:=fun g4=>s3 (Or.inr (Or.inr ⟨g1,he,by simpa using g3,g4⟩))
        rw[ep];simp at g4;simp[g4]
       ·simp[ep]
      ·exact h2 p hp
    ·exact h2 p hp
 ·exact Or.inr ⟨stepsI_none wt l [i] S m h1,p,h2,htI_mono wt ht _ _ _ _ h3⟩
theorem Far.stop {wt:Int→Bool} {l r:List Ix} {S:St} {m:Nat→Int} {S':St} {b:Bs} {ht:Int→Bool} (F:Far wt l S m S' b.m ht) (i:Ix) (O:InsOk i) (h:0≤(insP S' b i.n i.s.toNat i.t.toNat i.d.toNat i.m).1∨(insP S' b i.n i.s.toNat i.t.toNat i.d.toNat i.m).2.2.tr≠b.tr):stepsI wt (l++i :: r) S m=none:=by
 have hk:0≤i.k∧i.k<54:=by have:=O.kk;have:=O.k2;omega
 rcases F with ⟨h1,h2⟩|⟨h1,_⟩
 ·have hs:=stepI_ins wt S' b i hk O.nt
  have e:=stepsI_snoc wt l i S m
  rw[h1]at e
  replace e:stepsI wt (l++[i]) S m=stepI wt S' b.m i:=e
  have en:stepI wt S' b.m i=none:=by
   cases hx:stepI wt S' b.m i with
   | none=>rfl
   | some y =>
    exfalso
    obtain ⟨T,q⟩:=y
    rw[hx]at hs
    obtain ⟨s1,s2,s3⟩:=hs
    rcases h with h|h
    ·rw[s1]at h;exact absurd h (by simp)
    ·rw[s1]at h;exact h rfl
  rw[en]at e
  have:=stepsI_none wt (l++[i]) r S m e
  rwa [List.append_assoc]at this
 ·exact stepsI_none wt l _ S m h1
def StepsPost (w:World) (sb rb gb kb hb:Nat) (wt:Int→Bool) (R:Option (St × (Nat→Int))) (e:Ending) (w':World):Prop :=
 (match R with
  | none=>e=.returned (.bool true)
  | some (T,p)=>e=.returned (.bool false)∧StAt w' sb T∧DMem w' rb gb kb hb p wt (fun _=>false))∧Kept w w' (fun k=>k=sb∨k=gb∨k=hb)
theorem words_nilL (w:World):WordsIn w (.slice none 0 0) []:=⟨⟨none,0,rfl,Nat.le_refl _,fun h=>absurd h (by simp)⟩,mw_wf [] (by simp)⟩
theorem insP_out {S:St} {b:Bs} {k s t d:Nat} {m:Int} (h:(insP S b k s t d m).2.2.tr=b.tr):(insP S b k s t d m).2.2.out=b.out:=by
 revert h
 unfold insP
 split
 ·exact fun _=>rfl
 split
 ·split
  ·exact fun _=>rfl
  ·exact fun _=>b.got_out _ _ _
 split
 ·split
  ·exact fun _=>rfl
  ·show (b.put _ _ _ _).tr=b.tr→(b.put _ _ _ _).out=b.out
   unfold Bs.put
   split
   ·intro h;simp at h
   ·split<;>exact fun _=>rfl
 split<;>exact fun _=>rfl
theorem own_shapeN {w:World} {base t c n:Nat} {v:Value} {xs:List Value} (h:w.ownsRow base t c v n xs):∃ ao cap,v=.slice ao n cap:=by
 rcases h.2 with ⟨e,h0⟩|⟨g,cap,cur,e,_⟩
 ·exact ⟨none,0,by rw[e,h0]⟩
 ·exact ⟨_,cap,e⟩
theorem stepsOf_any {w0 w:World} {v:Value} {l:List Ix} {sb rb gb kb hb:Nat} {S:St} {m:Nat→Int} {wt:Int→Bool} (A:InsIn w0 v l) (R:RegOk l) (be:Below w0.heap.size w0 w) (X:StAt w sb S) (ok:S.ok) (r0:S.r 0=0) (hct:S.ct≤1099511627776) (D:DMem w rb gb kb hb m wt (fun _=>false)) (l0:w0.heap.size≤sb) (l1:w0.heap.size≤gb) (l2:w0.heap.size≤hb) (n1:sb≠rb) (n2:sb≠gb) (n3:sb≠kb) (n4:sb≠hb) :
  Calls Tryz.prog 25 #[v,.pointer (some ⟨sb,0,none⟩),.pointer (some ⟨rb,0,none⟩)] w (StepsPost w sb rb gb kb hb wt (stepsI wt l S m)):=by
 have RL0:=R.l0
 have RL1:=R.l1
 have HI:Hid (∀ (j:Nat) (i:Ix),l[j]?=some i→InsOk i):=fun j i h=>(insB_ok (R.ins j i h)).1
 have HB:Hid (∀ i∈l,i.bd):=A.bd
 obtain ⟨ao,cap,rfl,hcap,hh⟩:=A.sh
 obtain ⟨bl,off,rfl,hcell⟩:=hh (by omega)
 have HC:Hid (∀ (i:Nat) (o:Ix),l[i]?=some o→∀ (j:Nat) (u:Value),(ixC o)[j]?=some u→w0.cell? ⟨bl,off+i*5+j,none⟩=some u):=hcell
 have BE:Hid (Below w0.heap.size w0 w):=be
 have XH:Hid (StAt w sb S):=X
 have DH:Hid (DMem w rb gb kb hb m wt (fun _=>false)):=D
 have hlt:=X.lt
 have h1:=D.lts (Or.inl rfl)
 have h2:=D.lts (Or.inr (Or.inl rfl))
 have h3:=D.lts (Or.inr (Or.inr (Or.inl rfl)))
 have h4:=D.lts (Or.inr (Or.inr (Or.inr rfl)))
 clear A R hh hcell X D be
 go_enter Tryz.func25,Tryz.ntmps25
 go_wp2_with fail
 refine (newDBus_any (words_nilL w) (by simp)).mono ?_
 rintro e w1 ⟨db,rb2,gb2,kb2,hb2,rfl,B1,b1,k1,-,-,-,-⟩
 have c0:=B1.c0
 have f0:=B1.fz 0
 have lb:=B1.lb
 have z1:=b1.size
 have B2:Hid (DBus (w1.setCell ⟨db,0,none⟩ (.pointer (some ⟨rb,0,none⟩))) w1.heap.size db rb gb kb hb ⟨m,[],0,[]⟩ wt (fun _=>false) (.slice none 0 0)):=by
  have oth:∀ (j:Nat) (v:Value),j≠0→w1.cell? ⟨db,j,none⟩=some v→(w1.setCell ⟨db,0,none⟩ (.pointer (some ⟨rb,0,none⟩))).cell? ⟨db,j,none⟩=some v:=fun j v hj e=>by
   rw[World.cell?_setCell_other _ _ _ _ (by intro e;injection e with e1 e2;exact hj e2.symm)];exact e
  refine ⟨World.cell?_setCell_same _ _ _ B1.c0,oth 1 _ (by omega) B1.c1,oth 2 _ (by omega) B1.c2,oth 3 _ (by omega) B1.c3,fun j=>by rw[World.frozen?_setCell];exact B1.fz j,World.ownsRow_nil _ _ _ _,?_,B1.lb,by omega,by omega,by omega,by omega,by omega,by omega,by omega,by omega,by simp⟩
  exact (DH.out.stays b1).blk fun k hk=>Below.heap_setCell w1 ⟨db,0,none⟩ _ k (fun e=>by simp at e;rcases hk with h|h|h|h<;>omega)
 have K2:Hid (Kept w (w1.setCell ⟨db,0,none⟩ (.pointer (some ⟨rb,0,none⟩))) (fun k=>k=sb∨k=gb∨k=hb)):=(Kept.of_below _ b1).trans (Kept.setCell w1 ⟨db,0,none⟩ _ (·=db) rfl) (fun k hk h=>by have h':k=db:=h;omega)
 have X2:Hid (StAt (w1.setCell ⟨db,0,none⟩ (.pointer (some ⟨rb,0,none⟩))) sb S):=(XH.out.stays b1).kept (Kept.setCell w1 ⟨db,0,none⟩ (.pointer (some ⟨rb,0,none⟩)) (·=db) rfl) (by omega)
 have ap:Dap sb w1.heap.size db rb gb kb hb:=⟨by omega,by omega,n1,n2,n3,n4⟩
 have hbw:w.heap.size≤w1.heap.size:=z1
 have hdb:w.heap.size≤db:=k1
 clear B1 b1
 go_upto_region 3 with fail
 clear c0 f0 z1 lb
 generalize w1.setCell ⟨db,0,none⟩ (.pointer (some ⟨rb,0,none⟩))=w2 at *
 generalize w1.heap.size=ba at *
 go_wp2_with fail
 go_loopw [8] (fun i wr=>∃ (j:Nat) (S':St) (b':Bs) (ht':Int→Bool) (vt':Value),j≤l.length∧i=.int .i64 j∧Hid (StAt wr sb S')∧Hid (DBus wr ba db rb gb kb hb b' wt ht' vt')∧Hid (S'.ok)∧Hid (S'.r 0=0)∧Hid (S'.ct=S.ct+j)∧Hid (b'.tr=[])∧Hid (b'.out=[])∧Hid (u32 b'.lamp)∧Hid (Far wt (l.take j) S m S' b'.m ht')∧Hid (Kept w wr (fun k=>k=sb∨k=gb∨k=hb))) (fun i _=>l.length-(intOf i).toNat)
 case atStart=>exact ⟨0,S,_,_,_,by omega,rfl,X2.out,B2.out,ok,r0,by show _=_;simp,rfl,rfl,⟨by show (0:Int)≤0;omega,by show (0:Int)<_;omega⟩,Or.inl ⟨rfl,fun _ _=>rfl⟩,K2.out⟩
 case round =>
  obtain ⟨j,S',b',ht',vt',hj,rfl,XR,BR,okR,rR,cR,tR,oR,lR,FR,KR⟩:=hrel
  clear X2 B2 K2
  have bR:Hid (Below w0.heap.size w0 wr):=KR.out.below BE.out (Nat.le_refl _) (fun k hk h=>by omega)
  by_cases hjl:j<l.length
  ·have hlt':(j:Int)<l.length:=by omega
   obtain ⟨i,hi⟩:∃ i,l[j]?=some i:=⟨_,List.getElem?_eq_getElem hjl⟩
   have O:=HI.out j i hi
   have bdi:=HB.out i (List.mem_of_getElem? hi)
   have hcs:∀ (q:Nat) (u:Value),(ixC i)[q]?=some u→wr.cell? ⟨bl,off+j*5+q,none⟩=some u:=fun q u hq=>by
    have:=HC.out j i hi q u hq
    rw[bR.out.cell (World.block_lt_of_cell? _ _ this)];exact this
   obtain ⟨y0,y1,y2,y3,y4⟩:=ix_cells hcs
   have es:i.s=(i.s.toNat:Int):=by have:=O.s0;omega
   have et:i.t=(i.t.toNat:Int):=by have:=O.t0;omega
   have ed:i.d=(i.d.toNat:Int):=by have:=O.d0;omega
   rw[O.kk]at y0
   rw[es]at y1
   rw[et]at y2
   rw[ed]at y3
   have hone:=oneIns_any (k:=i.n) (s:=i.s.toNat) (t:=i.t.toNat) (d:=i.d.toNat) (m:=i.m) XR.out BR.out ap okR.out rR.out O.k2 (by have:=O.s1;have:=O.s0;omega) (by have:=O.t1;have:=O.t0;omega) (by have:=O.d1;have:=O.d0;omega) bdi.m0 bdi.m1 (ok_v1 O) (ok_v2 O) (by rw[oR.out];simp) (by rw[tR.out];simp)
   have FS:=FR.out.stop (r:=l.drop (j+1)) i O
   have FN:=FR.out.next i O
   have hP:=insP_plain okR.out b' i.n i.s.toNat i.t.toNat i.d.toNat i.m
   have hO:=insP_ok okR.out BR.out.D.d.mb lR.out i.n i.s.toNat i.t.toNat i.d.toNat bdi.m0 bdi.m1
   have h0:=insP_r0 rR.out b' i.n i.s.toNat i.t.toNat i.d.toNat i.m
   have hu:=insP_out (S:=S') (b:=b') (k:=i.n) (s:=i.s.toNat) (t:=i.t.toNat) (d:=i.d.toNat) (m:=i.m)
   have ei:l[j]'hjl=i:=by
    have h:=List.getElem?_eq_getElem hjl
    rw[hi]at h;exact (Option.some.inj h).symm
   have el:l.take j++i :: l.drop (j+1)=l:=by rw[←ei,←List.drop_eq_getElem_cons hjl,List.take_append_drop]
   have et1:l.take j++[i]=l.take (j+1):=by rw[List.take_add_one,hi];rfl
   rw[el]at FS
   rw[et1]at FN
   clear el et1 ei es et ed hcs hi
   generalize insP S' b' i.n i.s.toNat i.t.toNat i.d.toNat i.m=x at *
   generalize htI wt ht' S' i.n i.s.toNat i.m=ht2 at *
   generalize i.n=ik at *
   generalize i.s.toNat=is at *
   generalize i.t.toNat=it at *
   generalize i.d.toNat=id_ at *
   generalize i.m=im at *
   go_wp2_with fail
   refine hone.mono ?_
   rintro e_ w3 ⟨rfl,vt3,A3,B3,T3,M3⟩
   have K3:Hid (Kept w w3 (fun k=>k=sb∨k=gb∨k=hb)):=KR.out.trans T3 (fun k hk h=>by
    rcases h with h|h|h|h|h
    ·exact Or.inl h
    ·omega
    ·exact Or.inr (Or.inl h)
    ·exact Or.inr (Or.inr h)
    ·have:=(BR.out.rt.lt k h).1;omega)
   have B3H:Hid (DBus w3 ba db rb gb kb hb x.2.2 wt ht2 vt3):=B3
   clear y0 y1 y2 y3 y4 hone T3 M3 B3 XR BR KR FR bR
   by_cases he:x.1=-1
   ·have hct3:=hP.ct
    have q42:=A3.told.2.2.2.2.2.2.2.2.2.2
    rw[hct3,cR.out]at q42
    have f42:=A3.fz 42
    have A4:=A3.putCt (S.ct+j+1)
    have K4:Kept w3 (w3.setCell ⟨sb,42,none⟩ (.int .i64 (S.ct+j+1))) (·=sb):=(Kept.refl w3 (·=sb)).put 42 _
    have B4:Hid (DBus (w3.setCell ⟨sb,42,none⟩ (.int .i64 (S.ct+j+1))) ba db rb gb kb hb x.2.2 wt ht2 vt3):=B3H.out.st K4 ap
    have K5:Hid (Kept w (w3.setCell ⟨sb,42,none⟩ (.int .i64 (S.ct+j+1))) (fun k=>k=sb∨k=gb∨k=hb)):=K3.out.trans K4 (fun k hk h=>Or.inl h)
    have c0':=ok.c0
    rw[he]
    go_upto_region 9 with fail
    clear q42 f42 K4 K3 B3H A3
    generalize w3.setCell ⟨sb,42,none⟩ (.int .i64 (S.ct+j+1))=w4 at *
    have c3:=B4.out.c3
    obtain ⟨ao3,cap3,hv3⟩:=own_shapeN B4.out.rt
    subst hv3
    by_cases htr:x.2.2.tr=[]
    ·have hlen0:x.2.2.tr.length=0:=by rw[htr];rfl
     rw[hlen0]at c3
     have FN1:Hid _:=FN he (by rw[htr,tR.out])
     have ho2:Hid (x.2.2.out=[]):=(hu (by rw[htr,tR.out])).trans oR.out
     have hl2:Hid _:=hP.lamp lR.out
     go_wp2
     go_roundw
     case rel =>
      refine ⟨j+1,{ x.2.1 with ct:=S.ct+j+1 },x.2.2,ht2,_,by omega,by go_num,A4,B4.out,?_,h0,?_,htr,ho2.out,hl2.out,?_,K5.out⟩
      ·exact ⟨hO.r,hO.hi,hO.lo,hO.pc,hO.nx,hO.st,hO.ca,hO.ep,hO.bd,hO.cm,by show _≤S.ct+(j:Int)+1;omega,by show S.ct+(j:Int)+1<_;omega⟩
      ·show S.ct+(j:Int)+1=S.ct+((j+1:Nat):Int);omega
      ·have:=FN1.out;rw[cR.out]at this;exact this
     case measure=>simp[intOf];omega
    ·have hpos:0<x.2.2.tr.length:=by
      cases hq:x.2.2.tr with
      | nil=>exact absurd hq htr
      | cons=>simp
     have hn:Hid (stepsI wt l S m=none):=FS (Or.inr (by rw[tR.out];exact htr))
     generalize x.2.2.tr.length=tl at *
     have hp2:(0:Int)<tl:=by omega
     go_wp2
     go_ret
     refine ⟨?_,K5.out⟩
     rw[hn.out]<;>rfl
   ·have hge:0≤x.1:=by have:=hP.code;omega
    have hn:Hid (stepsI wt l S m=none):=FS (Or.inl hge)
    go_wp2
    go_ret
    refine ⟨?_,K3.out⟩
    rw[hn.out]<;>rfl
  ·obtain rfl:j=l.length:=by omega
   have F:Hid (Far wt l S m S' b'.m ht'):=by have:=FR.out;rw[List.take_length]at this;exact this
   have hhit:=hitsD_any BR.out.D
   clear FR
   rcases F.out with ⟨g1,g2⟩|⟨g1,p,g2,g3⟩
   ·have hz:=hitsN_zero g2 64 (Nat.le_refl _)
    rw[hz]at hhit
    go_wp2_with fail
    refine hhit.mono ?_
    rintro e_ w3 ⟨ao3,cap3,rfl,K3,D3⟩
    have D4:=(D3 g2).same (fun _ _=>rfl) (ht':=fun _=>false) g2
    have A4:=XR.out.kept K3 n4
    have K4:Hid (Kept w w3 (fun k=>k=sb∨k=gb∨k=hb)):=KR.out.trans K3 (fun k hk h=>Or.inr (Or.inr h))
    clear D3 hhit
    go_wp2
    go_ret
    refine ⟨?_,K4.out⟩
    rw[g1]
    exact ⟨rfl,A4,D4⟩
   ·have hz:=hitsN_pos g3 64 g2
    generalize hitsN ht' 64=tl at *
    have hp2:(0:Int)<tl:=by omega
    go_wp2_with fail
    refine hhit.mono ?_
    rintro e_ w3 ⟨ao3,cap3,rfl,K3,D3⟩
    have K4:Hid (Kept w w3 (fun k=>k=sb∨k=gb∨k=hb)):=KR.out.trans K3 (fun k hk h=>Or.inr (Or.inr h))
    clear D3 hhit
    go_wp2
    go_ret
    refine ⟨?_,K4.out⟩
    rw[g1]<;>rfl
set_option maxHeartbeats 8000000
theorem kindX_in (o:Int) (h0:0≤o) (h1:o<54) (w:World):Calls Tryz.prog 61 #[.int .i64 o] w fun e w'=>e=.returned (.string ⟨(Tab.kind o.toNat).toArray⟩)∧Below w.heap.size w w':=by
 have h:=kdZ o.toNat (by omega) w
 rw[Int.toNat_of_nonneg h0]at h
 exact h
theorem kindX_out (o:Int) (h:o<0∨54≤o) (w:World):Calls Tryz.prog 61 #[.int .i64 o] w fun e w'=>e=.returned (.string ⟨#[]⟩)∧Below w.heap.size w w':=by
 have h0:(o==0)=false:=by simp;omega
 have hfk:=fieldKindD
 have hr:=K.rowOf_out o (by omega) w
 clear h
 go_enter Tryz.func61,Tryz.ntmps61
 go_wp2_with fail
 refine hr.mono ?_
 rintro e w' ⟨rfl,hb⟩
 go_wp2
 go_ret
 exact ⟨rfl,hb⟩
theorem encX_any (i:Ix) (bd:i.bd) (w:World):Calls Tryz.prog 60 #[.agg #[.int .i64 i.k,.int .i64 i.s,.int .i64 i.t,.int .i64 i.d,.int .u32 i.m]] w fun e w'=>∃ x ee,e=.returned (.tuple #[.int .u32 x,.int .i64 ee])∧(if i.wordB=true then ee=0 else 0<ee)∧Below w.heap.size w w':=by
 by_cases hk:0<i.k∧i.k<54
 ·have h:=K.encodeOf_in i.n (by unfold Ix.n;omega) (by unfold Ix.n;omega) i.s i.t i.d i.m bd.m0 bd.m1 w
  rw[show ((i.n:Nat):Int)=i.k by unfold Ix.n;omega]at h
  refine h.mono ?_
  rintro e w' ⟨rfl,hb⟩
  cases ho:Tab.okB (Tab.sh i.n) i.s i.t i.d i.m with
  | true =>
   rw[K.encO_ok ho]
   exact ⟨_,_,rfl,by rw[if_pos (by unfold Ix.wordB;rw[ho];simp;omega)],hb⟩
  | false =>
   rw[K.encO_bad ho]
   exact ⟨_,_,rfl,by rw[if_neg (by unfold Ix.wordB;rw[ho];simp)];omega,hb⟩
 ·refine (K.encodeOf_out i.k i.s i.t i.d i.m hk w).mono ?_
  rintro e w' ⟨rfl,hb⟩
  exact ⟨_,_,rfl,by rw[if_neg (by unfold Ix.wordB;simp;omega)];omega,hb⟩
theorem regB_all {l:List Ix} (h:l≠[]):regB l.length 0 0 l=true↔(∀ (j:Nat) (i:Ix),l[j]?=some i→insB l.length j i=true)∧stI l≤8:=by
 rw[regB_iff]
 constructor
 ·rintro ⟨h1,_,h3⟩
  exact ⟨fun j i hj=>by have:=h1 j i hj;rwa [Nat.zero_add]at this,by have:=h3 h;omega⟩
 ·rintro ⟨h1,h3⟩
  exact ⟨fun j i hj=>by rw[Nat.zero_add];exact h1 j i hj,fun _=>Or.inl (by omega),fun _=>by omega⟩
theorem stI_take {l:List Ix} {j:Nat} {i:Ix} (h:l[j]?=some i):stI (l.take (j+1))=stI (l.take j)+if i.kd=5 then 1 else 0:=by
 have e:l.take (j+1)=l.take j++[i]:=by rw[List.take_add_one,h];rfl
 rw[e,stI_app];rfl
theorem stI_le:∀ l:List Ix,stI l≤l.length
 | []=>Nat.le_refl _
 | i :: l=>by have:=stI_le l;simp only[stI,List.length_cons];split<;>omega
theorem regionError_any {w0:World} {v:Value} {l:List Ix} (A:InsIn w0 v l) (hl:(l.length:Int)≤9223372036854775807) {w:World} (be:Below w0.heap.size w0 w) :
  Calls Tryz.prog 19 #[v] w fun e w'=>e=.returned (.int .i64 (regE l))∧Below w.heap.size w w':=by
 have HBD:Hid _:=A.bd
 obtain ⟨ao,cap,rfl,hcap,hh⟩:=A.sh
 have HH:Hid (0<l.length→∃ b off:Nat,ao=some ⟨b,off,none⟩∧∀ (i:Nat) (o:Ix),l[i]?=some o→∀ (j:Nat) (u:Value),(ixC o)[j]?=some u→w0.cell? ⟨b,off+i*5+j,none⟩=some u):=hh
 have BE:Hid (Below w0.heap.size w0 w):=be
 clear A hh be
 by_cases h0:l.length=0
 ·have e:regE l=6:=by unfold regE;rw[if_pos h0]
  rw[e]
  have h0':((l.length:Int)==0)=true:=by simp[h0]
  clear h0
  go_enter Tryz.func19,Tryz.ntmps19
  go_wp2
  go_ret
  exact ⟨rfl,Below.refl _ _⟩
 have h0':((l.length:Int)==0)=false:=by simp;intro e;rw[e]at h0;exact h0 rfl
 by_cases h24:24<l.length
 ·have e:regE l=2:=by unfold regE;rw[if_neg h0,if_pos h24]
  rw[e]
  have h24':decide ((24:Int)<l.length)=true:=by simp;omega
  go_enter Tryz.func19,Tryz.ntmps19
  go_wp2
  go_ret
  exact ⟨rfl,Below.refl _ _⟩
 have h24':decide ((24:Int)<l.length)=false:=by simp;omega
 have he:regE l=if regB l.length 0 0 l=true then 0 else 4:=by unfold regE;rw[if_neg h0,if_neg h24]
 rw[he]
 have HR:Hid (regB l.length 0 0 l=true↔(∀ (j:Nat) (i:Ix),l[j]?=some i→insB l.length j i=true)∧stI l≤8):=regB_all (fun e=>h0 (by rw[e];rfl))
 obtain ⟨b,off,rfl,hcell⟩:=HH.out (by omega)
 have HC:Hid _:=hcell
 generalize hE:(if regB l.length 0 0 l=true then (0:Nat) else 4)=E
 have HE:Hid _:=hE
 have E4:Hid (¬ regB l.length 0 0 l=true→E=4):=fun h=>by rw[←HE.out,if_neg h]
 have E0:Hid (regB l.length 0 0 l=true→E=0):=fun h=>by rw[←HE.out,if_pos h]
 clear hE HE hcell HH
 have hle:(l.length:Int)≤24:=by omega
 have hpos:(1:Int)≤l.length:=by omega
 clear he
 go_enter Tryz.func19,Tryz.ntmps19
 go_wp2
 go_loopw [3,4] (fun st i wr=>∃ j:Nat,j≤l.length∧i=.int .i64 j∧st=.int .i64 (stI (l.take j))∧Hid (∀ (q:Nat) (o:Ix),q<j→l[q]?=some o→insB l.length q o=true)∧Hid (Below w.heap.size w wr)) (fun _ i _=>l.length-(intOf i).toNat)
 case atStart=>exact ⟨0,Nat.zero_le _,rfl,rfl,fun q o hq=>by omega,Below.refl _ _⟩
 case round =>
  obtain ⟨j,hj,rfl,rfl,HQ,BR⟩:=hrel
  have hsj:stI (l.take j)≤j:=by have:=stI_le (l.take j);rw[List.length_take]at this;omega
  by_cases hlt:j<l.length
  ·obtain ⟨i,hi⟩:∃ i,l[j]?=some i:=⟨_,List.getElem?_eq_getElem hlt⟩
   have hlt':(j:Int)<l.length:=by omega
   have HC2:Hid (∀ W:World,Below w.heap.size w W→W.cell? ⟨b,off+j*5,none⟩=some (.int .i64 i.k)∧W.cell? ⟨b,off+j*5+1,none⟩=some (.int .i64 i.s)∧W.cell? ⟨b,off+j*5+2,none⟩=some (.int .i64 i.t)∧W.cell? ⟨b,off+j*5+3,none⟩=some (.int .i64 i.d)∧W.cell? ⟨b,off+j*5+4,none⟩=some (.int .u32 i.m)):=fun W hW=>ix_cells (fun q u hq=>by
    have h:=HC.out j i hi q u hq
    have hb:=BE.out.trans (hW.mono BE.out.size)
    rw[hb.cell (World.block_lt_of_cell? _ _ h)];exact h)
   obtain ⟨y0,y1,y2,y3,y4⟩:=HC2.out wr BR.out
   have bdi:=HBD.out i (List.mem_of_getElem? hi)
   have hst:=stI_take hi
   have henc:=encX_any i bdi wr
   have hstop:insB l.length j i=false→Hid (E=4):=fun h=>E4.out (fun hr=>by have:=(HR.out.1 hr).1 j i hi;rw[h]at this;cases this)
   have hgo:insB l.length j i=true→Hid (∀ (q:Nat) (o:Ix),q<j+1→l[q]?=some o→insB l.length q o=true):=fun h q o hq ho=>by
    by_cases e:q=j
    ·subst e;rw[hi]at ho;cases ho;exact h
    ·exact HQ.out q o (by omega) ho
   go_wp2_with fail
   refine henc.mono ?_
   rintro e_ w3 ⟨x3,ee,rfl,hee,b3⟩
   have BR3:Hid (Below w.heap.size w w3):=BR.out.trans (b3.mono BR.out.size)
   clear y0 y1 y2 y3 y4 henc b3
   obtain ⟨y0,-⟩:=HC2.out w3 BR3.out
   cases hw:i.wordB with
   | false =>
    rw[if_neg (by rw[hw];decide)]at hee
    have h4:=hstop (by unfold insB;rw[hw];rfl)
    by_cases hr:0≤i.k∧i.k<54
    ·have hkd:=kindX_in i.k hr.1 hr.2 w3
     generalize Tab.kind i.k.toNat=ks at *
     go_wp2_with fail
     refine hkd.mono ?_
     rintro e_ w4 ⟨rfl,b4⟩
     have BR4:Hid (Below w.heap.size w w4):=BR3.out.trans (b4.mono BR3.out.size)
     clear hkd b4 y0
     go_wp2
     go_ret
     exact ⟨by rw[h4.out];rfl,BR4.out⟩
    ·have hkd:=kindX_out i.k (by omega) w3
     go_wp2_with fail
     refine hkd.mono ?_
     rintro e_ w4 ⟨rfl,b4⟩
     have BR4:Hid (Below w.heap.size w w4):=BR3.out.trans (b4.mono BR3.out.size)
     clear hkd b4 y0
     go_wp2
     go_ret
     exact ⟨by rw[h4.out];rfl,BR4.out⟩
   | true =>
    rw[if_pos hw]at hee
    subst hee
    have hk:0≤i.k∧i.k<54:=by
     have:=hw;unfold Ix.wordB at this;simp at this;omega
    have ekd:i.kd=Tab.kdL.getD i.n 0:=by unfold Ix.kd;rw[if_pos hk]
    obtain ⟨k2,k4,k5,k3,k1⟩:=kd_kind i.n (by unfold Ix.n;omega)
    rw[←ekd]at k2 k4 k5 k3 k1
    have hkd:=kindX_in i.k hk.1 hk.2 w3
    have eI:insB l.length j i=(decide (i.kd≠3)&&(decide (i.kd≠2)||decide (j+2=l.length))):=by unfold insB;rw[hw];rfl
    rcases kinds5 i.n (by unfold Ix.n;omega) with h|h|h|h|h
    ·have c2:=k2.2 h
     rw[show i.k.toNat=i.n from rfl,h]at hkd
     by_cases hl2:j+2=l.length
     ·have hg:=hgo (by rw[eI,c2];simp[hl2])
      have HL2:Hid (j+2=l.length):=hl2
      rw[c2,if_neg (by omega),Nat.add_zero]at hst
      have hne:((j:Int) != (l.length:Int)-2)=false:=by simp;omega
      clear hl2
      go_wp2_with fail
      refine hkd.mono ?_
      rintro e_ w4 ⟨rfl,b4⟩
      have BR4:Hid (Below w.heap.size w w4):=BR3.out.trans (b4.mono BR3.out.size)
      clear hkd b4 y0
      go_wp2
      go_roundw
      case rel=>exact ⟨j+1,by omega,by go_num,by rw[hst]<;>rfl,hg.out,BR4.out⟩
      case measure=>simp[intOf];omega
     ·have h4:=hstop (by rw[eI,c2];simp[hl2])
      have hne:((j:Int) != (l.length:Int)-2)=true:=by simp;omega
      go_wp2_with fail
      refine hkd.mono ?_
      rintro e_ w4 ⟨rfl,b4⟩
      have BR4:Hid (Below w.heap.size w w4):=BR3.out.trans (b4.mono BR3.out.size)
      clear hkd b4 y0
      go_wp2
      go_ret
      exact ⟨by rw[h4.out];rfl,BR4.out⟩
    ·have c2:=k4.2 h
     rw[show i.k.toNat=i.n from rfl,h]at hkd
     have hg:=hgo (by rw[eI,c2];rfl)
     rw[c2,if_neg (by omega),Nat.add_zero]at hst
     go_wp2_with fail
     refine hkd.mono ?_
     rintro e_ w4 ⟨rfl,b4⟩
     have BR4:Hid (Below w.heap.size w w4):=BR3.out.trans (b4.mono BR3.out.size)
     clear hkd b4 y0
     go_wp2
     go_roundw
     case rel=>exact ⟨j+1,by omega,by go_num,by rw[hst]<;>rfl,hg.out,BR4.out⟩
     case measure=>simp[intOf];omega
    ·have c2:=k5.2 h
     rw[show i.k.toNat=i.n from rfl,h]at hkd
     have hg:=hgo (by rw[eI,c2];rfl)
     rw[c2,if_pos rfl]at hst
     generalize hq:stI (l.take j)=sj at *
     go_wp2_with fail
     refine hkd.mono ?_
     rintro e_ w4 ⟨rfl,b4⟩
     have BR4:Hid (Below w.heap.size w w4):=BR3.out.trans (b4.mono BR3.out.size)
     clear hkd b4 y0
     go_wp2
     go_roundw
     case rel=>exact ⟨j+1,by omega,by go_num,by rw[hst];go_num,hg.out,BR4.out⟩
     case measure=>simp[intOf];omega
    ·have c2:=k3.2 h
     rw[show i.k.toNat=i.n from rfl,h]at hkd
     have h4:=hstop (by rw[eI,c2];rfl)
     go_wp2_with fail
     refine hkd.mono ?_
     rintro e_ w4 ⟨rfl,b4⟩
     have BR4:Hid (Below w.heap.size w w4):=BR3.out.trans (b4.mono BR3.out.size)
     clear hkd b4 y0
     go_wp2
     go_ret
     exact ⟨by rw[h4.out];rfl,BR4.out⟩
    ·have c2:=k1.2 h
     rw[show i.k.toNat=i.n from rfl,h]at hkd
     have hg:=hgo (by rw[eI,c2];rfl)
     rw[c2,if_neg (by omega),Nat.add_zero]at hst
     go_wp2_with fail
     refine hkd.mono ?_
     rintro e_ w4 ⟨rfl,b4⟩
     have BR4:Hid (Below w.heap.size w w4):=BR3.out.trans (b4.mono BR3.out.size)
     clear hkd b4 y0
     go_wp2
     go_roundw
     case rel=>exact ⟨j+1,by omega,by go_num,by rw[hst]<;>rfl,hg.out,BR4.out⟩
     case measure=>simp[intOf];omega
  ·obtain rfl:j=l.length:=by omega
   have est:l.take l.length=l:=List.take_length
   rw[est]at hsj ⊢
   have hall:∀ (q:Nat) (o:Ix),l[q]?=some o→insB l.length q o=true:=fun q o ho=>HQ.out q o (List.getElem?_eq_some_iff.1 ho).1 ho
   by_cases h8:stI l≤8
   ·have h4:Hid (E=0):=E0.out (HR.out.2 ⟨hall,h8⟩)
    generalize stI l=sl at *
    have h8':¬ (8:Int)<sl:=by omega
    go_wp2
    go_ret
    exact ⟨by rw[h4.out];rfl,BR.out⟩
   ·have h4:Hid (E=4):=E4.out (fun hr=>h8 (HR.out.1 hr).2)
    generalize stI l=sl at *
    have h8':(8:Int)<sl:=by omega
    go_wp2
    go_ret
    exact ⟨by rw[h4.out];rfl,BR.out⟩
set_option maxHeartbeats 8000000
def lS:St:={ zS with pc:=8,nx:=12 }
def lI:List Ix:=[⟨36,0,1,0,7⟩]
def lL:List Opx:=[⟨kindS 1,34,0,0,7,0⟩,⟨kindS 3,1,0,34,0,0⟩,⟨kindS 26,0,0,0,12,0⟩]
theorem lL_eq:lowL 8 lI=lL:=by kernel_rfl
theorem lI_ok:regE lI=0:=by decide +kernel
theorem lL_fine:codeF 1 lL=(0,-1):=by decide +kernel
theorem lL_kM:∀ o∈lL,kM o.k:=by
 intro o ho
 simp[lL]at ho
 rcases ho with rfl|rfl|rfl
 ·exact Or.inl (kn_kind 1 (by omega) (by omega))
 ·exact Or.inr (Or.inl (kn_kind 3 (by omega) (by omega)))
 ·exact Or.inr (Or.inr (kn_kind 26 (by omega) (by omega)))
def lX:Nat→Int:=setX (setX (begX lS) 34 7) 1 7
theorem lRun (m:Nat→Int) (wt:Int→Bool):run1 wt lL (begX lS) m=.leave ⟨lX,m,12⟩:=by
 have k1:∀ d a b i t,(Opx.k ⟨kindS 1,d,a,b,i,t⟩)=1:=fun _ _ _ _ _=>kn_kind 1 (by omega) (by omega)
 have k3:∀ d a b i t,(Opx.k ⟨kindS 3,d,a,b,i,t⟩)=3:=fun _ _ _ _ _=>kn_kind 3 (by omega) (by omega)
 have k26:∀ d a b i t,(Opx.k ⟨kindS 26,d,a,b,i,t⟩)=26:=fun _ _ _ _ _=>kn_kind 26 (by omega) (by omega)
 have r1:resZ wt (begX lS) m ⟨kindS 1,34,0,0,7,0⟩=⟨7,0,false,false⟩:=by rw[resZ_val (by rw[k1];omega),k1];rfl
 have r2:resZ wt (setX (begX lS) 34 7) m ⟨kindS 3,1,0,34,0,0⟩=⟨7,0,false,false⟩:=by rw[resZ_val (by rw[k3];omega),k3];rfl
 have r3:resZ wt lX m ⟨kindS 26,0,0,0,12,0⟩=⟨0,12,false,true⟩:=by unfold resZ;rw[k26];rfl
 unfold lL
 rw[run1_cons,r1,if_neg (by decide),appZ_val (by rw[k1];omega) (by rw[k1];omega) (by decide),if_pos (by show (-1:Int)<0;decide)]
 show run1 wt _ (setX (begX lS) 34 7) m=_
 rw[run1_cons,r2,if_neg (by decide),appZ_val (by rw[k3];omega) (by rw[k3];omega) (by decide),if_pos (by show (-1:Int)<0;decide)]
 show run1 wt _ lX m=_
 rw[run1_cons,r3,if_neg (by decide)]
 have:appZ ⟨lX,m,-1⟩ ⟨kindS 26,0,0,0,12,0⟩ ⟨0,12,false,true⟩=⟨lX,m,12⟩:=by
  unfold appZ
  rw[wr_none (by rw[k26];omega),k26]
  rfl
 rw[this,if_neg (by show ¬ (12:Int)<0;decide)]
theorem lS_ok:lS.ok:=by
 refine ⟨fun j=>⟨Int.le_refl _,by show (0:Int)<_;decide⟩,?_,?_,?_,?_,?_,?_,?_,?_,?_,by decide,by decide⟩<;>exact ⟨by decide,by decide⟩
theorem lowered_any (pe:Nat→Addr) {w:World} (V:Lv pe w) :
  Calls Tryz.prog 16 #[] w fun e w'=>e=.returned (.bool true)∧Below w.heap.size w w':=by
 have E:=V.e
 have VH:Hid (Lv pe w):=V
 have b0:Below w.heap.size w (w.alloc (.cells #[.int .i64 36,.int .i64 0,.int .i64 1,.int .i64 0,.int .u32 7] 113)):=(Below.refl _ _).alloc (Nat.le_refl _) _
 have hI:InsIn (w.alloc (.cells #[.int .i64 36,.int .i64 0,.int .i64 1,.int .i64 0,.int .u32 7] 113)) (.slice (some ⟨w.heap.size,0,none⟩) 1 1) lI:=by
  refine ⟨⟨_,1,rfl,by decide,fun _=>⟨w.heap.size,0,rfl,fun i o hi j u hu=>?_⟩⟩,fun o ho=>?_⟩
  ·rw[cell_of_row _ _ _ _ _ _ (heap_alloc_new w _)]
   have h1:i=0:=by have:=(List.getElem?_eq_some_iff.1 hi).1;simp[lI]at this;omega
   subst h1
   simp[lI]at hi;subst hi
   have h5:j<5:=by have:=(List.getElem?_eq_some_iff.1 hu).1;simpa [ixC] using this
   have h5':j=0∨j=1∨j=2∨j=3∨j=4:=by omega
   rcases h5' with rfl|rfl|rfl|rfl|rfl<;>(simp[ixC]at hu;subst hu;rfl)
  ·simp[lI]at ho;subst ho
   exact ⟨by decide,by decide,by decide,by decide,by decide,by decide,by decide,by decide,by decide,by decide⟩
 have hlow:=lower_ok (V.stays b0 (Nat.le_refl _)) hI 8 (by decide) (by decide) none 0 0 lI_ok
 clear hI V
 go_enter Tryz.func16,Tryz.ntmps16
 go_wp2_with fail
 refine hlow.mono ?_
 rintro e w1 ⟨vo,rfl,OI,b1⟩
 rw[lL_eq]at OI
 obtain ⟨ra,rc,hvo,-⟩:=OI.sh
 rw[show lL.length=3 from rfl]at hvo
 subst hvo
 have OH:Hid (OpsIn w1 (.slice ra 3 rc) lL):=OI
 have B1:Hid (Below w.heap.size w w1):=b0.trans (b1.mono b0.size)
 clear hlow OI b0 b1
 rw[show (lI.length:Int)=1 from rfl]
 go_upto_region 2 with fail
 have bC:Below w1.heap.size w1 (w1.alloc (.cells #[.int .u32 8,.int .i64 1,(.slice ra 3 rc)] 54)):=(Below.refl _ _).alloc (Nat.le_refl _) _
 have g0:(w1.alloc (.cells #[.int .u32 8,.int .i64 1,(.slice ra 3 rc)] 54)).cell? ⟨w1.heap.size,0,none⟩=some (.int .u32 8):=by simp
 have g1:(w1.alloc (.cells #[.int .u32 8,.int .i64 1,(.slice ra 3 rc)] 54)).cell? ⟨w1.heap.size,1,none⟩=some (.int .i64 1):=by simp
 have g2:(w1.alloc (.cells #[.int .u32 8,.int .i64 1,(.slice ra 3 rc)] 54)).cell? ⟨w1.heap.size,2,none⟩=some (.slice ra 3 rc):=by simp
 have zC:w1.heap.size<(w1.alloc (.cells #[.int .u32 8,.int .i64 1,(.slice ra 3 rc)] 54)).heap.size:=by simp
 have zw:=B1.out.size
 have OC:Hid _:=OH.out.stays bC
 have BC:Hid (Below w.heap.size w (w1.alloc (.cells #[.int .u32 8,.int .i64 1,(.slice ra 3 rc)] 54))):=B1.out.trans (bC.mono B1.out.size)
 clear OH B1 bC
 generalize w1.alloc (.cells #[.int .u32 8,.int .i64 1,(.slice ra 3 rc)] 54)=Wc at *
 generalize w1.heap.size=cb at *
 go_upto_region 3 with (first|(refine wpList_allocSt rfl rfl ?_)|(refine wpList_storeSt rfl _ _ rfl (stA zS) (stA lS) rfl rfl (stA_size _) (stA_size _) (stA_one _) ?_))
 have bS:Below Wc.heap.size Wc (Wc.alloc (.cells (stA lS) 25)):=(Below.refl _ _).alloc (Nat.le_refl _) _
 have BU:Hid (Below w.heap.size w (Wc.alloc (.cells (stA lS) 25))):=BC.out.trans (bS.mono BC.out.size)
 have SU:Hid (StRow (Wc.alloc (.cells (stA lS) 25)) Wc.heap.size lS):=st_rowG Wc lS
 have OU:Hid (OpsIn (Wc.alloc (.cells (stA lS) 25)) (.slice ra 3 rc) lL):=OC.out.stays bS
 have k0:(Wc.alloc (.cells (stA lS) 25)).cell? ⟨cb,0,none⟩=some (.int .u32 8):=(bS.cell (p:=⟨cb,0,none⟩) zC).trans g0
 have k1:(Wc.alloc (.cells (stA lS) 25)).cell? ⟨cb,1,none⟩=some (.int .i64 1):=(bS.cell (p:=⟨cb,1,none⟩) zC).trans g1
 have k2:(Wc.alloc (.cells (stA lS) 25)).cell? ⟨cb,2,none⟩=some (.slice ra 3 rc):=(bS.cell (p:=⟨cb,2,none⟩) zC).trans g2
 have hs1:Wc.heap.size<(Wc.alloc (.cells (stA lS) 25)).heap.size:=by simp
 clear g0 g1 g2 bS OC BC
 generalize Wc.alloc (.cells (stA lS) 25)=U at *
 generalize Wc.heap.size=s1 at *
 have EU:Hid (Eg pe U):=E.stays BU.out
 clear E VH
 have hev:∀ (W:World) (n:Nat),Below U.heap.size U W→RamIs W n (n+1) (n+2) (n+3) 64 (mw []) (fun _=>false) (fun _=>false)→U.heap.size≤n→Calls Tryz.prog 31 #[.agg #[.int .u32 8,.int .i64 1,(.slice ra 3 rc)],.pointer (some ⟨s1,0,none⟩),.pointer (some ⟨n,0,none⟩)] W fun e w'=>e=.returned (.tuple #[.agg #[.bool false,.int .i64 0],.nilIface])∧StRow w' s1 (leftS lS lX 12 1)∧Below w.heap.size w w'∧(∀ (j:Nat) (u:Value),U.cell? ⟨cb,j,none⟩=some u→w'.cell? ⟨cb,j,none⟩=some u)∧W.heap.size≤w'.heap.size∧(∀ k,s1<k→k<W.heap.size→k≠n+1→k≠n+3→w'.heap[k]?=W.heap[k]?):=by
  intro W n hb R h1
  have hlt:=ram_ltG R
  refine (mini_ok pe (EU.out.stays hb) R (by decide) lS_ok (SU.out.stays hb) (by omega) (by omega) (by omega) (by omega) hlt.1 hlt.2.1 hlt.2.2.1 hlt.2.2.2 (OU.out.stays hb) 8 1 (by decide) (by decide) (by decide) (by decide) lL_fine rfl rfl rfl (by decide) (by decide) lL_kM).mono ?_
  rintro e w' hpost
  rw[lRun]at hpost
  obtain ⟨rfl,S4,_,hz,hk,ho⟩:=hpost
  ·skip
   have hzW:=hb.size
   have bk:∀ k,k<U.heap.size→k≠s1→w'.heap[k]?=U.heap[k]?:=fun k hk' hn=>(hk k (by omega) hn (by omega) (by omega)).trans (hb.block k hk')
   exact ⟨rfl,S4,⟨ho.1.trans (hb.os.trans BU.out.os),ho.2.1.trans (hb.tape.trans BU.out.tape),ho.2.2.trans (hb.output.trans BU.out.output),by have:=BU.out.size;omega,fun k hk'=>(bk k (by omega) (by omega)).trans (BU.out.block k hk')⟩,fun j u h=>(World.cell?_of_block (a:=⟨cb,j,none⟩) (bk (cb) (by omega) (by omega))).trans h,hz,fun k h2 h3 h4 h5=>hk k h3 (by omega) h4 h5⟩
 have hnew:∀ (W:World) (n:Nat),W.heap.size=n→Below U.heap.size U W→Calls Tryz.prog 35 #[.slice none 0 0] W fun e w'=>e=.returned (.pointer (some ⟨n,0,none⟩))∧RamIs w' n (n+1) (n+2) (n+3) 64 (mw []) (fun _=>false) (fun _=>false)∧Below U.heap.size U w'∧Below W.heap.size W w'∧(∀ (j:Nat) (u:Value),U.cell? ⟨cb,j,none⟩=some u→w'.cell? ⟨cb,j,none⟩=some u):=by
  rintro W n rfl hb
  refine (new_any (w:=W) (v:=.slice none 0 0) (xs:=[]) ⟨⟨none,0,rfl,Nat.le_refl _,fun h=>by cases h⟩,fun i=>⟨by show (0:Int)≤0;decide,by show (0:Int)<_;decide⟩⟩ (by decide)).mono ?_
  rintro e w' ⟨rfl,R,b⟩
  have hb':Below U.heap.size U w':=hb.trans (b.mono hb.size)
  exact ⟨rfl,R,hb',b,fun j u h=>(hb'.cell (p:=⟨cb,j,none⟩) (show cb<U.heap.size by omega)).trans h⟩
 refine wp_region_tree 7 (.step 0 1 (.fork 1 6 (.fork 2 6 (.step 3 0 (.step 4 0 (.step 5 0 (.step 6 2 (.step 7 2 (.step 8 0 .nil)))))) (.step 2 2 (.step 3 0 (.step 4 0 (.step 5 0 (.step 7 2 (.step 8 0 .nil))))))) (.step 1 2 (.step 2 2 (.step 3 0 (.step 4 0 (.step 5 0 (.step 7 2 (.step 8 0 .nil))))))))) (fun W=>W.cell? ⟨cb,0,none⟩=some (.int .u32 8)∧W.cell? ⟨cb,1,none⟩=some (.int .i64 1)∧W.cell? ⟨cb,2,none⟩=some (.slice ra 3 rc)) (by kernel_rfl) (by kernel_rfl) (fun _ _ _ d _ h=>by cases d<;>exact h) ⟨by simpa using k0,by simpa using k1,by simpa using k2⟩ ?_
 refine wpT_quiet (by rfl) (by rfl) (fun W hW=>by (obtain ⟨z0,z1,z2⟩:=hW;go_simp;try with_reducible rfl)) (fun K hK=>?_)
 go_simp
 refine hK _ ?_
 clear hK K
 refine wpT_fork (by rfl) (by rfl) (by rfl) (by rfl) (fun K hK=>?_) (fun K hK=>?_)
 ·go_simp
  refine (hnew (U.drew) (U.heap.size) (by simp) (below_drew (Below.refl _ _))).mono ?_
  rintro e w1 ⟨rfl,R1,b1,hb1,c1⟩
  have hz1:=b1.size
  refine hK _ _ (fun _=>⟨c1 0 _ k0,c1 1 _ k1,c1 2 _ k2⟩) ?_
  clear hK K
  refine wpT_fork (by rfl) (by rfl) (by rfl) (by rfl) (fun K hK=>?_) (fun K hK=>?_)
  ·go_simp
   refine (hev (w1) (U.heap.size) b1 R1 (by omega)).mono ?_
   rintro e w2 ⟨rfl,S2,B2,c2,hz2,hk2⟩
   refine hK _ _ (fun _=>⟨c2 0 _ k0,c2 1 _ k1,c2 2 _ k2⟩) ?_
   clear hK K
   repeat (refine wpT_free (by rfl) (by rfl) (fun W=>by (go_simp;try with_reducible rfl)) (fun K hK=>?_);go_simp;refine hK _ ?_;clear hK K)
   refine wpT_serial (by rfl) (by rfl) (fun K hK=>?_)
   go_simp
   have b3:Below w2.heap.size w2 (w2.alloc (.cells #[.bool false,.int .i64 0] 84)):=(Below.refl _ _).alloc (Nat.le_refl _) _
   have c3:∀ (j:Nat) (u:Value),U.cell? ⟨cb,j,none⟩=some u→(w2.alloc (.cells #[.bool false,.int .i64 0] 84)).cell? ⟨cb,j,none⟩=some u:=fun j u h=>(b3.cell (p:=⟨cb,j,none⟩) (show cb<_ by omega)).trans (c2 j u h)
   refine hK _ _ (fun _=>⟨c3 0 _ k0,c3 1 _ k1,c3 2 _ k2⟩) ?_
   clear hK K
   refine wpT_serial (by rfl) (by rfl) (fun K hK=>?_)
   go_simp
   refine hK _ _ (fun h=>absurd h (by decide)) ?_
   clear hK K
   have hE:(w2.alloc (.cells #[.bool false,.int .i64 0] 84)).heap[w2.heap.size]?=some (.cells #[.bool false,.int .i64 0] 84):=heap_alloc_new _ _
   have S3:StRow (w2.alloc (.cells #[.bool false,.int .i64 0] 84)) s1 (leftS lS lX 12 1):=S2.stays b3
   have B3:Below w.heap.size w (w2.alloc (.cells #[.bool false,.int .i64 0] 84)):=B2.trans (b3.mono B2.size)
   have hz3:=B3.size
   have d0:(w2.alloc (.cells #[.bool false,.int .i64 0] 84)).cell? ⟨w2.heap.size,0,none⟩=some (.bool false):=by rw[cell_of_row _ _ _ _ _ _ hE];rfl
   have d1:(w2.alloc (.cells #[.bool false,.int .i64 0] 84)).cell? ⟨w2.heap.size,1,none⟩=some (.int .i64 0):=by rw[cell_of_row _ _ _ _ _ _ hE];rfl
   have q1:(w2.alloc (.cells #[.bool false,.int .i64 0] 84)).cell? ⟨s1,1,none⟩=some (.int .u32 7):=S3.cell (j:=1) (by decide)
   have q34:(w2.alloc (.cells #[.bool false,.int .i64 0] 84)).cell? ⟨s1,34,none⟩=some (.int .u32 12):=S3.cell (j:=34) (by decide)
   have q35:(w2.alloc (.cells #[.bool false,.int .i64 0] 84)).cell? ⟨s1,35,none⟩=some (.int .u32 16):=S3.cell (j:=35) (by decide)
   have q42:(w2.alloc (.cells #[.bool false,.int .i64 0] 84)).cell? ⟨s1,42,none⟩=some (.int .i64 1):=S3.cell (j:=42) (by decide)
   generalize w2.alloc (.cells #[.bool false,.int .i64 0] 84)=W3 at *
   repeat (refine wpT_free (by rfl) (by rfl) (fun W=>by (go_simp;try with_reducible rfl)) (fun K hK=>?_);go_simp;refine hK _ ?_;clear hK K)
   refine wpT_nil ?_
   go_wp2
   go_ret
   exact ⟨rfl,B3⟩
  ·go_simp
   have b3:Below w1.heap.size w1 (w1.alloc (.cells #[.bool false,.int .i64 0] 84)):=(Below.refl _ _).alloc (Nat.le_refl _) _
   have c3:∀ (j:Nat) (u:Value),U.cell? ⟨cb,j,none⟩=some u→(w1.alloc (.cells #[.bool false,.int .i64 0] 84)).cell? ⟨cb,j,none⟩=some u:=fun j u h=>(b3.cell (p:=⟨cb,j,none⟩) (show cb<_ by omega)).trans (c1 j u h)
   refine hK _ _ (fun _=>⟨c3 0 _ k0,c3 1 _ k1,c3 2 _ k2⟩) ?_
   clear hK K
   refine wpT_serial (by rfl) (by rfl) (fun K hK=>?_)
   go_simp
   refine (hev (w1.alloc (.cells #[.bool false,.int .i64 0] 84)) (U.heap.size) (b1.trans (b3.mono b1.size)) (R1.stays b3 (Nat.le_refl _)) (by omega)).mono ?_
   rintro e w2 ⟨rfl,S2,B2,c2,hz2,hk2⟩
   refine hK _ _ (fun _=>⟨c2 0 _ k0,c2 1 _ k1,c2 2 _ k2⟩) ?_
   clear hK K
   have hE:w2.heap[w1.heap.size]?=some (.cells #[.bool false,.int .i64 0] 84):=(hk2 w1.heap.size (by omega) (by simp) (by have:=(ram_ltG R1).2.2.2;omega) (by have:=(ram_ltG R1).2.2.2;omega)).trans (heap_alloc_new _ _)
   have S3:=S2
   have p0:w2.cell? ⟨w1.heap.size,0,none⟩=some (.bool false):=by rw[cell_of_row _ _ _ _ _ _ hE];rfl
   have p1:w2.cell? ⟨w1.heap.size,1,none⟩=some (.int .i64 0):=by rw[cell_of_row _ _ _ _ _ _ hE];rfl
   have f0:w2.frozen? ⟨w1.heap.size,0,none⟩=false:=frozen_of_row _ _ _ _ _ hE
   have f1:w2.frozen? ⟨w1.heap.size,1,none⟩=false:=frozen_of_row _ _ _ _ _ hE
   have es0:w2.setCell ⟨w1.heap.size,0,none⟩ (.bool false)=w2:=set_self hE rfl
   have es1:w2.setCell ⟨w1.heap.size,1,none⟩ (.int .i64 0)=w2:=set_self hE rfl
   repeat (refine wpT_free (by rfl) (by rfl) (fun W=>by (go_simp;try with_reducible rfl)) (fun K hK=>?_);go_simp;refine hK _ ?_;clear hK K)
   refine wpT_serial (by rfl) (by rfl) (fun K hK=>?_)
   go_simp
   refine hK _ _ (fun h=>absurd h (by decide)) ?_
   clear hK K
   have B3:Below w.heap.size w (w2):=B2
   have hz3:=B3.size
   have d0:(w2).cell? ⟨w1.heap.size,0,none⟩=some (.bool false):=by rw[cell_of_row _ _ _ _ _ _ hE];rfl
   have d1:(w2).cell? ⟨w1.heap.size,1,none⟩=some (.int .i64 0):=by rw[cell_of_row _ _ _ _ _ _ hE];rfl
   have q1:(w2).cell? ⟨s1,1,none⟩=some (.int .u32 7):=S3.cell (j:=1) (by decide)
   have q34:(w2).cell? ⟨s1,34,none⟩=some (.int .u32 12):=S3.cell (j:=34) (by decide)
   have q35:(w2).cell? ⟨s1,35,none⟩=some (.int .u32 16):=S3.cell (j:=35) (by decide)
   have q42:(w2).cell? ⟨s1,42,none⟩=some (.int .i64 1):=S3.cell (j:=42) (by decide)
   generalize w2=W3 at *
   repeat (refine wpT_free (by rfl) (by rfl) (fun W=>by (go_simp;try with_reducible rfl)) (fun K hK=>?_);go_simp;refine hK _ ?_;clear hK K)
   refine wpT_nil ?_
   go_wp2
   go_ret
   exact ⟨rfl,B3⟩
 ·go_simp
  have b4:Below U.heap.size U (U.drew.alloc (.cells #[.bool false,.int .i64 0] 84)):=(below_drew (Below.refl _ _)).alloc (by simp) _
  have c4:∀ (j:Nat) (u:Value),U.cell? ⟨cb,j,none⟩=some u→(U.drew.alloc (.cells #[.bool false,.int .i64 0] 84)).cell? ⟨cb,j,none⟩=some u:=fun j u h=>(b4.cell (p:=⟨cb,j,none⟩) (show cb<_ by omega)).trans h
  refine hK _ _ (fun _=>⟨c4 0 _ k0,c4 1 _ k1,c4 2 _ k2⟩) ?_
  clear hK K
  refine wpT_serial (by rfl) (by rfl) (fun K hK=>?_)
  go_simp
  refine (hnew (U.drew.alloc (.cells #[.bool false,.int .i64 0] 84)) (U.heap.size+1) (by simp) b4).mono ?_
  rintro e w1 ⟨rfl,R1,b1,hb1,c1⟩
  have hz1:=b1.size
  refine hK _ _ (fun _=>⟨c1 0 _ k0,c1 1 _ k1,c1 2 _ k2⟩) ?_
  clear hK K
  refine wpT_serial (by rfl) (by rfl) (fun K hK=>?_)
  go_simp
  refine (hev (w1) (U.heap.size+1) b1 R1 (by omega)).mono ?_
  rintro e w2 ⟨rfl,S2,B2,c2,hz2,hk2⟩
  refine hK _ _ (fun _=>⟨c2 0 _ k0,c2 1 _ k1,c2 2 _ k2⟩) ?_
  clear hK K
  have hE:w2.heap[U.heap.size]?=some (.cells #[.bool false,.int .i64 0] 84):=(hk2 (U.heap.size) (by omega) (by have:=hb1.size;simp at this;omega) (by omega) (by omega)).trans ((hb1.block (U.heap.size) (by simp)).trans (heap_alloc_new U.drew _))
  have S3:=S2
  have p0:w2.cell? ⟨U.heap.size,0,none⟩=some (.bool false):=by rw[cell_of_row _ _ _ _ _ _ hE];rfl
  have p1:w2.cell? ⟨U.heap.size,1,none⟩=some (.int .i64 0):=by rw[cell_of_row _ _ _ _ _ _ hE];rfl
  have f0:w2.frozen? ⟨U.heap.size,0,none⟩=false:=frozen_of_row _ _ _ _ _ hE
  have f1:w2.frozen? ⟨U.heap.size,1,none⟩=false:=frozen_of_row _ _ _ _ _ hE
  have es0:w2.setCell ⟨U.heap.size,0,none⟩ (.bool false)=w2:=set_self hE rfl
  have es1:w2.setCell ⟨U.heap.size,1,none⟩ (.int .i64 0)=w2:=set_self hE rfl
  repeat (refine wpT_free (by rfl) (by rfl) (fun W=>by (go_simp;try with_reducible rfl)) (fun K hK=>?_);go_simp;refine hK _ ?_;clear hK K)
  refine wpT_serial (by rfl) (by rfl) (fun K hK=>?_)
  go_simp
  refine hK _ _ (fun h=>absurd h (by decide)) ?_
  clear hK K
  have B3:Below w.heap.size w (w2):=B2
  have hz3:=B3.size
  have d0:(w2).cell? ⟨U.heap.size,0,none⟩=some (.bool false):=by rw[cell_of_row _ _ _ _ _ _ hE];rfl
  have d1:(w2).cell? ⟨U.heap.size,1,none⟩=some (.int .i64 0):=by rw[cell_of_row _ _ _ _ _ _ hE];rfl
  have q1:(w2).cell? ⟨s1,1,none⟩=some (.int .u32 7):=S3.cell (j:=1) (by decide)
  have q34:(w2).cell? ⟨s1,34,none⟩=some (.int .u32 12):=S3.cell (j:=34) (by decide)
  have q35:(w2).cell? ⟨s1,35,none⟩=some (.int .u32 16):=S3.cell (j:=35) (by decide)
  have q42:(w2).cell? ⟨s1,42,none⟩=some (.int .i64 1):=S3.cell (j:=42) (by decide)
  generalize w2=W3 at *
  repeat (refine wpT_free (by rfl) (by rfl) (fun W=>by (go_simp;try with_reducible rfl)) (fun K hK=>?_);go_simp;refine hK _ ?_;clear hK K)
  refine wpT_nil ?_
  go_wp2
  go_ret
  exact ⟨rfl,B3⟩
end Go.Proofs.YtflagpkmebdckaaGreatDoor
namespace Go.Proofs.YtflagpkmebdckaaGreatDoor
open Go.RowKit Go.Maps
open Num
set_option linter.unusedVariables false
set_option maxRecDepth 100000
theorem RowsIn.rowsI {w:World} {v:Value} {ll:List (List Opx)} (R:RowsIn w v ll):RowsI w v ll:=by
 obtain ⟨ao,cap,e,hc,hh⟩:=R.sh
 exact ⟨ao,cap,e,hc,fun hp=>let ⟨b,eb,hcl⟩:=hh hp;⟨b,0,eb,fun i row hi=>let ⟨u,hu,hO⟩:=hcl i row hi;⟨u,by rw[Nat.zero_add];exact hu,hO⟩⟩⟩
theorem few_each {l:List Opx} (h:l.length≤1000):Few (eachL l):=by
 refine ⟨by unfold eachL;rw[List.length_map];exact h,fun r hr=>?_⟩
 unfold eachL at hr
 obtain ⟨o,_,rfl⟩:=List.mem_map.1 hr
 simp
theorem OzAlike.same {a b:Oz} (h:OzAlike a b):OzSame b a:=by
 cases a<;>cases b<;>simp only[OzAlike,OzSame]at h ⊢
 obtain ⟨h1,h2,h3⟩:=h
 exact ⟨h1.symm,fun i _=>by rw[h2],fun r r1 r2=>(h3 r r1 r2).symm⟩
theorem fault_field (a b:Value) (W:World):(Instr.field 63 (.agg #[a,b]) 0).run Tryz.prog W=.ok a W:=rfl
structure CBox (W:World) (b:Nat) (pc many:Int) (v:Value):Prop where
 k0:W.cell? ⟨b,0,none⟩=some (.int .u32 pc)
 k1:W.cell? ⟨b,1,none⟩=some (.int .i64 many)
 k2:W.cell? ⟨b,2,none⟩=some v
theorem CBox.lt {W:World} {b:Nat} {pc many:Int} {v:Value} (C:CBox W b pc many v):b<W.heap.size:=World.block_lt_of_cell? _ _ C.k0
theorem CBox.stays {W W':World} {b:Nat} {pc many:Int} {v:Value} (C:CBox W b pc many v) (h:Below W.heap.size W W'):CBox W' b pc many v :=
 ⟨(h.cell (p:=⟨b,0,none⟩) C.lt).trans C.k0,(h.cell (p:=⟨b,1,none⟩) C.lt).trans C.k1,(h.cell (p:=⟨b,2,none⟩) C.lt).trans C.k2⟩
theorem CBox.new (w:World) (pc many:Int) (v:Value):CBox (w.alloc (.cells #[.int .u32 pc,.int .i64 many,v] 54)) w.heap.size pc many v:=by
 refine ⟨by simp,by simp,by simp⟩
set_option maxHeartbeats 4000000
theorem end3_put {W:World} {B:Nat} {u0 u1 u2:Value} (z0:W.cell? ⟨B,0,none⟩=some u0) (z1:W.cell? ⟨B,1,none⟩=some u1) (z2:W.cell? ⟨B,2,none⟩=some u2) (v0 v1 v2:Value):(((W.setCell ⟨B,0,none⟩ v0).setCell ⟨B,1,none⟩ v1).setCell ⟨B,2,none⟩ v2).cell? ⟨B,0,none⟩=some v0∧(((W.setCell ⟨B,0,none⟩ v0).setCell ⟨B,1,none⟩ v1).setCell ⟨B,2,none⟩ v2).cell? ⟨B,1,none⟩=some v1∧(((W.setCell ⟨B,0,none⟩ v0).setCell ⟨B,1,none⟩ v1).setCell ⟨B,2,none⟩ v2).cell? ⟨B,2,none⟩=some v2:=by
 obtain ⟨a0,a1⟩:=end_putG z0 z1 v0 v1
 have b2:((W.setCell ⟨B,0,none⟩ v0).setCell ⟨B,1,none⟩ v1).cell? ⟨B,2,none⟩=some u2:=by rw[World.cell?_setCell_other _ _ _ _ (by intro e;injection e with e1 e2;omega),World.cell?_setCell_other _ _ _ _ (by intro e;injection e with e1 e2;omega)];exact z2
 exact ⟨by rw[World.cell?_setCell_other _ _ _ _ (by intro e;injection e with e1 e2;omega)];exact a0,by rw[World.cell?_setCell_other _ _ _ _ (by intro e;injection e with e1 e2;omega)];exact a1,World.cell?_setCell_same _ _ _ b2⟩
theorem end3_load {w:World} {B:Nat} {a b c:Value} (z0:w.cell? ⟨B,0,none⟩=some a) (z1:w.cell? ⟨B,1,none⟩=some b) (z2:w.cell? ⟨B,2,none⟩=some c):(loadVar 68 ⟨B,0,none⟩).run Tryz.prog w=.ok (.agg #[a,b,c]) w:=by
 simp[go_sem,z0,z1,z2]
theorem evalOf_any {w:World} {rb gb kb hb:Nat} {m:Nat→Int} {wt ht:Int→Bool} (D:DMem w rb gb kb hb m wt ht) (sb:Nat) (S:St) (hS:StRow w sb S) (ok:S.ok) (c0:0≤S.ct) (c1:S.ct≤1099511627776) (hsr:sb≠rb) (hsg:gb≠sb) {v:Value} {l:List Opx} (A:OpsIn w v l) (hl:l.length≤1000) (F:Few (eachL l)) (many:Int) (m0:1≤many) (m1:many≤24) (hw:∀ o∈l,opE o many=0) :
  Calls Tryz.prog 24 #[v,.int .i64 many,.pointer (some ⟨sb,0,none⟩),.pointer (some ⟨rb,0,none⟩)] w fun e w'=>e=.returned (.agg #[.bool (ozT (runZ wt (eachL l) (nwX (rgS S) 34) m)),.int .i64 (ozA (runZ wt (eachL l) (nwX (rgS S) 34) m)),.bool (ozF (runZ wt (eachL l) (nwX (rgS S) 34) m))])∧Rn w w' sb rb gb (ozS S many (runZ wt (eachL l) (nwX (rgS S) 34) m)) (ozM m (runZ wt (eachL l) (nwX (rgS S) 34) m)):=by
 have hmem:∀ r∈eachL l,∀ o∈r,opE o many=0:=fun r hr o ho=>by
  unfold eachL at hr
  obtain ⟨q,hq,rfl⟩:=List.mem_map.1 hr
  rw[List.mem_singleton.1 ho];exact hw q hq
 have HRUN:Hid (∀ (W:World) (u:Value),Below w.heap.size w W→RowsIn W u (eachL l)→Calls Tryz.prog 68 #[u,.int .i64 many,.pointer (some ⟨sb,0,none⟩),.pointer (some ⟨rb,0,none⟩)] W fun e w'=>e=.returned (.agg #[.bool (ozT (runZ wt (eachL l) (nwX (rgS S) 34) m)),.int .i64 (ozA (runZ wt (eachL l) (nwX (rgS S) 34) m)),.bool (ozF (runZ wt (eachL l) (nwX (rgS S) 34) m))])∧Rn W w' sb rb gb (ozS S many (runZ wt (eachL l) (nwX (rgS S) 34) m)) (ozM m (runZ wt (eachL l) (nwX (rgS S) 34) m))):=fun W u hW hR=>runT_any (D.stays hW) sb S (hS.stays hW) ok c0 c1 hsr hsg hR.rowsI F many m0 m1 hmem
 have hlt:sb<w.heap.size∧rb<w.heap.size∧gb<w.heap.size:=⟨hS.lt,World.block_lt_of_cell? _ _ D.d.c0,D.d.lt (.inr (.inl rfl))⟩
 generalize (runZ wt (eachL l) (nwX (rgS S) 34) m)=Q at *
 obtain ⟨ao,ca,rfl,_,hA⟩:=A.sh
 have HA:Hid (0<l.length→∃ b off:Nat,ao=some ⟨b,off,none⟩∧∀ (i:Nat) (o:Opx),l[i]?=some o→∀ (j:Nat) (u:Value),(opC o)[j]?=some u→w.cell? ⟨b,off+i*6+j,none⟩=some u):=hA
 have OK:Hid (∀ o∈l,o.ok):=A.ok
 obtain ⟨i0,hi,iz0,iz1,iz2⟩:=info_parts infoOps
 clear A hA D hS ok F hw hmem
 have B0:Below w.heap.size w (w.alloc (.cells #[.bool false,.int .i64 0,.bool false] 68)):=(Below.refl _ _).alloc (Nat.le_refl _) _
 have e0:(w.alloc (.cells #[.bool false,.int .i64 0,.bool false] 68)).cell? ⟨w.heap.size,0,none⟩=some (.bool false):=by simp
 have e1:(w.alloc (.cells #[.bool false,.int .i64 0,.bool false] 68)).cell? ⟨w.heap.size,1,none⟩=some (.int .i64 0):=by simp
 have e2:(w.alloc (.cells #[.bool false,.int .i64 0,.bool false] 68)).cell? ⟨w.heap.size,2,none⟩=some (.bool false):=by simp
 have ef:∀ j,(w.alloc (.cells #[.bool false,.int .i64 0,.bool false] 68)).frozen? ⟨w.heap.size,j,none⟩=false:=fun j=>World.frozen?_alloc_at _ _ _ _ rfl
 have hVs:(w.alloc (.cells #[.bool false,.int .i64 0,.bool false] 68)).heap.size=w.heap.size+1:=by simp
 have HB0:Hid (Below w.heap.size w (w.alloc (.cells #[.bool false,.int .i64 0,.bool false] 68))):=B0
 have HA2:Hid (∀ W,Below w.heap.size w W→0<l.length→∃ b off:Nat,ao=some ⟨b,off,none⟩∧∀ (i:Nat) (o:Opx),l[i]?=some o→∀ (j:Nat) (u:Value),(opC o)[j]?=some u→W.cell? ⟨b,off+i*6+j,none⟩=some u):=fun W hW hp=>by
  obtain ⟨b,off,e,hc⟩:=HA.out hp
  exact ⟨b,off,e,fun i o hi j u hu=>(hW.cell (World.block_lt_of_cell? _ _ (hc i o hi j u hu))).trans (hc i o hi j u hu)⟩
 clear B0 HA
 go_enter Tryz.func24,Tryz.ntmps24
 go_upto_region 1 with fail
 generalize w.alloc (.cells #[.bool false,.int .i64 0,.bool false] 68)=V at *
 go_wp2
 go_loopw [9,10] (fun out i wr=>∃ (j:Nat) (us:List Value),j≤l.length∧i=.int .i64 j∧us.length=j∧wr.ownsRow (w.heap.size+1) 52 1 out j us∧Ones wr out us (l.take j)∧Below (w.heap.size+1) V wr) (fun _ i _=>l.length-(intOf i).toNat)
 case atStart=>exact ⟨0,[],Nat.zero_le _,rfl,rfl,World.ownsRow_nil _ _ _ _,⟨by simp,fun k u o h _=>by simp at h⟩,(hVs▸Below.refl _ _)⟩
 case round =>
  obtain ⟨j,us,hj,rfl,hul,ho,hO,hB⟩:=hrel
  have hBw:Below w.heap.size w wr:=HB0.out.trans (hB.mono (by omega))
  by_cases hlt:j<l.length
  ·obtain ⟨o,hoj⟩:∃ o,l[j]?=some o:=⟨_,List.getElem?_eq_getElem hlt⟩
   obtain ⟨b,off,rfl,hc⟩:=HA2.out wr hBw (by omega)
   obtain ⟨x0,x1,x2,x3,x4,x5⟩:=op_cells (w:=wr) (fun k u hk=>hc j o hoj k u hk)
   have zb:=World.block_lt_of_cell? _ _ x0
   have hlt':(j:Int)<l.length:=by omega
   have hW:Below wr.heap.size wr ((wr.alloc (.cells #[.string o.s,.int .i64 o.d,.int .i64 o.a,.int .i64 o.b,.int .u32 o.i,.int .i64 o.t] 139)).alloc (.cells #[.slice (some ⟨wr.heap.size,0,none⟩) 1 1] 52)):=((Below.refl _ _).alloc (Nat.le_refl _) _).alloc (by simp) _
   have hO1:OpsIn ((wr.alloc (.cells #[.string o.s,.int .i64 o.d,.int .i64 o.a,.int .i64 o.b,.int .u32 o.i,.int .i64 o.t] 139)).alloc (.cells #[.slice (some ⟨wr.heap.size,0,none⟩) 1 1] 52)) (.slice (some ⟨wr.heap.size,0,none⟩) 1 1) [o]:=(ones_new wr o (OK.out o (List.mem_of_getElem? hoj))).stays ((Below.refl _ _).alloc (Nat.le_refl _) _)
   have hsz2:wr.heap.size+1+1=(((wr.alloc (.cells #[.string o.s,.int .i64 o.d,.int .i64 o.a,.int .i64 o.b,.int .u32 o.i,.int .i64 o.t] 139)).alloc (.cells #[.slice (some ⟨wr.heap.size,0,none⟩) 1 1] 52))).heap.size:=by simp
   have HOW:Hid ((((wr.alloc (.cells #[.string o.s,.int .i64 o.d,.int .i64 o.a,.int .i64 o.b,.int .u32 o.i,.int .i64 o.t] 139)).alloc (.cells #[.slice (some ⟨wr.heap.size,0,none⟩) 1 1] 52))).ownsRow (w.heap.size+1) 52 1 u9 j us):=(ho.alloc _).alloc _
   have hn1:∀ (k:Nat) (u:Value),[Value.slice (some ⟨wr.heap.size,0,none⟩) 1 1][k]?=some u→(((wr.alloc (.cells #[.string o.s,.int .i64 o.d,.int .i64 o.a,.int .i64 o.b,.int .u32 o.i,.int .i64 o.t] 139)).alloc (.cells #[.slice (some ⟨wr.heap.size,0,none⟩) 1 1] 52))).cell? ((⟨wr.heap.size+1,0,none⟩:Addr).add k)=some u:=by
    intro k u hk
    rw[add_lit,World.cell?_alloc_at _ _ _ _ (by simp)]
    simpa using hk
   have hbs:w.heap.size+1≤wr.heap.size:=by have:=hB.size;omega
   have HS:Hid (∀ v1 w1,(((wr.alloc (.cells #[.string o.s,.int .i64 o.d,.int .i64 o.a,.int .i64 o.b,.int .u32 o.i,.int .i64 o.t] 139)).alloc (.cells #[.slice (some ⟨wr.heap.size,0,none⟩) 1 1] 52))).grownBy w1 u9.ownBlock→Moved ((wr.alloc (.cells #[.string o.s,.int .i64 o.d,.int .i64 o.a,.int .i64 o.b,.int .u32 o.i,.int .i64 o.t] 139)).alloc (.cells #[.slice (some ⟨wr.heap.size,0,none⟩) 1 1] 52)) u9 v1→Ones w1 v1 (us++[.slice (some ⟨wr.heap.size,0,none⟩) 1 1]) (l.take (j+1))∧Below (w.heap.size+1) V w1):=by
    intro v1 w1 hg hm
    rw[take_snoc' hoj]
    refine ⟨hO.snoc (fun k hk=>(own_at ho k hk).1) hW wr.heap.size (Nat.le_refl _) (by rw[←hsz2];omega) hO1 hg hm,?_⟩
    exact (hB.trans (hW.mono hbs)).grown hg (by rw[←hsz2];omega) (fun k hk=>(own_at ho k hk).2)
   clear hc hoj hB hO ho hW hO1 HA2 OK hsz2 hBw e0 e1 e2 ef
   go_wp2_with (at_builtin;refine wpList_append_moved rfl _ _ 77 rfl (w.heap.size+1) 52 i0 (.slice none 0 0) 1 24 Tryz.underlying77 hi iz0 iz1 iz2 rfl (by decide) u9 j us rfl HOW.out ⟨wr.heap.size+1,0,none⟩ 1 1 [.slice (some ⟨wr.heap.size,0,none⟩) 1 1] rfl rfl hn1 (by simp[Value.oneCell']) (by unfold maxLen;omega) (by omega) (by simp;omega) ?_;intro v1 w1 ho1 hg1 hm1;have K1:=HS.out v1 w1 hg1 hm1;have KO:Hid (w1.ownsRow (w.heap.size+1) 52 1 v1 (j+1) (us++[.slice (some ⟨wr.heap.size,0,none⟩) 1 1])):=ho1;have KS:Hid (Ones w1 v1 (us++[.slice (some ⟨wr.heap.size,0,none⟩) 1 1]) (l.take (j+1))∧Below (w.heap.size+1) V w1):=K1;clear ho1 hg1 hm1 K1 HS HOW hn1 x0 x1 x2 x3 x4 x5 zb)
   go_roundw
   case rel=>exact ⟨j+1,_,by omega,by go_num,by rw[List.length_append,hul];rfl,KO.out,KS.out.1,KS.out.2⟩
   case measure=>simp[intOf];omega
  ·obtain rfl:j=l.length:=by omega
   have HR:Hid (RowsIn wr u9 (eachL l)):=by
    rw[List.take_length]at hO
    rw[←hul]at ho
    exact hO.rows ho
   have hrn:=HRUN.out wr u9 hBw HR.out
   have HBw:Hid (Below w.heap.size w wr):=hBw
   have k0:=(hB.cell (p:=⟨w.heap.size,0,none⟩) (show w.heap.size<w.heap.size+1 by omega)).trans e0
   have k1:=(hB.cell (p:=⟨w.heap.size,1,none⟩) (show w.heap.size<w.heap.size+1 by omega)).trans e1
   have k2:=(hB.cell (p:=⟨w.heap.size,2,none⟩) (show w.heap.size<w.heap.size+1 by omega)).trans e2
   have kf:∀ j,wr.frozen? ⟨w.heap.size,j,none⟩=false:=fun j=>(hB.frozen (p:=⟨w.heap.size,j,none⟩) (show w.heap.size<w.heap.size+1 by omega)).trans (ef j)
   have hz:=World.block_lt_of_cell? _ _ k0
   clear hO ho hB HA2 OK hBw e0 e1 e2 ef HR
   go_wp2_with fail
   refine hrn.mono ?_
   rintro e w5 ⟨rfl,hR5⟩
   have HR5:Hid (Rn wr w5 sb rb gb (ozS S many Q) (ozM m Q)):=hR5
   have hbk:=hR5.bk w.heap.size hz (by omega) (by omega)
   have r0:=(World.cell?_of_block (a:=⟨w.heap.size,0,none⟩) hbk).trans k0
   have r1:=(World.cell?_of_block (a:=⟨w.heap.size,1,none⟩) hbk).trans k1
   have r2:=(World.cell?_of_block (a:=⟨w.heap.size,2,none⟩) hbk).trans k2
   have rf:∀ j,w5.frozen? ⟨w.heap.size,j,none⟩=false:=fun j=>(World.frozen?_of_block (a:=⟨w.heap.size,j,none⟩) hbk).trans (kf j)
   have zr:=World.block_lt_of_cell? _ _ r0
   have hzs:w.heap.size<wr.heap.size:=hz
   clear hR5 hbk k0 k1 k2 kf hz hrn
   go_wp2
   obtain ⟨j0,j1,j2⟩:=end3_put r0 r1 r2 (.bool (ozT Q)) (.int .i64 (ozA Q)) (.bool (ozF Q))
   refine bodyPost_ret (r1c (A:=⟨w.heap.size,0,none⟩) rfl _ _ _ rfl (end3_load j0 j1 j2)) rfl ?_
   refine ⟨rfl,?_⟩
   have hoth:∀ k,k≠w.heap.size→(((w5.setCell ⟨w.heap.size,0,none⟩ (.bool (ozT Q))).setCell ⟨w.heap.size,1,none⟩ (.int .i64 (ozA Q))).setCell ⟨w.heap.size,2,none⟩ (.bool (ozF Q))).heap[k]?=w5.heap[k]?:=fun k hk=>((Below.heap_setCell _ ⟨w.heap.size,2,none⟩ _ k hk).trans (Below.heap_setCell _ ⟨w.heap.size,1,none⟩ _ k hk)).trans (Below.heap_setCell _ ⟨w.heap.size,0,none⟩ _ k hk)
   obtain ⟨s1,⟨gx,s2,s3,s4⟩,s5,s6,s7,s8,s9⟩:=HR5.out
   have hws:=HBw.out.size
   have hgx:gx≠w.heap.size:=by
    rcases s3 with h|h
    ·omega
    ·omega
   exact ⟨s1.block (hoth sb (by omega)),⟨gx,(World.cell?_of_block (a:=⟨rb,0,none⟩) (hoth rb (by omega))).trans s2,(s3.imp id (by omega)),fun i hi=>(World.cell?_of_block (a:=⟨gx,i,none⟩) (hoth gx hgx)).trans (s4 i hi)⟩,fun k hk k1 k2=>((hoth k (by omega)).trans (s5 k (by omega) k1 k2)).trans (HBw.out.block k hk),by simp;omega,s7.trans HBw.out.os,s8.trans HBw.out.tape,s9.trans HBw.out.output⟩
end Go.Proofs.YtflagpkmebdckaaGreatDoor
namespace Go.Proofs.YtflagpkmebdckaaGreatDoor
open Go.RowKit Go.Maps
open Num Low
set_option linter.unusedVariables false
theorem infoIns:(Tryz.prog.info? 113).map (fun i=>(i.zero,i.size,i.bytes))=some (some (.agg #[.int .i64 0,.int .i64 0,.int .i64 0,.int .i64 0,.int .u32 0]),5,40):=by kernel_rfl
def ixL (l:List Ix):List Value:=l.flatMap ixC
theorem ixL_len (l:List Ix):(ixL l).length=l.length*5:=by
 induction l with
 | nil=>rfl
 | cons x l ih=>show (ixC x++ixL l).length=_;rw[List.length_append,ih];simp[ixC];omega
theorem ixL_get:∀ (p:List Ix) (j:Nat) (q:Ix) (i:Nat),p[j]?=some q→i<5→(ixL p)[j*5+i]?=(ixC q)[i]?
 | [],j,q,i,h,_=>by simp at h
 | x :: p,0,q,i,h,hi=>by
  simp at h;subst h
  show (ixC x++ixL p)[0*5+i]?=_
  rw[List.getElem?_append_left (by simp[ixC];omega)];simp
 | x :: p,j+1,q,i,h,hi=>by
  show (ixC x++ixL p)[(j+1)*5+i]?=_
  rw[List.getElem?_append_right (by simp[ixC];omega)]
  have e:(j+1)*5+i-(ixC x).length=j*5+i:=by simp[ixC];omega
  rw[e];exact ixL_get p j q i (by simpa using h) hi
theorem ixL_one (l:List Ix):∀ u∈ixL l,u.oneCell'=true:=by
 intro u hu
 obtain ⟨o,_,h⟩:=List.mem_flatMap.1 hu
 simp[ixC]at h
 rcases h with rfl|rfl|rfl|rfl|rfl<;>rfl
theorem ixL_at {w:World} {b off:Nat} {l:List Ix} (h:∀ (i:Nat) (o:Ix),l[i]?=some o→∀ (j:Nat) (u:Value),(ixC o)[j]?=some u→w.cell? ⟨b,off+i*5+j,none⟩=some u):∀ j u,(ixL l)[j]?=some u→w.cell? ((⟨b,off,none⟩:Addr).add j)=some u:=by
 intro j u hj
 have hlt:j<l.length*5:=by have:=(List.getElem?_eq_some_iff.1 hj).1;rwa [ixL_len]at this
 have hi:j/5<l.length:=by omega
 have ho:l[j/5]?=some l[j/5]:=List.getElem?_eq_getElem hi
 have:=ixL_get l (j/5) _ (j%5) ho (by omega)
 rw[show j/5*5+j%5=j by omega,hj]at this
 have hc:=h _ _ ho _ _ this.symm
 have hadd:(⟨b,off,none⟩:Addr).add j=⟨b,off+j,none⟩:=by unfold Addr.add;split<;>simp_all
 rw[hadd,←hc];congr 2;omega
theorem ixL_news {w:World} {ad:Addr} {cap:Nat} {l:List Ix} (A:InsIn w (.slice (some ad) l.length cap) l):∀ j u,(ixL l)[j]?=some u→w.cell? (ad.add j)=some u:=by
 obtain ⟨ao,cp,he,hc,hh⟩:=A.sh
 injection he with e1 e2 e3
 subst e1
 rcases Nat.eq_zero_or_pos l.length with h|h
 ·have:l=[]:=List.length_eq_zero_iff.1 h
  subst this;intro j u hj;simp[ixL]at hj
 ·obtain ⟨b,off,e,hcl⟩:=hh h
  injection e with e;subst e
  exact ixL_at hcl
theorem ins_of_row {w:World} {base:Nat} {v:Value} {l:List Ix} (hr:w.ownsRow base 113 5 v l.length (ixL l)) (bd:∀ o∈l,o.bd):InsIn w v l:=by
 rcases hr.2 with ⟨rfl,h⟩|⟨g,cap,cur,rfl,hg,hh,hn,_⟩
 ·exact ⟨⟨none,0,by rw[h],by omega,fun hp=>by omega⟩,bd⟩
 ·refine ⟨⟨_,cap,rfl,hn,fun hp=>⟨g,0,rfl,fun i o ho j u hu=>?_⟩⟩,bd⟩
  have hj:j<5:=by have:=(List.getElem?_eq_some_iff.1 hu).1;simpa [ixC] using this
  have:=hr.cells (g:=g) rfl (i*5+j) u (by rw[ixL_get l i o j ho hj];exact hu)
  rw[add_lit]at this
  rwa [show 0+i*5+j=i*5+j by omega]
theorem wpList_execV {ops:Array Oper} {Q:Exit→Act→World→Prop} {a:Act} {w:World} {rest:List Oper} {o:Oper} (v:Value) (hgd:Region.wanted o (yielded ops a.tmps)=true) (hx:(execOp a.eval o).run Tryz.prog w=.ok (.value v) w)
  (h:wpList Tryz.prog ops Q rest (a.put o.dst v) w):wpList Tryz.prog ops Q (o :: rest) a w :=
 wpList_step fun K hK=>by
  rw[if_pos hgd]
  unfold Oper.wp
  rw[hx,Oper.upon_value]
  exact hK _ _ h
def EndT (o:Oz) (S:St) (m:Nat→Int) (n:Nat) (R:Option (St × (Nat→Int))):Prop :=
 match R with
 | none=>ozT o=true∧stA (ozS S n o)=stA S
 | some (T,p)=>ozT o=false∧stA (ozS S n o)=stA T∧ozM m o=p
theorem ends_told {wt:Int→Bool} {l:List Opx} {S:St} {m:Nat→Int} {n:Nat} {R:Option (St × (Nat→Int))} (hsl:S.sl=false) (hz:S.r 0=0) (h:EndsAs (run1 wt l (nwX (rgS S) 34) m) S n R) :
  EndT (runZ wt (eachL l) (nwX (rgS S) 34) m) S m n R:=by
 unfold run1 at h
 cases R with
 | none =>
  obtain ⟨t,e⟩:=h
  rw[e]
  exact ⟨rfl,rfl⟩
 | some TP =>
  obtain ⟨T,p⟩:=TP
  obtain ⟨M,e,hm,ag,hlv,hnx,hs,hct,sm,wd⟩:=h
  rw[e]
  refine ⟨rfl,stA_congr (fun j hj=>?_),hm⟩
  show stV (lfS S M n) j=stV T j
  by_cases h32:j<32
  ·unfold stV lfS
   rw[if_pos h32,if_pos h32]
   show Value.int .u32 (if 1≤j then M.x j else S.r j)=Value.int .u32 (T.r j)
   by_cases e1:1≤j
   ·rw[if_pos e1,ag.r j h32]
   ·rw[if_neg e1,show j=0 by omega,hz,wd.z]
  ·have hc:j=32∨j=33∨j=34∨j=35∨j=36∨j=37∨j=38∨j=39∨j=40∨j=41∨j=42:=by omega
   rcases hc with rfl|rfl|rfl|rfl|rfl|rfl|rfl|rfl|rfl|rfl|rfl
   ·show Value.int .u32 (M.x 32)=.int .u32 T.hi;rw[ag.hi]
   ·show Value.int .u32 (M.x 33)=.int .u32 T.lo;rw[ag.lo]
   ·show Value.int .u32 M.lv=.int .u32 T.pc;rw[hlv]
   ·show Value.int .u32 (lo (M.lv+4))=.int .u32 T.nx;rw[hlv,hnx]
   ·show Value.bool S.sl=.bool T.sl;rw[hsl,hs]
   ·show Value.int .u32 S.st=.int .u32 T.st;rw[sm.st]
   ·show Value.int .u32 S.ca=.int .u32 T.ca;rw[sm.ca]
   ·show Value.int .u32 S.ep=.int .u32 T.ep;rw[sm.ep]
   ·show Value.int .u32 S.bd=.int .u32 T.bd;rw[sm.bd]
   ·show Value.int .u32 S.cm=.int .u32 T.cm;rw[sm.cm]
   ·show Value.int .i64 (S.ct+n)=.int .i64 T.ct;rw[hct]
structure CkL (W:World) (e1 s1 s2 r1 r2 ga gc:Nat) (F G:St):Prop where
 a:W.cell? ⟨e1,0,none⟩=some (.bool false)
 c:W.cell? ⟨r1,0,none⟩=some (.slice (some ⟨ga,0,none⟩) 4096 4096)
 d:W.cell? ⟨r2,0,none⟩=some (.slice (some ⟨gc,0,none⟩) 4096 4096)
 x:StAt W s1 F
 y:StAt W s2 G
theorem CkL.stays {W W':World} {e1 s1 s2 r1 r2 ga gc:Nat} {F G:St} (C:CkL W e1 s1 s2 r1 r2 ga gc F G) (h:Below W.heap.size W W'):CkL W' e1 s1 s2 r1 r2 ga gc F G :=
 ⟨(h.cell (p:=⟨e1,0,none⟩) (World.block_lt_of_cell? _ _ C.a)).trans C.a,(h.cell (p:=⟨r1,0,none⟩) (World.block_lt_of_cell? _ _ C.c)).trans C.c,(h.cell (p:=⟨r2,0,none⟩) (World.block_lt_of_cell? _ _ C.d)).trans C.d,C.x.stays h,C.y.stays h⟩
theorem Kept.belowL {w w' wz:World} {X:Nat→Prop} (K:Kept w w' X) (h:Below wz.heap.size wz w) (hx:∀ k,X k→wz.heap.size≤k):Below wz.heap.size wz w' :=
 ⟨K.os.trans h.os,K.tape.trans h.tape,K.output.trans h.output,Nat.le_trans h.size K.size,fun k hk=>(K.block k (Nat.lt_of_lt_of_le hk h.size) (fun hy=>by have:=hx k hy;omega)).trans (h.block k hk)⟩
set_option maxRecDepth 100000
set_option maxHeartbeats 16000000
theorem LeL_any (pe:Nat→Addr) {w:World} (LV:Lv pe w) (T:St) (ao:Option Addr) (n cap:Nat) {vw:Value} {xs:List Int} (X:WordsIn w vw xs) (wa pc:Int) (hL:30<n∨(decide (200<(xs.length:Int))||decide (T.ct<0)||decide (1099511627776<T.ct))=true) :
  Calls Tryz.prog 5 #[.int .u32 pc,.slice ao n cap,.agg (plA T vw wa)] w fun e w'=>e=.returned (.bool true)∧Below w.heap.size w w':=by
 have P0:=pl_row w T vw wa
 have B0:Below w.heap.size w (w.alloc (.cells (plA T vw wa) 50)):=(Below.refl _ _).alloc (Nat.le_refl _) _
 have hho:=lowered_any pe (LV.stays B0 (Nat.le_refl _))
 have h43:(plA T vw wa)[43]?=some vw:=by rw[plA_get _ _ _ 43 (by omega)];rfl
 have h42:(plA T vw wa)[42]?=some (.int .i64 T.ct):=by rw[plA_get _ _ _ 42 (by omega)];rfl
 obtain ⟨R,hR⟩:∃ R:Bool,(decide (200<(xs.length:Int))||decide (T.ct<0)||decide (1099511627776<T.ct))=R:=⟨_,rfl⟩
 rw[hR]at hL
 have hlp:∀ W:World,Calls Tryz.prog 17 #[.agg (plA T vw wa)] W (fun e w'=>e=.returned (.bool R)∧Below W.heap.size W w'):=fun W=>by
  obtain ⟨aw,cw,e,_⟩:=X.sh
  have h44:=h43.trans (congrArg some e)
  have hq:=longPl_any (w:=W) h44 h42
  rw[hR]at hq
  exact hq
 have hldp:∀ (W:World),RowIs W w.heap.size 50 45 (plV T vw wa)→(loadVar 50 ⟨w.heap.size,0,none⟩).run Tryz.prog W=.ok (.agg (plA T vw wa)) W:=fun (W:World) h=>load_place h
 obtain ⟨PA,hPA⟩:∃ PA,PA=plA T vw wa:=⟨_,rfl⟩
 rw[←hPA]at P0 B0 hlp hldp hho ⊢
 obtain ⟨fP,hfP⟩:∃ fP,fP=plV T vw wa:=⟨_,rfl⟩
 rw[←hfP]at P0 hldp
 clear hPA hfP h43 h42 LV X hR
 by_cases hn:30<n
 ·have hln:decide ((30:Int)<(n:Int))=true:=decide_eq_true (by omega)
  clear hL hn hlp hldp
  go_enter Tryz.func5,Tryz.ntmps5
  go_upto_region 1 with fail
  generalize w.alloc (.cells PA 50)=V at *
  have HB0:Hid (Below w.heap.size w V):=B0
  clear P0 B0
  go_wp2_with fail
  refine hho.mono ?_
  rintro e w1 ⟨rfl,hb1⟩
  have B1:Hid (Below w.heap.size w w1):=HB0.out.trans (hb1.mono HB0.out.size)
  clear hho hb1 HB0
  go_wp2
  go_ret
  exact ⟨rfl,B1.out⟩
 have hln:decide ((30:Int)<(n:Int))=false:=decide_eq_false (by omega)
 obtain rfl:R=true:=by rcases hL with h|h;exact absurd h hn;exact h
 clear hL hn
 go_enter Tryz.func5,Tryz.ntmps5
 go_upto_region 1 with fail
 generalize w.alloc (.cells PA 50)=V at *
 have HB0:Hid (Below w.heap.size w V):=B0
 have HP0:Hid (RowIs V w.heap.size 50 45 fP):=P0
 clear P0 B0
 go_wp2_with fail
 refine hho.mono ?_
 rintro e w1 ⟨rfl,hb1⟩
 have B1:Hid (Below w.heap.size w w1):=HB0.out.trans (hb1.mono HB0.out.size)
 have hl1:=hldp w1 (HP0.out.stays hb1)
 clear hho hb1 HB0 HP0
 go_upto_region 3 with (first|(refine wpList_loadT 50 _ (by rfl) w.heap.size _ (by rfl) (by rfl) hl1 ?_)|(go_at_call 17;refine (hlp _).mono ?_;rintro e w2 ⟨rfl,hb2⟩;clear hl1))
 have B2:Hid (Below w.heap.size w w2):=B1.out.trans (hb2.mono B1.out.size)
 clear hb2 hlp B1
 go_wp2
 go_ret
 exact ⟨rfl,B2.out⟩
set_option maxHeartbeats 16000000
theorem regE_bd (l:List Ix):regE l≤10:=by
 unfold regE
 repeat' split
 all_goals omega
theorem LeE_any (S:Nat→Addr) {w:World} (LV:Lv (peS S) w) (EE:Errs S w) (T:St) (ok:T.ok) (ct0:0≤T.ct) (ct1:T.ct≤1099511627776) {v:Value} {l:List Ix} (A:InsIn w v l) (hl30:l.length≤30) {vw:Value} {xs:List Int} (X:WordsIn w vw xs) (hx:xs.length≤200) (wa pc:Int) (p0:0≤pc) (p1:pc<4294967296) (hR:regE l≠0) :
  Calls Tryz.prog 5 #[.int .u32 pc,v,.agg (plA T vw wa)] w fun e w'=>e=.returned (.bool true)∧Below w.heap.size w w':=by
 have P0:=pl_row w T vw wa
 have B0:Below w.heap.size w (w.alloc (.cells (plA T vw wa) 50)):=(Below.refl _ _).alloc (Nat.le_refl _) _
 have HLV:Hid (∀ W,Below w.heap.size w W→Lv (peS S) W):=fun W hW=>LV.stays hW (Nat.le_refl _)
 have HEE:Hid (∀ W,Below w.heap.size w W→Errs S W):=fun W hW=>EE.stays hW
 have HIN:Hid (∀ W,Below w.heap.size w W→InsIn W v l):=fun W hW=>A.stays hW (Nat.le_refl _)
 have HA:Hid (InsIn w v l):=A
 have HBD:Hid (∀ o∈l,o.bd):=A.bd
 have hho:=lowered_any (peS S) (LV.stays B0 (Nat.le_refl _))
 have h43:(plA T vw wa)[43]?=some vw:=by rw[plA_get _ _ _ 43 (by omega)];rfl
 have h44':(plA T vw wa)[44]?=some (.int .i64 wa):=by rw[plA_get _ _ _ 44 (by omega)];rfl
 have h42:(plA T vw wa)[42]?=some (.int .i64 T.ct):=by rw[plA_get _ _ _ 42 (by omega)];rfl
 have HMO:Hid (∀ W,Below w.heap.size w W→Calls Tryz.prog 23 #[.agg (plA T vw wa)] W fun e w'=>∃ rb gb kb hb:Nat,e=.returned (.pointer (some ⟨rb,0,none⟩))∧DMem w' rb gb kb hb (mw xs) (fun p=>decide (p=wa)) (fun _=>false)∧Below W.heap.size W w'∧W.heap.size≤rb∧W.heap.size≤gb∧W.heap.size≤kb∧W.heap.size≤hb):=fun W hW=>model_any h43 h44' (X.stays hW) (by omega)
 have hlp:∀ W:World,Calls Tryz.prog 17 #[.agg (plA T vw wa)] W (fun e w'=>e=.returned (.bool false)∧Below W.heap.size W w'):=fun W=>by
  obtain ⟨aw,cw,e,_⟩:=X.sh
  have h44:=h43.trans (congrArg some e)
  have hq:=longPl_any (w:=W) h44 h42
  have hb:(decide (200<(xs.length:Int))||decide (T.ct<0)||decide (1099511627776<T.ct))=false:=by
   simp only[Bool.or_eq_false_iff,decide_eq_false_iff_not];omega
  rw[hb]at hq
  exact hq
 have hpla:=fun W=>placed_any W T vw wa pc p0 p1
 have hldp:∀ (W:World),RowIs W w.heap.size 50 45 (plV T vw wa)→(loadVar 50 ⟨w.heap.size,0,none⟩).run Tryz.prog W=.ok (.agg (plA T vw wa)) W:=fun (W:World) h=>load_place h
 have HMB:Hid (∀ i,0≤mw xs i∧mw xs i<4294967296):=X.wf
 obtain ⟨ao,cap,hve,hcap,_⟩:=A.sh
 subst hve
 obtain ⟨PA,hPA⟩:∃ PA,PA=plA T vw wa:=⟨_,rfl⟩
 rw[←hPA]at P0 B0 hlp hldp HMO hpla hho ⊢
 obtain ⟨fP,hfP⟩:∃ fP,fP=plV T vw wa:=⟨_,rfl⟩
 rw[←hfP]at P0 hldp
 have okT:=plS_ok ok ⟨p0,p1⟩
 have HT:Hid ((plS T pc).ok∧(plS T pc).ct=T.ct∧(plS T pc).sl=false∧(plS T pc).pc=pc∧(plS T pc).nx=lo (pc+4)∧(plS T pc).r 0=0):=⟨okT,rfl,rfl,rfl,rfl,rfl⟩
 generalize hTT:plS T pc=T0 at *
 have hln:decide ((30:Int)<(l.length:Int))=false:=decide_eq_false (by omega)
 obtain ⟨i0,hi,hz0,hz1,hz2⟩:=info_parts infoIns
 clear hPA hfP h43 h42 h44' LV EE A X ok hTT okT
 have hreg:Hid (regE l≠0):=hR
 clear hR
 have hreq:∀ pe:Nat→Addr,erV pe (regE l)=.iface 332 (.pointer (some (pe (regE l)))):=fun pe=>by unfold erV;rw[if_neg (by have:=hreg.out;omega)];rfl
 cases ao with
 | none =>
  go_enter Tryz.func5,Tryz.ntmps5
  go_upto_region 1 with fail
  generalize w.alloc (.cells PA 50)=V at *
  have HP0:Hid (RowIs V w.heap.size 50 45 fP):=P0
  have HB0:Hid (Below w.heap.size w V):=B0
  clear P0 B0
  go_wp2_with fail
  refine hho.mono ?_
  rintro e w1 ⟨rfl,hb1⟩
  have B1:Hid (Below w.heap.size w w1):=HB0.out.trans (hb1.mono HB0.out.size)
  have P1:Hid (RowIs w1 w.heap.size 50 45 fP):=HP0.out.stays hb1
  have hl1:=hldp w1 P1.out
  clear hho hb1 HB0 HP0
  go_upto_region 4 with (first|(refine wpList_loadT 50 _ (by rfl) w.heap.size _ (by rfl) (by rfl) hl1 ?_)|(go_at_call 17;refine (hlp _).mono ?_;rintro e w2 ⟨rfl,hb2⟩;clear hl1))
  have B2:Hid (Below w.heap.size w w2):=B1.out.trans (hb2.mono B1.out.size)
  have P2:Hid (RowIs w2 w.heap.size 50 45 fP):=P1.out.stays hb2
  clear hb2 hlp B1 P1
  have hl0:l=[]:=by
   rcases Nat.eq_zero_or_pos l.length with h|h
   ·exact List.length_eq_zero_iff.1 h
   ·obtain ⟨a,c,e,_,hh⟩:=(HIN.out w2 B2.out).sh
    obtain ⟨b,off,e2,_⟩:=hh h
    injection e with e1;rw[e2]at e1;cases e1
  subst hl0
  have B3w:Hid (Below w.heap.size w w2):=B2.out
  go_upto_region 6 with (go_at_call 18;refine (lower_bad (v:=.slice none 0 0) (l:=[]) (HLV.out w2 B2.out) ⟨⟨none,0,rfl,by simp,fun h=>by cases h⟩,fun o ho=>by cases ho⟩ (by simp) pc none 0 0 hreg.out).mono ?_;rintro e w4 ⟨rfl,hb4⟩;rw[hreq (peS S)])
  have SA:Below w2.heap.size w2 (w4.alloc (.cells #[.int .u32 0,.int .i64 0,.slice none 0 0] 54)):=hb4.trans ((alloc_belowG _ _).mono hb4.size)
  have B5:Hid (Below w.heap.size w (w4.alloc (.cells #[.int .u32 0,.int .i64 0,.slice none 0 0] 54))):=B3w.out.trans (SA.mono B3w.out.size)
  have C5:Hid (CBox (w4.alloc (.cells #[.int .u32 0,.int .i64 0,.slice none 0 0] 54)) w4.heap.size 0 0 (.slice none 0 0)):=⟨by simp,by simp,by simp⟩
  clear SA hb4 B3w P2
  generalize w4.alloc (.cells #[.int .u32 0,.int .i64 0,.slice none 0 0] 54)=W5 at *
  generalize w4.heap.size=cb at *
  have hre:=regionError_any HA.out (by omega) B5.out
  go_upto_region 7 with (go_at_call 19;refine hre.mono ?_;rintro e w6 ⟨rfl,hb6⟩)
  have B6:Hid (Below w.heap.size w w6):=B5.out.trans (hb6.mono B5.out.size)
  have C6:Hid (CBox w6 cb 0 0 (.slice none 0 0)):=C5.out.stays hb6
  clear hre hb6 B5 C5
  have hco:=coded_any S (HEE.out w6 B6.out) (regE ([]:List Ix)) (by have:=hreg.out;omega) (regE_bd ([]:List Ix))
  have hgt:decide ((0:Int)<(regE ([]:List Ix):Int))=true:=decide_eq_true (by have:=hreg.out;omega)
  have hpos:0<regE ([]:List Ix):=by have:=hreg.out;omega
  go_upto_region 8 with fail
  go_wp2_with fail
  refine hco.mono ?_
  rintro e w7 ⟨rfl,hb7⟩
  have B7:Hid (Below w.heap.size w w7):=B6.out.trans (hb7.mono B6.out.size)
  obtain ⟨x0,x1,x2⟩:=C6.out.stays hb7
  have hcb:=World.block_lt_of_cell? _ _ x0
  clear hco hb7 B6 C6
  go_wp2
  go_ret
  exact ⟨rfl,B7.out⟩
 | some ad =>
  go_enter Tryz.func5,Tryz.ntmps5
  go_upto_region 1 with fail
  generalize w.alloc (.cells PA 50)=V at *
  have HP0:Hid (RowIs V w.heap.size 50 45 fP):=P0
  have HB0:Hid (Below w.heap.size w V):=B0
  clear P0 B0
  go_wp2_with fail
  refine hho.mono ?_
  rintro e w1 ⟨rfl,hb1⟩
  have B1:Hid (Below w.heap.size w w1):=HB0.out.trans (hb1.mono HB0.out.size)
  have P1:Hid (RowIs w1 w.heap.size 50 45 fP):=HP0.out.stays hb1
  have hl1:=hldp w1 P1.out
  clear hho hb1 HB0 HP0
  go_upto_region 4 with (first|(refine wpList_loadT 50 _ (by rfl) w.heap.size _ (by rfl) (by rfl) hl1 ?_)|(go_at_call 17;refine (hlp _).mono ?_;rintro e w2 ⟨rfl,hb2⟩;clear hl1))
  have B2:Hid (Below w.heap.size w w2):=B1.out.trans (hb2.mono B1.out.size)
  have P2:Hid (RowIs w2 w.heap.size 50 45 fP):=P1.out.stays hb2
  clear hb2 hlp B1 P1
  have hnews:∀ j u,(ixL l)[j]?=some u→w2.cell? (ad.add j)=some u:=ixL_news (HIN.out w2 B2.out)
  go_upto_region 6 with (first|(at_builtin;refine wpList_append_moved rfl _ _ 48 rfl w2.heap.size 113 i0 (.agg #[.int .i64 0,.int .i64 0,.int .i64 0,.int .i64 0,.int .u32 0]) 5 40 Tryz.underlying48 hi hz0 hz1 hz2 rfl (by decide) (.slice none 0 0) 0 [] rfl (World.ownsRow_nil _ _ _ _) ad l.length cap (ixL l) rfl (ixL_len l) hnews (ixL_one l) (by unfold maxLen;omega) (by omega) (Nat.le_refl _) ?_;intro v3 w3 ho hg hm;rw[Nat.zero_add,List.nil_append]at ho;have A3:Hid _:=ins_of_row ho HBD.out;have B3:Hid (Below w2.heap.size w2 w3):=⟨hg.os,hg.tape,hg.output,hg.size,fun k hk=>hg.block k hk (by intro e;cases e)⟩;clear ho hg hm hnews;obtain ⟨ao3,cap3,hv3,_⟩:=A3.out.sh;subst hv3)|(go_at_call 18;refine (lower_bad (HLV.out w3 (B2.out.trans (B3.out.mono B2.out.size))) A3.out (by omega) pc none 0 0 hreg.out).mono ?_;rintro e w4 ⟨rfl,hb4⟩;rw[hreq (peS S)]))
  have B3w:Hid (Below w.heap.size w w3):=B2.out.trans (B3.out.mono B2.out.size)
  have SA:Below w3.heap.size w3 (w4.alloc (.cells #[.int .u32 0,.int .i64 0,.slice none 0 0] 54)):=hb4.trans ((alloc_belowG _ _).mono hb4.size)
  have B5:Hid (Below w.heap.size w (w4.alloc (.cells #[.int .u32 0,.int .i64 0,.slice none 0 0] 54))):=B3w.out.trans (SA.mono B3w.out.size)
  have C5:Hid (CBox (w4.alloc (.cells #[.int .u32 0,.int .i64 0,.slice none 0 0] 54)) w4.heap.size 0 0 (.slice none 0 0)):=⟨by simp,by simp,by simp⟩
  clear SA hb4 B3w P2
  generalize w4.alloc (.cells #[.int .u32 0,.int .i64 0,.slice none 0 0] 54)=W5 at *
  generalize w4.heap.size=cb at *
  have hre:=regionError_any HA.out (by omega) B5.out
  go_upto_region 7 with (go_at_call 19;refine hre.mono ?_;rintro e w6 ⟨rfl,hb6⟩)
  have B6:Hid (Below w.heap.size w w6):=B5.out.trans (hb6.mono B5.out.size)
  have C6:Hid (CBox w6 cb 0 0 (.slice none 0 0)):=C5.out.stays hb6
  clear hre hb6 B5 C5
  have hco:=coded_any S (HEE.out w6 B6.out) (regE l) (by have:=hreg.out;omega) (regE_bd l)
  have hgt:decide ((0:Int)<(regE l:Int))=true:=decide_eq_true (by have:=hreg.out;omega)
  have hpos:0<regE l:=by have:=hreg.out;omega
  go_upto_region 8 with fail
  go_wp2_with fail
  refine hco.mono ?_
  rintro e w7 ⟨rfl,hb7⟩
  have B7:Hid (Below w.heap.size w w7):=B6.out.trans (hb7.mono B6.out.size)
  obtain ⟨x0,x1,x2⟩:=C6.out.stays hb7
  have hcb:=World.block_lt_of_cell? _ _ x0
  clear hco hb7 B6 C6
  go_wp2
  go_ret
  exact ⟨rfl,B7.out⟩
set_option maxHeartbeats 16000000
theorem LeK_any (S:Nat→Addr) {w:World} (LV:Lv (peS S) w) (EE:Errs S w) (T:St) (ok:T.ok) (ct0:0≤T.ct) (ct1:T.ct≤1099511627776) {v:Value} {l:List Ix} (A:InsIn w v l) (hl30:l.length≤30) {vw:Value} {xs:List Int} (X:WordsIn w vw xs) (hx:xs.length≤200) (wa pc:Int) (p0:0≤pc) (p1:pc<4294967296) (hR:regE l=0) :
  Calls Tryz.prog 5 #[.int .u32 pc,v,.agg (plA T vw wa)] w fun e w'=>e=.returned (.bool true)∧Below w.heap.size w w':=by
 have P0:=pl_row w T vw wa
 have B0:Below w.heap.size w (w.alloc (.cells (plA T vw wa) 50)):=(Below.refl _ _).alloc (Nat.le_refl _) _
 have HLV:Hid (∀ W,Below w.heap.size w W→Lv (peS S) W):=fun W hW=>LV.stays hW (Nat.le_refl _)
 have HEE:Hid (∀ W,Below w.heap.size w W→Errs S W):=fun W hW=>EE.stays hW
 have HIN:Hid (∀ W,Below w.heap.size w W→InsIn W v l):=fun W hW=>A.stays hW (Nat.le_refl _)
 have HA:Hid (InsIn w v l):=A
 have HBD:Hid (∀ o∈l,o.bd):=A.bd
 have hho:=lowered_any (peS S) (LV.stays B0 (Nat.le_refl _))
 have h43:(plA T vw wa)[43]?=some vw:=by rw[plA_get _ _ _ 43 (by omega)];rfl
 have h44':(plA T vw wa)[44]?=some (.int .i64 wa):=by rw[plA_get _ _ _ 44 (by omega)];rfl
 have h42:(plA T vw wa)[42]?=some (.int .i64 T.ct):=by rw[plA_get _ _ _ 42 (by omega)];rfl
 have HMO:Hid (∀ W,Below w.heap.size w W→Calls Tryz.prog 23 #[.agg (plA T vw wa)] W fun e w'=>∃ rb gb kb hb:Nat,e=.returned (.pointer (some ⟨rb,0,none⟩))∧DMem w' rb gb kb hb (mw xs) (fun p=>decide (p=wa)) (fun _=>false)∧Below W.heap.size W w'∧W.heap.size≤rb∧W.heap.size≤gb∧W.heap.size≤kb∧W.heap.size≤hb):=fun W hW=>model_any h43 h44' (X.stays hW) (by omega)
 have hlp:∀ W:World,Calls Tryz.prog 17 #[.agg (plA T vw wa)] W (fun e w'=>e=.returned (.bool false)∧Below W.heap.size W w'):=fun W=>by
  obtain ⟨aw,cw,e,_⟩:=X.sh
  have h44:=h43.trans (congrArg some e)
  have hq:=longPl_any (w:=W) h44 h42
  have hb:(decide (200<(xs.length:Int))||decide (T.ct<0)||decide (1099511627776<T.ct))=false:=by
   simp only[Bool.or_eq_false_iff,decide_eq_false_iff_not];omega
  rw[hb]at hq
  exact hq
 have hpla:=fun W=>placed_any W T vw wa pc p0 p1
 have hldp:∀ (W:World),RowIs W w.heap.size 50 45 (plV T vw wa)→(loadVar 50 ⟨w.heap.size,0,none⟩).run Tryz.prog W=.ok (.agg (plA T vw wa)) W:=fun (W:World) h=>load_place h
 have HMB:Hid (∀ i,0≤mw xs i∧mw xs i<4294967296):=X.wf
 obtain ⟨ao,cap,hve,hcap,_⟩:=A.sh
 subst hve
 obtain ⟨PA,hPA⟩:∃ PA,PA=plA T vw wa:=⟨_,rfl⟩
 rw[←hPA]at P0 B0 hlp hldp HMO hpla hho ⊢
 obtain ⟨fP,hfP⟩:∃ fP,fP=plV T vw wa:=⟨_,rfl⟩
 rw[←hfP]at P0 hldp
 have okT:=plS_ok ok ⟨p0,p1⟩
 have HT:Hid ((plS T pc).ok∧(plS T pc).ct=T.ct∧(plS T pc).sl=false∧(plS T pc).pc=pc∧(plS T pc).nx=lo (pc+4)∧(plS T pc).r 0=0):=⟨okT,rfl,rfl,rfl,rfl,rfl⟩
 generalize hTT:plS T pc=T0 at *
 have hln:decide ((30:Int)<(l.length:Int))=false:=decide_eq_false (by omega)
 obtain ⟨i0,hi,hz0,hz1,hz2⟩:=info_parts infoIns
 clear hPA hfP h43 h42 h44' LV EE A X ok hTT okT
 have hreg:Hid (regE l=0):=hR
 clear hR
 have hRO:=regE_zero hreg.out
 have hl0:=hRO.l0
 have hl24:=hRO.l1
 have hWL:=lowL_well pc hRO
 have hokL:=lowL_ok p0 p1 hRO HBD.out
 have HRO:Hid (RegOk l):=hRO
 cases ao with
 | none =>
  exfalso
  obtain ⟨a,c,e,_,hh⟩:=(HIN.out w (Below.refl _ _)).sh
  obtain ⟨b,off,e2,_⟩:=hh (by omega)
  injection e with e1;rw[e2]at e1;cases e1
 | some ad =>
 have HEN:Hid (EndT (runZ (fun p=>decide (p=wa)) (eachL (lowL pc l)) (nwX (rgS T0) 34) (mw xs)) T0 (mw xs) l.length (stepsI (fun p=>decide (p=wa)) l T0 (mw xs))):=ends_told HT.out.2.2.1 HT.out.2.2.2.2.2 (low_run p0 p1 hRO HBD.out ⟨HT.out.1.r,HT.out.1.hi,HT.out.1.lo,HMB.out,HT.out.2.2.2.2.2⟩ HT.out.2.2.2.1 HT.out.2.2.2.2.1 HT.out.2.2.1)
 obtain ⟨LW,hLW⟩:∃ q,q=lowL pc l:=⟨_,rfl⟩
 rw[←hLW]at hWL hokL HEN
 have HLW:Hid (lowL pc l=LW):=hLW.symm
 have HWL:Hid (Well l.length LW):=hWL
 have HOK:Hid (∀ o∈LW,o.ok):=hokL
 have hl200:LW.length≤200:=hWL.len
 clear hRO hWL hokL hLW
 go_enter Tryz.func5,Tryz.ntmps5
 go_upto_region 1 with fail
 generalize w.alloc (.cells PA 50)=V at *
 have HP0:Hid (RowIs V w.heap.size 50 45 fP):=P0
 have HB0:Hid (Below w.heap.size w V):=B0
 clear P0 B0
 go_wp2_with fail
 refine hho.mono ?_
 rintro e w1 ⟨rfl,hb1⟩
 have B1:Hid (Below w.heap.size w w1):=HB0.out.trans (hb1.mono HB0.out.size)
 have P1:Hid (RowIs w1 w.heap.size 50 45 fP):=HP0.out.stays hb1
 have hl1:=hldp w1 P1.out
 clear hho hb1 HB0 HP0
 go_upto_region 4 with (first|(refine wpList_loadT 50 _ (by rfl) w.heap.size _ (by rfl) (by rfl) hl1 ?_)|(go_at_call 17;refine (hlp _).mono ?_;rintro e w2 ⟨rfl,hb2⟩;clear hl1))
 have B2:Hid (Below w.heap.size w w2):=B1.out.trans (hb2.mono B1.out.size)
 have P2:Hid (RowIs w2 w.heap.size 50 45 fP):=P1.out.stays hb2
 clear hb2 hlp B1 P1
 have hnews:∀ j u,(ixL l)[j]?=some u→w2.cell? (ad.add j)=some u:=ixL_news (HIN.out w2 B2.out)
 go_upto_region 6 with (first|(at_builtin;refine wpList_append_moved rfl _ _ 48 rfl w2.heap.size 113 i0 (.agg #[.int .i64 0,.int .i64 0,.int .i64 0,.int .i64 0,.int .u32 0]) 5 40 Tryz.underlying48 hi hz0 hz1 hz2 rfl (by decide) (.slice none 0 0) 0 [] rfl (World.ownsRow_nil _ _ _ _) ad l.length cap (ixL l) rfl (ixL_len l) hnews (ixL_one l) (by unfold maxLen;omega) (by omega) (Nat.le_refl _) ?_;intro v3 w3 ho hg hm;rw[Nat.zero_add,List.nil_append]at ho;have A3:Hid _:=ins_of_row ho HBD.out;have B3:Hid (Below w2.heap.size w2 w3):=⟨hg.os,hg.tape,hg.output,hg.size,fun k hk=>hg.block k hk (by intro e;cases e)⟩;clear ho hg hm hnews;obtain ⟨ao3,cap3,hv3,_⟩:=A3.out.sh;subst hv3)|(go_at_call 18;refine (lower_ok (HLV.out w3 (B2.out.trans (B3.out.mono B2.out.size))) A3.out pc p0 p1 none 0 0 hreg.out).mono ?_;rintro e w4 ⟨vc,rfl,hOC,hb4⟩;rw[HLW.out]at hOC;obtain ⟨ac,cc,hvc,_⟩:=hOC.sh;subst hvc))
 have SA:Below w2.heap.size w2 (w4.alloc (.cells #[.int .u32 pc,.int .i64 l.length,.slice ac LW.length cc] 54)):=(B3.out.trans (hb4.mono B3.out.size)).trans ((alloc_belowG _ _).mono (by have:=B3.out.size;have:=hb4.size;omega))
 have B5:Hid (Below w.heap.size w (w4.alloc (.cells #[.int .u32 pc,.int .i64 l.length,.slice ac LW.length cc] 54))):=B2.out.trans (SA.mono B2.out.size)
 have P5:Hid (RowIs (w4.alloc (.cells #[.int .u32 pc,.int .i64 l.length,.slice ac LW.length cc] 54)) w.heap.size 50 45 fP):=P2.out.stays SA
 have C5:Hid (CBox (w4.alloc (.cells #[.int .u32 pc,.int .i64 l.length,.slice ac LW.length cc] 54)) w4.heap.size pc l.length (.slice ac LW.length cc)):=⟨by simp,by simp,by simp⟩
 have OC5:Hid (OpsIn (w4.alloc (.cells #[.int .u32 pc,.int .i64 l.length,.slice ac LW.length cc] 54)) (.slice ac LW.length cc) LW):=hOC.stays (alloc_belowG _ _)
 have hwc:w.heap.size<w4.heap.size:=by have:=P2.out.lt;have:=B3.out.size;have:=hb4.size;omega
 clear SA hOC hb4 A3 B3 B2 P2
 generalize w4.alloc (.cells #[.int .u32 pc,.int .i64 l.length,.slice ac LW.length cc] 54)=W5 at *
 generalize w4.heap.size=cb at *
 have hre:=regionError_any HA.out (by omega) B5.out
 rw[hreg.out]at hre
 go_upto_region 7 with (go_at_call 19;refine hre.mono ?_;rintro e w6 ⟨rfl,hb6⟩)
 have B6:Hid (Below w.heap.size w w6):=B5.out.trans (hb6.mono B5.out.size)
 have P6:Hid (RowIs w6 w.heap.size 50 45 fP):=P5.out.stays hb6
 have C6:Hid (CBox w6 cb pc l.length (.slice ac LW.length cc)):=C5.out.stays hb6
 have OC6:Hid (OpsIn w6 (.slice ac LW.length cc) LW):=OC5.out.stays hb6
 clear hre hb6 B5 P5 C5 OC5
 obtain ⟨x0,x1,x2⟩:=C6.out
 have hcb:=C6.out.lt
 have hcf:=codeFault_any OC6.out (by omega) l.length (by omega) (by omega)
 rw[codeF_well.2 HWL.out]at hcf
 have ff:=fault_field (.int .i64 0) (.int .i64 (-1))
 go_upto_region 11 with (go_at_call 21;refine hcf.mono ?_;rintro e w7 ⟨rfl,hb7⟩)
 have B9:Hid (Below w.heap.size w w7):=B6.out.trans (hb7.mono B6.out.size)
 have P9:Hid (RowIs w7 w.heap.size 50 45 fP):=P6.out.stays hb7
 have C9:Hid (CBox w7 cb pc l.length (.slice ac LW.length cc)):=C6.out.stays hb7
 have OC9:Hid (OpsIn w7 (.slice ac LW.length cc) LW):=OC6.out.stays hb7
 have hc7:cb<w7.heap.size:=C9.out.lt
 clear hcf hb7 B6 P6 C6 OC6 x0 x1 x2 hcb
 have hl9:=hldp w7 P9.out
 go_upto_region 12 with (first|(refine wpList_loadT 50 _ (by rfl) w.heap.size _ (by rfl) (by rfl) hl9 ?_)|(go_at_call 22;refine (hpla _).mono ?_;rintro e wc ⟨rfl,hbc⟩;clear hl9)|(refine wpList_allocSt rfl rfl ?_)|(refine wpList_storeSt rfl _ _ rfl (stA zS) (stA T0) rfl rfl (stA_size _) (stA_size _) (stA_one _) ?_))
 have SD:Below w7.heap.size w7 (wc.alloc (.cells (stA T0) 25)):=hbc.trans ((alloc_belowG _ _).mono hbc.size)
 have BD:Hid (Below w.heap.size w (wc.alloc (.cells (stA T0) 25))):=B9.out.trans (SD.mono B9.out.size)
 have PD:Hid (RowIs (wc.alloc (.cells (stA T0) 25)) w.heap.size 50 45 fP):=P9.out.stays SD
 have CD:Hid (CBox (wc.alloc (.cells (stA T0) 25)) cb pc l.length (.slice ac LW.length cc)):=C9.out.stays SD
 have OCD:Hid (OpsIn (wc.alloc (.cells (stA T0) 25)) (.slice ac LW.length cc) LW):=OC9.out.stays SD
 have S1D:Hid (StRow (wc.alloc (.cells (stA T0) 25)) wc.heap.size T0):=st_rowG wc T0
 have hs1:cb<wc.heap.size:=by have:=hbc.size;omega
 clear hpla hbc SD hc7
 clear B9 P9 C9 OC9
 generalize wc.alloc (.cells (stA T0) 25)=WD at *
 generalize wc.heap.size=s1 at *
 have hq1:s1<WD.heap.size:=S1D.out.lt
 have lk:=load_st S1D.out.at
 go_upto_region 13 with (first|(refine wpList_loadT 25 _ (by rfl) s1 _ (by rfl) (by rfl) lk ?_)|(refine wpList_allocSt rfl rfl ?_)|(refine wpList_storeSt rfl _ _ rfl (stA zS) (stA T0) rfl rfl (stA_size _) (stA_size _) (stA_one _) ?_))
 have SG:Below WD.heap.size WD (WD.alloc (.cells (stA T0) 25)):=alloc_belowG _ _
 have BG:Hid (Below w.heap.size w (WD.alloc (.cells (stA T0) 25))):=BD.out.trans (SG.mono BD.out.size)
 have PG:Hid (RowIs (WD.alloc (.cells (stA T0) 25)) w.heap.size 50 45 fP):=PD.out.stays SG
 have CG:Hid (CBox (WD.alloc (.cells (stA T0) 25)) cb pc l.length (.slice ac LW.length cc)):=CD.out.stays SG
 have OCG:Hid (OpsIn (WD.alloc (.cells (stA T0) 25)) (.slice ac LW.length cc) LW):=OCD.out.stays SG
 have S1G:Hid (StRow (WD.alloc (.cells (stA T0) 25)) s1 T0):=S1D.out.stays SG
 have S2G:Hid (StRow (WD.alloc (.cells (stA T0) 25)) WD.heap.size T0):=st_rowG WD T0
 clear lk SG
 clear BD PD CD OCD S1D
 generalize WD.alloc (.cells (stA T0) 25)=WG at *
 generalize WD.heap.size=s2 at *
 have hq2:s2<WG.heap.size:=S2G.out.lt
 have lk:=load_st S1G.out.at
 go_upto_region 14 with (first|(refine wpList_loadT 25 _ (by rfl) s1 _ (by rfl) (by rfl) lk ?_)|(refine wpList_allocSt rfl rfl ?_)|(refine wpList_storeSt rfl _ _ rfl (stA zS) (stA T0) rfl rfl (stA_size _) (stA_size _) (stA_one _) ?_))
 have SE:Below WG.heap.size WG (WG.alloc (.cells (stA T0) 25)):=alloc_belowG _ _
 have BE:Hid (Below w.heap.size w (WG.alloc (.cells (stA T0) 25))):=BG.out.trans (SE.mono BG.out.size)
 have PE:Hid (RowIs (WG.alloc (.cells (stA T0) 25)) w.heap.size 50 45 fP):=PG.out.stays SE
 have CE:Hid (CBox (WG.alloc (.cells (stA T0) 25)) cb pc l.length (.slice ac LW.length cc)):=CG.out.stays SE
 have OCE:Hid (OpsIn (WG.alloc (.cells (stA T0) 25)) (.slice ac LW.length cc) LW):=OCG.out.stays SE
 have S1E:Hid (StRow (WG.alloc (.cells (stA T0) 25)) s1 T0):=S1G.out.stays SE
 have S2E:Hid (StRow (WG.alloc (.cells (stA T0) 25)) s2 T0):=S2G.out.stays SE
 have S3E:Hid (StRow (WG.alloc (.cells (stA T0) 25)) WG.heap.size T0):=st_rowG WG T0
 clear lk SE
 clear BG PG CG OCG S1G S2G
 generalize WG.alloc (.cells (stA T0) 25)=WE at *
 generalize WG.heap.size=s3 at *
 have hq3:s3<WE.heap.size:=S3E.out.lt
 have hlE:=hldp WE PE.out
 have hme:=HMO.out WE BE.out
 go_upto_region 15 with (first|(refine wpList_loadT 50 _ (by rfl) w.heap.size _ (by rfl) (by rfl) hlE ?_)|(go_at_call 23;refine hme.mono ?_;rintro e wh ⟨r1,g1,k1,h1,rfl,hD1,hbh,a1,a2,a3,a4⟩;clear hlE))
 have BH:Hid (Below w.heap.size w wh):=BE.out.trans (hbh.mono BE.out.size)
 have PH:Hid (RowIs wh w.heap.size 50 45 fP):=PE.out.stays hbh
 have CH:Hid (CBox wh cb pc l.length (.slice ac LW.length cc)):=CE.out.stays hbh
 have OCH:Hid (OpsIn wh (.slice ac LW.length cc) LW):=OCE.out.stays hbh
 have S1H:Hid (StRow wh s1 T0):=S1E.out.stays hbh
 have S2H:Hid (StRow wh s2 T0):=S2E.out.stays hbh
 have S3H:Hid (StRow wh s3 T0):=S3E.out.stays hbh
 have D1H:Hid (DMem wh r1 g1 k1 h1 (mw xs) (fun p=>decide (p=wa)) (fun _=>false)):=hD1
 have hlH:=hD1.hlt
 have hsh:=hbh.size
 clear hme hbh hD1
 clear BE PE CE OCE S1E S2E S3E
 have hlH2:=hldp wh PH.out
 have hmo:=HMO.out wh BH.out
 go_upto_region 16 with (first|(refine wpList_loadT 50 _ (by rfl) w.heap.size _ (by rfl) (by rfl) hlH2 ?_)|(go_at_call 23;refine hmo.mono ?_;rintro e wi ⟨r2,g2,k2,h2,rfl,hD2,hbi,d1,d2,d3,d4⟩;clear hlH2))
 have BI:Hid (Below w.heap.size w wi):=BH.out.trans (hbi.mono BH.out.size)
 have CI:Hid (CBox wi cb pc l.length (.slice ac LW.length cc)):=CH.out.stays hbi
 have OCI:Hid (OpsIn wi (.slice ac LW.length cc) LW):=OCH.out.stays hbi
 have S1I:Hid (StRow wi s1 T0):=S1H.out.stays hbi
 have S2I:Hid (StRow wi s2 T0):=S2H.out.stays hbi
 have S3I:Hid (StRow wi s3 T0):=S3H.out.stays hbi
 have D1I:Hid (DMem wi r1 g1 k1 h1 (mw xs) (fun p=>decide (p=wa)) (fun _=>false)):=D1H.out.stays hbi
 have D2I:Hid (DMem wi r2 g2 k2 h2 (mw xs) (fun p=>decide (p=wa)) (fun _=>false)):=hD2
 have hlI:=hD2.hlt
 have hsi:=hbi.size
 clear hmo hbi hD2 PH hldp HMO
 clear BH CH OCH S1H S2H S3H D1H
 obtain ⟨x0,x1,x2⟩:=CI.out
 have hx6:=CI.out.lt
 have hev:=evalOf_any D1I.out s1 T0 S1I.out HT.out.1 (by rw[HT.out.2.1];exact ct0) (by rw[HT.out.2.1];exact ct1) (by omega) (by omega) OCI.out (by omega) (few_each (by omega)) l.length (by omega) (by omega) (fun o ho=>wellL_mem HWL.out.ops o ho)
 obtain ⟨OA,hOA⟩:∃ OO,runZ (fun p=>decide (p=wa)) (eachL LW) (nwX (rgS T0) 34) (mw xs)=OO:=⟨_,rfl⟩
 rw[hOA]at hev
 rw[hOA]at HEN
 clear hOA
 go_wp2_with fail
 refine hev.mono ?_
 rintro e wj ⟨rfl,hRn⟩
 have hHB:Below w.heap.size w wj:=hRn.below BI.out (by omega) (by omega)
 have bkj:∀ k,k<wi.heap.size→k≠s1→k≠r1→wj.heap[k]?=wi.heap[k]?:=hRn.bk
 have hsj:=hRn.sz
 obtain ⟨ga,ga1,ga2,ga3⟩:=hRn.wd
 have hs2l:=S2I.out.lt
 have hs3l:=S3I.out.lt
 have SK:Below wj.heap.size wj (wj.alloc (.cells #[.bool (ozT OA),.int .i64 (ozA OA),.bool (ozF OA)] 68)):=alloc_belowG _ _
 have BK:Hid (Below w.heap.size w (wj.alloc (.cells #[.bool (ozT OA),.int .i64 (ozA OA),.bool (ozF OA)] 68))):=hHB.trans (SK.mono hHB.size)
 have S1K:Hid (StRow (wj.alloc (.cells #[.bool (ozT OA),.int .i64 (ozA OA),.bool (ozF OA)] 68)) s1 (ozS T0 l.length OA)):=hRn.st.stays SK
 have S2K:Hid (StRow (wj.alloc (.cells #[.bool (ozT OA),.int .i64 (ozA OA),.bool (ozF OA)] 68)) s2 T0):=(S2I.out.block (bkj s2 (by omega) (by omega) (by omega))).stays SK
 have S3K:Hid (StRow (wj.alloc (.cells #[.bool (ozT OA),.int .i64 (ozA OA),.bool (ozF OA)] 68)) s3 T0):=(S3I.out.block (bkj s3 (by omega) (by omega) (by omega))).stays SK
 have hgl:=World.block_lt_of_cell? _ _ (ga3 0 (by omega))
 have hgl':ga<wj.heap.size:=hgl
 have ka1:(wj.alloc (.cells #[.bool (ozT OA),.int .i64 (ozA OA),.bool (ozF OA)] 68)).cell? ⟨r1,0,none⟩=some (.slice (some ⟨ga,0,none⟩) 4096 4096):=(SK.cell (p:=⟨r1,0,none⟩) (World.block_lt_of_cell? _ _ ga1)).trans ga1
 have KA3:Hid (∀ i,i<4096→(wj.alloc (.cells #[.bool (ozT OA),.int .i64 (ozA OA),.bool (ozF OA)] 68)).cell? ⟨ga,i,none⟩=some (.int .u32 (ozM (mw xs) OA i))):=fun i hi=>(SK.cell (p:=⟨ga,i,none⟩) (World.block_lt_of_cell? _ _ (ga3 i hi))).trans (ga3 i hi)
 have D2K:Hid (DMem (wj.alloc (.cells #[.bool (ozT OA),.int .i64 (ozA OA),.bool (ozF OA)] 68)) r2 g2 k2 h2 (mw xs) (fun p=>decide (p=wa)) (fun _=>false)):=(D2I.out.blocksP (fun k hk=>bkj k (by omega) (by omega) (by omega))).stays SK
 have ek0:(wj.alloc (.cells #[.bool (ozT OA),.int .i64 (ozA OA),.bool (ozF OA)] 68)).cell? ⟨wj.heap.size,0,none⟩=some (.bool (ozT OA)):=by simp
 clear hev hRn hHB bkj SK BI CI OCI S1I S2I S3I D1I D2I x0 x1 x2 hx6 ga1 ga3 hgl
 go_upto_region 17 with fail
 generalize wj.alloc (.cells #[.bool (ozT OA),.int .i64 (ozA OA),.bool (ozF OA)] 68)=WK at *
 generalize hej:wj.heap.size=eb at *
 have hek:=World.block_lt_of_cell? _ _ ek0
 have hst:=stepsOf_any HA.out HRO.out BK.out S2K.out.at HT.out.1 HT.out.2.2.2.2.2 (by rw[HT.out.2.1];exact ct1) D2K.out (by omega) (by omega) (by omega) (by omega) (by omega) (by omega) (by omega)
 have HEN2:=HEN.out
 clear HEN
 cases hRR:stepsI (fun p=>decide (p=wa)) l T0 (mw xs) with
 | none =>
  rw[hRR]at hst HEN2
  obtain ⟨ht,hsa⟩:=HEN2
  rw[ht]at ek0
  go_wp2_with fail
  refine hst.mono ?_
  rintro e wm ⟨rfl,hK⟩
  have BM:Hid (Below w.heap.size w wm):=hK.belowL BK.out (fun k hk=>by rcases hk with rfl|rfl|rfl<;>omega)
  have em0:wm.cell? ⟨eb,0,none⟩=some (.bool true):=(World.cell?_of_block (a:=⟨eb,0,none⟩) (hK.block eb hek (by omega))).trans ek0
  have lk1:=load_st (S1K.out.at.block (hK.block s1 (S1K.out.lt) (by omega)))
  have lk3:=load_st (S3K.out.at.block (hK.block s3 (S3K.out.lt) (by omega)))
  rw[hsa]at lk1
  clear hst hK BK S1K S2K S3K D2K KA3 ka1 ek0
  go_upto_region 19 with fail
  go_wp2_with (first|(refine wpList_loadT 25 _ (by rfl) s1 _ (by rfl) (by rfl) lk1 ?_)|(refine wpList_loadT 25 _ (by rfl) s3 _ (by rfl) (by rfl) lk3 ?_)|(refine wpList_execV (.bool true) (by rfl) (exec_eq rfl rfl rfl _ (eq_st T0 _)) ?_))
  go_ret
  exact ⟨rfl,BM.out⟩
 | some TP =>
  obtain ⟨T',p⟩:=TP
  rw[hRR]at hst HEN2
  obtain ⟨ht,hsa,hmp⟩:=HEN2
  rw[ht]at ek0
  rw[hmp]at KA3
  go_wp2_with fail
  refine hst.mono ?_
  rintro e wm ⟨⟨rfl,hS2,hD2⟩,hK⟩
  have BM:Hid (Below w.heap.size w wm):=hK.belowL BK.out (fun k hk=>by rcases hk with rfl|rfl|rfl<;>omega)
  have em0:wm.cell? ⟨eb,0,none⟩=some (.bool false):=(World.cell?_of_block (a:=⟨eb,0,none⟩) (hK.block eb hek (by omega))).trans ek0
  have hr1:=World.block_lt_of_cell? _ _ ka1
  have hga:=World.block_lt_of_cell? _ _ (KA3.out 0 (by omega))
  have A8:=(World.cell?_of_block (a:=⟨r1,0,none⟩) (hK.block r1 hr1 (by omega))).trans ka1
  have WA8:∀ i,i<4096→wm.cell? ⟨ga,i,none⟩=some (.int .u32 (p i)):=fun i hi=>(World.cell?_of_block (a:=⟨ga,i,none⟩) (hK.block ga hga (by omega))).trans (KA3.out i hi)
  have hal:=alikeD_any (w:=wm.drew) (n:=4096) WA8 (fun i hi=>hD2.d.cell i hi) (by omega)
  have ck:CkL wm.drew eb s1 s2 r1 r2 ga g2 (ozS T0 l.length OA) T':=⟨em0,A8,hD2.d.c0,(S1K.out.at.block (hK.block s1 S1K.out.lt (by omega))).drew,hS2.drew⟩
  have HAA:Hid (stA (ozS T0 l.length OA)=stA T'):=hsa
  clear hst hK BK S1K S2K S3K D2K KA3 ka1 ek0 hS2 hD2 A8 WA8 em0 hr1 hga hsa
  go_upto_region 20 with fail
  generalize ozS T0 l.length OA=F1 at *
  refine zP 21 [(0,0),(1,1),(2,0),(3,0),(4,1),(5,1),(6,0),(7,0),(8,0),(9,0),(10,0),(11,0),(12,1),(13,0),(14,0),(15,0),(16,1),(17,2),(18,0),(19,0),(20,0)] (fun W=>CkL W eb s1 s2 r1 r2 ga g2 F1 T') (by kernel_rfl) (by kernel_rfl) (fun _ _ _ d _ h=>by cases d<;>exact h) ck ?_
  refine zF (by rfl) (by rfl) (fun W=>by (go_simp;try with_reducible rfl)) (fun K hK=>?_);go_simp;refine hK _ ?_;clear hK K
  refine zQ (by rfl) (by rfl) (fun W hW=>by (obtain ⟨s0,s1,s2,_,_⟩:=hW;go_simp;try with_reducible rfl)) (fun K hK=>?_);go_simp;refine hK _ ?_;clear hK K
  refine zF (by rfl) (by rfl) (fun W=>by (go_simp;try with_reducible rfl)) (fun K hK=>?_);go_simp;refine hK _ ?_;clear hK K
  refine zF (by rfl) (by rfl) (fun W=>by (go_simp;try with_reducible rfl)) (fun K hK=>?_);go_simp;refine hK _ ?_;clear hK K
  refine zQ (v:=.agg (stA F1)) (by rfl) (by rfl) (fun W hW=>exec_load rfl rfl W (load_st hW.x)) (fun K hK=>?_);go_simp;refine hK _ ?_;clear hK K
  refine zQ (v:=.agg (stA F1)) (by rfl) (by rfl) (fun W hW=>exec_load rfl rfl W (by rw[HAA.out];exact load_st hW.y)) (fun K hK=>?_);go_simp;refine hK _ ?_;clear hK K
  refine zF (v:=.bool true) (by rfl) (by rfl) (fun W=>exec_eq rfl rfl rfl W (eq_st F1 W)) (fun K hK=>?_);go_simp;refine hK _ ?_;clear hK K
  refine zF (by rfl) (by rfl) (fun W=>by (go_simp;try with_reducible rfl)) (fun K hK=>?_);go_simp;refine hK _ ?_;clear hK K
  refine zF (by rfl) (by rfl) (fun W=>by (go_simp;try with_reducible rfl)) (fun K hK=>?_);go_simp;refine hK _ ?_;clear hK K
  refine zF (by rfl) (by rfl) (fun W=>by (go_simp;try with_reducible rfl)) (fun K hK=>?_);go_simp;refine hK _ ?_;clear hK K
  refine zF (by rfl) (by rfl) (fun W=>by (go_simp;try with_reducible rfl)) (fun K hK=>?_);go_simp;refine hK _ ?_;clear hK K
  refine zF (by rfl) (by rfl) (fun W=>by (go_simp;try with_reducible rfl)) (fun K hK=>?_);go_simp;refine hK _ ?_;clear hK K
  refine zQ (by rfl) (by rfl) (fun W hW=>by (obtain ⟨s0,s1,s2,_,_⟩:=hW;go_simp;try with_reducible rfl)) (fun K hK=>?_);go_simp;refine hK _ ?_;clear hK K
  refine zF (by rfl) (by rfl) (fun W=>by (go_simp;try with_reducible rfl)) (fun K hK=>?_);go_simp;refine hK _ ?_;clear hK K
  refine zF (by rfl) (by rfl) (fun W=>by (go_simp;try with_reducible rfl)) (fun K hK=>?_);go_simp;refine hK _ ?_;clear hK K
  refine zF (by rfl) (by rfl) (fun W=>by (go_simp;try with_reducible rfl)) (fun K hK=>?_);go_simp;refine hK _ ?_;clear hK K
  refine zQ (by rfl) (by rfl) (fun W hW=>by (obtain ⟨s0,s1,s2,_,_⟩:=hW;go_simp;try with_reducible rfl)) (fun K hK=>?_);go_simp;refine hK _ ?_;clear hK K
  refine zSr (by rfl) (by rfl) (fun K hK=>?_)
  go_simp
  refine hal.mono ?_
  rintro e w9 ⟨rfl,hb9⟩
  have HB9:Hid (Below w.heap.size w w9):=BM.out.drew.trans (hb9.mono BM.out.size)
  refine hK _ _ (fun _=>ck.stays hb9) ?_
  clear hK K hal hb9 ck
  refine zF (by rfl) (by rfl) (fun W=>by (go_simp;try with_reducible rfl)) (fun K hK=>?_);go_simp;refine hK _ ?_;clear hK K
  refine zF (by rfl) (by rfl) (fun W=>by (go_simp;try with_reducible rfl)) (fun K hK=>?_);go_simp;refine hK _ ?_;clear hK K
  refine zF (by rfl) (by rfl) (fun W=>by (go_simp;try with_reducible rfl)) (fun K hK=>?_);go_simp;refine hK _ ?_;clear hK K
  refine zN ?_
  go_wp2
  go_ret
  exact ⟨rfl,HB9.out⟩
theorem lowerEnds_any (S:Nat→Addr) {w:World} (EE:Errs S w) (LV:Lv (peS S) w) (T:St) (ok:0≤T.ct→T.ct≤1099511627776→T.ok) {v:Value} {l:List Ix} (A:InsIn w v l) {vw:Value} {xs:List Int} (X:WordsIn w vw xs) (wa pc:Int) (p0:0≤pc) (p1:pc<4294967296) :
  Calls Tryz.prog 5 #[.int .u32 pc,v,.agg (plA T vw wa)] w fun e w'=>e=.returned (.bool true)∧Below w.heap.size w w':=by
 by_cases hL:30<l.length∨(decide (200<(xs.length:Int))||decide (T.ct<0)||decide (1099511627776<T.ct))=true
 ·obtain ⟨ao,cap,rfl,_⟩:=A.sh
  exact LeL_any (peS S) LV T ao l.length cap X wa pc hL
 ·have hb:¬ (decide (200<(xs.length:Int))||decide (T.ct<0)||decide (1099511627776<T.ct))=true:=fun h=>hL (.inr h)
  simp only[Bool.or_eq_true,decide_eq_true_eq,not_or]at hb
  have h30:l.length≤30:=by
   by_cases h:30<l.length
   ·exact absurd (.inl h) hL
   ·omega
  have c0:0≤T.ct:=by omega
  have c1:T.ct≤1099511627776:=by omega
  by_cases hR:regE l=0
  ·exact LeK_any S LV EE T (ok c0 c1) c0 c1 A h30 X (by omega) wa pc p0 p1 hR
  ·exact LeE_any S LV EE T (ok c0 c1) c0 c1 A h30 X (by omega) wa pc p0 p1 hR
end Go.Proofs.YtflagpkmebdckaaGreatDoor
