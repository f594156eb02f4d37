
import Derived.Deep.Cut
import Derived.Lib.LaidU8
import Derived.Test.YtflagpkmebdckaaGreatDoorQLaid
import Derived.Test.YtflagpkmebdckaaGreatDoorQIrChk
import Derived.Test.YtflagpkmebdckaaGreatDoorKLowPure
import Derived.Test.YtflagpkmebdckaaGreatDoorKMk5
import Derived.Test.YtflagpkmebdckaaGreatDoorKKKinds
namespace Go.Proofs.YtflagpkmebdckaaGreatDoor.Low
open Go.RowKit Go.Maps
open Num
set_option linter.unusedVariables false
set_option maxRecDepth 100000
set_option maxHeartbeats 8000000
def ixC (i:Ix):List Value:=[.int .i64 i.k,.int .i64 i.s,.int .i64 i.t,.int .i64 i.d,.int .u32 i.m]
structure InsIn (w:World) (v:Value) (l:List Ix):Prop where
 sh:∃ ao cap,v=.slice ao l.length cap∧l.length≤cap∧(0<l.length→∃ b off:Nat,ao=some ⟨b,off,none⟩∧∀ (i:Nat) (o:Ix),l[i]?=some o→∀ (j:Nat) (u:Value),(ixC o)[j]?=some u→w.cell? ⟨b,off+i*5+j,none⟩=some u)
 bd:∀ o∈l,o.bd
theorem InsIn.stays {w w':World} {v:Value} {l:List Ix} (A:InsIn w v l) {B:Nat} (h:Below B w w') (hB:w.heap.size≤B):InsIn w' v l:=by
 obtain ⟨ao,cap,rfl,hc,hh⟩:=A.sh
 refine ⟨⟨ao,cap,rfl,hc,fun hp=>?_⟩,A.bd⟩
 obtain ⟨b,off,rfl,hcell⟩:=hh hp
 exact ⟨b,off,rfl,fun i o hi j u hj=>by have:=hcell i o hi j u hj;rw[h.cell (Nat.lt_of_lt_of_le (World.block_lt_of_cell? _ _ this) hB)];exact this⟩
theorem ix_cells {w:World} {b off:Nat} {o:Ix} (h:∀ (j:Nat) (u:Value),(ixC o)[j]?=some u→w.cell? ⟨b,off+j,none⟩=some u):w.cell? ⟨b,off,none⟩=some (.int .i64 o.k)∧w.cell? ⟨b,off+1,none⟩=some (.int .i64 o.s)∧w.cell? ⟨b,off+2,none⟩=some (.int .i64 o.t)∧w.cell? ⟨b,off+3,none⟩=some (.int .i64 o.d)∧w.cell? ⟨b,off+4,none⟩=some (.int .u32 o.m) :=
 ⟨h 0 _ rfl,h 1 _ rfl,h 2 _ rfl,h 3 _ rfl,h 4 _ rfl⟩
structure Lv (pe:Nat→Addr) (w:World):Prop where
 e:Eg pe w
 n:w.cell? ⟨4,0,none⟩=some (.iface 332 (.pointer (some (pe 6))))
 t:K.Tb (pe 4) (pe 2) w
theorem Lv.stays {pe:Nat→Addr} {w w':World} (V:Lv pe w) {B:Nat} (h:Below B w w') (hB:w.heap.size≤B):Lv pe w' :=
 ⟨V.e.stays (h.mono hB),K.cell_stays h hB V.n,V.t.stays h hB⟩
theorem encI {pe:Nat→Addr} {w:World} (V:Lv pe w) (i:Ix) (b:i.bd):Calls Tryz.prog 105 #[.agg #[.int .i64 i.k,.int .i64 i.s,.int .i64 i.t,.int .i64 i.d,.int .u32 i.m]] w fun e w'=>(∃ x ev,e=.returned (.tuple #[.int .u32 x,ev])∧(i.wordB=true→ev=.nilIface)∧(i.wordB=false→∃ p,ev=.iface 332 (.pointer (some p))))∧Below w.heap.size w w':=by
 by_cases h:0<i.k∧i.k<54
 ·have hk:(i.n:Int)=i.k:=by unfold Ix.n;omega
  have hc:=K.encode_any (pe 4) (pe 2) i.n (by unfold Ix.n;omega) (by unfold Ix.n;omega) i.s i.t i.d i.m b.m0 b.m1 b.s0 b.s1 b.t0 b.t1 b.d0 b.d1 w V.t
  rw[hk]at hc
  refine hc.mono ?_
  rintro e w' ⟨rfl,hb⟩
  refine ⟨?_,hb⟩
  cases ho:Tab.okB (Tab.sh i.n) i.s i.t i.d i.m with
  | true=>rw[K.encR_ok ho];exact ⟨_,_,rfl,fun _=>rfl,fun hw=>by unfold Ix.wordB at hw;rw[ho]at hw;simp at hw;omega⟩
  | false=>rw[K.encR_bad ho];exact ⟨_,_,rfl,fun hw=>by unfold Ix.wordB at hw;rw[ho]at hw;simp at hw,fun _=>⟨_,rfl⟩⟩
 ·refine (K.encode_kind (pe 4) (pe 2) i.k i.s i.t i.d i.m h w V.t).mono ?_
  rintro e w' ⟨rfl,hb⟩
  exact ⟨⟨_,_,rfl,fun hw=>by unfold Ix.wordB at hw;simp at hw;omega,fun _=>⟨_,rfl⟩⟩,hb⟩
theorem kdI (i:Ix) (w:World):Calls Tryz.prog 91 #[.int .i64 i.k] w fun e w'=>e=.returned (.string ⟨(Tab.kwL.getD i.kd []).toArray⟩)∧w'=w:=by
 have h:=K.kind_any i.k w
 have e:K.kindI i.k=Tab.kwL.getD i.kd []:=by
  unfold K.kindI Ix.kd
  by_cases h:0≤i.k∧i.k<54
  ·rw[if_pos h,if_pos h];rfl
  ·rw[if_neg h,if_neg h];rfl
 rw[e]at h;exact h
theorem kd_le (i:Ix):i.kd=0∨i.kd=1∨i.kd=2∨i.kd=3∨i.kd=4∨i.kd=5:=by
 have h:∀ k,k<54→Tab.kdL.getD k 0=1∨Tab.kdL.getD k 0=2∨Tab.kdL.getD k 0=3∨Tab.kdL.getD k 0=4∨Tab.kdL.getD k 0=5:=by decide
 unfold Ix.kd
 split
 ·exact .inr (h _ (by unfold Ix.n;omega))
 ·exact .inl rfl
theorem stI_snoc {l:List Ix} {j:Nat} {x:Ix} (h:l[j]?=some x):stI (l.take (j+1))=stI (l.take j)+(if x.kd=5 then 1 else 0):=by
 rw[List.take_add_one,h,stI_app];simp[stI]
theorem drop_at {l:List Ix} {j:Nat} {x:Ix} (h:l[j]?=some x):l.drop j=x :: l.drop (j+1):=by
 obtain ⟨h1,rfl⟩:=List.getElem?_eq_some_iff.1 h
 rw[List.drop_eq_getElem_cons h1]
theorem checkRegion_any {pe:Nat→Addr} {w:World} (V:Lv pe w) {v:Value} {l:List Ix} (A:InsIn w v l) (hl:(l.length:Int)≤9223372036854775807) (pc:Int) (q:Option Addr) (l2 c2:Nat) :
  Calls Tryz.prog 57 #[.agg #[.int .u32 pc,v,.slice q l2 c2]] w fun e w'=>e=.returned (erV pe (regE l))∧Below w.heap.size w w':=by
 have hA:Below w.heap.size w (w.alloc (.cells #[.int .u32 pc,v,.slice q l2 c2] 59)):=(Below.refl _ _).alloc (Nat.le_refl _) _
 have bds:=A.bd
 obtain ⟨ao,cap,rfl,hcap,hh⟩:=A.sh
 have VA:Hid _:=V.stays hA (Nat.le_refl _)
 have n6:=VA.out.n
 have n2:=VA.out.e.e2
 have n4:=VA.out.e.e4
 have HBD:Hid _:=bds
 have HH:Hid (0<l.length→∃ b off:Nat,ao=some ⟨b,off,none⟩∧∀ (i:Nat) (o:Ix),l[i]?=some o→∀ (j:Nat) (u:Value),(ixC o)[j]?=some u→w.cell? ⟨b,off+i*5+j,none⟩=some u):=hh
 have VW:Hid _:=V
 have hAH:Hid _:=hA
 have r1:(w.alloc (.cells #[.int .u32 pc,.slice ao l.length cap,.slice q l2 c2] 59)).cell? ⟨w.heap.size,1,none⟩=some (.slice ao l.length cap):=by simp
 clear hh A V hA bds
 generalize hW:w.alloc (.cells #[.int .u32 pc,.slice ao l.length cap,.slice q l2 c2] 59)=W0 at *
 by_cases h0:l.length=0
 ·have e:regE l=6:=by unfold regE;rw[if_pos h0]
  rw[e]
  have h0':((l.length:Int)==0)=true:=by simp[h0]
  clear h0
  go_enter Tryz.func57,Tryz.ntmps57
  go_wp2
  go_ret
  exact ⟨rfl,hAH.out⟩
 have h0':((l.length:Int)==0)=false:=by simp;intro e;rw[e]at h0;exact h0 rfl
 by_cases h24:24<l.length
 ·have e:regE l=2:=by unfold regE;rw[if_neg h0,if_pos h24]
  rw[e]
  have h24':decide ((24:Int)<l.length)=true:=by simp;omega
  go_enter Tryz.func57,Tryz.ntmps57
  go_wp2
  go_ret
  exact ⟨rfl,hAH.out⟩
 have h24':decide ((24:Int)<l.length)=false:=by simp;omega
 have he:regE l=if regB l.length 0 0 l=true then 0 else 4:=by unfold regE;rw[if_neg h0,if_neg h24]
 rw[he]
 generalize hE:(if regB l.length 0 0 l=true then (0:Nat) else 4)=E
 have HE:Hid _:=hE
 clear hE
 have hle:(l.length:Int)≤24:=by omega
 clear he
 go_enter Tryz.func57,Tryz.ntmps57
 go_upto_region 1 with fail
 clear hW
 generalize w.heap.size=rb at r1 ⊢
 go_wp2
 clear n2 n6 n4 r1
 go_loopw [4,24] (fun st i wr=>∃ j:Nat,j≤l.length∧i=.int .i64 j∧st=.int .i64 (stI (l.take j))∧stI (l.take j)≤8∧regB l.length 0 0 l=regB l.length j (stI (l.take j)) (l.drop j)∧Below w.heap.size w wr) (fun _ i _=>l.length-(intOf i).toNat)
 case atStart=>exact ⟨0,Nat.zero_le _,rfl,rfl,by simp[stI],rfl,hAH.out⟩
 case round =>
  obtain ⟨j,hj,rfl,rfl,hst,hreg,hB⟩:=hrel
  by_cases hlt:j<l.length
  ·have ho:l[j]?=some l[j]:=List.getElem?_eq_getElem hlt
   obtain ⟨b,off,rfl,hcell⟩:=HH.out (by omega)
   obtain ⟨x0,x1,x2,x3,x4⟩:=ix_cells (w:=wr) (fun k u hk=>by rw[hB.cell (World.block_lt_of_cell? _ _ (hcell j _ ho k u hk))];exact hcell j _ ho k u hk)
   have hbx:=HBD.out l[j] (List.getElem_mem hlt)
   have HST:Hid _:=stI_snoc ho
   have HRG:Hid (regB l.length 0 0 l=(insB l.length j l[j]&&decide (stI (l.take j)+(if l[j].kd=5 then 1 else 0)≤8)&&regB l.length (j+1) (stI (l.take j)+(if l[j].kd=5 then 1 else 0)) (l.drop (j+1)))):=by
    show _=_
    rw[hreg,drop_at ho];rfl
   have HBr:Hid (Below w.heap.size w wr):=hB
   have hsz:=hB.size
   have hlt':(j:Int)<l.length:=by omega
   have n4:=(VW.out.stays hB (Nat.le_refl _)).e.e4
   have hz5:5<wr.heap.size:=World.block_lt_of_cell? _ _ n4
   have hki:=fun W=>kdI l[j] W
   have hkd:=kd_le l[j]
   have hins:Hid (insB l.length j l[j]=(l[j].wordB&&decide (l[j].kd≠3)&&(decide (l[j].kd≠2)||decide (j+2=l.length)))):=rfl
   have hsi:(stI (l.take j):Int)≤8:=by omega
   clear ho hcell hreg hB
   generalize l[j]=x at *
   obtain ⟨k,s,t,d,m⟩:=x
   have hbxH:Hid _:=hbx
   generalize hkk:Ix.kd ⟨k,s,t,d,m⟩=kd at *
   generalize hww:Ix.wordB ⟨k,s,t,d,m⟩=wb at *
   generalize hsg:stI (l.take j)=st at *
   generalize insB l.length j ⟨k,s,t,d,m⟩=ib at *
   simp only at x0 x1 x2 x3 x4 hki
   clear hbx
   rcases hkd with rfl|rfl|rfl|rfl|rfl|rfl
   ·rw[show Tab.kwL.getD 0 []=[] from rfl]at hki
    go_wp2_with fail
    refine (hki _).mono ?_
    rintro e wk ⟨rfl,hwk⟩
    rw[hwk];clear hwk wk
    go_wp2_with fail
    refine (encI (w:=wr.alloc (.cells #[.int .i64 k,.int .i64 s,.int .i64 t,.int .i64 d,.int .u32 m] 113)) (VW.out.stays (HBr.out.alloc hsz _) (Nat.le_refl _)) ⟨k,s,t,d,m⟩ hbxH.out).mono ?_
    rintro e W2 ⟨⟨ex,ev,rfl,hyes,hno⟩,hb2⟩
    have HB2:Hid (Below w.heap.size w W2):=(HBr.out.alloc hsz _).trans (hb2.mono (by simp;omega))
    have n42:=(VW.out.stays HB2.out (Nat.le_refl _)).e.e4
    rw[hww]at hyes hno
    clear hb2 x0 x1 x2 x3 x4 n4 hki
    cases wb with
    | false =>
     obtain ⟨p,rfl⟩:=hno rfl
     clear hyes hno
     have hfl:Hid (regB l.length 0 0 l=false):=by show _=_;rw[HRG.out];rw[hins.out];simp
     go_wp2
     go_ret
     exact ⟨by rw[←HE.out,if_neg (by rw[hfl.out];decide)];rfl,HB2.out⟩
    | true =>
     obtain rfl:=hyes rfl
     clear hyes hno
     go_wp2
     go_roundw
     case rel=>exact ⟨j+1,by omega,by go_num,by rw[HST.out];rfl,by rw[HST.out];simp;omega,by rw[HRG.out,hins.out,HST.out];simp;intro h;omega,HB2.out⟩
     case measure=>simp[intOf];omega
   ·rw[show Tab.kwL.getD 1 []=[115,117,109] from rfl]at hki
    go_wp2_with fail
    refine (hki _).mono ?_
    rintro e wk ⟨rfl,hwk⟩
    rw[hwk];clear hwk wk
    go_wp2_with fail
    refine (encI (w:=wr.alloc (.cells #[.int .i64 k,.int .i64 s,.int .i64 t,.int .i64 d,.int .u32 m] 113)) (VW.out.stays (HBr.out.alloc hsz _) (Nat.le_refl _)) ⟨k,s,t,d,m⟩ hbxH.out).mono ?_
    rintro e W2 ⟨⟨ex,ev,rfl,hyes,hno⟩,hb2⟩
    have HB2:Hid (Below w.heap.size w W2):=(HBr.out.alloc hsz _).trans (hb2.mono (by simp;omega))
    have n42:=(VW.out.stays HB2.out (Nat.le_refl _)).e.e4
    rw[hww]at hyes hno
    clear hb2 x0 x1 x2 x3 x4 n4 hki
    cases wb with
    | false =>
     obtain ⟨p,rfl⟩:=hno rfl
     clear hyes hno
     have hfl:Hid (regB l.length 0 0 l=false):=by show _=_;rw[HRG.out];rw[hins.out];simp
     go_wp2
     go_ret
     exact ⟨by rw[←HE.out,if_neg (by rw[hfl.out];decide)];rfl,HB2.out⟩
    | true =>
     obtain rfl:=hyes rfl
     clear hyes hno
     go_wp2
     go_roundw
     case rel=>exact ⟨j+1,by omega,by go_num,by rw[HST.out];rfl,by rw[HST.out];simp;omega,by rw[HRG.out,hins.out,HST.out];simp;intro h;omega,HB2.out⟩
     case measure=>simp[intOf];omega
   ·by_cases hj2:j+2=l.length
    ·have hj3:((j:Int)==(l.length:Int)-2)=true:=by simp;omega
     rw[show Tab.kwL.getD 2 []=[98,114,97,110,99,104] from rfl]at hki
     go_wp2_with fail
     refine (hki _).mono ?_
     rintro e wk ⟨rfl,hwk⟩
     rw[hwk];clear hwk wk
     go_wp2_with fail
     refine (encI (w:=wr.alloc (.cells #[.int .i64 k,.int .i64 s,.int .i64 t,.int .i64 d,.int .u32 m] 113)) (VW.out.stays (HBr.out.alloc hsz _) (Nat.le_refl _)) ⟨k,s,t,d,m⟩ hbxH.out).mono ?_
     rintro e W2 ⟨⟨ex,ev,rfl,hyes,hno⟩,hb2⟩
     have HB2:Hid (Below w.heap.size w W2):=(HBr.out.alloc hsz _).trans (hb2.mono (by simp;omega))
     have n42:=(VW.out.stays HB2.out (Nat.le_refl _)).e.e4
     rw[hww]at hyes hno
     clear hb2 x0 x1 x2 x3 x4 n4 hki
     cases wb with
     | false =>
      obtain ⟨p,rfl⟩:=hno rfl
      clear hyes hno
      have hfl:Hid (regB l.length 0 0 l=false):=by show _=_;rw[HRG.out];rw[hins.out];simp
      go_wp2
      go_ret
      exact ⟨by rw[←HE.out,if_neg (by rw[hfl.out];decide)];rfl,HB2.out⟩
     | true =>
      obtain rfl:=hyes rfl
      clear hyes hno
      go_wp2
      go_roundw
      case rel=>exact ⟨j+1,by omega,by go_num,by rw[HST.out];rfl,by rw[HST.out];simp;omega,by rw[HRG.out,hins.out,HST.out];simp[hj2];intro h;omega,HB2.out⟩
      case measure=>simp[intOf];omega
    ·have hj3:((j:Int)==(l.length:Int)-2)=false:=by simp;omega
     rw[show Tab.kwL.getD 2 []=[98,114,97,110,99,104] from rfl]at hki
     go_wp2_with fail
     refine (hki _).mono ?_
     rintro e wk ⟨rfl,hwk⟩
     rw[hwk];clear hwk wk
     have hfl:Hid (regB l.length 0 0 l=false):=by show _=_;rw[HRG.out];rw[hins.out];simp[hj2]
     go_wp2
     go_ret
     exact ⟨by rw[←HE.out,if_neg (by rw[hfl.out];decide)];rfl,HBr.out.alloc hsz _⟩
   ·rw[show Tab.kwL.getD 3 []=[116,114,97,112] from rfl]at hki
    go_wp2_with fail
    refine (hki _).mono ?_
    rintro e wk ⟨rfl,hwk⟩
    rw[hwk];clear hwk wk
    have hfl:Hid (regB l.length 0 0 l=false):=by show _=_;rw[HRG.out];rw[hins.out];simp
    go_wp2
    go_ret
    exact ⟨by rw[←HE.out,if_neg (by rw[hfl.out];decide)];rfl,HBr.out.alloc hsz _⟩
   ·rw[show Tab.kwL.getD 4 []=[108,111,97,100] from rfl]at hki
    go_wp2_with fail
    refine (hki _).mono ?_
    rintro e wk ⟨rfl,hwk⟩
    rw[hwk];clear hwk wk
    go_wp2_with fail
    refine (encI (w:=wr.alloc (.cells #[.int .i64 k,.int .i64 s,.int .i64 t,.int .i64 d,.int .u32 m] 113)) (VW.out.stays (HBr.out.alloc hsz _) (Nat.le_refl _)) ⟨k,s,t,d,m⟩ hbxH.out).mono ?_
    rintro e W2 ⟨⟨ex,ev,rfl,hyes,hno⟩,hb2⟩
    have HB2:Hid (Below w.heap.size w W2):=(HBr.out.alloc hsz _).trans (hb2.mono (by simp;omega))
    have n42:=(VW.out.stays HB2.out (Nat.le_refl _)).e.e4
    rw[hww]at hyes hno
    clear hb2 x0 x1 x2 x3 x4 n4 hki
    cases wb with
    | false =>
     obtain ⟨p,rfl⟩:=hno rfl
     clear hyes hno
     have hfl:Hid (regB l.length 0 0 l=false):=by show _=_;rw[HRG.out];rw[hins.out];simp
     go_wp2
     go_ret
     exact ⟨by rw[←HE.out,if_neg (by rw[hfl.out];decide)];rfl,HB2.out⟩
    | true =>
     obtain rfl:=hyes rfl
     clear hyes hno
     go_wp2
     go_roundw
     case rel=>exact ⟨j+1,by omega,by go_num,by rw[HST.out];rfl,by rw[HST.out];simp;omega,by rw[HRG.out,hins.out,HST.out];simp;intro h;omega,HB2.out⟩
     case measure=>simp[intOf];omega
   ·by_cases hs8:st+1≤8
    ·have hs9:decide ((8:Int)<(st:Int)+1)=false:=by simp;omega
     rw[show Tab.kwL.getD 5 []=[115,116,111,114,101] from rfl]at hki
     go_wp2_with fail
     refine (hki _).mono ?_
     rintro e wk ⟨rfl,hwk⟩
     rw[hwk];clear hwk wk
     go_wp2_with fail
     refine (encI (w:=wr.alloc (.cells #[.int .i64 k,.int .i64 s,.int .i64 t,.int .i64 d,.int .u32 m] 113)) (VW.out.stays (HBr.out.alloc hsz _) (Nat.le_refl _)) ⟨k,s,t,d,m⟩ hbxH.out).mono ?_
     rintro e W2 ⟨⟨ex,ev,rfl,hyes,hno⟩,hb2⟩
     have HB2:Hid (Below w.heap.size w W2):=(HBr.out.alloc hsz _).trans (hb2.mono (by simp;omega))
     have n42:=(VW.out.stays HB2.out (Nat.le_refl _)).e.e4
     rw[hww]at hyes hno
     clear hb2 x0 x1 x2 x3 x4 n4 hki
     cases wb with
     | false =>
      obtain ⟨p,rfl⟩:=hno rfl
      clear hyes hno
      have hfl:Hid (regB l.length 0 0 l=false):=by show _=_;rw[HRG.out];rw[hins.out];simp
      go_wp2
      go_ret
      exact ⟨by rw[←HE.out,if_neg (by rw[hfl.out];decide)];rfl,HB2.out⟩
     | true =>
      obtain rfl:=hyes rfl
      clear hyes hno
      go_wp2
      go_roundw
      case rel=>exact ⟨j+1,by omega,by go_num,by rw[HST.out];go_num,by rw[HST.out];simp;omega,by rw[HRG.out,hins.out,HST.out];simp;intro h;omega,HB2.out⟩
      case measure=>simp[intOf];omega
    ·have hs9:decide ((8:Int)<(st:Int)+1)=true:=by simp;omega
     rw[show Tab.kwL.getD 5 []=[115,116,111,114,101] from rfl]at hki
     go_wp2_with fail
     refine (hki _).mono ?_
     rintro e wk ⟨rfl,hwk⟩
     rw[hwk];clear hwk wk
     have hfl:Hid (regB l.length 0 0 l=false):=by show _=_;rw[HRG.out];rw[hins.out];simp;intro _ h;omega
     go_wp2
     go_ret
     exact ⟨by rw[←HE.out,if_neg (by rw[hfl.out];decide)];rfl,HBr.out.alloc hsz _⟩
  ·obtain rfl:j=l.length:=by omega
   have hfl:Hid (regB l.length 0 0 l=true):=by show _=_;rw[hreg];simp[regB]
   have hB2:Hid _:=hB
   clear hreg hB
   go_wp2
   go_ret
   exact ⟨by rw[←HE.out,if_pos hfl.out];rfl,hB2.out⟩
end Go.Proofs.YtflagpkmebdckaaGreatDoor.Low
namespace Go.Proofs.YtflagpkmebdckaaGreatDoor
open Go.ChangeShapes Go.WideShapes Go.ChangeAt Go.RowKit Go.Lib Low
set_option linter.unusedVariables false
theorem laidVars_split {P:Program} {W:World}:∀ (l1:List (String × DataW Unit)) {l2:List (String × DataW Unit)} {ps:List MemPlace},DataW.LaidVars P W (l1++l2) ps→∃ p1 p2,ps=p1++p2∧DataW.LaidVars P W l1 p1∧DataW.LaidVars P W l2 p2
 | [],l2,ps,h=>⟨[],ps,rfl,rfl,h⟩
 | x :: l1,l2,ps,h=>by
  obtain ⟨g,t,cs,f,p,q,hg,ht,hv,hd,hq,e⟩:=h
  obtain ⟨p1,p2,rfl,h1,h2⟩:=laidVars_split l1 hq
  exact ⟨_,p2,by rw[e,←List.append_assoc],⟨g,t,cs,f,p,p1,hg,ht,hv,hd,h1,rfl⟩,h2⟩
theorem laidMet_left {P:Program} {W:World} (l1 l2:List (String × DataW Unit)) (h:laidMet P (l1++l2) W):laidMet P l1 W:=by
 obtain ⟨ps,hl,hn,hr⟩:=h
 obtain ⟨p1,p2,rfl,h1,h2⟩:=laidVars_split l1 hl
 exact ⟨p1,h1,(List.nodup_append.1 hn).1,fun b off hm=>hr b off (List.mem_append_left _ hm)⟩
theorem Tryz.laidOut:laidOutB Tryz.prog=true:=by kernel_rfl
theorem Tryz.cU32:Tryz.prog.cellsOf 22=1:=by kernel_rfl
theorem Tryz.gFst:Tryz.prog.globalNamed "changeling/code.firsts"=some 10:=by kernel_rfl
theorem Tryz.tFst:(Tryz.prog.globals[10]?).map (·.type)=some 262:=by kernel_rfl
theorem Tryz.cFst:Tryz.prog.cellsOf 262=54:=by kernel_rfl
theorem ft_of_reads {W:World} (h:VarReads Tryz.prog W "changeling/code.firsts" (tabData .u32 Tab.fstL)):K.FT W:=by
 obtain ⟨g,t,cs,fuel,p,hg,hty,hvar,hd⟩:=h
 obtain rfl:=Option.some.inj (Tryz.gFst.symm.trans hg)
 obtain rfl:=Option.some.inj (Tryz.tFst.symm.trans hty)
 have hcs:=cells_of_tab Tryz.underlying262 Tryz.underlying22 Tryz.cU32 Tryz.cFst hd
 intro i hi
 have:=World.var?_cell hg hvar i
 rw[this,←Array.getElem?_toList,hcs,List.getElem?_map]
 have hl:i<Tab.fstL.length:=hi
 rw[List.getElem?_eq_getElem hl]
 show some (Value.int .u32 Tab.fstL[i])=some (Value.int .u32 (Tab.fstL.getD i 0))
 rw[List.getD_eq_getElem?_getD,List.getElem?_eq_getElem hl];rfl
theorem lv_of_ten {W:World} (h:laidMet Tryz.prog ((ten.map fun x=>(x.1,sentinel "*errors.errorString" x.2))++[("changeling/code.firsts",tabData .u32 Tab.fstL)]) W)
  (hh:handlesMet Tryz.prog [("errors.errorType",.iface "internal/reflectlite.rtype" (.agg [.ptr (.lit (.string [101,114,114,111,114]))]))] W):∃ S,Errs S W∧Lv (peS S) W:=by
 have hF:=ft_of_reads (laidMet.reads h (List.mem_append_right _ (List.mem_singleton.2 rfl)))
 obtain ⟨S,E⟩:=errs_of_laid (laidMet_left _ _ h) hh
 have g:Eg (peS S) W:=⟨E.c1,E.c2,E.c3,E.c7,E.c8,E.c9⟩
 exact ⟨S,E,⟨g,E.c5,⟨g.e4,g.e2,hF⟩⟩⟩
theorem lay_of {W:World} (hL:laidMetH Tryz.prog Rows.lowerEndsRow.laid W):∃ S,Errs S W∧Lv (peS S) W:=lv_of_ten hL.1 hL.2
theorem bd_i64 {n:Int} (h:(Lit.int .i64 n).wf=true):-9223372036854775808≤n∧n≤9223372036854775807:=by
 simp[Lit.wf,IntKind.min,IntKind.max,IntKind.signed,IntKind.bits]at h;omega
theorem bd_u32 {n:Int} (h:(Lit.int .u32 n).wf=true):0≤n∧n<4294967296:=by
 simp[Lit.wf,IntKind.min,IntKind.max,IntKind.signed,IntKind.bits]at h;omega
end Go.Proofs.YtflagpkmebdckaaGreatDoor
