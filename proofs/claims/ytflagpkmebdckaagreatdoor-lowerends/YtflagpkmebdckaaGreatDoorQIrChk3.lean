
import Derived.Test.YtflagpkmebdckaaGreatDoorQIrChk2
namespace Go.Proofs.YtflagpkmebdckaaGreatDoor
open Go.RowKit Go.Maps
open Num
set_option linter.unusedVariables false
set_option maxRecDepth 100000
set_option maxHeartbeats 1000000
def CErr (pe:Nat→Addr) (w:World) (f:Int × Int) (v:Value):Prop :=
 (f.2=-1∧v=erV pe f.1)∨(0≤f.2∧f.1≠0∧∃ fb:Nat,v=.iface 202 (.pointer (some ⟨fb,0,none⟩))∧w.cell? ⟨fb,0,none⟩=some (.int .i64 f.2)∧w.cell? ⟨fb,1,none⟩=some (erV pe f.1))
theorem erV_some {pe:Nat→Addr} {n:Int} (h:n≠0):erV pe n=.iface 332 (.pointer (some (pe n.toNat))):=by unfold erV;rw[if_neg h]
theorem checkOp_bad (pe:Nat→Addr) {w:World} (E:Eg pe w) (o:Opx) (ok:o.ok) (many:Int) (h:opE o many≠0) :
  Calls Tryz.prog 131 #[opV o,.int .i64 many] w fun e w'=>e=.returned (.iface 332 (.pointer (some (pe (opE o many).toNat))))∧Below w.heap.size w w':=by
 have:=checkOp_any pe E o ok many
 rw[erV_some h]at this
 exact this
theorem checkOp_ok (pe:Nat→Addr) {w:World} (E:Eg pe w) (o:Opx) (ok:o.ok) (many:Int) (h:opE o many=0) :
  Calls Tryz.prog 131 #[opV o,.int .i64 many] w fun e w'=>e=.returned .nilIface∧Below w.heap.size w w':=by
 have:=checkOp_any pe E o ok many
 rw[h]at this
 exact this
theorem opsF_cons (many ah:Int) (n:Nat) (o:Opx) (l:List Opx):opsF many ah n (o :: l)=if opF o many ah l.isEmpty≠0 then (opF o many ah l.isEmpty,(n:Int)) else opsF many o.t (n+1) l:=rfl
theorem check_any (pe:Nat→Addr) {w:World} (E:Eg pe w) {v:Value} {l:List Opx} (A:OpsIn w v l) (hl:(l.length:Int)≤1000000) (pc many:Int) (m0:-9223372036854775808≤many) (m1:many≤9223372036854775807) :
  Calls Tryz.prog 71 #[.agg #[.int .u32 pc,.int .i64 many,v]] w fun e w'=>(∃ x,e=.returned x∧CErr pe w' (codeF many l) x)∧Below w.heap.size w w':=by
 have A0:=A
 obtain ⟨ao,cap,rfl,hc,hh⟩:=A.sh
 have hst:∀ w',Below w.heap.size w w'→Calls Tryz.prog 129 #[.slice ao l.length cap] w' fun e w''=>e=.returned (.int .i64 (strs l))∧Below w'.heap.size w' w'':=fun w' hb=>storesOf_any (A.stays hb) hl
 have hE:∀ w',Below w.heap.size w w'→Eg pe w':=fun w' hb=>E.stays hb
 have HH:Hid (0<l.length→∃ b off:Nat,ao=some ⟨b,off,none⟩∧∀ (i:Nat) (o:Opx),l[i]?=some o→∀ (j:Nat) (u:Value),(opC o)[j]?=some u→w.cell? ⟨b,off+i*6+j,none⟩=some u):=hh
 have hOk:Hid (∀ o∈l,o.ok):=A.ok
 obtain ⟨z2,z3,z4,z8⟩:=E.size
 obtain ⟨e2,e3,e4,e8⟩:=E
 clear hh A A0
 by_cases hm1:many<1
 ·have HF:Hid (codeF many l=(2,-1)):=by show _=_;unfold codeF;rw[if_pos (Or.inl hm1)]
  clear hst hE HH
  go_enter Tryz.func71,Tryz.ntmps71
  go_wp2
  go_ret
  exact ⟨⟨_,rfl,.inl ⟨by rw[HF.out],by rw[HF.out];rfl⟩⟩,(Below.refl _ _).alloc (Nat.le_refl _) _⟩
 by_cases hm2:24<many
 ·have HF:Hid (codeF many l=(2,-1)):=by show _=_;unfold codeF;rw[if_pos (Or.inr hm2)]
  clear hst hE HH
  go_enter Tryz.func71,Tryz.ntmps71
  go_wp2
  go_ret
  exact ⟨⟨_,rfl,.inl ⟨by rw[HF.out],by rw[HF.out];rfl⟩⟩,(Below.refl _ _).alloc (Nat.le_refl _) _⟩
 have hm:¬ (many<1∨24<many):=by omega
 by_cases hl2:200<l.length
 ·have HF:Hid (codeF many l=(8,-1)):=by show _=_;unfold codeF;rw[if_neg hm,if_pos (Or.inl hl2)]
  have hl2':(200:Int)<l.length:=by omega
  clear hst hE HH hm
  go_enter Tryz.func71,Tryz.ntmps71
  go_wp2
  go_ret
  exact ⟨⟨_,rfl,.inl ⟨by rw[HF.out],by rw[HF.out];rfl⟩⟩,(Below.refl _ _).alloc (Nat.le_refl _) _⟩
 have hl2':¬ (200:Int)<l.length:=by omega
 have hB0:Below w.heap.size w (w.alloc (.cells #[.int .u32 pc,.int .i64 many,.slice ao l.length cap] 54)):=(Below.refl _ _).alloc (Nat.le_refl _) _
 by_cases hs8:8<strs l
 ·have HF:Hid (codeF many l=(8,-1)):=by show _=_;unfold codeF;rw[if_neg hm,if_pos (Or.inr hs8)]
  have hs8':(8:Int)<strs l:=by omega
  clear hE HH hm hl2
  go_enter Tryz.func71,Tryz.ntmps71
  go_wp2_with fail
  refine (hst _ hB0).mono ?_
  rintro e w1 ⟨rfl,hb1⟩
  have q8:w1.cell? ⟨9,0,none⟩=_:=(hb1.cell (p:=⟨9,0,none⟩) (by simp;omega)).trans ((World.grownBy_alloc w _ none).cell e8 (by simp))
  clear hst
  go_wp2
  go_ret
  exact ⟨⟨_,rfl,.inl ⟨by rw[HF.out],by rw[HF.out];rfl⟩⟩,hB0.trans (hb1.mono (by simp))⟩
 have hs8':¬ (8:Int)<strs l:=by omega
 have hn8:¬ (200<l.length∨8<strs l):=by omega
 by_cases hnil:l=[]
 ·have HF:Hid (codeF many l=(3,-1)):=by show _=_;unfold codeF;rw[if_neg hm,if_neg hn8,if_pos (Or.inl hnil)]
  have hlen:l.length=0:=by rw[hnil];rfl
  have hc0:(l.length:Int)=0:=by omega
  subst hnil
  clear hE HH hm hl2 hn8 hOk
  go_enter Tryz.func71,Tryz.ntmps71
  go_wp2_with fail
  refine (hst _ hB0).mono ?_
  rintro e w1 ⟨rfl,hb1⟩
  have q3:w1.cell? ⟨1,0,none⟩=_:=(hb1.cell (p:=⟨1,0,none⟩) (by simp<;>omega)).trans ((World.grownBy_alloc w _ none).cell e3 (by simp))
  obtain ⟨c,hf⟩:=bcell6 hb1
  clear hst
  go_wp2
  go_ret
  exact ⟨⟨_,rfl,.inl ⟨by rw[HF.out],by rw[HF.out];rfl⟩⟩,hB0.trans (hb1.mono (by simp))⟩
 have hpos:0<l.length:=List.length_pos_iff.2 hnil
 obtain ⟨b,off,rfl,hcell⟩:=HH.out hpos
 obtain ⟨lo,hlo,hlast⟩:∃ o,l[l.length-1]?=some o∧l.getLast?=some o:=by
  have h:l[l.length-1]?=some l[l.length-1]:=List.getElem?_eq_getElem (by omega)
  exact ⟨_,h,by rw[List.getLast?_eq_getElem?];exact h⟩
 have hbl:b<w.heap.size:=World.block_lt_of_cell? _ _ (hcell _ _ hlo 0 _ rfl)
 have hlc:Hid (∀ w':World,(∀ o,w'.cell? ⟨b,o,none⟩=w.cell? ⟨b,o,none⟩)→∀ (i:Nat) (o:Opx),l[i]?=some o→w'.cell? ⟨b,off+i*6,none⟩=some (.string o.s)∧w'.cell? ⟨b,off+i*6+1,none⟩=some (.int .i64 o.d)∧w'.cell? ⟨b,off+i*6+2,none⟩=some (.int .i64 o.a)∧w'.cell? ⟨b,off+i*6+3,none⟩=some (.int .i64 o.b)∧w'.cell? ⟨b,off+i*6+4,none⟩=some (.int .u32 o.i)∧w'.cell? ⟨b,off+i*6+5,none⟩=some (.int .i64 o.t)):=by
  intro w' hw i o hi
  exact op_cells fun k u hk=>by rw[hw];exact hcell i o hi k u hk
 clear hcell HH
 have hlen1:((l.length:Int)-1).toNat=l.length-1:=by omega
 have hpos':¬ (l.length:Int)-1<0:=by omega
 have hpos2:(l.length:Int)-1<l.length:=by omega
 cases hob:outB lo with
 | false =>
  have HF:Hid (codeF many l=(3,-1)):=by show _=_;unfold codeF;rw[if_neg hm,if_neg hn8,if_pos (Or.inr (by rw[hlast];exact hob))]
  clear hE hm hl2 hn8 hOk
  go_enter Tryz.func71,Tryz.ntmps71
  go_wp2_with fail
  refine (hst _ hB0).mono ?_
  rintro e w1 ⟨rfl,hb1⟩
  have hz1:w.heap.size<w1.heap.size:=by have:=hb1.size;simp at this;omega
  have q3:w1.cell? ⟨1,0,none⟩=_:=(hb1.cell (p:=⟨1,0,none⟩) (by simp<;>omega)).trans ((World.grownBy_alloc w _ none).cell e3 (by simp))
  obtain ⟨c,hf⟩:=bcell6 hb1
  obtain ⟨x0,x1,x2,x3,x4,x5⟩:=hlc.out w1 (fun o=>(hb1.cell (p:=⟨b,o,none⟩) (by simp;omega)).trans (hB0.cell (p:=⟨b,o,none⟩) hbl)) _ _ hlo
  have HB1:Hid (Below w.heap.size w w1):=hB0.trans (hb1.mono (by simp))
  have hio:=fun w'=>isOut_any lo w'
  rw[hob]at hio
  unfold opV at hio
  clear hst hlo hlast hlc hob hb1
  go_wp2_with fail
  refine (hio _).mono ?_
  rintro e w2 ⟨rfl,hb2⟩
  have q3':w2.cell? ⟨1,0,none⟩=_:=(hb2.cell (p:=⟨1,0,none⟩) (show 1<w1.heap.size by omega)).trans q3
  go_wp2
  go_ret
  exact ⟨⟨_,rfl,.inl ⟨by rw[HF.out],by rw[HF.out];rfl⟩⟩,HB1.out.trans (hb2.mono (by omega))⟩
 | true =>
  have HF:Hid (codeF many l=opsF many 0 0 l):=by
   show _=_;unfold codeF;rw[if_neg hm,if_neg hn8,if_neg (by rw[hlast];simp[hob,hnil])]
  go_enter Tryz.func71,Tryz.ntmps71
  go_wp2_with fail
  refine (hst _ hB0).mono ?_
  rintro e w1 ⟨rfl,hb1⟩
  have hz1:w.heap.size<w1.heap.size:=by have:=hb1.size;simp at this;omega
  obtain ⟨c,hf⟩:=bcell6 hb1
  obtain ⟨x0,x1,x2,x3,x4,x5⟩:=hlc.out w1 (fun o=>(hb1.cell (p:=⟨b,o,none⟩) (by simp;omega)).trans (hB0.cell (p:=⟨b,o,none⟩) hbl)) _ _ hlo
  have HB1:Hid (Below w.heap.size w w1):=hB0.trans (hb1.mono (by simp))
  have hio:=fun w'=>isOut_any lo w'
  rw[hob]at hio
  unfold opV at hio
  clear hst hlo hlast hob hb1 hm hn8
  go_wp2_with fail
  refine (hio _).mono ?_
  rintro e w2 ⟨rfl,hb2⟩
  have HC:Hid (Below w.heap.size w w2):=HB1.out.trans (hb2.mono (by omega))
  have k1:w2.cell? ⟨w.heap.size,1,none⟩=some (.int .i64 many):=by rw[hb2.cell (p:=⟨w.heap.size,1,none⟩) hz1,c];simp
  have k2:w2.cell? ⟨w.heap.size,2,none⟩=some (.slice (some ⟨b,off,none⟩) l.length cap):=by rw[hb2.cell (p:=⟨w.heap.size,2,none⟩) hz1,c];simp
  have hz2:w.heap.size<w2.heap.size:=by have:=hb2.size;omega
  clear hio x0 x1 x2 x3 x4 x5 c hf HB1 hb2
  go_wp2
  go_loopw [4,50] (fun a i wr=>∃ (j:Nat) (ah:Int),j≤l.length∧i=.int .i64 j∧a=.int .i64 ah∧opsF many 0 0 l=opsF many ah j (l.drop j)∧Below w.heap.size w wr∧wr.cell? ⟨w.heap.size,1,none⟩=some (.int .i64 many)) (fun _ i _=>l.length-(intOf i).toNat)
  case atStart=>exact ⟨0,0,Nat.zero_le _,rfl,rfl,rfl,HC.out,k1⟩
  case round =>
   obtain ⟨j,ah,hj,rfl,rfl,hop,hB,g1⟩:=hrel
   have HO:Hid (opsF many 0 0 l=opsF many ah j (l.drop j)):=hop
   clear hop k1 k2 HC
   by_cases hlt:j<l.length
   ·obtain ⟨o,ho,hd,hom⟩:∃ o,l[j]?=some o∧l.drop j=o :: l.drop (j+1)∧o∈l:=⟨l[j],List.getElem?_eq_getElem hlt,List.drop_eq_getElem_cons hlt,List.getElem_mem hlt⟩
    have hem:(l.drop (j+1)).isEmpty=decide (l.length≤j+1):=by rw[Bool.eq_iff_iff,List.isEmpty_iff,List.drop_eq_nil_iff];simp
    rw[hd]at HO
    have HO2:Hid (opsF many 0 0 l=if opF o many ah (decide (l.length≤j+1))≠0 then (opF o many ah (decide (l.length≤j+1)),(j:Int)) else opsF many o.t (j+1) (l.drop (j+1))):=by
     show _=_;rw[HO.out,opsF_cons,hem]
    have HX:Hid (codeF many l=if opF o many ah (decide (l.length≤j+1))≠0 then (opF o many ah (decide (l.length≤j+1)),(j:Int)) else opsF many o.t (j+1) (l.drop (j+1))):=HF.out.trans HO2.out
    clear HO hd hem
    have hoK:o.ok:=hOk.out _ hom
    obtain ⟨x0,x1,x2,x3,x4,x5⟩:=hlc.out wr (fun o=>hB.cell (p:=⟨b,o,none⟩) hbl) _ _ ho
    have hlt':(j:Int)<l.length:=by omega
    have hzr:w.heap.size<wr.heap.size:=World.block_lt_of_cell? _ _ g1
    have hbr:b<wr.heap.size:=by have:=hB.size;omega
    have hEr:=hE wr hB
    have HBr:Hid (Below w.heap.size w wr):=hB
    clear ho hB hE hlc hOk HF hom
    have hBa:Below wr.heap.size wr (wr.alloc (.cells #[.string o.s,.int .i64 o.d,.int .i64 o.a,.int .i64 o.b,.int .u32 o.i,.int .i64 o.t] 139)):=(Below.refl _ _).alloc (Nat.le_refl _) _
    have q3r:wr.cell? ⟨1,0,none⟩=_:=hEr.e3
    have zr3:1<wr.heap.size:=hEr.size.2.1
    by_cases hE0:opE o many=0
    ·have hck:=checkOp_ok pe (hEr.stays hBa) o hoK many hE0
     unfold opV at hck
     have hio:=fun w'=>isOut_any o w'
     unfold opV at hio
     go_wp2_with fail
     refine hck.mono ?_
     rintro e w3 ⟨rfl,hb3⟩
     obtain ⟨c,hf⟩:=bcell6 hb3
     have hz3:wr.heap.size<w3.heap.size:=by have:=hb3.size;simp at this;omega
     have HB3:Hid (Below wr.heap.size wr w3):=hBa.trans (hb3.mono (by simp))
     have q3:w3.cell? ⟨1,0,none⟩=_:=(HB3.out.cell (p:=⟨1,0,none⟩) zr3).trans q3r
     have hz3':1<w3.heap.size:=by omega
     have g3:w3.cell? ⟨w.heap.size,1,none⟩=some (.int .i64 many):=(HB3.out.cell (p:=⟨w.heap.size,1,none⟩) hzr).trans g1
     clear hck hb3
     by_cases hta:o.t<ah
     ·have HE:Hid (opF o many ah (decide (l.length≤j+1))=3):=by show _=_;unfold opF;rw[if_neg (by simpa using hE0),if_pos (Or.inl hta)]
      clear hio
      go_wp2
      go_ret
      refine ⟨⟨_,rfl,.inr ?_⟩,HBr.out.trans ((HB3.out.alloc (by omega) _).mono (by omega))⟩
      rw[HX.out,HE.out]
      exact ⟨by simp,by simp,w3.heap.size,rfl,by simp,by simp[erV]⟩
     ·cases hob:outB o with
      | false =>
       have HE:Hid (opF o many ah (decide (l.length≤j+1))=0):=by show _=_;unfold opF;rw[if_neg (by simpa using hE0),if_neg (by rw[hob];simp;omega)]
       rw[hob]at hio
       go_wp2_with fail
       refine (hio _).mono ?_
       rintro e w4 ⟨rfl,hb4⟩
       have c4:w4.cell? ⟨wr.heap.size,5,none⟩=some (.int .i64 o.t):=by rw[hb4.cell (p:=⟨wr.heap.size,5,none⟩) hz3,c];simp
       have HB4:Hid (Below wr.heap.size wr w4):=HB3.out.trans (hb4.mono (by omega))
       clear hio c hf q3 g3
       go_wp2
       go_roundw
       case rel =>
        refine ⟨j+1,o.t,by omega,by go_num,rfl,?_,HBr.out.trans (HB4.out.mono (by omega)),(HB4.out.cell (p:=⟨w.heap.size,1,none⟩) hzr).trans g1⟩
        rw[HO2.out,HE.out];simp
       case measure=>simp[intOf];omega
      | true =>
       rw[hob]at hio
       by_cases hjl:j+1<l.length
       ·have HE:Hid (opF o many ah (decide (l.length≤j+1))=3):=by show _=_;unfold opF;rw[if_neg (by simpa using hE0),if_pos (Or.inr ⟨hob,by simp;omega⟩)]
        have hjl':(j:Int)<(l.length:Int)-1:=by omega
        go_wp2_with fail
        refine (hio _).mono ?_
        rintro e w4 ⟨rfl,hb4⟩
        have q4:w4.cell? ⟨1,0,none⟩=_:=(hb4.cell (p:=⟨1,0,none⟩) hz3').trans q3
        have HB4:Hid (Below wr.heap.size wr w4):=HB3.out.trans (hb4.mono (by omega))
        have hz4:wr.heap.size≤w4.heap.size:=HB4.out.size
        clear hio c hf q3 g3
        go_wp2
        go_ret
        refine ⟨⟨_,rfl,.inr ?_⟩,HBr.out.trans ((HB4.out.alloc (by omega) _).mono (by omega))⟩
        rw[HX.out,HE.out]
        exact ⟨by simp,by simp,w4.heap.size,rfl,by simp,by simp[erV]⟩
       ·have HE:Hid (opF o many ah (decide (l.length≤j+1))=0):=by show _=_;unfold opF;rw[if_neg (by simpa using hE0),if_neg (by simp;omega)]
        have hjl':¬ (j:Int)<(l.length:Int)-1:=by omega
        go_wp2_with fail
        refine (hio _).mono ?_
        rintro e w4 ⟨rfl,hb4⟩
        have c4:w4.cell? ⟨wr.heap.size,5,none⟩=some (.int .i64 o.t):=by rw[hb4.cell (p:=⟨wr.heap.size,5,none⟩) hz3,c];simp
        have HB4:Hid (Below wr.heap.size wr w4):=HB3.out.trans (hb4.mono (by omega))
        clear hio c hf q3 g3
        go_wp2
        go_roundw
        case rel =>
         refine ⟨j+1,o.t,by omega,by go_num,rfl,?_,HBr.out.trans (HB4.out.mono (by omega)),(HB4.out.cell (p:=⟨w.heap.size,1,none⟩) hzr).trans g1⟩
         rw[HO2.out,HE.out];simp
        case measure=>simp[intOf];omega
    ·have hck:=checkOp_bad pe (hEr.stays hBa) o hoK many hE0
     unfold opV at hck
     have HE:Hid (opF o many ah (decide (l.length≤j+1))=opE o many):=by show _=_;unfold opF;rw[if_pos hE0]
     go_wp2_with fail
     refine hck.mono ?_
     rintro e w3 ⟨rfl,hb3⟩
     have HB3:Hid (Below wr.heap.size wr w3):=hBa.trans (hb3.mono (by simp))
     have hz3:wr.heap.size≤w3.heap.size:=HB3.out.size
     clear hck hb3
     go_wp2
     go_ret
     refine ⟨⟨_,rfl,.inr ?_⟩,HBr.out.trans ((HB3.out.alloc (by omega) _).mono (by omega))⟩
     rw[HX.out,HE.out,if_pos hE0]
     exact ⟨by simp,hE0,w3.heap.size,rfl,by simp,by simp[erV,hE0]⟩
   ·obtain rfl:j=l.length:=by omega
    go_wp2
    go_ret
    refine ⟨⟨_,rfl,.inl ?_⟩,hB⟩
    rw[HF.out,HO.out]
    simp[opsF,erV]
end Go.Proofs.YtflagpkmebdckaaGreatDoor
