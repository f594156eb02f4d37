
import Derived.Test.YtflagpkmebdckaaGreatDoorKLowPure
import Derived.Test.YtflagpkmebdckaaGreatDoorKPlPure
namespace Go.Proofs.YtflagpkmebdckaaGreatDoor
open Go.RowKit Go.Maps
open Num
set_option linter.unusedVariables false
set_option maxRecDepth 100000
set_option maxHeartbeats 16000000
theorem runOf_any {w:World} {rb gb kb hb:Nat} {m:Nat→Int} {wt ht:Int→Bool} (D:DMem w rb gb kb hb m wt ht) (sb:Nat) (f:Nat→Value) (S:RowIs w sb 25 43 f) (r:Nat→Int) (hr:∀ j,j<34→f j=.int .u32 (r j)) (hrb:∀ j,j<34→0≤r j∧r j<4294967296) (ct p4 p5:Int) (hct:f 42=.int .i64 ct) (h34:f 34=.int .u32 p4) (h35:f 35=.int .u32 p5) (c0:0≤ct) (c1:ct≤1099511627776) (hsr:sb≠rb) {v:Value} {rs:List (List Opx)} (R:RowsI w v rs) (F:Few rs) (many:Int) (m0:1≤many) (m1:many≤24) (hw:∀ row∈rs,∀ o∈row,opE o many=0) :
  Calls Tryz.prog 68 #[v,.int .i64 many,.pointer (some ⟨sb,0,none⟩),.pointer (some ⟨rb,0,none⟩)] w fun e w'=>RunPost w sb rb f many ct (runZ wt rs (nwX r 34) m) e w':=by
 have B0:Below w.heap.size w (w.alloc (.cells #[.bool false,.int .i64 0,.bool false] 68)):=(Below.refl _ _).alloc (Nat.le_refl _) _
 have E0:=EBox.new w
 have hsb:=S.lt
 have hrbl:rb<w.heap.size:=D.d.lt (.inl rfl)
 have hnm:=newMachine_any (D.stays B0) sb r (fun j hj=>by rw[←hr j hj];exact (S.stays B0).cell (by omega))
 have HRX:Hid (∀ i,i<64→0≤nwX r 34 i∧nwX r 34 i<4294967296):=nwX_bd hrb
 have HS:Hid (RowIs w sb 25 43 f):=S
 have HFR:Hid (∀ p:Nat,w.frozen? ⟨rb,p,none⟩=false):=D.fr
 have HC0:Hid (w.cell? ⟨rb,0,none⟩=some (.slice (some ⟨gb,0,none⟩) 4096 4096)):=D.d.c0
 have HF:Hid ((∀ j,j<34→f j=.int .u32 (r j))∧f 42=.int .i64 ct∧f 34=.int .u32 p4∧f 35=.int .u32 p5):=⟨hr,hct,h34,h35⟩
 have FH:Hid (Few rs):=F
 have hF:=F.1
 have HW:Hid (∀ row∈rs,∀ o∈row,opE o many=0):=hw
 obtain ⟨i0,hi,hz0,hz1,hz2⟩:=info_parts infoRo
 obtain ⟨ao,cap,rfl,hc,hh⟩:=R
 have HH:Hid (0<rs.length→∃ b off:Nat,ao=some ⟨b,off,none⟩∧∀ (i:Nat) (row:List Opx),rs[i]?=some row→∃ u,w.cell? ⟨b,off+i,none⟩=some u∧OpsIn w u row):=hh
 obtain ⟨Z,hZ⟩:∃ Z,runZ wt rs (nwX r 34) m=Z:=⟨_,rfl⟩
 have HZ:Hid (runZ wt rs (nwX r 34) m=Z):=hZ
 rw[hZ]
 clear hZ D S hr hct h34 h35 F hw hh hrb
 go_enter Tryz.func68,Tryz.ntmps68
 go_upto_region 1 with fail
 generalize hVV:w.alloc (.cells #[.bool false,.int .i64 0,.bool false] 68)=V at *
 have hVs:V.heap.size=w.heap.size+1:=by rw[←hVV,World.size_alloc]
 have HB0:Hid (Below w.heap.size w V):=B0
 have HE0:Hid (EBox V w.heap.size):=E0
 clear B0 E0 hVV
 go_wp2_with fail
 refine hnm.mono ?_
 rintro e w1 ⟨mb,rb',gb',kb',hb',rfl,hM1,hD1,hb1,⟨l1,l2,l3,l4⟩,t1,t2,t3,t4⟩
 have hR1:RnAt V w1 mb rb' gb' kb' (nwX r 34) m wt:=⟨hM1,hD1.d,hb1⟩
 have hmb1:mb<w1.heap.size:=hM1.lt
 have hs1:=hb1.size
 generalize hbs:w1.heap.size=base at *
 have HR1:Hid (RnAt V w1 mb rb' gb' kb' (nwX r 34) m wt):=hR1
 have HXN:Hid (nwX r 34=nwX r 34):=rfl
 clear hnm hM1 hD1 hb1 hR1
 go_wp2
 go_loopw [10] (fun i wr=>∃ (j:Nat) (x m':Nat→Int),j≤rs.length∧i=.int .i64 j∧RnAt V wr mb rb' gb' kb' x m' wt∧Hid (∀ i,i<64→0≤x i∧x i<4294967296)∧Hid (runZ wt (rs.drop j) x m'=Z)∧base≤wr.heap.size) (fun i _=>rs.length-(intOf i).toNat)
 case atStart=>exact ⟨0,nwX r 34,m,Nat.zero_le _,rfl,HR1.out,HRX.out,HZ.out,by omega⟩
 case round =>
  obtain ⟨j,x,m',hj,rfl,hR,HX,HZJ,hbw⟩:=hrel
  clear HR1 HRX HZ HXN
  have HRN:Hid (RnAt V wr mb rb' gb' kb' x m' wt):=hR
  have HVW:Hid (Below w.heap.size w wr):=HB0.out.trans (hR.b.mono (by omega))
  have HEW:Hid (EBox wr w.heap.size):=HE0.out.block (hR.b.block _ (by omega))
  by_cases hlt:j<rs.length
  ·obtain ⟨row,hrow⟩:∃ q,rs[j]?=some q:=⟨_,List.getElem?_eq_getElem hlt⟩
   have HDR:Hid (rs.drop j=row :: rs.drop (j+1)):=by
    show _=_
    rw[List.drop_eq_getElem_cons hlt]
    have:=(List.getElem?_eq_some_iff.1 hrow).2
    rw[this]
   obtain ⟨b,off,rfl,hcell⟩:=HH.out (by omega)
   obtain ⟨u,hu,hO⟩:=hcell j row hrow
   have hrl:=FH.out.2 row (List.mem_of_getElem? hrow)
   have HWR:Hid (∀ o∈row,o.ok∧opE o many=0):=fun o ho=>⟨hO.ok o ho,HW.out row (List.mem_of_getElem? hrow) o ho⟩
   have hbl:b<w.heap.size:=World.block_lt_of_cell? _ _ hu
   obtain ⟨a1,k1,rfl,_,hc2⟩:=hO.sh
   have hO1:Hid (0<row.length→∃ b1 off1:Nat,a1=some ⟨b1,off1,none⟩∧b1<w.heap.size∧∀ (W:World),Below w.heap.size w W→∀ (q:Nat) (o:Opx),row[q]?=some o→W.cell? ⟨b1,off1+q*6,none⟩=some (.string o.s)∧W.cell? ⟨b1,off1+q*6+1,none⟩=some (.int .i64 o.d)∧W.cell? ⟨b1,off1+q*6+2,none⟩=some (.int .i64 o.a)∧W.cell? ⟨b1,off1+q*6+3,none⟩=some (.int .i64 o.b)∧W.cell? ⟨b1,off1+q*6+4,none⟩=some (.int .u32 o.i)∧W.cell? ⟨b1,off1+q*6+5,none⟩=some (.int .i64 o.t)):=fun hp=>by
    obtain ⟨b1,off1,e,hcc⟩:=hc2 hp
    have hb1:b1<w.heap.size:=World.block_lt_of_cell? _ _ (hcc 0 _ (List.getElem?_eq_getElem hp) 0 _ rfl)
    exact ⟨b1,off1,e,hb1,fun W hW q o hq=>op_cells fun k u hk=>(hW.cell (p:=⟨b1,off1+q*6+k,none⟩) hb1).trans (hcc q o hq k u hk)⟩
   have hlt':(j:Int)<rs.length:=by omega
   have HU:Hid (∀ W,Below w.heap.size w W→W.cell? ⟨b,off+j,none⟩=some (.slice a1 row.length k1)):=fun W hW=>(hW.cell (p:=⟨b,off+j,none⟩) hbl).trans hu
   clear hrow hcell hu hO hc2 hR
   obtain ⟨wo,hwo⟩:∃ wo,wo=wr:=⟨_,rfl⟩
   subst hwo
   go_wp2
   go_loopw [11,12] (fun vl k wq=>∃ q:Nat,q≤row.length∧k=.int .i64 q∧wq.ownsRow base 214 4 vl q (roL (resL wt x m' (row.take q)))∧Hid (∀ o∈row.take q,(resZ wt x m' o).trap=false)∧Below base wo wq) (fun _ k _=>row.length-(intOf k).toNat)
   case atStart=>exact ⟨0,Nat.zero_le _,rfl,World.ownsRow_nil _ _ _ _,(by intro o ho;simp at ho),Below.refl _ _⟩
   case round =>
    obtain ⟨q,hq,rfl,hown,HNT,hBQ⟩:=hrel
    have HBQ:Hid (Below base wo wr):=hBQ
    have HWQ:Hid (Below w.heap.size w wr):=HVW.out.trans (hBQ.mono (by omega))
    have hRq:RnAt V wr mb rb' gb' kb' x m' wt:=HRN.out.blocks (by omega) hmb1 (by omega) (by omega) (by omega) hBQ
    have HRQ:Hid (RnAt V wr mb rb' gb' kb' x m' wt):=hRq
    have HOW:Hid (wr.ownsRow base 214 4 u11 q (roL (resL wt x m' (row.take q)))):=hown
    have hur:=HU.out wr HWQ.out
    have zb:b<wr.heap.size:=World.block_lt_of_cell? _ _ hur
    have zmb:mb<wr.heap.size:=hRq.bx.lt
    have hszq:=hBQ.size
    have hbz:base≤wr.heap.size:=by omega
    clear hown hBQ
    by_cases hlq:q<row.length
    ·obtain ⟨o,ho⟩:∃ o,row[q]?=some o:=⟨_,List.getElem?_eq_getElem hlq⟩
     obtain ⟨b1,off1,rfl,hb1l,hcc⟩:=hO1.out (by omega)
     obtain ⟨x0,x1,x2,x3,x4,x5⟩:=hcc wr HWQ.out q o ho
     have zb1:b1<wr.heap.size:=World.block_lt_of_cell? _ _ x0
     have hlq':(q:Int)<row.length:=by omega
     have hwo:=HWR.out o (List.mem_of_getElem? ho)
     obtain ⟨vbd,abd⟩:=resZ_bd (wt:=wt) hwo.1 hwo.2 HX.out hRq.d.mb
     have ck:Ck9 wr mb rb' b (off+j) b1 (off1+q*6) x (.slice (some ⟨b1,off1,none⟩) row.length k1) o:=⟨hRq.bx,hur,x0,x1,x2,x3,x4,x5⟩
     have HCK:Hid (∀ W,Below wr.heap.size wr W→Ck9 W mb rb' b (off+j) b1 (off1+q*6) x (.slice (some ⟨b1,off1,none⟩) row.length k1) o):=fun W hW=>ck.blocks (hW.block _ zmb) (hW.block _ zb) (hW.block _ zb1)
     have HDD:Hid (∀ W,Below wr.heap.size wr W→DRam W rb' gb' kb' m' wt):=fun W hW=>hRq.d.stays hW
     have hres:=fun W (hW:DRam W rb' gb' kb' m' wt)=>resultOf_any wt m' (xsA x) x (xsA_get x) HX.out o hwo.1 hwo.2 W hW
     have HTK:Hid (row.take (q+1)=row.take q++[o]):=take_snoc' ho
     have HSR:Hid (roL (resL wt x m' (row.take (q+1)))=roL (resL wt x m' (row.take q))++roC (resZ wt x m' o)):=by
      show _=_
      rw[take_snoc' ho];unfold resL;rw[List.map_append,List.map_singleton,roL_snoc]
     have HTR:Hid ((resZ wt x m' o).trap=true→Z=.trap o.t):=fun ht=>by rw[←HZJ.out,HDR.out,runZ_cons,trapZ_at ho ht HNT.out]
     have BD:Below wr.heap.size wr wr.drew:=(Below.refl _ _).drew
     unfold opV roV at hres
     generalize hRO:resZ wt x m' o=ro at *
     have HRO:Hid (resZ wt x m' o=ro):=hRO
     clear ho hRO hcc hRq
     go_wp2
     refine wp_region_tree 17 (.step 0 0 (.step 1 0 (.step 2 0 (.step 3 1 (.step 4 0 (.step 5 0 (.step 6 0 (.step 7 1 (.step 8 0 (.step 9 0 (.step 10 0 (.step 11 1 (.step 12 0 (.step 13 0 (.step 14 1 (.fork 15 16 (.step 16 2 (.step 17 2 .nil)) (.step 15 2 (.step 17 2 .nil)))))))))))))))))) (fun W=>Ck9 W mb rb' b (off+j) b1 (off1+q*6) x (.slice (some ⟨b1,off1,none⟩) row.length k1) o) (by kernel_rfl) (by kernel_rfl) (fun _ _ _ d _ h=>by cases d<;>exact h) (HCK.out _ BD) ?_
     refine wpT_free (by rfl) (by rfl) (fun W=>by (go_simp;try with_reducible rfl)) (fun K hK=>?_);go_simp;refine hK _ ?_;clear hK K
     refine wpT_free (by rfl) (by rfl) (fun W=>by (go_simp;try with_reducible rfl)) (fun K hK=>?_);go_simp;refine hK _ ?_;clear hK K
     refine wpT_free (by rfl) (by rfl) (fun W=>by (go_simp;try with_reducible rfl)) (fun K hK=>?_);go_simp;refine hK _ ?_;clear hK K
     refine wpT_quiet (v:=.agg (xsA x)) (by rfl) (by rfl) (fun W hW=>exec_loadT rfl rfl W hW.bx.load) (fun K hK=>?_)
     go_simp
     refine hK _ ?_
     clear hK K
     refine wpT_free (by rfl) (by rfl) (fun W=>by (go_simp;try with_reducible rfl)) (fun K hK=>?_);go_simp;refine hK _ ?_;clear hK K
     refine wpT_free (by rfl) (by rfl) (fun W=>by (go_simp;try with_reducible rfl)) (fun K hK=>?_);go_simp;refine hK _ ?_;clear hK K
     refine wpT_free (by rfl) (by rfl) (fun W=>by (go_simp;try with_reducible rfl)) (fun K hK=>?_);go_simp;refine hK _ ?_;clear hK K
     refine wpT_quiet (by rfl) (by rfl) (fun W hW=>by (have s0:=hW.bx.cp;go_simp;try with_reducible rfl)) (fun K hK=>?_);go_simp;refine hK _ ?_;clear hK K
     refine wpT_free (by rfl) (by rfl) (fun W=>by (go_simp;try with_reducible rfl)) (fun K hK=>?_);go_simp;refine hK _ ?_;clear hK K
     refine wpT_free (by rfl) (by rfl) (fun W=>by (go_simp;try with_reducible rfl)) (fun K hK=>?_);go_simp;refine hK _ ?_;clear hK K
     refine wpT_free (by rfl) (by rfl) (fun W=>by (go_simp;try with_reducible rfl)) (fun K hK=>?_);go_simp;refine hK _ ?_;clear hK K
     refine wpT_quiet (by rfl) (by rfl) (fun W hW=>by (obtain ⟨_,s0,s1,s2,s3,s4,s5,s6⟩:=hW;go_simp;try with_reducible rfl)) (fun K hK=>?_);go_simp;refine hK _ ?_;clear hK K
     refine wpT_free (by rfl) (by rfl) (fun W=>by (go_simp;try with_reducible rfl)) (fun K hK=>?_);go_simp;refine hK _ ?_;clear hK K
     refine wpT_free (by rfl) (by rfl) (fun W=>by (go_simp;try with_reducible rfl)) (fun K hK=>?_);go_simp;refine hK _ ?_;clear hK K
     refine wpT_quiet (by rfl) (by rfl) (fun W hW=>by (obtain ⟨_,s0,s1,s2,s3,s4,s5,s6⟩:=hW;go_simp;try with_reducible rfl)) (fun K hK=>?_);go_simp;refine hK _ ?_;clear hK K
     refine wpT_fork (by rfl) (by rfl) (by rfl) (by rfl) (fun K hK=>?_) (fun K hK=>?_)
     ·go_simp
      refine (hres _ (HDD.out _ BD)).mono ?_
      rintro e w2 ⟨rfl,hb2⟩
      have B2:Below wr.heap.size wr w2:=BD.trans (hb2.mono (Nat.le_refl _))
      refine hK _ _ (fun _=>HCK.out _ B2) ?_
      clear hK K
      refine wpT_serial (by rfl) (by rfl) (fun K hK=>?_)
      go_simp
      have BA:Below wr.heap.size wr (w2.alloc (.cells #[.int .u32 0,.int .u32 0,.bool false,.bool false] 214)):=B2.alloc B2.size _
      refine hK _ _ (fun _=>HCK.out _ BA) ?_
      clear hK K
      have n0:(w2.alloc (.cells #[.int .u32 0,.int .u32 0,.bool false,.bool false] 214)).cell? ⟨w2.heap.size,0,none⟩=some (.int .u32 0):=by simp
      have n1:(w2.alloc (.cells #[.int .u32 0,.int .u32 0,.bool false,.bool false] 214)).cell? ⟨w2.heap.size,1,none⟩=some (.int .u32 0):=by simp
      have n2:(w2.alloc (.cells #[.int .u32 0,.int .u32 0,.bool false,.bool false] 214)).cell? ⟨w2.heap.size,2,none⟩=some (.bool false):=by simp
      have n3:(w2.alloc (.cells #[.int .u32 0,.int .u32 0,.bool false,.bool false] 214)).cell? ⟨w2.heap.size,3,none⟩=some (.bool false):=by simp
      have nf:∀ i,(w2.alloc (.cells #[.int .u32 0,.int .u32 0,.bool false,.bool false] 214)).frozen? ⟨w2.heap.size,i,none⟩=false:=fun i=>World.frozen?_alloc_at _ _ _ _ rfl
      have hxw:wr.heap.size≤w2.heap.size:=B2.size
      generalize w2.alloc (.cells #[.int .u32 0,.int .u32 0,.bool false,.bool false] 214)=wA at *
      generalize w2.heap.size=xb at *
      clear hb2 B2
      have nf0:=nf 0
      have nf1:=nf 1
      have nf2:=nf 2
      have nf3:=nf 3
      have zxA:=World.block_lt_of_cell? _ _ n0
      refine wpT_serial (by rfl) (by rfl) (fun K hK=>?_)
      go_simp
      refine hK _ _ (fun h=>absurd h (by decide)) ?_
      clear hK K
      refine wpT_nil ?_
      have RB:=putRo ro n0 n1 n2 n3
      have BF:Below wr.heap.size wr ((((wA.setCell ⟨xb,0,none⟩ (.int .u32 ro.v)).setCell ⟨xb,1,none⟩ (.int .u32 ro.a)).setCell ⟨xb,2,none⟩ (.bool ro.trap)).setCell ⟨xb,3,none⟩ (.bool ro.leave)):=(((BA.setCell hxw _).setCell hxw _).setCell hxw _).setCell hxw _
      clear n0 n1 n2 n3 nf nf0 nf1 nf2 nf3 zxA BA
      generalize (((wA.setCell ⟨xb,0,none⟩ (.int .u32 ro.v)).setCell ⟨xb,1,none⟩ (.int .u32 ro.a)).setCell ⟨xb,2,none⟩ (.bool ro.trap)).setCell ⟨xb,3,none⟩ (.bool ro.leave)=w4 at *
      have HB4:Hid (Below wr.heap.size wr w4):=BF
      have zx4:=World.block_lt_of_cell? _ _ RB.c0
      have ck4:=HCK.out w4 BF
      have ur4:=ck4.c
      have ot4:=ck4.c5
      have z41:=World.block_lt_of_cell? _ _ ur4
      have z42:=World.block_lt_of_cell? _ _ ot4
      have E4:Hid (EBox w4 w.heap.size):=(HEW.out.block (HBQ.out.block _ (by omega))).block (BF.block _ (by omega))
      obtain ⟨r0,r1,r2,r3⟩:=RB
      have HW4:Hid (Below w.heap.size w w4):=HWQ.out.trans (BF.mono (by omega))
      clear BF hres HCK HDD ck x0 x1 x2 x3 x4 x5 BD ck4
      cases htr:ro.trap with
      | true =>
       rw[htr]at r2
       have HZT:Hid (Z=.trap o.t):=HTR.out htr
       obtain ⟨⟨g0,q0⟩,⟨g1,q1⟩,⟨g2,q2⟩,qf⟩:=E4.out
       have qf0:=qf 0
       have qf1:=qf 1
       have qf2:=qf 2
       have ze4:=World.block_lt_of_cell? _ _ q0
       clear HTR HSR htr hur
       go_wp2
       refine bodyPost_ret (r1c (A:=⟨w.heap.size,0,none⟩) rfl _ _ _ rfl (end_put E4.out _ _ _)) rfl ?_
       rw[HZT.out]
       exact ⟨rfl,((HW4.out.setCell (Nat.le_refl _) _).setCell (Nat.le_refl _) _).setCell (Nat.le_refl _) _⟩
      | false =>
       rw[htr]at r2
       have HNT2:Hid (∀ y∈row.take (q+1),(resZ wt x m' y).trap=false):=by
        intro y hy
        rw[HTK.out]at hy
        rcases List.mem_append.1 hy with h|h
        ·exact HNT.out y h
        ·simp at h;subst h;rw[HRO.out];exact htr
       have BAL:Below w4.heap.size w4 (w4.alloc (.cells #[.int .u32 ro.v,.int .u32 ro.a,.bool false,.bool ro.leave] 214)):=(Below.refl _ _).alloc (Nat.le_refl _) _
       have hszA:(w4.alloc (.cells #[.int .u32 ro.v,.int .u32 ro.a,.bool false,.bool ro.leave] 214)).heap.size=w4.heap.size+1:=World.size_alloc _ _
       have HOA:Hid ((w4.alloc (.cells #[.int .u32 ro.v,.int .u32 ro.a,.bool false,.bool ro.leave] 214)).ownsRow base 214 4 u11 q (roL (resL wt x m' (row.take q)))):=(owns_blocks HOW.out fun k hk=>HB4.out.block k (HOW.out.lt k hk).2).alloc _
       have hn4:∀ (k:Nat) (y:Value),[Value.int .u32 ro.v,.int .u32 ro.a,.bool false,.bool ro.leave][k]?=some y→(w4.alloc (.cells #[.int .u32 ro.v,.int .u32 ro.a,.bool false,.bool ro.leave] 214)).cell? ((⟨w4.heap.size,0,none⟩:Addr).add k)=some y:=by
        intro k y hk
        rw[add_lit,World.cell?_alloc_at _ _ _ _ rfl]
        rw[List.getElem?_toArray];exact hk
       have hs4:=HB4.out.size
       have HSR2:Hid (roL (resL wt x m' (row.take (q+1)))=roL (resL wt x m' (row.take q))++[.int .u32 ro.v,.int .u32 ro.a,.bool false,.bool ro.leave]):=by show _=_;rw[HSR.out];unfold roC;rw[htr]
       have HFA:Hid (∀ (v1:Value) (w6:World),(w4.alloc (.cells #[.int .u32 ro.v,.int .u32 ro.a,.bool false,.bool ro.leave] 214)).grownBy w6 u11.ownBlock→Below base wo w6):=by
        intro v1 w6 hg6
        refine ((HBQ.out.trans (HB4.out.mono hbz)).trans (BAL.mono (by omega))).grown hg6 (by rw[hszA];omega) (fun k hk=>(HOW.out.lt k hk).1)
       have hone:∀ y∈[Value.int .u32 ro.v,.int .u32 ro.a,.bool false,.bool ro.leave],y.oneCell'=true:=by
        intro y hy;simp at hy;rcases hy with rfl|rfl|rfl|rfl<;>rfl
       clear HTR HSR htr hur BAL E4
       go_wp2_with (at_builtin;refine wpList_append_moved rfl _ _ 212 rfl base 214 i0 _ 4 12 Tryz.underlying212 hi hz0 hz1 hz2 rfl (by decide) u11 q (roL (resL wt x m' (row.take q))) rfl HOA.out ⟨w4.heap.size,0,none⟩ 1 1 [.int .u32 ro.v,.int .u32 ro.a,.bool false,.bool ro.leave] rfl rfl hn4 hone (by unfold maxLen;omega) (by omega) (by rw[hszA];omega) ?_;intro v1 w6 ho6 hg6 hm6;have HK6:=HFA.out v1 w6 hg6;have HK6H:Hid (Below base wo w6):=HK6;have HO6:Hid (w6.ownsRow base 214 4 v1 (q+1) (roL (resL wt x m' (row.take (q+1))))):=(by show World.ownsRow _ _ _ _ _ _ _;rw[HSR2.out];exact ho6);clear ho6 hg6 hm6 HK6 HFA HOA hn4 hone hszA)
       go_roundw
       case rel=>exact ⟨q+1,by omega,by go_num,HO6.out,HNT2.out,HK6H.out⟩
       case measure=>simp[intOf];omega
     ·go_simp
      have BA:Below wr.heap.size wr (wr.drew.alloc (.cells #[.int .u32 0,.int .u32 0,.bool false,.bool false] 214)):=BD.alloc (Nat.le_refl _) _
      refine hK _ _ (fun _=>HCK.out _ (by first|exact BA|exact BA.drew|exact ((Below.refl _ _).alloc (Nat.le_refl _) _).drew)) ?_
      clear hK K
      refine wpT_serial (by rfl) (by rfl) (fun K hK=>?_)
      go_simp
      refine (hres _ (HDD.out _ (by first|exact BA|exact BA.drew|exact ((Below.refl _ _).alloc (Nat.le_refl _) _).drew))).mono ?_
      rintro e wA ⟨rfl,hb2⟩
      have hzA:wr.heap.size<(wr.drew.alloc (.cells #[.int .u32 0,.int .u32 0,.bool false,.bool false] 214)).heap.size:=by show _<(wr.alloc _).heap.size;rw[World.size_alloc];omega
      have BAA:Below wr.heap.size wr wA:=BA.trans (hb2.mono (by show wr.heap.size≤(wr.alloc _).heap.size;rw[World.size_alloc];omega))
      refine hK _ _ (fun _=>HCK.out _ BAA) ?_
      clear hK K
      have cA:∀ i,wA.cell? ⟨wr.heap.size,i,none⟩=(wr.drew.alloc (.cells #[.int .u32 0,.int .u32 0,.bool false,.bool false] 214)).cell? ⟨wr.heap.size,i,none⟩:=fun i=>hb2.cell (p:=⟨wr.heap.size,i,none⟩) hzA
      have n0:wA.cell? ⟨wr.heap.size,0,none⟩=some (.int .u32 0):=by rw[cA,World.cell?_alloc_at _ _ _ _ (by rfl)];rfl
      have n1:wA.cell? ⟨wr.heap.size,1,none⟩=some (.int .u32 0):=by rw[cA,World.cell?_alloc_at _ _ _ _ (by rfl)];rfl
      have n2:wA.cell? ⟨wr.heap.size,2,none⟩=some (.bool false):=by rw[cA,World.cell?_alloc_at _ _ _ _ (by rfl)];rfl
      have n3:wA.cell? ⟨wr.heap.size,3,none⟩=some (.bool false):=by rw[cA,World.cell?_alloc_at _ _ _ _ (by rfl)];rfl
      have nf:∀ i,wA.frozen? ⟨wr.heap.size,i,none⟩=false:=fun i=>(hb2.frozen (p:=⟨wr.heap.size,i,none⟩) hzA).trans (World.frozen?_alloc_at _ _ _ _ rfl)
      have hxw:wr.heap.size≤wr.heap.size:=Nat.le_refl _
      clear BA cA hb2 hzA
      have BA:Below wr.heap.size wr wA:=BAA
      clear BAA
      have nf0:=nf 0
      have nf1:=nf 1
      have nf2:=nf 2
      have nf3:=nf 3
      have zxA:=World.block_lt_of_cell? _ _ n0
      refine wpT_serial (by rfl) (by rfl) (fun K hK=>?_)
      go_simp
      refine hK _ _ (fun h=>absurd h (by decide)) ?_
      clear hK K
      refine wpT_nil ?_
      have RB:=putRo ro n0 n1 n2 n3
      have BF:Below wr.heap.size wr ((((wA.setCell ⟨wr.heap.size,0,none⟩ (.int .u32 ro.v)).setCell ⟨wr.heap.size,1,none⟩ (.int .u32 ro.a)).setCell ⟨wr.heap.size,2,none⟩ (.bool ro.trap)).setCell ⟨wr.heap.size,3,none⟩ (.bool ro.leave)):=(((BA.setCell hxw _).setCell hxw _).setCell hxw _).setCell hxw _
      clear n0 n1 n2 n3 nf nf0 nf1 nf2 nf3 zxA BA
      generalize (((wA.setCell ⟨wr.heap.size,0,none⟩ (.int .u32 ro.v)).setCell ⟨wr.heap.size,1,none⟩ (.int .u32 ro.a)).setCell ⟨wr.heap.size,2,none⟩ (.bool ro.trap)).setCell ⟨wr.heap.size,3,none⟩ (.bool ro.leave)=w4 at *
      have HB4:Hid (Below wr.heap.size wr w4):=BF
      have zx4:=World.block_lt_of_cell? _ _ RB.c0
      have ck4:=HCK.out w4 BF
      have ur4:=ck4.c
      have ot4:=ck4.c5
      have z41:=World.block_lt_of_cell? _ _ ur4
      have z42:=World.block_lt_of_cell? _ _ ot4
      have E4:Hid (EBox w4 w.heap.size):=(HEW.out.block (HBQ.out.block _ (by omega))).block (BF.block _ (by omega))
      obtain ⟨r0,r1,r2,r3⟩:=RB
      have HW4:Hid (Below w.heap.size w w4):=HWQ.out.trans (BF.mono (by omega))
      clear BF hres HCK HDD ck x0 x1 x2 x3 x4 x5 BD ck4
      cases htr:ro.trap with
      | true =>
       rw[htr]at r2
       have HZT:Hid (Z=.trap o.t):=HTR.out htr
       obtain ⟨⟨g0,q0⟩,⟨g1,q1⟩,⟨g2,q2⟩,qf⟩:=E4.out
       have qf0:=qf 0
       have qf1:=qf 1
       have qf2:=qf 2
       have ze4:=World.block_lt_of_cell? _ _ q0
       clear HTR HSR htr hur
       go_wp2
       refine bodyPost_ret (r1c (A:=⟨w.heap.size,0,none⟩) rfl _ _ _ rfl (end_put E4.out _ _ _)) rfl ?_
       rw[HZT.out]
       exact ⟨rfl,((HW4.out.setCell (Nat.le_refl _) _).setCell (Nat.le_refl _) _).setCell (Nat.le_refl _) _⟩
      | false =>
       rw[htr]at r2
       have HNT2:Hid (∀ y∈row.take (q+1),(resZ wt x m' y).trap=false):=by
        intro y hy
        rw[HTK.out]at hy
        rcases List.mem_append.1 hy with h|h
        ·exact HNT.out y h
        ·simp at h;subst h;rw[HRO.out];exact htr
       have BAL:Below w4.heap.size w4 (w4.alloc (.cells #[.int .u32 ro.v,.int .u32 ro.a,.bool false,.bool ro.leave] 214)):=(Below.refl _ _).alloc (Nat.le_refl _) _
       have hszA:(w4.alloc (.cells #[.int .u32 ro.v,.int .u32 ro.a,.bool false,.bool ro.leave] 214)).heap.size=w4.heap.size+1:=World.size_alloc _ _
       have HOA:Hid ((w4.alloc (.cells #[.int .u32 ro.v,.int .u32 ro.a,.bool false,.bool ro.leave] 214)).ownsRow base 214 4 u11 q (roL (resL wt x m' (row.take q)))):=(owns_blocks HOW.out fun k hk=>HB4.out.block k (HOW.out.lt k hk).2).alloc _
       have hn4:∀ (k:Nat) (y:Value),[Value.int .u32 ro.v,.int .u32 ro.a,.bool false,.bool ro.leave][k]?=some y→(w4.alloc (.cells #[.int .u32 ro.v,.int .u32 ro.a,.bool false,.bool ro.leave] 214)).cell? ((⟨w4.heap.size,0,none⟩:Addr).add k)=some y:=by
        intro k y hk
        rw[add_lit,World.cell?_alloc_at _ _ _ _ rfl]
        rw[List.getElem?_toArray];exact hk
       have hs4:=HB4.out.size
       have HSR2:Hid (roL (resL wt x m' (row.take (q+1)))=roL (resL wt x m' (row.take q))++[.int .u32 ro.v,.int .u32 ro.a,.bool false,.bool ro.leave]):=by show _=_;rw[HSR.out];unfold roC;rw[htr]
       have HFA:Hid (∀ (v1:Value) (w6:World),(w4.alloc (.cells #[.int .u32 ro.v,.int .u32 ro.a,.bool false,.bool ro.leave] 214)).grownBy w6 u11.ownBlock→Below base wo w6):=by
        intro v1 w6 hg6
        refine ((HBQ.out.trans (HB4.out.mono hbz)).trans (BAL.mono (by omega))).grown hg6 (by rw[hszA];omega) (fun k hk=>(HOW.out.lt k hk).1)
       have hone:∀ y∈[Value.int .u32 ro.v,.int .u32 ro.a,.bool false,.bool ro.leave],y.oneCell'=true:=by
        intro y hy;simp at hy;rcases hy with rfl|rfl|rfl|rfl<;>rfl
       clear HTR HSR htr hur BAL E4
       go_wp2_with (at_builtin;refine wpList_append_moved rfl _ _ 212 rfl base 214 i0 _ 4 12 Tryz.underlying212 hi hz0 hz1 hz2 rfl (by decide) u11 q (roL (resL wt x m' (row.take q))) rfl HOA.out ⟨w4.heap.size,0,none⟩ 1 1 [.int .u32 ro.v,.int .u32 ro.a,.bool false,.bool ro.leave] rfl rfl hn4 hone (by unfold maxLen;omega) (by omega) (by rw[hszA];omega) ?_;intro v1 w6 ho6 hg6 hm6;have HK6:=HFA.out v1 w6 hg6;have HK6H:Hid (Below base wo w6):=HK6;have HO6:Hid (w6.ownsRow base 214 4 v1 (q+1) (roL (resL wt x m' (row.take (q+1))))):=(by show World.ownsRow _ _ _ _ _ _ _;rw[HSR2.out];exact ho6);clear ho6 hg6 hm6 HK6 HFA HOA hn4 hone hszA)
       go_roundw
       case rel=>exact ⟨q+1,by omega,by go_num,HO6.out,HNT2.out,HK6H.out⟩
       case measure=>simp[intOf];omega
    ·obtain rfl:q=row.length:=by omega
     rw[List.take_length]at HOW HNT
     have HNT3:Hid (trapZ wt x m' row=none):=trapZ_none HNT.out
     have hRSl:(resL wt x m' row).length=row.length:=by unfold resL;rw[List.length_map]
     have hOWr:wr.ownsRow base 214 4 u11 (resL wt x m' row).length (roL (resL wt x m' row)):=by rw[hRSl];exact HOW.out
     obtain ⟨al,cl,hvl,hcl,hgl⟩:=ro_cells hOWr
     rw[hRSl]at hvl hcl hgl
     subst hvl
     have HGL:Hid (0<row.length→∃ g,al=some ⟨g,0,none⟩∧base≤g):=fun h=>let ⟨g,e,hb,_⟩:=hgl h;⟨g,e,hb⟩
     obtain ⟨wp,hwp⟩:∃ wp,wp=wr:=⟨_,rfl⟩
     subst hwp
     have hq':(row.length:Int)≤1000:=by omega
     have HSZ:Hid (∀ o∈row,(resZ wt x m' o).trap=false):=HNT.out
     have HMB:Hid (∀ i,0≤m' i∧m' i<4294967296):=hRq.d.mb
     clear hgl hOWr HNT zmb hRq
     go_wp2
     clear hur zb
     go_loopw [14,15] (fun lv k wq=>∃ q:Nat,q≤row.length∧k=.int .i64 q∧lv=.int .i64 (rowZ wt x m' (row.take q)).lv∧RnAt V wq mb rb' gb' kb' (rowZ wt x m' (row.take q)).x (rowZ wt x m' (row.take q)).m wt∧wq.ownsRow base 214 4 (.slice al row.length cl) row.length (roL (resL wt x m' row))∧base≤wq.heap.size) (fun _ k _=>row.length-(intOf k).toNat)
     case atStart=>exact ⟨0,Nat.zero_le _,rfl,rfl,HRQ.out,HOW.out,hbz⟩
     case round =>
      obtain ⟨q,hq,rfl,rfl,hRN,hown,hbz3⟩:=hrel
      have HRN3:Hid (RnAt V wr mb rb' gb' kb' (rowZ wt x m' (row.take q)).x (rowZ wt x m' (row.take q)).m wt):=hRN
      have HOW3:Hid (wr.ownsRow base 214 4 (.slice al row.length cl) row.length (roL (resL wt x m' row))):=hown
      have HWQ3:Hid (Below w.heap.size w wr):=HB0.out.trans (hRN.b.mono (by omega))
      have hlvb:=rowZ_lv (wt:=wt) (many:=many) HX.out HMB.out (row.take q) ⟨x,m',-1⟩ (fun o ho=>HWR.out o (List.mem_of_mem_take ho)) (.inl rfl)
      have HXB:=rowZ_xbd (wt:=wt) (many:=many) HX.out HMB.out (row.take q) ⟨x,m',-1⟩ (fun o ho=>HWR.out o (List.mem_of_mem_take ho)) HX.out
      have HXBH:Hid (∀ i,i<64→0≤(rowZ wt x m' (row.take q)).x i∧(rowZ wt x m' (row.take q)).x i<4294967296):=HXB
      have HLV:Hid ((rowZ wt x m' (row.take q)).lv=-1∨(0≤(rowZ wt x m' (row.take q)).lv∧(rowZ wt x m' (row.take q)).lv<4294967296)):=hlvb
      clear hRN hown hlvb HXB HRQ HOW HWQ HBQ
      by_cases hlq:q<row.length
      ·obtain ⟨o,ho⟩:∃ o,row[q]?=some o:=⟨_,List.getElem?_eq_getElem hlq⟩
       obtain ⟨b1,off1,rfl,hb1l,hcc⟩:=hO1.out (by omega)
       obtain ⟨x0,x1,x2,x3,x4,x5⟩:=hcc wr HWQ3.out q o ho
       have zb1:b1<wr.heap.size:=World.block_lt_of_cell? _ _ x0
       have hur:=HU.out wr HWQ3.out
       have zb:b<wr.heap.size:=World.block_lt_of_cell? _ _ hur
       have hlq':(q:Int)<row.length:=by omega
       have hwo:=HWR.out o (List.mem_of_getElem? ho)
       obtain ⟨vbd,abd⟩:=resZ_bd (wt:=wt) hwo.1 hwo.2 HX.out HMB.out
       obtain ⟨wd0,wd1⟩:=well_wr hwo.2
       obtain ⟨g,hga,hgb⟩:=HGL.out (by omega)
       subst hga
       have hRSq:(resL wt x m' row)[q]?=some (resZ wt x m' o):=by unfold resL;rw[List.getElem?_map,ho];rfl
       have HCL:Hid (∀ W:World,W.ownsRow base 214 4 (.slice (some ⟨g,0,none⟩) row.length cl) row.length (roL (resL wt x m' row))→W.cell? ⟨g,q*4,none⟩=some (.int .u32 (resZ wt x m' o).v)∧W.cell? ⟨g,q*4+1,none⟩=some (.int .u32 (resZ wt x m' o).a)∧W.cell? ⟨g,q*4+3,none⟩=some (.bool (resZ wt x m' o).leave)):=fun W hW=>by
        obtain ⟨al',cl',e,_,hg'⟩:=ro_cells (l:=resL wt x m' row) (by rw[hRSl];exact hW)
        obtain ⟨g',e',_,hc'⟩:=hg' (by rw[hRSl];omega)
        injection e with e1 e2 e3
        rw[←e1]at e'
        injection e' with e'
        injection e' with e'
        subst e'
        exact ⟨hc' q _ hRSq 0 _ rfl,hc' q _ hRSq 1 _ rfl,hc' q _ hRSq 3 _ rfl⟩
       have HTK:Hid (rowZ wt x m' (row.take (q+1))=appZ (rowZ wt x m' (row.take q)) o (resZ wt x m' o)):=by show _=_;rw[take_snoc' ho,rowZ_snoc]
       have hst3:Hid (o.k=24→chk (resZ wt x m' o).a o.d=0∧wt ((resZ wt x m' o).a/256)=false):=fun hk=>resZ_store hk (HSZ.out o (List.mem_of_getElem? ho))
       have hwrt:=fun W=>writeOf_any o W
       unfold opV at hwrt
       have B1:Below wr.heap.size wr (wr.alloc (.cells #[.string o.s,.int .i64 o.d,.int .i64 o.a,.int .i64 o.b,.int .u32 o.i,.int .i64 o.t] 139)):=(Below.refl _ _).alloc (Nat.le_refl _) _
       have bx1:=BoxO.new wr o
       have hk24:=kn_eq o.s 24 (by omega) (by omega)
       have HD24:Hid (kn o.s=24→wrX o=0):=fun h=>by unfold wrX rD Opx.k;rw[h];rfl
       clear ho hRSq hcc HGL HSZ
       generalize hRO:resZ wt x m' o=ro at *
       clear hRO
       generalize hLL:rowZ wt x m' (row.take q)=L at *
       clear hLL
       generalize hWX:wrX o=d at *
       go_wp2_with fail
       refine (hwrt _).mono ?_
       rintro e w2 ⟨rfl,hb2⟩
       have B2:Below wr.heap.size wr w2:=B1.trans (hb2.mono (by simp))
       have HB2:Hid (Below wr.heap.size wr w2):=B2
       have X2:Hid (BoxO w2 wr.heap.size o):=bx1.block (hb2.block _ bx1.lt)
       have R2:Hid (RnAt V w2 mb rb' gb' kb' L.x L.m wt):=⟨HRN3.out.bx.block (B2.block _ HRN3.out.bx.lt),HRN3.out.d.stays B2,HRN3.out.b.trans (B2.mono (by omega))⟩
       have O2:Hid (w2.ownsRow base 214 4 (.slice (some ⟨g,0,none⟩) row.length cl) row.length (roL (resL wt x m' row))):=owns_blocks HOW3.out fun k hk=>B2.block k (HOW3.out.lt k hk).2
       have hs2:=B2.size
       have hgw:g<wr.heap.size:=(HOW3.out.lt g rfl).2
       obtain ⟨v0,v1,v3⟩:=HCL.out w2 O2.out
       have zg2:=World.block_lt_of_cell? _ _ v0
       have hcap:(q:Int)<cl:=by omega
       clear hwrt hb2 B1 B2 bx1 x0 x1 x2 x3 x4 x5 zb zb1 hur HRN3 HOW3 HWQ3
       by_cases hd:0<d
       ·have h24:¬ kn o.s=24:=fun h=>by have:=HD24.out h;omega
        have hk':(o.s.toList==[115,116,111,114,101])=false:=by rw[show (o.s.toList==[115,116,111,114,101])=_ from hk24];simpa using h24
        have HA:Hid (appZ L o ro=⟨setX L.x d ro.v,L.m,if ro.leave=true then ro.a else L.lv⟩):=by
         show _=_;unfold appZ;rw[hWX,if_pos hd,if_neg (by unfold Opx.k;exact h24)]
        have mc:=R2.out.bx.c d.toNat (by omega)
        have mf:=R2.out.bx.fz d.toNat
        have zm2:=R2.out.bx.lt
        have R3:Hid (RnAt V (w2.setCell ⟨mb,d.toNat,none⟩ (.int .u32 ro.v)).drew mb rb' gb' kb' (setX L.x d ro.v) L.m wt):=R2.out.setx (by omega) (by omega) (by omega) (by omega) d.toNat (by omega) ro.v _ (fun n _=>rfl)
        have O3:Hid ((w2.setCell ⟨mb,d.toNat,none⟩ (.int .u32 ro.v)).drew.ownsRow base 214 4 (.slice (some ⟨g,0,none⟩) row.length cl) row.length (roL (resL wt x m' row))):=owns_blocks O2.out fun k hk=>Below.heap_setCell _ _ _ _ (by intro e;have e':k=mb:=e;have:=(O2.out.lt k hk).1;omega)
        have X3:Hid (BoxO (w2.setCell ⟨mb,d.toNat,none⟩ (.int .u32 ro.v)).drew wr.heap.size o):=X2.out.block (Below.heap_setCell _ _ _ _ (by intro e;have e':wr.heap.size=mb:=e;omega))
        have S3:base≤(w2.setCell ⟨mb,d.toNat,none⟩ (.int .u32 ro.v)).drew.heap.size:=by show base≤(w2.setCell _ _).heap.size;rw[World.size_setCell];omega
        clear hk24 HD24 h24 hst3 hWX
        go_wp2
        refine zP 10 [(0,0),(1,0),(2,0),(3,0),(4,0),(5,0),(6,1),(7,0),(8,0),(9,0),(10,2)] (fun W=>W.cell? ⟨g,q*4,none⟩=some (.int .u32 ro.v)) (by kernel_rfl) (by kernel_rfl) (fun _ _ _ d _ h=>by cases d<;>exact h) (by simpa using v0) ?_
        repeat (first|(refine zF (by rfl) (by rfl) (fun W=>by (go_simp;try with_reducible rfl)) (fun K hK=>?_);go_simp;refine hK _ ?_;clear hK K)|(refine zQ (by rfl) (by rfl) (fun W hW=>by (have s0:=hW;go_simp;try with_reducible rfl)) (fun K hK=>?_);go_simp;refine hK _ ?_;clear hK K))
        refine zSr (by rfl) (by rfl) (fun K hK=>?_)
        go_simp
        refine hK _ _ (fun h=>absurd h (by decide)) ?_
        clear hK K
        refine zN ?_
        clear mc mf zm2 R2 O2 X2 v0 v1 v3 zg2
        generalize (w2.setCell ⟨mb,d.toNat,none⟩ (.int .u32 ro.v)).drew=w3 at *
        have kb3:=X3.out.c0
        have zk3:=X3.out.lt
        obtain ⟨v0,v1,v3⟩:=HCL.out w3 O3.out
        have zg3:=World.block_lt_of_cell? _ _ v0
        cases hlf:ro.leave with
        | true =>
         rw[hlf]at v3
         have HT:Hid (RnAt V w3 mb rb' gb' kb' (rowZ wt x m' (row.take (q+1))).x (rowZ wt x m' (row.take (q+1))).m wt∧(rowZ wt x m' (row.take (q+1))).lv=ro.a):=by
          rw[HTK.out,HA.out,hlf];exact ⟨R3.out,rfl⟩
         have a0:=abd.1
         have a1':=abd.2
         clear HTK HA hlf
         go_wp2
         go_roundw
         case rel=>exact ⟨q+1,by omega,by go_num,by rw[HT.out.2],HT.out.1,O3.out,S3⟩
         case measure=>simp[intOf];omega
        | false =>
         rw[hlf]at v3
         have HT:Hid (RnAt V w3 mb rb' gb' kb' (rowZ wt x m' (row.take (q+1))).x (rowZ wt x m' (row.take (q+1))).m wt∧(rowZ wt x m' (row.take (q+1))).lv=L.lv):=by
          rw[HTK.out,HA.out,hlf];exact ⟨R3.out,rfl⟩
         clear HTK HA hlf
         go_wp2
         go_roundw
         case rel=>exact ⟨q+1,by omega,by go_num,by rw[HT.out.2],HT.out.1,O3.out,S3⟩
         case measure=>simp[intOf];omega
       ·have hd0:d=0:=by omega
        by_cases h24:kn o.s=24
        ·have hk':(o.s.toList==[115,116,111,114,101])=true:=by rw[show (o.s.toList==[115,116,111,114,101])=_ from hk24];simpa using h24
         obtain ⟨hchk,hwtf⟩:=hst3.out h24
         have HA:Hid (appZ L o ro=⟨L.x,upd L.m ro.a o.d ro.v,if ro.leave=true then ro.a else L.lv⟩):=by
          show _=_;unfold appZ;rw[hWX,if_neg hd,if_pos (by unfold Opx.k;exact h24)]
         have mcp:=R2.out.bx.cp
         have zm2:=R2.out.bx.lt
         have kd2:=X2.out.c1
         have k02:=X2.out.c0
         have zk2:=X2.out.lt
         have hstc:=fun W (hW:DRam W rb' gb' kb' L.m wt)=>dstore_ok hW ro.a o.d ro.v abd.1 abd.2 vbd.1 vbd.2 hchk hwtf
         have ck:Ck22 w2 mb rb' g (q*4) wr.heap.size ro o:=⟨mcp,v1,kd2,v0⟩
         clear hk24 HD24 h24 hst3 hWX hchk hwtf
         go_wp2
         refine zP 17 [(0,0),(1,0),(2,0),(3,1),(4,0),(5,0),(6,0),(7,0),(8,1),(9,0),(10,1),(11,0),(12,0),(13,0),(14,0),(15,1),(16,2)] (fun W=>Ck22 W mb rb' g (q*4) wr.heap.size ro o) (by kernel_rfl) (by kernel_rfl) (fun _ _ _ d _ h=>by cases d<;>exact h) ⟨by simpa using ck.a,by simpa using ck.b,by simpa using ck.c,by simpa using ck.d⟩ ?_
         repeat (first|(refine zF (by rfl) (by rfl) (fun W=>by (go_simp;try with_reducible rfl)) (fun K hK=>?_);go_simp;refine hK _ ?_;clear hK K)|(refine zQ (by rfl) (by rfl) (fun W hW=>by (obtain ⟨s0,s1,s2,s3⟩:=hW;go_simp;try with_reducible rfl)) (fun K hK=>?_);go_simp;refine hK _ ?_;clear hK K))
         refine zSr (by rfl) (by rfl) (fun K hK=>?_)
         go_simp
         refine (hstc w2.drew R2.out.drew.d).mono ?_
         rintro e w3 ⟨rfl,hD3,hg3⟩
         have hg3':w2.grownBy w3 (some gb'):=⟨hg3.os,hg3.tape,hg3.output,hg3.size,hg3.block⟩
         have R3:Hid (RnAt V w3 mb rb' gb' kb' L.x (upd L.m ro.a o.d ro.v) wt):=R2.out.store (by omega) (by omega) hD3 hg3'
         have bk3:∀ k,base≤k→k<w2.heap.size→w3.heap[k]?=w2.heap[k]?:=fun k h1 h2=>hg3'.block k h2 (by intro e;have:=Option.some.inj e;omega)
         have O3:Hid (w3.ownsRow base 214 4 (.slice (some ⟨g,0,none⟩) row.length cl) row.length (roL (resL wt x m' row))):=owns_blocks O2.out fun k hk=>bk3 k (O2.out.lt k hk).1 (O2.out.lt k hk).2
         have S3:base≤w3.heap.size:=by have:=hg3'.size;omega
         refine hK _ _ (fun _=>?_) ?_
         ·obtain ⟨v0',v1',v3'⟩:=HCL.out w3 O3.out
          exact ⟨R3.out.bx.cp,v1',(X2.out.block (bk3 _ (by omega) zk2)).c1,v0'⟩
         clear hK K ck hstc hg3 hg3' hD3 mcp zm2 kd2 k02 zk2 R2 O2 X2 v0 v1 v3 zg2 bk3
         refine zN ?_
         obtain ⟨v0,v1,v3⟩:=HCL.out w3 O3.out
         have zg3:=World.block_lt_of_cell? _ _ v0
         cases hlf:ro.leave with
         | true =>
          rw[hlf]at v3
          have HT:Hid (RnAt V w3 mb rb' gb' kb' (rowZ wt x m' (row.take (q+1))).x (rowZ wt x m' (row.take (q+1))).m wt∧(rowZ wt x m' (row.take (q+1))).lv=ro.a):=by
           rw[HTK.out,HA.out,hlf];exact ⟨R3.out,rfl⟩
          have a0:=abd.1
          have a1':=abd.2
          clear HTK HA hlf
          go_wp2
          go_roundw
          case rel=>exact ⟨q+1,by omega,by go_num,by rw[HT.out.2],HT.out.1,O3.out,S3⟩
          case measure=>simp[intOf];omega
         | false =>
          rw[hlf]at v3
          have HT:Hid (RnAt V w3 mb rb' gb' kb' (rowZ wt x m' (row.take (q+1))).x (rowZ wt x m' (row.take (q+1))).m wt∧(rowZ wt x m' (row.take (q+1))).lv=L.lv):=by
           rw[HTK.out,HA.out,hlf];exact ⟨R3.out,rfl⟩
          clear HTK HA hlf
          go_wp2
          go_roundw
          case rel=>exact ⟨q+1,by omega,by go_num,by rw[HT.out.2],HT.out.1,O3.out,S3⟩
          case measure=>simp[intOf];omega
        ·have hk':(o.s.toList==[115,116,111,114,101])=false:=by rw[show (o.s.toList==[115,116,111,114,101])=_ from hk24];simpa using h24
         have HA:Hid (appZ L o ro=⟨L.x,L.m,if ro.leave=true then ro.a else L.lv⟩):=by
          show _=_;unfold appZ;rw[hWX,if_neg hd,if_neg (by unfold Opx.k;exact h24)]
         have R3:Hid (RnAt V w2 mb rb' gb' kb' L.x L.m wt):=R2.out
         have O3:Hid (w2.ownsRow base 214 4 (.slice (some ⟨g,0,none⟩) row.length cl) row.length (roL (resL wt x m' row))):=O2.out
         have S3:base≤w2.heap.size:=by omega
         have kb3:=X2.out.c0
         have zk3:=X2.out.lt
         clear hk24 HD24 h24 hst3 hWX R2 O2
         cases hlf:ro.leave with
         | true =>
          rw[hlf]at v3
          have HT:Hid (RnAt V w2 mb rb' gb' kb' (rowZ wt x m' (row.take (q+1))).x (rowZ wt x m' (row.take (q+1))).m wt∧(rowZ wt x m' (row.take (q+1))).lv=ro.a):=by
           rw[HTK.out,HA.out,hlf];exact ⟨R3.out,rfl⟩
          have a0:=abd.1
          have a1':=abd.2
          clear HTK HA hlf
          go_wp2
          go_roundw
          case rel=>exact ⟨q+1,by omega,by go_num,by rw[HT.out.2],HT.out.1,O3.out,S3⟩
          case measure=>simp[intOf];omega
         | false =>
          rw[hlf]at v3
          have HT:Hid (RnAt V w2 mb rb' gb' kb' (rowZ wt x m' (row.take (q+1))).x (rowZ wt x m' (row.take (q+1))).m wt∧(rowZ wt x m' (row.take (q+1))).lv=L.lv):=by
           rw[HTK.out,HA.out,hlf];exact ⟨R3.out,rfl⟩
          clear HTK HA hlf
          go_wp2
          go_roundw
          case rel=>exact ⟨q+1,by omega,by go_num,by rw[HT.out.2],HT.out.1,O3.out,S3⟩
          case measure=>simp[intOf];omega
      ·obtain rfl:q=row.length:=by omega
       rw[List.take_length]at HRN3 HXBH HLV ⊢
       clear HGL HSZ
       obtain ⟨wL,hwL⟩:∃ wL,wL=wr:=⟨_,rfl⟩
       subst hwL
       have HZQ:Hid ((if (rowZ wt x m' row).lv<0 then runZ wt (rs.drop (j+1)) (rowZ wt x m' row).x (rowZ wt x m' row).m else .leave (rowZ wt x m' row))=Z):=by
        show _=_
        rw[←HZJ.out,HDR.out,runZ_cons,HNT3.out]
       generalize rowZ wt x m' row=L at *
       by_cases hlv:L.lv<0
       ·have HZN:Hid (runZ wt (rs.drop (j+1)) L.x L.m=Z):=by have:=HZQ.out;rwa [if_pos hlv]at this
        clear HZQ HOW3
        go_wp2
        go_roundw
        case rel=>exact ⟨j+1,L.x,L.m,by omega,by go_num,HRN3.out,HXBH.out,HZN.out,hbz3⟩
        case measure=>simp[intOf];omega
       ·have HZN:Hid (Z=.leave L):=by have:=HZQ.out;rw[if_neg hlv]at this;exact this.symm
        have hlvu:0≤L.lv∧L.lv<4294967296:=HLV.out.resolve_left (by omega)
        clear HZQ HOW3 HLV
        have HWL:Hid (Below w.heap.size w wL):=HB0.out.trans (HRN3.out.b.mono (by omega))
        have HEL:Hid (EBox wL w.heap.size):=HE0.out.block (HRN3.out.b.block _ (by omega))
        have hmbs:mb≠sb:=by omega
        have L0:LvAt wL wL sb (wbF f L.x 1):=⟨RowIs.congrP (RowIs.block HS.out (HWL.out.block _ hsb)) (fun j hj=>by unfold wbF;rw[if_neg (by omega)]),grown_refl _ _⟩
        have HL0:Hid (LvAt wL wL sb (wbF f L.x 1)):=L0
        clear L0 HXBH HZJ HDR HNT3 HVW HEW HRN HX HMB HWR hO1 HU
        go_wp2
        go_loopw [18] (fun k wq=>∃ n:Nat,1≤n∧n≤32∧k=.int .i64 n∧LvAt wL wq sb (wbF f L.x n)) (fun k _=>32-(intOf k).toNat)
        case atStart=>exact ⟨1,by omega,by omega,rfl,HL0.out⟩
        case round =>
         obtain ⟨n,hn1,hn2,rfl,hA⟩:=hrel
         have HA:Hid (LvAt wL wr sb (wbF f L.x n)):=hA
         have hM:=HRN3.out.bx.block (hA.block _ HRN3.out.bx.lt hmbs)
         have zs:=hA.s.lt
         have zm:=hM.lt
         clear HL0 hA
         by_cases hn:n<32
         ·have hn':(n:Int)<32:=by omega
          have hn64:(n:Int)<64:=by omega
          have c1:=hM.c n (by omega)
          have g1:wr.cell? ⟨sb,n,none⟩=some (.int .u32 (r n)):=by rw[HA.out.s.cell (by omega)];unfold wbF;rw[if_neg (by omega),HF.out.1 n (by omega)]
          have f1:=HA.out.s.fz n
          have A2:Hid (LvAt wL (wr.setCell ⟨sb,n,none⟩ (.int .u32 (L.x n))).drew sb (wbF f L.x (n+1))):=(HA.out.put n _ _ (by rw[wbF_succ _ _ _ _ hn1,if_pos rfl]) (fun j hj hne=>by rw[wbF_succ _ _ _ _ hn1,if_neg hne])).drew
          clear hM HA
          generalize L.x n=xv at *
          go_wp2
          refine zP 11 [(0,0),(1,0),(2,0),(3,0),(4,0),(5,0),(6,0),(7,1),(8,0),(9,0),(10,0),(11,2)] (fun W=>W.cell? ⟨mb,n,none⟩=some (.int .u32 xv)) (by kernel_rfl) (by kernel_rfl) (fun _ _ _ d _ h=>by cases d<;>exact h) (by simpa using c1) ?_
          repeat (first|(refine zF (by rfl) (by rfl) (fun W=>by (go_simp;try with_reducible rfl)) (fun K hK=>?_);go_simp;refine hK _ ?_;clear hK K)|(refine zQ (by rfl) (by rfl) (fun W hW=>by (have s0:=hW;go_simp;try with_reducible rfl)) (fun K hK=>?_);go_simp;refine hK _ ?_;clear hK K))
          refine zSr (by rfl) (by rfl) (fun K hK=>?_)
          go_simp
          refine hK _ _ (fun h=>absurd h (by decide)) ?_
          clear hK K
          refine zN ?_
          clear c1 g1 f1 zs zm
          generalize (wr.setCell ⟨sb,n,none⟩ (.int .u32 xv)).drew=W3 at *
          go_wp2
          go_roundw
          case rel=>exact ⟨n+1,by omega,by omega,by go_num,A2.out⟩
          case measure=>simp[intOf];omega
         ·obtain rfl:n=32:=by omega
          clear hn hn1 hn2
          have c32:=hM.c 32 (by omega)
          have g32:wr.cell? ⟨sb,32,none⟩=some (.int .u32 (r 32)):=by rw[HA.out.s.cell (by omega)];unfold wbF;rw[if_neg (by omega),HF.out.1 32 (by omega)]
          have f32:=HA.out.s.fz 32
          have A1:=HA.out.put 32 (.int .u32 (L.x 32)) (wbF f L.x 33) (by rw[wbF_succ _ _ _ _ (by omega),if_pos rfl]) (fun j hj hne=>by rw[wbF_succ _ _ _ _ (by omega),if_neg hne])
          clear hM HA
          go_upto_region 31 with fail
          generalize wr.setCell ⟨sb,32,none⟩ (.int .u32 (L.x 32))=W1 at *
          have HA1:Hid (LvAt wL W1 sb (wbF f L.x 33)):=A1
          have hM:=HRN3.out.bx.block (A1.block _ HRN3.out.bx.lt hmbs)
          clear c32 g32 f32 zs zm A1
          have zs:=HA1.out.s.lt
          have zm:=hM.lt
          have c33:=hM.c 33 (by omega)
          have g33:W1.cell? ⟨sb,33,none⟩=some (.int .u32 (r 33)):=by rw[HA1.out.s.cell (by omega)];unfold wbF;rw[if_neg (by omega),HF.out.1 33 (by omega)]
          have f33:=HA1.out.s.fz 33
          have A2:=HA1.out.put 33 (.int .u32 (L.x 33)) (wbF f L.x 34) (by rw[wbF_succ _ _ _ _ (by omega),if_pos rfl]) (fun j hj hne=>by rw[wbF_succ _ _ _ _ (by omega),if_neg hne])
          clear hM HA1
          go_upto_region 32 with fail
          generalize W1.setCell ⟨sb,33,none⟩ (.int .u32 (L.x 33))=W2 at *
          have HA2:Hid (LvAt wL W2 sb (wbF f L.x 34)):=A2
          clear c33 g33 f33 zs zm A2
          have zs:=HA2.out.s.lt
          have g34:W2.cell? ⟨sb,34,none⟩=some (.int .u32 p4):=by rw[HA2.out.s.cell (by omega)];unfold wbF;rw[if_neg (by omega),HF.out.2.2.1]
          have f34:=HA2.out.s.fz 34
          have A3:=HA2.out.put 34 (.int .u32 L.lv) (fun j=>if j=34 then .int .u32 L.lv else wbF f L.x 34 j) (by rw[if_pos rfl]) (fun j hj hne=>by rw[if_neg hne])
          have lv0:=hlvu.1
          have lv1:=hlvu.2
          clear HA2
          go_upto_region 33 with fail
          generalize W2.setCell ⟨sb,34,none⟩ (.int .u32 L.lv)=W3 at *
          have HA3:Hid (LvAt wL W3 sb (fun j=>if j=34 then .int .u32 L.lv else wbF f L.x 34 j)):=A3
          clear g34 f34 zs A3
          have zs:=HA3.out.s.lt
          have g34:W3.cell? ⟨sb,34,none⟩=some (.int .u32 L.lv):=by rw[HA3.out.s.cell (by omega)];rfl
          have g35:W3.cell? ⟨sb,35,none⟩=some (.int .u32 p5):=by rw[HA3.out.s.cell (by omega)];show some (wbF f L.x 34 35)=_;unfold wbF;rw[if_neg (by omega),HF.out.2.2.2]
          have f35:=HA3.out.s.fz 35
          have A4:=HA3.out.put 35 (.int .u32 (lo (L.lv+4))) (fun j=>if j=35 then .int .u32 (lo (L.lv+4)) else if j=34 then .int .u32 L.lv else wbF f L.x 34 j) (by rw[if_pos rfl]) (fun j hj hne=>by rw[if_neg hne])
          have hpl:=plus3_any L.lv 4 lv0 lv1 (by omega) (by omega) W3
          clear HA3
          go_wp2_with fail
          refine hpl.mono ?_
          rintro e w9 ⟨rfl,hw9⟩
          rw[hw9]
          clear hpl hw9 w9
          go_upto_region 34 with fail
          generalize W3.setCell ⟨sb,35,none⟩ (.int .u32 (lo (L.lv+4)))=W4 at *
          have HA4:Hid (LvAt wL W4 sb (fun j=>if j=35 then .int .u32 (lo (L.lv+4)) else if j=34 then .int .u32 L.lv else wbF f L.x 34 j)):=A4
          clear g34 g35 f35 zs A4
          have zs:=HA4.out.s.lt
          have g42:W4.cell? ⟨sb,42,none⟩=some (.int .i64 ct):=by rw[HA4.out.s.cell (by omega)];show some (wbF f L.x 34 42)=_;unfold wbF;rw[if_neg (by omega),HF.out.2.1]
          have f42:=HA4.out.s.fz 42
          have A5:=HA4.out.put 42 (.int .i64 (ct+many)) (stF f L many ct) rfl (fun j hj hne=>by
           unfold stF wbF
           by_cases h1:1≤j∧j<34
           ·rw[if_pos h1,if_neg (by omega),if_neg (by omega),if_pos h1]
           ·rw[if_neg h1]
            by_cases h34:j=34
            ·rw[if_pos h34,if_neg (by omega),if_pos h34]
            ·rw[if_neg h34]
             by_cases h35:j=35
             ·rw[if_pos h35,if_pos h35]
             ·rw[if_neg h35,if_neg hne,if_neg h35,if_neg h34,if_neg h1])
          clear HA4
          go_upto_region 35 with fail
          generalize W4.setCell ⟨sb,42,none⟩ (.int .i64 (ct+many))=W5 at *
          have HA5:Hid (LvAt wL W5 sb (stF f L many ct)):=A5
          clear g42 f42 zs A5
          have hM:=HRN3.out.bx.block (HA5.out.block _ HRN3.out.bx.lt hmbs)
          have hrL:rb<wL.heap.size:=by have:=HWL.out.size;omega
          have hr'L:rb'<wL.heap.size:=HRN3.out.d.lt (.inl rfl)
          have d0:W5.cell? ⟨rb',0,none⟩=some (.slice (some ⟨gb',0,none⟩) 4096 4096):=(World.cell?_of_block (a:=⟨rb',0,none⟩) (HA5.out.block rb' hr'L (by omega))).trans HRN3.out.d.c0
          have cp:=hM.cp
          have brb:W5.heap[rb]?=w.heap[rb]?:=(HA5.out.block rb hrL (Ne.symm hsr)).trans (HWL.out.block _ hrbl)
          have c0r:W5.cell? ⟨rb,0,none⟩=some (.slice (some ⟨gb,0,none⟩) 4096 4096):=(World.cell?_of_block (a:=⟨rb,0,none⟩) brb).trans HC0.out
          have f0r:W5.frozen? ⟨rb,0,none⟩=false:=(World.frozen?_of_block (a:=⟨rb,0,none⟩) brb).trans (HFR.out 0)
          have E5:EBox W5 w.heap.size:=HEL.out.block (HA5.out.block _ HEL.out.lt (by omega))
          have HE6:Hid (EBox (W5.setCell ⟨rb,0,none⟩ (.slice (some ⟨gb',0,none⟩) 4096 4096)) w.heap.size):=E5.block (Below.heap_setCell _ _ _ _ (by intro e;have e':w.heap.size=rb:=e;omega))
          have HC6:Hid ((W5.setCell ⟨rb,0,none⟩ (.slice (some ⟨gb',0,none⟩) 4096 4096)).cell? ⟨rb,0,none⟩=some (.slice (some ⟨gb',0,none⟩) 4096 4096)):=World.cell?_setCell_same _ _ _ c0r
          have HB6:Hid (∀ k,k≠rb→(W5.setCell ⟨rb,0,none⟩ (.slice (some ⟨gb',0,none⟩) 4096 4096)).heap[k]?=W5.heap[k]?):=fun k hk=>Below.heap_setCell _ _ _ _ hk
          have HS6:Hid ((W5.setCell ⟨rb,0,none⟩ (.slice (some ⟨gb',0,none⟩) 4096 4096)).heap.size=W5.heap.size∧(W5.setCell ⟨rb,0,none⟩ (.slice (some ⟨gb',0,none⟩) 4096 4096)).os=W5.os∧(W5.setCell ⟨rb,0,none⟩ (.slice (some ⟨gb',0,none⟩) 4096 4096)).tape=W5.tape∧(W5.setCell ⟨rb,0,none⟩ (.slice (some ⟨gb',0,none⟩) 4096 4096)).output=W5.output):=⟨World.size_setCell _ _ _,rfl,rfl,rfl⟩
          have zm:=hM.lt
          have zr':=World.block_lt_of_cell? _ _ d0
          have zr:=World.block_lt_of_cell? _ _ c0r
          clear hM E5 brb
          go_upto_region 36 with fail
          generalize W5.setCell ⟨rb,0,none⟩ (.slice (some ⟨gb',0,none⟩) 4096 4096)=W6 at *
          clear d0 cp c0r f0r zm zr' zr
          obtain ⟨⟨g0,q0⟩,⟨g1,q1⟩,⟨g2,q2⟩,qf⟩:=HE6.out
          have qf0:=qf 0
          have qf1:=qf 1
          have qf2:=qf 2
          have ze:=World.block_lt_of_cell? _ _ q0
          go_wp2
          refine bodyPost_ret (r1c (A:=⟨w.heap.size,0,none⟩) rfl _ _ _ rfl (end_put HE6.out _ _ _)) rfl ?_
          rw[HZN.out]
          have b7:∀ (a b c:Value) (k:Nat),k≠w.heap.size→(((W6.setCell ⟨w.heap.size,0,none⟩ a).setCell ⟨w.heap.size,1,none⟩ b).setCell ⟨w.heap.size,2,none⟩ c).heap[k]?=W6.heap[k]?:=fun a b c k hk=>by rw[Below.heap_setCell _ _ _ _ hk,Below.heap_setCell _ _ _ _ hk,Below.heap_setCell _ _ _ _ hk]
          have hgL:gb'<wL.heap.size:=HRN3.out.d.lt (.inr (.inl rfl))
          have hz5:=HA5.out.g.size
          refine ⟨rfl,RowIs.block HA5.out.s ((b7 _ _ _ sb (by omega)).trans (HB6.out sb hsr)),⟨gb',(World.cell?_of_block (a:=⟨rb,0,none⟩) (b7 _ _ _ rb (by omega))).trans HC6.out,by omega,fun i hi=>?_⟩,fun k hk h1 h2=>?_,?_,?_,?_,?_⟩
          ·exact (World.cell?_of_block (a:=⟨gb',i,none⟩) ((b7 _ _ _ gb' (by omega)).trans ((HB6.out gb' (by omega)).trans (HA5.out.block gb' hgL (by omega))))).trans (HRN3.out.d.cell i hi)
          ·exact (b7 _ _ _ k (by omega)).trans ((HB6.out k h2).trans ((HA5.out.block k (by have:=HWL.out.size;omega) h1).trans (HWL.out.block k hk)))
          ·rw[World.size_setCell,World.size_setCell,World.size_setCell,HS6.out.1];have:=HWL.out.size;omega
          ·show W6.os=w.os;rw[HS6.out.2.1,HA5.out.g.os,HWL.out.os]
          ·show W6.tape=w.tape;rw[HS6.out.2.2.1,HA5.out.g.tape,HWL.out.tape]
          ·show W6.output=w.output;rw[HS6.out.2.2.2,HA5.out.g.output,HWL.out.output]
  ·obtain rfl:j=rs.length:=by omega
   have HZF:Hid (Z=.fell):=by have:=HZJ.out;rw[List.drop_length]at this;exact this.symm
   obtain ⟨⟨g0,q0⟩,⟨g1,q1⟩,⟨g2,q2⟩,qf⟩:=HEW.out
   have qf0:=qf 0
   have qf1:=qf 1
   have qf2:=qf 2
   have ze:=World.block_lt_of_cell? _ _ q0
   clear hR HH HRN
   go_wp2
   refine bodyPost_ret (r1c (A:=⟨w.heap.size,0,none⟩) rfl _ _ _ rfl (end_put HEW.out _ _ _)) rfl ?_
   rw[HZF.out]
   exact ⟨rfl,((HVW.out.setCell (Nat.le_refl _) _).setCell (Nat.le_refl _) _).setCell (Nat.le_refl _) _⟩
end Go.Proofs.YtflagpkmebdckaaGreatDoor
