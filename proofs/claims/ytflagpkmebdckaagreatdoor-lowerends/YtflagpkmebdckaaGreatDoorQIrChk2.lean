
import Derived.Test.YtflagpkmebdckaaGreatDoorQIrChk
namespace Go.Proofs.YtflagpkmebdckaaGreatDoor
open Go.RowKit Go.Maps
open Num
set_option linter.unusedVariables false
set_option maxRecDepth 100000
set_option maxHeartbeats 4000000
theorem op_cells {w:World} {b off i:Nat} {o:Opx} (h:∀ (j:Nat) (u:Value),(opC o)[j]?=some u→w.cell? ⟨b,off+i*6+j,none⟩=some u) :
  w.cell? ⟨b,off+i*6,none⟩=some (.string o.s)∧w.cell? ⟨b,off+i*6+1,none⟩=some (.int .i64 o.d)∧w.cell? ⟨b,off+i*6+2,none⟩=some (.int .i64 o.a)∧w.cell? ⟨b,off+i*6+3,none⟩=some (.int .i64 o.b)∧w.cell? ⟨b,off+i*6+4,none⟩=some (.int .u32 o.i)∧w.cell? ⟨b,off+i*6+5,none⟩=some (.int .i64 o.t) :=
 ⟨h 0 _ rfl,h 1 _ rfl,h 2 _ rfl,h 3 _ rfl,h 4 _ rfl,h 5 _ rfl⟩
theorem take_snoc' {α:Type} {l:List α} {j:Nat} {o:α} (h:l[j]?=some o):l.take (j+1)=l.take j++[o]:=by
 rw[List.take_add_one,h];rfl
theorem storesOf_any {w:World} {v:Value} {l:List Opx} (A:OpsIn w v l) (hl:(l.length:Int)≤1000000) :
  Calls Tryz.prog 129 #[v] w fun e w'=>e=.returned (.int .i64 (strs l))∧Below w.heap.size w w':=by
 obtain ⟨ao,cap,rfl,hc,hh⟩:=A.sh
 have HH:Hid (0<l.length→∃ b off:Nat,ao=some ⟨b,off,none⟩∧∀ (i:Nat) (o:Opx),l[i]?=some o→∀ (j:Nat) (u:Value),(opC o)[j]?=some u→w.cell? ⟨b,off+i*6+j,none⟩=some u):=hh
 clear hh A
 go_enter Tryz.func129,Tryz.ntmps129
 go_wp2
 go_loopw [3,8] (fun n i wr=>∃ j:Nat,j≤l.length∧i=.int .i64 j∧n=.int .i64 (strs (l.take j))∧Below w.heap.size w wr) (fun _ i _=>l.length-(intOf i).toNat)
 case atStart=>exact ⟨0,Nat.zero_le _,rfl,rfl,Below.refl _ _⟩
 case round =>
  obtain ⟨j,hj,rfl,rfl,hB⟩:=hrel
  by_cases hlt:j<l.length
  ·have ho:l[j]?=some l[j]:=List.getElem?_eq_getElem hlt
   obtain ⟨b,off,rfl,hcell⟩:=HH.out (by omega)
   obtain ⟨x0,x1,x2,x3,x4,x5⟩:=op_cells (w:=wr) (fun k u hk=>by rw[hB.cell (World.block_lt_of_cell? _ _ (hcell j _ ho k u hk))];exact hcell j _ ho k u hk)
   have hk:=kn_eq l[j].s 24 (by omega) (by omega)
   have HS:Hid (strs (l.take (j+1))=strs (l.take j)+(if l[j].k=24 then 1 else 0)):=by
    show _=_;rw[take_snoc' ho,strs_snoc]
   have hb:=strs_le (l.take j)
   have hb2:(l.take j).length≤j:=List.length_take_le _ _
   have hlt':(j:Int)<l.length:=by omega
   clear ho hcell
   generalize l[j]=o at *
   by_cases h24:kn o.s=24
   ·have hk':(o.s.toList==[115,116,111,114,101])=true:=by rw[show (o.s.toList==[115,116,111,114,101])=_ from hk];simpa using h24
    clear hk
    go_wp2
    go_roundw
    case rel=>exact ⟨j+1,by omega,by go_num,by rw[HS.out,if_pos h24];go_num,hB.alloc (by have:=hB.size;omega) _⟩
    case measure=>simp[intOf];omega
   ·have hk':(o.s.toList==[115,116,111,114,101])=false:=by rw[show (o.s.toList==[115,116,111,114,101])=_ from hk];simpa using h24
    clear hk
    go_wp2
    go_roundw
    case rel=>exact ⟨j+1,by omega,by go_num,by rw[HS.out,if_neg h24];go_num,hB.alloc (by have:=hB.size;omega) _⟩
    case measure=>simp[intOf];omega
  ·obtain rfl:j=l.length:=by omega
   go_wp2
   go_ret
   exact ⟨by rw[List.take_length];rfl,hB⟩
theorem opE_shape {o:Opx} {many rd ra rb:Int} {ri:Bool} (hk:¬ kn o.s=0) (hb:bndB o many=true) (e1:(rD (kn o.s):Int)=rd) (e2:(rA (kn o.s):Int)=ra) (e3:(rB (kn o.s):Int)=rb) (e4:rI (kn o.s)=ri)
  (h:rd=0∧¬ o.d=0∨ra=0∧¬ o.a=0∨rb=0∧¬ o.b=0∨ri=false∧¬ o.i=0):opE o many=3:=by
 have:shpB o=false:=by
  unfold shpB Opx.k
  rcases h with ⟨h1,h2⟩|⟨h1,h2⟩|⟨h1,h2⟩|⟨h1,h2⟩
  ·have:rD (kn o.s)=0:=by omega
   simp[this,h2]
  ·have:rA (kn o.s)=0:=by omega
   simp[this,h2]
  ·have:rB (kn o.s)=0:=by omega
   simp[this,h2]
  ·rw[e4,h1];simp[h2]
 unfold opE Opx.k;rw[if_neg hk,if_neg (by rw[hb];simp),if_pos this]
theorem opE_fine {o:Opx} {many rd ra rb:Int} {ri:Bool} (hk:¬ kn o.s=0) (hb:bndB o many=true) (e1:(rD (kn o.s):Int)=rd) (e2:(rA (kn o.s):Int)=ra) (e3:(rB (kn o.s):Int)=rb) (e4:rI (kn o.s)=ri)
  (h1:rd≠0∨o.d=0) (h2:ra≠0∨o.a=0) (h3:rb≠0∨o.b=0) (h4:ri=true∨o.i=0):opE o many=0:=by
 have:shpB o=true:=by
  unfold shpB Opx.k
  have h1':(decide (rD (kn o.s)≠0)||decide (o.d=0))=true:=by simp;omega
  have h2':(decide (rA (kn o.s)≠0)||decide (o.a=0))=true:=by simp;omega
  have h3':(decide (rB (kn o.s)≠0)||decide (o.b=0))=true:=by simp;omega
  have h4':(rI (kn o.s)||decide (o.i=0))=true:=by rw[e4];simpa using h4
  rw[h1',h2',h3',h4'];rfl
 unfold opE Opx.k;rw[if_neg hk,if_neg (by rw[hb];simp),if_neg (by rw[this];simp)]
theorem role_le (k:Nat):rD k≤4∧rA k≤4∧rB k≤4:=by
 unfold rD rA rB
 refine ⟨?_,?_,?_⟩<;>(split<;>(try split)<;>omega)
theorem bcell6 {w w1:World} {c:Array Value} {t:TypeId} (hb:Below (w.alloc (.cells c t)).heap.size (w.alloc (.cells c t)) w1):(∀ o,w1.cell? ⟨w.heap.size,o,none⟩=(w.alloc (.cells c t)).cell? ⟨w.heap.size,o,none⟩)∧(∀ o,w1.frozen? ⟨w.heap.size,o,none⟩=(w.alloc (.cells c t)).frozen? ⟨w.heap.size,o,none⟩) :=
 ⟨fun o=>hb.cell (p:=⟨w.heap.size,o,none⟩) (by simp),fun o=>hb.frozen (p:=⟨w.heap.size,o,none⟩) (by simp)⟩
theorem checkOp_any (pe:Nat→Addr) {w:World} (E:Eg pe w) (o:Opx) (ok:o.ok) (many:Int) :
  Calls Tryz.prog 131 #[opV o,.int .i64 many] w fun e w'=>e=.returned (erV pe (opE o many))∧Below w.heap.size w w':=by
 obtain ⟨z2,z3,z4,_⟩:=E.size
 obtain ⟨e2,e3,e4,_⟩:=E
 unfold opV
 have hsh:=fun w=>shapeOf_any o.s w
 by_cases hk:kn o.s=0
 ·have HE:Hid (opE o many=4):=by show _=_;unfold opE Opx.k;rw[if_pos hk]
  have hsh:∀ w,Calls Tryz.prog 196 #[.string o.s] w fun e w'=>e=.returned (.tuple #[.agg #[.int .i64 0,.int .i64 0,.int .i64 0,.bool false],.bool false])∧Below w.heap.size w w':=by
   intro w;have:=hsh w;rw[hk]at this;exact this
  go_enter Tryz.func131,Tryz.ntmps131
  go_wp2_with fail
  refine (hsh _).mono ?_
  rintro e w1 ⟨rfl,hb1⟩
  have q4:w1.cell? ⟨5,0,none⟩=_:=(hb1.cell (p:=⟨5,0,none⟩) (by simp<;>omega)).trans ((World.grownBy_alloc w _ none).cell e4 (by simp))
  have hz1:w.heap.size+1≤w1.heap.size:=by have:=hb1.size;simpa using this
  have y4:5<w1.heap.size:=by omega
  clear hsh e2 e3 e4
  go_wp2
  go_ret
  refine ⟨by rw[HE.out];rfl,?_⟩
  exact (((Below.refl _ _).alloc (Nat.le_refl _) _).trans (hb1.mono (by simp))).alloc (by omega) _
 ·have hR:=role_le (kn o.s)
  have hsh:∀ w,Calls Tryz.prog 196 #[.string o.s] w fun e w'=>e=.returned (.tuple #[.agg #[.int .i64 (rD (kn o.s)),.int .i64 (rA (kn o.s)),.int .i64 (rB (kn o.s)),.bool (rI (kn o.s))],.bool true])∧Below w.heap.size w w':=by
   intro w;have:=hsh w;unfold shpV at this;rw[show decide (kn o.s≠0)=true by simpa using hk]at this;exact this
  have a1:=fun w=>allows_any (rD (kn o.s)) hR.1 o.d w
  have a2:=fun w=>allows_any (rA (kn o.s)) hR.2.1 o.a w
  have a3:=fun w=>allows_any (rB (kn o.s)) hR.2.2 o.b w
  have HS:=@opE_shape o many
  have HF:=@opE_fine o many
  have HB:Hid (bndB o many=false→opE o many=2):=by
   intro h;unfold opE Opx.k;rw[if_neg hk,if_pos h]
  have HD:Hid (bndB o many=(alw (rD (kn o.s)) o.d&&alw (rA (kn o.s)) o.a&&alw (rB (kn o.s)) o.b&&decide (0≤o.t)&&decide (o.t<many))):=rfl
  clear hR
  generalize hrd:(rD (kn o.s):Int)=rd at *
  generalize hra:(rA (kn o.s):Int)=ra at *
  generalize hrb:(rB (kn o.s):Int)=rb at *
  generalize hri:rI (kn o.s)=ri at *
  have HS:=fun h=>@HS rd ra rb ri hk h rfl rfl rfl rfl
  have HF:=fun h=>@HF rd ra rb ri hk h rfl rfl rfl rfl
  have a1:∀ w,Calls Tryz.prog 197 #[.int .i64 rd,.int .i64 o.d] w fun e w'=>e=.returned (.bool (alw (rD (kn o.s)) o.d))∧w'=w:=a1
  generalize hx1:alw (rD (kn o.s)) o.d=x1 at *
  generalize hx2:alw (rA (kn o.s)) o.a=x2 at *
  generalize hx3:alw (rB (kn o.s)) o.b=x3 at *
  clear hrd hra hrb hri hx1 hx2 hx3
  cases x1 with
  | false =>
   go_enter Tryz.func131,Tryz.ntmps131
   go_wp2_with fail
   refine (hsh _).mono ?_
   rintro e w1 ⟨rfl,hb1⟩
   have hz1:w.heap.size+1≤w1.heap.size:=by have:=hb1.size;simpa using this
   have q2:w1.cell? ⟨0,0,none⟩=_:=(hb1.cell (p:=⟨0,0,none⟩) (by simp<;>omega)).trans ((World.grownBy_alloc w _ none).cell e2 (by simp))
   have q3:w1.cell? ⟨1,0,none⟩=_:=(hb1.cell (p:=⟨1,0,none⟩) (by simp<;>omega)).trans ((World.grownBy_alloc w _ none).cell e3 (by simp))
   have y2:0<w1.heap.size:=by omega
   have y3:1<w1.heap.size:=by omega
   obtain ⟨c,hf⟩:=bcell6 hb1
   have HZ:Hid (Below w.heap.size w w1):=((Below.refl _ _).alloc (Nat.le_refl _) _).trans (hb1.mono (by simp))
   have y0:w.heap.size<w1.heap.size:=by omega
   clear hsh e2 e3 e4 hb1
   go_wp2_with fail
   refine (a1 _).mono ?_
   rintro e w' ⟨rfl,rfl⟩
   go_wp2
   go_ret
   exact ⟨by rw[HB.out (by rw[HD.out];simp)];rfl,HZ.out.alloc (by omega) _⟩
  | true =>
   cases x2 with
   | false =>
    go_enter Tryz.func131,Tryz.ntmps131
    go_wp2_with fail
    refine (hsh _).mono ?_
    rintro e w1 ⟨rfl,hb1⟩
    have hz1:w.heap.size+1≤w1.heap.size:=by have:=hb1.size;simpa using this
    have q2:w1.cell? ⟨0,0,none⟩=_:=(hb1.cell (p:=⟨0,0,none⟩) (by simp<;>omega)).trans ((World.grownBy_alloc w _ none).cell e2 (by simp))
    have q3:w1.cell? ⟨1,0,none⟩=_:=(hb1.cell (p:=⟨1,0,none⟩) (by simp<;>omega)).trans ((World.grownBy_alloc w _ none).cell e3 (by simp))
    have y2:0<w1.heap.size:=by omega
    have y3:1<w1.heap.size:=by omega
    obtain ⟨c,hf⟩:=bcell6 hb1
    have HZ:Hid (Below w.heap.size w w1):=((Below.refl _ _).alloc (Nat.le_refl _) _).trans (hb1.mono (by simp))
    have y0:w.heap.size<w1.heap.size:=by omega
    clear hsh e2 e3 e4 hb1
    go_wp2_with fail
    refine (a1 _).mono ?_
    rintro e w' ⟨rfl,rfl⟩
    go_wp2_with fail
    refine (a2 _).mono ?_
    rintro e w' ⟨rfl,rfl⟩
    go_wp2
    go_ret
    exact ⟨by rw[HB.out (by rw[HD.out];simp)];rfl,HZ.out.alloc (by omega) _⟩
   | true =>
    cases x3 with
    | false =>
     go_enter Tryz.func131,Tryz.ntmps131
     go_wp2_with fail
     refine (hsh _).mono ?_
     rintro e w1 ⟨rfl,hb1⟩
     have hz1:w.heap.size+1≤w1.heap.size:=by have:=hb1.size;simpa using this
     have q2:w1.cell? ⟨0,0,none⟩=_:=(hb1.cell (p:=⟨0,0,none⟩) (by simp<;>omega)).trans ((World.grownBy_alloc w _ none).cell e2 (by simp))
     have q3:w1.cell? ⟨1,0,none⟩=_:=(hb1.cell (p:=⟨1,0,none⟩) (by simp<;>omega)).trans ((World.grownBy_alloc w _ none).cell e3 (by simp))
     have y2:0<w1.heap.size:=by omega
     have y3:1<w1.heap.size:=by omega
     obtain ⟨c,hf⟩:=bcell6 hb1
     have HZ:Hid (Below w.heap.size w w1):=((Below.refl _ _).alloc (Nat.le_refl _) _).trans (hb1.mono (by simp))
     have y0:w.heap.size<w1.heap.size:=by omega
     clear hsh e2 e3 e4 hb1
     go_wp2_with fail
     refine (a1 _).mono ?_
     rintro e w' ⟨rfl,rfl⟩
     go_wp2_with fail
     refine (a2 _).mono ?_
     rintro e w' ⟨rfl,rfl⟩
     go_wp2_with fail
     refine (a3 _).mono ?_
     rintro e w' ⟨rfl,rfl⟩
     go_wp2
     go_ret
     exact ⟨by rw[HB.out (by rw[HD.out];simp)];rfl,HZ.out.alloc (by omega) _⟩
    | true =>
     by_cases ht0:0≤o.t
     ·by_cases ht1:o.t<many
      ·have HW:bndB o many=true:=by rw[HD.out];simp[ht0,ht1]
       have HS:Hid (_):=HS HW
       have HF:Hid (_):=HF HW
       clear HW
       go_enter Tryz.func131,Tryz.ntmps131
       go_wp2_with fail
       refine (hsh _).mono ?_
       rintro e w1 ⟨rfl,hb1⟩
       have hz1:w.heap.size+1≤w1.heap.size:=by have:=hb1.size;simpa using this
       have q2:w1.cell? ⟨0,0,none⟩=_:=(hb1.cell (p:=⟨0,0,none⟩) (by simp<;>omega)).trans ((World.grownBy_alloc w _ none).cell e2 (by simp))
       have q3:w1.cell? ⟨1,0,none⟩=_:=(hb1.cell (p:=⟨1,0,none⟩) (by simp<;>omega)).trans ((World.grownBy_alloc w _ none).cell e3 (by simp))
       have y2:0<w1.heap.size:=by omega
       have y3:1<w1.heap.size:=by omega
       obtain ⟨c,hf⟩:=bcell6 hb1
       have HZ:Hid (Below w.heap.size w w1):=((Below.refl _ _).alloc (Nat.le_refl _) _).trans (hb1.mono (by simp))
       have y0:w.heap.size<w1.heap.size:=by omega
       clear hsh e2 e3 e4 hb1
       go_wp2_with fail
       refine (a1 _).mono ?_
       rintro e w' ⟨rfl,rfl⟩
       go_wp2_with fail
       refine (a2 _).mono ?_
       rintro e w' ⟨rfl,rfl⟩
       go_wp2_with fail
       refine (a3 _).mono ?_
       rintro e w' ⟨rfl,rfl⟩
       go_wp2
       all_goals
        go_ret
        refine ⟨?_,HZ.out.alloc (by omega) _⟩
        first
        | (rw[HS.out (by simp_all)];rfl)
        | (rw[HF.out (by simp_all) (by simp_all) (by simp_all) (by simp_all)];rfl)
      ·go_enter Tryz.func131,Tryz.ntmps131
       go_wp2_with fail
       refine (hsh _).mono ?_
       rintro e w1 ⟨rfl,hb1⟩
       have hz1:w.heap.size+1≤w1.heap.size:=by have:=hb1.size;simpa using this
       have q2:w1.cell? ⟨0,0,none⟩=_:=(hb1.cell (p:=⟨0,0,none⟩) (by simp<;>omega)).trans ((World.grownBy_alloc w _ none).cell e2 (by simp))
       have q3:w1.cell? ⟨1,0,none⟩=_:=(hb1.cell (p:=⟨1,0,none⟩) (by simp<;>omega)).trans ((World.grownBy_alloc w _ none).cell e3 (by simp))
       have y2:0<w1.heap.size:=by omega
       have y3:1<w1.heap.size:=by omega
       obtain ⟨c,hf⟩:=bcell6 hb1
       have HZ:Hid (Below w.heap.size w w1):=((Below.refl _ _).alloc (Nat.le_refl _) _).trans (hb1.mono (by simp))
       have y0:w.heap.size<w1.heap.size:=by omega
       clear hsh e2 e3 e4 hb1
       go_wp2_with fail
       refine (a1 _).mono ?_
       rintro e w' ⟨rfl,rfl⟩
       go_wp2_with fail
       refine (a2 _).mono ?_
       rintro e w' ⟨rfl,rfl⟩
       go_wp2_with fail
       refine (a3 _).mono ?_
       rintro e w' ⟨rfl,rfl⟩
       go_wp2
       go_ret
       exact ⟨by rw[HB.out (by rw[HD.out];simp;omega)];rfl,HZ.out.alloc (by omega) _⟩
     ·go_enter Tryz.func131,Tryz.ntmps131
      go_wp2_with fail
      refine (hsh _).mono ?_
      rintro e w1 ⟨rfl,hb1⟩
      have hz1:w.heap.size+1≤w1.heap.size:=by have:=hb1.size;simpa using this
      have q2:w1.cell? ⟨0,0,none⟩=_:=(hb1.cell (p:=⟨0,0,none⟩) (by simp<;>omega)).trans ((World.grownBy_alloc w _ none).cell e2 (by simp))
      have q3:w1.cell? ⟨1,0,none⟩=_:=(hb1.cell (p:=⟨1,0,none⟩) (by simp<;>omega)).trans ((World.grownBy_alloc w _ none).cell e3 (by simp))
      have y2:0<w1.heap.size:=by omega
      have y3:1<w1.heap.size:=by omega
      obtain ⟨c,hf⟩:=bcell6 hb1
      have HZ:Hid (Below w.heap.size w w1):=((Below.refl _ _).alloc (Nat.le_refl _) _).trans (hb1.mono (by simp))
      have y0:w.heap.size<w1.heap.size:=by omega
      clear hsh e2 e3 e4 hb1
      go_wp2_with fail
      refine (a1 _).mono ?_
      rintro e w' ⟨rfl,rfl⟩
      go_wp2_with fail
      refine (a2 _).mono ?_
      rintro e w' ⟨rfl,rfl⟩
      go_wp2_with fail
      refine (a3 _).mono ?_
      rintro e w' ⟨rfl,rfl⟩
      go_wp2
      go_ret
      exact ⟨by rw[HB.out (by rw[HD.out];simp;omega)];rfl,HZ.out.alloc (by omega) _⟩
end Go.Proofs.YtflagpkmebdckaaGreatDoor
