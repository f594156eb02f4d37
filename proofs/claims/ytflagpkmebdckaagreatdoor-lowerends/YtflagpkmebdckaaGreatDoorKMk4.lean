
import Derived.Test.YtflagpkmebdckaaGreatDoorKApp
import Derived.Test.YtflagpkmebdckaaGreatDoorKKDecode
import Derived.Test.YtflagpkmebdckaaGreatDoorKPl4
import Derived.Test.YtflagpkmebdckaaGreatDoorQCpu2
namespace Go.Proofs.YtflagpkmebdckaaGreatDoor
open Go.RowKit Go.Maps
open Num
set_option linter.unusedVariables false
theorem ck {Q:Exit→Act→World→Prop} {e:Exit} {a:Act} {W:World} (R:World→Prop) (h:R W) (k:∀ w1,R w1→Q e a w1):Q e a W:=k W h
theorem wrap_lo (x:Int):IntKind.u32.wrap x=Num.lo x:=rfl
theorem St.ok_st {S:St} (o:S.ok) {y:Int} (hy:u32 y):St.ok { S with st:=y }:=⟨o.r,o.hi,o.lo,o.pc,o.nx,hy,o.ca,o.ep,o.bd,o.cm,o.c0,o.c1⟩
section
variable {w : World} {pb sb bb : Nat} {S : St} {k s t d : Nat} {m : Int}
end
set_option maxHeartbeats 4000000
def St.putR (S:St) (n:Nat) (v:Int):St:={ S with r:=fun i=>if i=n then v else S.r i }
structure Dq (w:World) (ib sb:Nat) (S:St) (k s t d:Nat) (m:Int):Prop where
  i0:w.cell? ⟨ib,0,none⟩=some (.int .i64 k)
  i1:w.cell? ⟨ib,1,none⟩=some (.int .i64 s)
  i2:w.cell? ⟨ib,2,none⟩=some (.int .i64 t)
  i3:w.cell? ⟨ib,3,none⟩=some (.int .i64 d)
  i4:w.cell? ⟨ib,4,none⟩=some (.int .u32 m)
  a:StAt w sb S
  ok:S.ok
  ne:ib≠sb
  hs:s<32
  ht:t<32
  hd:d<32
  m0:0≤m
  m1:m<4294967296
section
variable {w : World} {ib sb : Nat} {S : St} {k s t d : Nat} {m : Int}
theorem Dq.start (A:StAt w sb S) (ok:S.ok) (k:Nat) (hs:s<32) (ht:t<32) (hd:d<32) (m0:0≤m) (m1:m<4294967296):Dq (w.alloc (.cells #[.int .i64 k,.int .i64 s,.int .i64 t,.int .i64 d,.int .u32 m] 113)) w.heap.size sb S k s t d m:=by
  have hb:Below w.heap.size w (w.alloc (.cells #[.int .i64 k,.int .i64 s,.int .i64 t,.int .i64 d,.int .u32 m] 113)):=(Below.refl _ _).alloc (Nat.le_refl _) _
  exact ⟨by simp,by simp,by simp,by simp,by simp,A.stays hb,ok,by have:=A.lt;omega,hs,ht,hd,m0,m1⟩
theorem Dq.blk {w':World} (c:Dq w ib sb S k s t d m) (h:w'.heap[ib]?=w.heap[ib]?) {S':St} (a:StAt w' sb S') (ok:S'.ok):Dq w' ib sb S' k s t d m:=by
  have g:∀ (j:Nat) (v:Value),w.cell? ⟨ib,j,none⟩=some v→w'.cell? ⟨ib,j,none⟩=some v:=fun j v e=>(World.cell?_of_block (a:=⟨ib,j,none⟩) h).trans e
  exact ⟨g _ _ c.i0,g _ _ c.i1,g _ _ c.i2,g _ _ c.i3,g _ _ c.i4,a,ok,c.ne,c.hs,c.ht,c.hd,c.m0,c.m1⟩
theorem Dq.lt (c:Dq w ib sb S k s t d m):ib<w.heap.size:=World.block_lt_of_cell? _ _ c.i0
theorem Dq.turn {w':World} {S':St} (c:Dq w ib sb S k s t d m) (h:Kept w w' (·=sb)) (a:StAt w' sb S') (ok:S'.ok):Dq w' ib sb S' k s t d m:=c.blk (h.block _ c.lt c.ne) a ok
theorem Dq.stays {w':World} (c:Dq w ib sb S k s t d m) (h:Below w.heap.size w w'):Dq w' ib sb S k s t d m:=c.blk (h.block _ c.lt) (c.a.stays h) c.ok
theorem Dq.drewN (c:Dq w ib sb S k s t d m) (n:Nat):Dq (w.drewN n) ib sb S k s t d m:=c.stays (below_drewN (Below.refl _ _) n)
theorem Dq.drew (c:Dq w ib sb S k s t d m):Dq w.drew ib sb S k s t d m:=c.stays (below_drew (Below.refl _ _))
theorem Dq.kept {w':World} {X:Nat→Prop} (c:Dq w ib sb S k s t d m) (h:Kept w w' X) (h1:¬ X ib) (h2:¬ X sb):Dq w' ib sb S k s t d m:=c.blk (h.block _ c.lt h1) (c.a.kept h h2) c.ok
end
theorem and2_eq {x:Int} (h0:0≤x) (h1:x<4294967296):bits .and .u32 x 2=2*(x/2%2):=by
  rw[u32_and x 2 h0 h1 (by omega) (by omega)]
  have h:x.toNat &&& 2=2*(x.toNat/2%2):=by
    have e:(x.toNat &&& 2)%2^2=x.toNat%2^2 &&& 2:=by rw[Nat.and_mod_two_pow]
    have l:x.toNat &&& 2≤2:=Nat.and_le_right
    rw[Nat.mod_eq_of_lt (by omega)]at e
    have h:∀ r,r<4→r &&& 2=2*(r/2%2):=by decide
    rw[e,h _ (Nat.mod_lt _ (by omega))]
    omega
  rw[show (2:Int).toNat=2 from rfl,h]
  omega
theorem and3_eq {x:Int} (h0:0≤x) (h1:x<4294967296):bits .and .u32 x 3=x%4:=by
  rw[u32_and x 3 h0 h1 (by omega) (by omega)]
  have h:x.toNat &&& 3=x.toNat%4:=Nat.and_two_pow_sub_one_eq_mod x.toNat 2
  rw[show (3:Int).toNat=3 from rfl,h]
  omega
theorem or_low (x c n:Nat) (hc:c<2^n):x ||| c=2^n*(x/2^n)+(x%2^n ||| c):=by
  have e1:(x ||| c)/2^n=x/2^n:=by rw[Nat.or_div_two_pow,Nat.div_eq_of_lt hc,Nat.or_zero]
  have e2:(x ||| c)%2^n=x%2^n ||| c:=by rw[Nat.or_mod_two_pow,Nat.mod_eq_of_lt hc]
  have:=Nat.div_add_mod (x ||| c) (2^n)
  rw[e1,e2]at this
  exact this.symm
theorem and_low (x c n:Nat) (hn:n≤32) (hx:x<2^32) (hc:c<2^n):x &&& (4294967295-c)=2^n*(x/2^n)+(x%2^n &&& (2^n-1-c)):=by
  have hp:2^n*2^(32-n)=2^32:=by rw[←Nat.pow_add];congr 1;omega
  have hpos:0<2^n:=Nat.two_pow_pos n
  have hpos2:0<2^(32-n):=Nat.two_pow_pos _
  have hq:2^n*(2^(32-n)-1)=2^32-2^n:=by rw[Nat.mul_sub,hp,Nat.mul_one]
  have hle:2^n≤2^32:=Nat.pow_le_pow_right (by omega) hn
  have ec:4294967295-c=2^n*(2^(32-n)-1)+(2^n-1-c):=by rw[hq];omega
  have d1:(4294967295-c)/2^n=2^(32-n)-1:=by rw[ec,Nat.mul_add_div hpos,Nat.div_eq_of_lt (by omega),Nat.add_zero]
  have d2:(4294967295-c)%2^n=2^n-1-c:=by rw[ec,Nat.mul_add_mod,Nat.mod_eq_of_lt (by omega)]
  have hxq:x/2^n<2^(32-n):=by rw[Nat.div_lt_iff_lt_mul hpos,Nat.mul_comm,hp];exact hx
  have e1:(x &&& (4294967295-c))/2^n=x/2^n:=by rw[Nat.and_div_two_pow,d1,Nat.and_two_pow_sub_one_eq_mod,Nat.mod_eq_of_lt hxq]
  have e2:(x &&& (4294967295-c))%2^n=x%2^n &&& (2^n-1-c):=by rw[Nat.and_mod_two_pow,d2]
  have:=Nat.div_add_mod (x &&& (4294967295-c)) (2^n)
  rw[e1,e2]at this
  exact this.symm
theorem andNot2_eq {x:Int} (h0:0≤x) (h1:x<4294967296):bits .andNot .u32 x 2=x-2*(x/2%2):=by
  rw[u32_andNot x 2 h0 h1 (by omega) (by omega),show (2:Int).toNat=2 from rfl,and_low x.toNat 2 2 (by omega) (by omega) (by omega)]
  have h:∀ r,r<4→r &&& (2^2-1-2)=r-2*(r/2):=by decide
  rw[h _ (Nat.mod_lt _ (by omega))]
  omega
theorem pw0:pw 0=1:=by decide
theorem pw1:pw 1=2:=by decide
theorem pw2:pw 2=4:=by decide
theorem bitOf_any (x n:Int) (h0:0≤x) (h1:x<4294967296) (hn:0≤n) (hn1:n<32) (w:World):Calls Tryz.prog 98 #[.int .u32 x,.int .i64 n] w fun e w'=>e=.returned (.bool (x/pw n%2==1))∧w'=w:=by
  have hp:=fun W=>part_any x n 1 h0 h1 hn hn1 (by omega) (by omega) W
  simp only[pw1]at hp
  generalize x/pw n%2=y at *
  go_enter Tryz.func98,Tryz.ntmps98
  go_wp2_with fail
  refine (hp _).mono ?_
  rintro e w' ⟨rfl,rfl⟩
  go_wp2
  go_ret
  exact ⟨rfl,rfl⟩
theorem withBit_any (x n p:Int) (b:Bool) (h0:0≤x) (h1:x<4294967296) (hn:0≤n) (hn1:n<32) (hp:pw n=p) (p0:0<p) (p1:p<4294967296) (w:World):Calls Tryz.prog 103 #[.int .u32 x,.int .i64 n,.bool b] w fun e w'=>e=.returned (.int .u32 (lo (x-x/p%2*p+if b=true then p else 0)))∧w'=w:=by
  have hpa:=fun W=>part_any x n 1 h0 h1 hn hn1 (by omega) (by omega) W
  simp only[pw1,hp]at hpa
  have hs:=fun W=>shA 60 1 n (by omega) (by omega) hn W
  have es:shf 60 1 n=p:=by unfold shf;rw[if_pos rfl,hp,Int.one_mul];unfold Num.lo;omega
  simp only[es]at hs
  have y0:0≤x/p%2:=by omega
  have y1:x/p%2≤1:=by omega
  generalize x/p%2=y at *
  have z0:0≤y*p:=Int.mul_nonneg y0 (by omega)
  have z1:y*p≤p:=by
    have:y=0∨y=1:=by omega
    rcases this with rfl|rfl<;>omega
  have hcv:IntKind.u32.wrap n=n:=by rw[wrap_lo];unfold Num.lo;omega
  clear hp es
  cases b
  · have hw:=fun W=>wdA (x-y*p) (by omega) (by omega) W
    go_enter Tryz.func103,Tryz.ntmps103
    go_wp2_with (first|(go_at_call 46;refine (hpa _).mono ?_;rintro e w' ⟨rfl,rfl⟩)|(go_at_call 85;refine (hs _).mono ?_;rintro e w' ⟨rfl,rfl⟩)|(go_at_call 101;refine (hw _).mono ?_;rintro e w' ⟨rfl,rfl⟩))
    go_ret
    exact ⟨by simp,rfl⟩
  · have hw:=fun W=>wdA (x-y*p+p) (by omega) (by omega) W
    go_enter Tryz.func103,Tryz.ntmps103
    go_wp2_with (first|(go_at_call 46;refine (hpa _).mono ?_;rintro e w' ⟨rfl,rfl⟩)|(go_at_call 85;refine (hs _).mono ?_;rintro e w' ⟨rfl,rfl⟩)|(go_at_call 101;refine (hw _).mono ?_;rintro e w' ⟨rfl,rfl⟩))
    go_ret
    exact ⟨by simp,rfl⟩
theorem imA (k s t d:Nat) (m:Int) (m0:0≤m) (m1:m<4294967296) (w:World):Calls Tryz.prog 231 #[.agg #[.int .i64 k,.int .i64 s,.int .i64 t,.int .i64 d,.int .u32 m]] w fun e w'=>e=.returned (.int .u32 (wd m 16 true))∧Below w.heap.size w w':=by
  have hw:=fun W=>wideOf_any m 16 true m0 m1 W
  generalize wd m 16 true=y at *
  have hb:Below w.heap.size w (w.alloc (.cells #[.int .i64 k,.int .i64 s,.int .i64 t,.int .i64 d,.int .u32 m] 113)):=(Below.refl _ _).alloc (Nat.le_refl _) _
  go_enter Tryz.func231,Tryz.ntmps231
  go_wp2_with fail
  refine (hw _).mono ?_
  rintro e w' ⟨rfl,rfl⟩
  go_wp2
  go_ret
  exact ⟨rfl,hb⟩
theorem sizeOf_any (k:Nat) (hk:46≤k∧k≤53) (w:World):Calls Tryz.prog 232 #[.int .i64 k] w fun e w'=>e=.returned (.int .i64 (if sgI k=true then -szI k else szI k))∧w'=w:=by
  have h:k=46∨k=47∨k=48∨k=49∨k=50∨k=51∨k=52∨k=53:=by omega
  rcases h with rfl|rfl|rfl|rfl|rfl|rfl|rfl|rfl <;>
    (go_enter Tryz.func232,Tryz.ntmps232
     go_wp2
     go_ret
     exact ⟨rfl,rfl⟩)
def kdx (k:Nat):Nat:=if k=19∨k=20∨k=35∨k=36 then 3 else if k=21∨k=22 then 4 else if k=23∨k=39 then 5 else if k=24∨k=40 then 6 else if k=25∨k=41 then 7 else if k=26 then 8 else if k=27∨k=37 then 9 else if k=28∨k=38 then 10 else if k=1∨k=4 then 11 else if k=2∨k=5 then 12 else 13
def isK (k:Nat):Prop:=k=19∨k=20∨k=35∨k=36∨k=21∨k=22∨k=23∨k=39∨k=24∨k=40∨k=25∨k=41∨k=26∨k=27∨k=37∨k=28∨k=38∨k=1∨k=4∨k=2∨k=5∨k=3∨k=6
theorem koD (k:Nat) (hk:isK k) (w:World):Calls Tryz.prog 235 #[.int .i64 k] w fun e w'=>e=.returned (.string (kindS (kdx k)))∧w'=w:=by
  unfold isK at hk
  rcases hk with rfl|rfl|rfl|rfl|rfl|rfl|rfl|rfl|rfl|rfl|rfl|rfl|rfl|rfl|rfl|rfl|rfl|rfl|rfl|rfl|rfl|rfl|rfl <;>
    (go_enter Tryz.func235,Tryz.ntmps235
     go_wp2
     go_ret
     exact ⟨rfl,rfl⟩)
theorem sumK_any (S:St) (k:Nat) (hk:isK k) (a b:Int) (ha:u32 a) (hb:u32 b) (w:World):Calls Tryz.prog 190 #[.string (kindS (kdx k)),.int .u32 a,.int .u32 b] w fun e w'=>e=.returned (.int .u32 (resI S k a b))∧w'=w:=by
  have hx:3≤kdx k∧kdx k≤16:=by unfold isK at hk;rcases hk with rfl|rfl|rfl|rfl|rfl|rfl|rfl|rfl|rfl|rfl|rfl|rfl|rfl|rfl|rfl|rfl|rfl|rfl|rfl|rfl|rfl|rfl|rfl<;>decide
  have h:=sumOf_any (kdx k) hx a b 0 0 ha.1 ha.2 hb.1 hb.2 w
  have e:valV (kdx k) a b 0 0=resI S k a b:=by
    unfold isK at hk
    rcases hk with rfl|rfl|rfl|rfl|rfl|rfl|rfl|rfl|rfl|rfl|rfl|rfl|rfl|rfl|rfl|rfl|rfl|rfl|rfl|rfl|rfl|rfl|rfl<;>rfl
  rw[e]at h
  exact h
end Go.Proofs.YtflagpkmebdckaaGreatDoor
