
import Derived.Lib.OthersKept
import Derived.Handy
import Derived.Test.YtflagpkmebdckaaGreatDoorKOptFns
namespace Go.Proofs.YtflagpkmebdckaaGreatDoor.K
open Tab
set_option linter.unusedVariables false
set_option maxHeartbeats 4000000
def inL (n p:Nat) (c:UInt8):Bool:=((lt n).take p).contains c
def eacc (k:Nat) (s t d m:Int) (p:Nat):Int:=fst k+(if inL (sh k) p 83 then s*2097152 else 0)+(if inL (sh k) p 84 then t*65536 else 0)+(if inL (sh k) p 68 then d*2048 else 0)+(if inL (sh k) p 97 then m*64 else 0)+(if inL (sh k) p 105||inL (sh k) p 106 then m else 0)
def egood (n:Nat) (s t d m:Int) (p:Nat):Prop:=(inL n p 83=true→0≤s∧s<32)∧(inL n p 84=true→0≤t∧t<32)∧(inL n p 68=true→0≤d∧d<32)∧(inL n p 97=true→m<32)∧(inL n p 105=true→m<65536)∧(inL n p 106=true→m<67108864)
def zS (n p:Nat) (s:Int):Int:=if inL n p 83 then 0 else s
def zT (n p:Nat) (t:Int):Int:=if inL n p 84 then 0 else t
def zD (n p:Nat) (d:Int):Int:=if inL n p 68 then 0 else d
def zM (n p:Nat) (m:Int):Int:=if inL n p 97||inL n p 105||inL n p 106 then 0 else m
theorem eacc_0 (k:Nat) (s t d m:Int):eacc k s t d m 0=fst k:=by simp[eacc,inL]
theorem egood_0 (n:Nat) (s t d m:Int):egood n s t d m 0:=by simp[egood,inL]
theorem step83 (k:Nat) (hk:k<54) (h1:1≤k) (s t d m:Int) (hm:0≤m) (p:Nat) (hp:p<(lt (sh k)).length) (hc:(lt (sh k))[p]=83) (hg:egood (sh k) s t d m p) (v0:0≤s) (v1:s<32) :
    bits .or .u32 (eacc k s t d m p) (s*2097152)=eacc k s t d m (p+1)∧egood (sh k) s t d m (p+1)∧zS (sh k) (p+1) s=0∧zT (sh k) (p+1) t=zT (sh k) p t∧zD (sh k) (p+1) d=zD (sh k) p d∧zM (sh k) (p+1) m=zM (sh k) p m∧0≤eacc k s t d m p∧eacc k s t d m p<4294967296:=by
  have hf:=fit_all k hk
  have hn:=sh_all k hk
  have h45:=sh_45 k hk
  unfold eacc
  unfold fitB at hf
  generalize fst k=f at hf ⊢
  generalize mj k=M at hf
  generalize mn k=N at hf
  generalize sh k=n at *
  have hcs:n=0∨n=1∨n=2∨n=3∨n=4∨n=5∨n=6∨n=7∨n=8∨n=9∨n=10∨n=11:=by omega
  clear hn
  have hpp:p=0∨p=1∨p=2∨3≤p:=by omega
  rcases hcs with rfl|rfl|rfl|rfl|rfl|rfl|rfl|rfl|rfl|rfl|rfl|rfl <;>
    rcases hpp with rfl|rfl|rfl|hpp <;>
    simp[lt,ltL]at hp hc <;>
    simp[hasI,hasJ,lt,ltL,egood,inL,zS,zT,zD,zM]at hf hg h45 ⊢ <;>
    (try split at hf)<;>(try simp at hf)<;>(try (exfalso;omega)) <;>
    (have A:∀ x:Int,0≤x→x<4294967296→x%67108864<2097152→bits .or .u32 x (s*2097152)=x+s*2097152:=fun x x0 x1 x2=>by
       have:=or_int x s 21 5 2097152 67108864 (by decide) (by decide) x0 x1 (by omega) (by omega) (by omega) (by omega)
       simpa using this) <;>
    (rw[A _ (by omega) (by omega) (by omega)]) <;>
    (repeat' apply And.intro)<;>(try intros)<;>(try omega)
theorem step84 (k:Nat) (hk:k<54) (h1:1≤k) (s t d m:Int) (hm:0≤m) (p:Nat) (hp:p<(lt (sh k)).length) (hc:(lt (sh k))[p]=84) (hg:egood (sh k) s t d m p) (v0:0≤t) (v1:t<32) :
    bits .or .u32 (eacc k s t d m p) (t*65536)=eacc k s t d m (p+1)∧egood (sh k) s t d m (p+1)∧zS (sh k) (p+1) s=zS (sh k) p s∧zT (sh k) (p+1) t=0∧zD (sh k) (p+1) d=zD (sh k) p d∧zM (sh k) (p+1) m=zM (sh k) p m∧0≤eacc k s t d m p∧eacc k s t d m p<4294967296:=by
  have hf:=fit_all k hk
  have hn:=sh_all k hk
  have h45:=sh_45 k hk
  unfold eacc
  unfold fitB at hf
  generalize fst k=f at hf ⊢
  generalize mj k=M at hf
  generalize mn k=N at hf
  generalize sh k=n at *
  have hcs:n=0∨n=1∨n=2∨n=3∨n=4∨n=5∨n=6∨n=7∨n=8∨n=9∨n=10∨n=11:=by omega
  clear hn
  have hpp:p=0∨p=1∨p=2∨3≤p:=by omega
  rcases hcs with rfl|rfl|rfl|rfl|rfl|rfl|rfl|rfl|rfl|rfl|rfl|rfl <;>
    rcases hpp with rfl|rfl|rfl|hpp <;>
    simp[lt,ltL]at hp hc <;>
    simp[hasI,hasJ,lt,ltL,egood,inL,zS,zT,zD,zM]at hf hg h45 ⊢ <;>
    (try split at hf)<;>(try simp at hf)<;>(try (exfalso;omega)) <;>
    (have A:∀ x:Int,0≤x→x<4294967296→x%2097152<65536→bits .or .u32 x (t*65536)=x+t*65536:=fun x x0 x1 x2=>by
       have:=or_int x t 16 5 65536 2097152 (by decide) (by decide) x0 x1 (by omega) (by omega) (by omega) (by omega)
       simpa using this) <;>
    (rw[A _ (by omega) (by omega) (by omega)]) <;>
    (repeat' apply And.intro)<;>(try intros)<;>(try omega)
theorem step68 (k:Nat) (hk:k<54) (h1:1≤k) (s t d m:Int) (hm:0≤m) (p:Nat) (hp:p<(lt (sh k)).length) (hc:(lt (sh k))[p]=68) (hg:egood (sh k) s t d m p) (v0:0≤d) (v1:d<32) :
    bits .or .u32 (eacc k s t d m p) (d*2048)=eacc k s t d m (p+1)∧egood (sh k) s t d m (p+1)∧zS (sh k) (p+1) s=zS (sh k) p s∧zT (sh k) (p+1) t=zT (sh k) p t∧zD (sh k) (p+1) d=0∧zM (sh k) (p+1) m=zM (sh k) p m∧0≤eacc k s t d m p∧eacc k s t d m p<4294967296:=by
  have hf:=fit_all k hk
  have hn:=sh_all k hk
  have h45:=sh_45 k hk
  unfold eacc
  unfold fitB at hf
  generalize fst k=f at hf ⊢
  generalize mj k=M at hf
  generalize mn k=N at hf
  generalize sh k=n at *
  have hcs:n=0∨n=1∨n=2∨n=3∨n=4∨n=5∨n=6∨n=7∨n=8∨n=9∨n=10∨n=11:=by omega
  clear hn
  have hpp:p=0∨p=1∨p=2∨3≤p:=by omega
  rcases hcs with rfl|rfl|rfl|rfl|rfl|rfl|rfl|rfl|rfl|rfl|rfl|rfl <;>
    rcases hpp with rfl|rfl|rfl|hpp <;>
    simp[lt,ltL]at hp hc <;>
    simp[hasI,hasJ,lt,ltL,egood,inL,zS,zT,zD,zM]at hf hg h45 ⊢ <;>
    (try split at hf)<;>(try simp at hf)<;>(try (exfalso;omega)) <;>
    (have A:∀ x:Int,0≤x→x<4294967296→x%65536<2048→bits .or .u32 x (d*2048)=x+d*2048:=fun x x0 x1 x2=>by
       have:=or_int x d 11 5 2048 65536 (by decide) (by decide) x0 x1 (by omega) (by omega) (by omega) (by omega)
       simpa using this) <;>
    (rw[A _ (by omega) (by omega) (by omega)]) <;>
    (repeat' apply And.intro)<;>(try intros)<;>(try omega)
theorem step97 (k:Nat) (hk:k<54) (h1:1≤k) (s t d m:Int) (hm:0≤m) (p:Nat) (hp:p<(lt (sh k)).length) (hc:(lt (sh k))[p]=97) (hg:egood (sh k) s t d m p) (v0:0≤m) (v1:m<32) :
    bits .or .u32 (eacc k s t d m p) (m*64)=eacc k s t d m (p+1)∧egood (sh k) s t d m (p+1)∧zS (sh k) (p+1) s=zS (sh k) p s∧zT (sh k) (p+1) t=zT (sh k) p t∧zD (sh k) (p+1) d=zD (sh k) p d∧zM (sh k) (p+1) m=0∧0≤eacc k s t d m p∧eacc k s t d m p<4294967296:=by
  have hf:=fit_all k hk
  have hn:=sh_all k hk
  have h45:=sh_45 k hk
  unfold eacc
  unfold fitB at hf
  generalize fst k=f at hf ⊢
  generalize mj k=M at hf
  generalize mn k=N at hf
  generalize sh k=n at *
  have hcs:n=0∨n=1∨n=2∨n=3∨n=4∨n=5∨n=6∨n=7∨n=8∨n=9∨n=10∨n=11:=by omega
  clear hn
  have hpp:p=0∨p=1∨p=2∨3≤p:=by omega
  rcases hcs with rfl|rfl|rfl|rfl|rfl|rfl|rfl|rfl|rfl|rfl|rfl|rfl <;>
    rcases hpp with rfl|rfl|rfl|hpp <;>
    simp[lt,ltL]at hp hc <;>
    simp[hasI,hasJ,lt,ltL,egood,inL,zS,zT,zD,zM]at hf hg h45 ⊢ <;>
    (try split at hf)<;>(try simp at hf)<;>(try (exfalso;omega)) <;>
    (have A:∀ x:Int,0≤x→x<4294967296→x%2048<64→bits .or .u32 x (m*64)=x+m*64:=fun x x0 x1 x2=>by
       have:=or_int x m 6 5 64 2048 (by decide) (by decide) x0 x1 (by omega) (by omega) (by omega) (by omega)
       simpa using this) <;>
    (rw[A _ (by omega) (by omega) (by omega)]) <;>
    (repeat' apply And.intro)<;>(try intros)<;>(try omega)
theorem step105 (k:Nat) (hk:k<54) (h1:1≤k) (s t d m:Int) (hm:0≤m) (p:Nat) (hp:p<(lt (sh k)).length) (hc:(lt (sh k))[p]=105) (hg:egood (sh k) s t d m p) (v0:0≤m) (v1:m<65536) :
    bits .or .u32 (eacc k s t d m p) (m)=eacc k s t d m (p+1)∧egood (sh k) s t d m (p+1)∧zS (sh k) (p+1) s=zS (sh k) p s∧zT (sh k) (p+1) t=zT (sh k) p t∧zD (sh k) (p+1) d=zD (sh k) p d∧zM (sh k) (p+1) m=0∧0≤eacc k s t d m p∧eacc k s t d m p<4294967296:=by
  have hf:=fit_all k hk
  have hn:=sh_all k hk
  have h45:=sh_45 k hk
  unfold eacc
  unfold fitB at hf
  generalize fst k=f at hf ⊢
  generalize mj k=M at hf
  generalize mn k=N at hf
  generalize sh k=n at *
  have hcs:n=0∨n=1∨n=2∨n=3∨n=4∨n=5∨n=6∨n=7∨n=8∨n=9∨n=10∨n=11:=by omega
  clear hn
  have hpp:p=0∨p=1∨p=2∨3≤p:=by omega
  rcases hcs with rfl|rfl|rfl|rfl|rfl|rfl|rfl|rfl|rfl|rfl|rfl|rfl <;>
    rcases hpp with rfl|rfl|rfl|hpp <;>
    simp[lt,ltL]at hp hc <;>
    simp[hasI,hasJ,lt,ltL,egood,inL,zS,zT,zD,zM]at hf hg h45 ⊢ <;>
    (try split at hf)<;>(try simp at hf)<;>(try (exfalso;omega)) <;>
    (have A:∀ x:Int,0≤x→x<4294967296→x%65536<1→bits .or .u32 x (m)=x+m:=fun x x0 x1 x2=>by
       have:=or_int x m 0 16 1 65536 (by decide) (by decide) x0 x1 (by omega) (by omega) (by omega) (by omega)
       simpa using this) <;>
    (rw[A _ (by omega) (by omega) (by omega)]) <;>
    (repeat' apply And.intro)<;>(try intros)<;>(try omega)
theorem step106 (k:Nat) (hk:k<54) (h1:1≤k) (s t d m:Int) (hm:0≤m) (p:Nat) (hp:p<(lt (sh k)).length) (hc:(lt (sh k))[p]=106) (hg:egood (sh k) s t d m p) (v0:0≤m) (v1:m<67108864) :
    bits .or .u32 (eacc k s t d m p) (m)=eacc k s t d m (p+1)∧egood (sh k) s t d m (p+1)∧zS (sh k) (p+1) s=zS (sh k) p s∧zT (sh k) (p+1) t=zT (sh k) p t∧zD (sh k) (p+1) d=zD (sh k) p d∧zM (sh k) (p+1) m=0∧0≤eacc k s t d m p∧eacc k s t d m p<4294967296:=by
  have hf:=fit_all k hk
  have hn:=sh_all k hk
  have h45:=sh_45 k hk
  unfold eacc
  unfold fitB at hf
  generalize fst k=f at hf ⊢
  generalize mj k=M at hf
  generalize mn k=N at hf
  generalize sh k=n at *
  have hcs:n=0∨n=1∨n=2∨n=3∨n=4∨n=5∨n=6∨n=7∨n=8∨n=9∨n=10∨n=11:=by omega
  clear hn
  have hpp:p=0∨p=1∨p=2∨3≤p:=by omega
  rcases hcs with rfl|rfl|rfl|rfl|rfl|rfl|rfl|rfl|rfl|rfl|rfl|rfl <;>
    rcases hpp with rfl|rfl|rfl|hpp <;>
    simp[lt,ltL]at hp hc <;>
    simp[hasI,hasJ,lt,ltL,egood,inL,zS,zT,zD,zM]at hf hg h45 ⊢ <;>
    (try split at hf)<;>(try simp at hf)<;>(try (exfalso;omega)) <;>
    (have A:∀ x:Int,0≤x→x<4294967296→x%67108864<1→bits .or .u32 x (m)=x+m:=fun x x0 x1 x2=>by
       have:=or_int x m 0 26 1 67108864 (by decide) (by decide) x0 x1 (by omega) (by omega) (by omega) (by omega)
       simpa using this) <;>
    (rw[A _ (by omega) (by omega) (by omega)]) <;>
    (repeat' apply And.intro)<;>(try intros)<;>(try omega)
theorem good_end (n:Nat) (hn:n<12) (s t d m:Int) (hm:0≤m) (hg:egood n s t d m (lt n).length):okB n s t d m=(decide (zS n (lt n).length s=0)&&decide (zT n (lt n).length t=0)&&decide (zD n (lt n).length d=0)&&decide (zM n (lt n).length m=0)):=by
  have hcs:n=0∨n=1∨n=2∨n=3∨n=4∨n=5∨n=6∨n=7∨n=8∨n=9∨n=10∨n=11:=by omega
  clear hn
  rcases hcs with rfl|rfl|rfl|rfl|rfl|rfl|rfl|rfl|rfl|rfl|rfl|rfl <;>
    simp[lt,ltL,egood,inL]at hg <;>
    simp[okB,well,hasS,hasT,hasD,hasA,hasI,hasJ,top,lt,ltL,zS,zT,zD,zM,inL] <;>
    (try rw[Bool.eq_iff_iff])<;>(try simp)<;>(try omega)
theorem eacc_end (k:Nat) (s t d m:Int) (hk:k<54) (hz:okB (sh k) s t d m=true) (hm:0≤m):eacc k s t d m (lt (sh k)).length=enc k s t d m:=by
  have hn:=sh_all k hk
  unfold eacc enc
  generalize fst k=f
  generalize sh k=n at *
  have hcs:n=0∨n=1∨n=2∨n=3∨n=4∨n=5∨n=6∨n=7∨n=8∨n=9∨n=10∨n=11:=by omega
  clear hn
  rcases hcs with rfl|rfl|rfl|rfl|rfl|rfl|rfl|rfl|rfl|rfl|rfl|rfl <;>
    simp[okB,well,hasS,hasT,hasD,hasA,hasI,hasJ,top,lt,ltL]at hz <;>
    simp[lt,ltL,inL,by_,hasA]<;>omega
theorem bad83 (n:Nat) (hn:n<12) (s t d m:Int) (hm:0≤m) (p:Nat) (hp:p<(lt n).length) (hc:(lt n)[p]=83) (hb:¬ (0≤s∧s<32)):okB n s t d m=false:=by
  have hcs:n=0∨n=1∨n=2∨n=3∨n=4∨n=5∨n=6∨n=7∨n=8∨n=9∨n=10∨n=11:=by omega
  clear hn
  have hpp:p=0∨p=1∨p=2∨3≤p:=by omega
  rcases hcs with rfl|rfl|rfl|rfl|rfl|rfl|rfl|rfl|rfl|rfl|rfl|rfl <;>
    rcases hpp with rfl|rfl|rfl|hpp <;>
    simp[lt,ltL]at hp hc <;>
    (try (exfalso;omega)) <;>
    (rw[Bool.eq_false_iff];simp[okB,well,hasS,hasT,hasD,hasA,hasI,hasJ,top,lt,ltL];(try omega))
theorem bad84 (n:Nat) (hn:n<12) (s t d m:Int) (hm:0≤m) (p:Nat) (hp:p<(lt n).length) (hc:(lt n)[p]=84) (hb:¬ (0≤t∧t<32)):okB n s t d m=false:=by
  have hcs:n=0∨n=1∨n=2∨n=3∨n=4∨n=5∨n=6∨n=7∨n=8∨n=9∨n=10∨n=11:=by omega
  clear hn
  have hpp:p=0∨p=1∨p=2∨3≤p:=by omega
  rcases hcs with rfl|rfl|rfl|rfl|rfl|rfl|rfl|rfl|rfl|rfl|rfl|rfl <;>
    rcases hpp with rfl|rfl|rfl|hpp <;>
    simp[lt,ltL]at hp hc <;>
    (try (exfalso;omega)) <;>
    (rw[Bool.eq_false_iff];simp[okB,well,hasS,hasT,hasD,hasA,hasI,hasJ,top,lt,ltL];(try omega))
theorem bad68 (n:Nat) (hn:n<12) (s t d m:Int) (hm:0≤m) (p:Nat) (hp:p<(lt n).length) (hc:(lt n)[p]=68) (hb:¬ (0≤d∧d<32)):okB n s t d m=false:=by
  have hcs:n=0∨n=1∨n=2∨n=3∨n=4∨n=5∨n=6∨n=7∨n=8∨n=9∨n=10∨n=11:=by omega
  clear hn
  have hpp:p=0∨p=1∨p=2∨3≤p:=by omega
  rcases hcs with rfl|rfl|rfl|rfl|rfl|rfl|rfl|rfl|rfl|rfl|rfl|rfl <;>
    rcases hpp with rfl|rfl|rfl|hpp <;>
    simp[lt,ltL]at hp hc <;>
    (try (exfalso;omega)) <;>
    (rw[Bool.eq_false_iff];simp[okB,well,hasS,hasT,hasD,hasA,hasI,hasJ,top,lt,ltL];(try omega))
theorem bad97 (n:Nat) (hn:n<12) (s t d m:Int) (hm:0≤m) (p:Nat) (hp:p<(lt n).length) (hc:(lt n)[p]=97) (hb:¬ (0≤m∧m<32)):okB n s t d m=false:=by
  have hcs:n=0∨n=1∨n=2∨n=3∨n=4∨n=5∨n=6∨n=7∨n=8∨n=9∨n=10∨n=11:=by omega
  clear hn
  have hpp:p=0∨p=1∨p=2∨3≤p:=by omega
  rcases hcs with rfl|rfl|rfl|rfl|rfl|rfl|rfl|rfl|rfl|rfl|rfl|rfl <;>
    rcases hpp with rfl|rfl|rfl|hpp <;>
    simp[lt,ltL]at hp hc <;>
    (try (exfalso;omega)) <;>
    (rw[Bool.eq_false_iff];simp[okB,well,hasS,hasT,hasD,hasA,hasI,hasJ,top,lt,ltL];(try omega))
theorem bad105 (n:Nat) (hn:n<12) (s t d m:Int) (hm:0≤m) (p:Nat) (hp:p<(lt n).length) (hc:(lt n)[p]=105) (hb:¬ (0≤m∧m<65536)):okB n s t d m=false:=by
  have hcs:n=0∨n=1∨n=2∨n=3∨n=4∨n=5∨n=6∨n=7∨n=8∨n=9∨n=10∨n=11:=by omega
  clear hn
  have hpp:p=0∨p=1∨p=2∨3≤p:=by omega
  rcases hcs with rfl|rfl|rfl|rfl|rfl|rfl|rfl|rfl|rfl|rfl|rfl|rfl <;>
    rcases hpp with rfl|rfl|rfl|hpp <;>
    simp[lt,ltL]at hp hc <;>
    (try (exfalso;omega)) <;>
    (rw[Bool.eq_false_iff];simp[okB,well,hasS,hasT,hasD,hasI,hasJ,top,lt,ltL];(try omega))
theorem bad106 (n:Nat) (hn:n<12) (s t d m:Int) (hm:0≤m) (p:Nat) (hp:p<(lt n).length) (hc:(lt n)[p]=106) (hb:¬ (0≤m∧m<67108864)):okB n s t d m=false:=by
  have hcs:n=0∨n=1∨n=2∨n=3∨n=4∨n=5∨n=6∨n=7∨n=8∨n=9∨n=10∨n=11:=by omega
  clear hn
  have hpp:p=0∨p=1∨p=2∨3≤p:=by omega
  rcases hcs with rfl|rfl|rfl|rfl|rfl|rfl|rfl|rfl|rfl|rfl|rfl|rfl <;>
    rcases hpp with rfl|rfl|rfl|hpp <;>
    simp[lt,ltL]at hp hc <;>
    (try (exfalso;omega)) <;>
    (rw[Bool.eq_false_iff];simp[okB,well,hasS,hasT,hasD,hasJ,top,lt,ltL];(try omega))
theorem letters:∀ n,n<12→∀ p,(h:p<(lt n).length)→(lt n)[p]=83∨(lt n)[p]=84∨(lt n)[p]=68∨(lt n)[p]=97∨(lt n)[p]=105∨(lt n)[p]=106:=by
  intro n hn p hp
  have hcs:n=0∨n=1∨n=2∨n=3∨n=4∨n=5∨n=6∨n=7∨n=8∨n=9∨n=10∨n=11:=by omega
  clear hn
  have hpp:p=0∨p=1∨p=2∨3≤p:=by omega
  rcases hcs with rfl|rfl|rfl|rfl|rfl|rfl|rfl|rfl|rfl|rfl|rfl|rfl <;>
    rcases hpp with rfl|rfl|rfl|hpp <;>
    simp[lt,ltL]at hp ⊢<;>omega
end Go.Proofs.YtflagpkmebdckaaGreatDoor.K
namespace Go.Proofs.YtflagpkmebdckaaGreatDoor.K
open Go.RowKit Go.Extern.Stop Go.Stop Go.Extern
open Num Tab
set_option linter.unusedVariables false
set_option maxHeartbeats 4000000
structure Tb (pk pb:Addr) (w:World):Prop where
 kind:w.cell? ⟨5,0,none⟩=some (.iface 332 (.pointer (some pk)))
 bound:w.cell? ⟨0,0,none⟩=some (.iface 332 (.pointer (some pb)))
 ft:FT w
theorem Tb.stays {pk pb:Addr} {w w':World} {B:Nat} (t:Tb pk pb w) (h:Below B w w') (hB:w.heap.size≤B):Tb pk pb w' :=
 ⟨cell_stays h hB t.kind,cell_stays h hB t.bound,t.ft.stays h hB⟩
theorem Tb.size {pk pb:Addr} {w:World} (t:Tb pk pb w):10<w.heap.size:=cell_lt (t.ft 0 (by omega))
abbrev ins (o s t d m:Int):Value:=.agg #[.int .i64 o,.int .i64 s,.int .i64 t,.int .i64 d,.int .u32 m]
theorem isOp_in (o:Int) (h:0<o∧o<54) (w:World):Calls Tryz.prog 158 #[.int .i64 o] w fun e w'=>e=.returned (.bool true)∧w'=w:=by
 refine (isOp_any o w).mono ?_
 rintro e w' ⟨rfl,rfl⟩
 exact ⟨by rw[decide_eq_true h],rfl⟩
theorem isOp_out (o:Int) (h:¬ (0<o∧o<54)) (w:World):Calls Tryz.prog 158 #[.int .i64 o] w fun e w'=>e=.returned (.bool false)∧w'=w:=by
 refine (isOp_any o w).mono ?_
 rintro e w' ⟨rfl,rfl⟩
 exact ⟨by rw[decide_eq_false h],rfl⟩
theorem encode_kind (pk pb:Addr) (o s t d m:Int) (h:¬ (0<o∧o<54)) (w:World) (T:Tb pk pb w) :
  Calls Tryz.prog 105 #[ins o s t d m] w fun e w'=>e=.returned (.tuple #[.int .u32 0,.iface 332 (.pointer (some pk))])∧Below w.heap.size w w':=by
 have hk:=T.kind
 have hz:=T.size
 have hzF:10<w.heap.size:=by omega
 have hzK:5<w.heap.size:=by omega
 have hzB:0<w.heap.size:=by omega
 have hz0:0<w.heap.size:=by omega
 have HT:Hid (Tb pk pb w):=T
 clear T
 go_enter Tryz.func105,Tryz.ntmps105
 go_wp2_with (go_at_call 158;refine (isOp_out _ h _).mono ?_;rintro e w' ⟨rfl,rfl⟩)
 go_region
 go_wp2
 go_ret2
 exact ⟨rfl,((Below.refl _ _).alloc (Nat.le_refl _) _).drew⟩
theorem fields_nat (k:Nat) (hk:k<54) (w:World):Calls Tryz.prog 155 #[.int .i64 k] w fun e w'=>e=.returned (.string ⟨(lt (sh k)).toArray⟩)∧w'=w:=by
 have h:fieldsI k=lt (sh k):=by unfold fieldsI;rw[if_pos (by omega)];rfl
 rw[←h];exact fields_any k w
structure EInv (B:Nat) (w wr:World) (l:List UInt8) (p:Nat) (o s t d m rs rt rd rm:Int):Prop where
 it:wr.heap[B+1+1]?=some (.stringIter ⟨l.toArray⟩ p)
 i0:wr.cell? ⟨B,0,none⟩=some (.int .i64 o)
 i1:wr.cell? ⟨B,1,none⟩=some (.int .i64 s)
 i2:wr.cell? ⟨B,2,none⟩=some (.int .i64 t)
 i3:wr.cell? ⟨B,3,none⟩=some (.int .i64 d)
 i4:wr.cell? ⟨B,4,none⟩=some (.int .u32 m)
 r0:wr.cell? ⟨B+1,0,none⟩=some (.int .i64 o)
 r1:wr.cell? ⟨B+1,1,none⟩=some (.int .i64 rs)
 r2:wr.cell? ⟨B+1,2,none⟩=some (.int .i64 rt)
 r3:wr.cell? ⟨B+1,3,none⟩=some (.int .i64 rd)
 r4:wr.cell? ⟨B+1,4,none⟩=some (.int .u32 rm)
 fz:∀ j,wr.frozen? ⟨B+1,j,none⟩=false
 bel:Below B w wr
section
variable {B : Nat} {w wr : World} {l : List UInt8} {p : Nat} {o s t d m rs rt rd rm : Int}
theorem EInv.size (E:EInv B w wr l p o s t d m rs rt rd rm):B+1+1<wr.heap.size:=some_lt E.it
theorem EInv.next (E:EInv B w wr l p o s t d m rs rt rd rm) (q:Nat):EInv B w (wr.iterAt (B+1+1) ⟨l.toArray⟩ q) l q o s t d m rs rt rd rm:=by
 have c:∀ {b j:Nat} {v:Value},b≠B+1+1→wr.cell? ⟨b,j,none⟩=some v→(wr.iterAt (B+1+1) ⟨l.toArray⟩ q).cell? ⟨b,j,none⟩=some v:=fun hb h=>by
  rw[World.cell?_of_block (w:=wr) (Lib.iterAt_other wr (B+1+1) _ _ _ hb)];exact h
 exact ⟨Lib.iterAt_heap wr _ _ p _ E.it,c (by omega) E.i0,c (by omega) E.i1,c (by omega) E.i2,c (by omega) E.i3,c (by omega) E.i4,c (by omega) E.r0,c (by omega) E.r1,c (by omega) E.r2,c (by omega) E.r3,c (by omega) E.r4,
  fun j=>by rw[World.frozen?_of_block (w:=wr) (Lib.iterAt_other wr (B+1+1) _ _ _ (by show B+1≠_;omega))];exact E.fz j,Lib.below_iterAt E.bel (by omega) _ _⟩
theorem EInv.grow (E:EInv B w wr l p o s t d m rs rt rd rm) {w1:World} (h:Below wr.heap.size wr w1):EInv B w w1 l p o s t d m rs rt rd rm:=by
 have z:=E.size
 have c:∀ {a:Addr} {v:Value},wr.cell? a=some v→w1.cell? a=some v:=fun e=>cell_stays h (Nat.le_refl _) e
 exact ⟨row_stays h (Nat.le_refl _) E.it,c E.i0,c E.i1,c E.i2,c E.i3,c E.i4,c E.r0,c E.r1,c E.r2,c E.r3,c E.r4,
  fun j=>by rw[h.frozen (p:=⟨B+1,j,none⟩) (by show B+1<_;omega)];exact E.fz j,E.bel.trans (h.mono (by omega))⟩
theorem EInv.putS (E:EInv B w wr l p o s t d m rs rt rd rm) (v:Int):EInv B w (wr.setCell ⟨B+1,1,none⟩ (.int .i64 v)) l p o s t d m v rt rd rm:=by
 have a:∀ {b q:Nat} {u:Value},b≠B+1→wr.cell? ⟨b,q,none⟩=some u→(wr.setCell ⟨B+1,1,none⟩ (.int .i64 v)).cell? ⟨b,q,none⟩=some u:=fun hb h=>by
  rw[World.cell?_of_block (w:=wr) (Below.heap_setCell wr _ _ _ hb)];exact h
 have c:∀ {q:Nat} {u:Value},q≠1→wr.cell? ⟨B+1,q,none⟩=some u→(wr.setCell ⟨B+1,1,none⟩ (.int .i64 v)).cell? ⟨B+1,q,none⟩=some u:=fun hq h=>by
  rw[World.cell?_setCell_other _ _ _ _ (by intro e;injection e with e1 e2;exact hq e2.symm)];exact h
 exact ⟨by rw[Below.heap_setCell wr _ _ _ (by show B+1+1≠B+1;omega)];exact E.it,a (by omega) E.i0,a (by omega) E.i1,a (by omega) E.i2,a (by omega) E.i3,a (by omega) E.i4,c (by decide) E.r0,World.cell?_setCell_same _ _ _ E.r1,c (by decide) E.r2,c (by decide) E.r3,c (by decide) E.r4,
  fun q=>by simpa using E.fz q,E.bel.setCell (by show B≤B+1;omega) _⟩
theorem EInv.putT (E:EInv B w wr l p o s t d m rs rt rd rm) (v:Int):EInv B w (wr.setCell ⟨B+1,2,none⟩ (.int .i64 v)) l p o s t d m rs v rd rm:=by
 have a:∀ {b q:Nat} {u:Value},b≠B+1→wr.cell? ⟨b,q,none⟩=some u→(wr.setCell ⟨B+1,2,none⟩ (.int .i64 v)).cell? ⟨b,q,none⟩=some u:=fun hb h=>by
  rw[World.cell?_of_block (w:=wr) (Below.heap_setCell wr _ _ _ hb)];exact h
 have c:∀ {q:Nat} {u:Value},q≠2→wr.cell? ⟨B+1,q,none⟩=some u→(wr.setCell ⟨B+1,2,none⟩ (.int .i64 v)).cell? ⟨B+1,q,none⟩=some u:=fun hq h=>by
  rw[World.cell?_setCell_other _ _ _ _ (by intro e;injection e with e1 e2;exact hq e2.symm)];exact h
 exact ⟨by rw[Below.heap_setCell wr _ _ _ (by show B+1+1≠B+1;omega)];exact E.it,a (by omega) E.i0,a (by omega) E.i1,a (by omega) E.i2,a (by omega) E.i3,a (by omega) E.i4,c (by decide) E.r0,c (by decide) E.r1,World.cell?_setCell_same _ _ _ E.r2,c (by decide) E.r3,c (by decide) E.r4,
  fun q=>by simpa using E.fz q,E.bel.setCell (by show B≤B+1;omega) _⟩
theorem EInv.putD (E:EInv B w wr l p o s t d m rs rt rd rm) (v:Int):EInv B w (wr.setCell ⟨B+1,3,none⟩ (.int .i64 v)) l p o s t d m rs rt v rm:=by
 have a:∀ {b q:Nat} {u:Value},b≠B+1→wr.cell? ⟨b,q,none⟩=some u→(wr.setCell ⟨B+1,3,none⟩ (.int .i64 v)).cell? ⟨b,q,none⟩=some u:=fun hb h=>by
  rw[World.cell?_of_block (w:=wr) (Below.heap_setCell wr _ _ _ hb)];exact h
 have c:∀ {q:Nat} {u:Value},q≠3→wr.cell? ⟨B+1,q,none⟩=some u→(wr.setCell ⟨B+1,3,none⟩ (.int .i64 v)).cell? ⟨B+1,q,none⟩=some u:=fun hq h=>by
  rw[World.cell?_setCell_other _ _ _ _ (by intro e;injection e with e1 e2;exact hq e2.symm)];exact h
 exact ⟨by rw[Below.heap_setCell wr _ _ _ (by show B+1+1≠B+1;omega)];exact E.it,a (by omega) E.i0,a (by omega) E.i1,a (by omega) E.i2,a (by omega) E.i3,a (by omega) E.i4,c (by decide) E.r0,c (by decide) E.r1,c (by decide) E.r2,World.cell?_setCell_same _ _ _ E.r3,c (by decide) E.r4,
  fun q=>by simpa using E.fz q,E.bel.setCell (by show B≤B+1;omega) _⟩
theorem EInv.putM (E:EInv B w wr l p o s t d m rs rt rd rm) (v:Int):EInv B w (wr.setCell ⟨B+1,4,none⟩ (.int .u32 v)) l p o s t d m rs rt rd v:=by
 have a:∀ {b q:Nat} {u:Value},b≠B+1→wr.cell? ⟨b,q,none⟩=some u→(wr.setCell ⟨B+1,4,none⟩ (.int .u32 v)).cell? ⟨b,q,none⟩=some u:=fun hb h=>by
  rw[World.cell?_of_block (w:=wr) (Below.heap_setCell wr _ _ _ hb)];exact h
 have c:∀ {q:Nat} {u:Value},q≠4→wr.cell? ⟨B+1,q,none⟩=some u→(wr.setCell ⟨B+1,4,none⟩ (.int .u32 v)).cell? ⟨B+1,q,none⟩=some u:=fun hq h=>by
  rw[World.cell?_setCell_other _ _ _ _ (by intro e;injection e with e1 e2;exact hq e2.symm)];exact h
 exact ⟨by rw[Below.heap_setCell wr _ _ _ (by show B+1+1≠B+1;omega)];exact E.it,a (by omega) E.i0,a (by omega) E.i1,a (by omega) E.i2,a (by omega) E.i3,a (by omega) E.i4,c (by decide) E.r0,c (by decide) E.r1,c (by decide) E.r2,c (by decide) E.r3,World.cell?_setCell_same _ _ _ E.r4,
  fun q=>by simpa using E.fz q,E.bel.setCell (by show B≤B+1;omega) _⟩
theorem EInv.start (w:World) (l:List UInt8) (o s t d m:Int):EInv w.heap.size w (((w.alloc (.cells #[.int .i64 o,.int .i64 s,.int .i64 t,.int .i64 d,.int .u32 m] 113)).alloc (.cells #[.int .i64 o,.int .i64 s,.int .i64 t,.int .i64 d,.int .u32 m] 113)).drew.iter ⟨l.toArray⟩ 0) l 0 o s t d m s t d m:=by
 have c:∀ (W:World) (b j:Nat),b<W.heap.size→(W.iter ⟨l.toArray⟩ 0).cell? ⟨b,j,none⟩=W.cell? ⟨b,j,none⟩:=fun W b j hb=>by
  unfold World.iter;rw[World.cell?_alloc_lt _ _ _ hb]
 have f:∀ (W:World) (b j:Nat),b<W.heap.size→(W.iter ⟨l.toArray⟩ 0).frozen? ⟨b,j,none⟩=W.frozen? ⟨b,j,none⟩:=fun W b j hb =>
  World.frozen?_of_block (w:=W) (Below.heap_alloc _ _ _ hb)
 refine ⟨?_,by rw[c _ _ _ (by simp;try omega)];simp,by rw[c _ _ _ (by simp;try omega)];simp,by rw[c _ _ _ (by simp;try omega)];simp,by rw[c _ _ _ (by simp;try omega)];simp,by rw[c _ _ _ (by simp;try omega)];simp,by rw[c _ _ _ (by simp;try omega)];simp,by rw[c _ _ _ (by simp;try omega)];simp,by rw[c _ _ _ (by simp;try omega)];simp,by rw[c _ _ _ (by simp;try omega)];simp,by rw[c _ _ _ (by simp;try omega)];simp,fun j=>by rw[f _ _ _ (by simp)];simp,?_⟩
 ·have:=World.iter_heap ((w.alloc (.cells #[.int .i64 o,.int .i64 s,.int .i64 t,.int .i64 d,.int .u32 m] 113)).alloc (.cells #[.int .i64 o,.int .i64 s,.int .i64 t,.int .i64 d,.int .u32 m] 113)).drew ⟨l.toArray⟩ 0
  simpa using this
 ·exact ((((Below.refl _ _).alloc (Nat.le_refl _) _).alloc (by simp) _).drew).alloc (by simp;omega) _
theorem iterPos_of {w:World} {b:Nat} {s:ByteArray} {p:Nat} (h:w.heap[b]?=some (.stringIter s p)):w.iterPos b=p:=by
 unfold World.iterPos;rw[h]
theorem zS_0 (n:Nat) (s:Int):zS n 0 s=s:=by simp[zS,inL]
theorem zT_0 (n:Nat) (s:Int):zT n 0 s=s:=by simp[zT,inL]
theorem zD_0 (n:Nat) (s:Int):zD n 0 s=s:=by simp[zD,inL]
theorem zM_0 (n:Nat) (s:Int):zM n 0 s=s:=by simp[zM,inL]
end
theorem dec_at (l:List UInt8) (p:Nat) (h:p<l.length) (c:UInt8) (hc:l[p]=c) (hl:c.toNat<128) (wr:World) (b:Nat) (hit:wr.heap[b]?=some (.stringIter ⟨l.toArray⟩ p)) (ty:TypeId) :
  (Instr.next (.pointer (some ⟨b,0,none⟩)) true ty).run Tryz.prog wr=.ok (.tuple #[.bool true,.int .i64 p,.int .i32 c.toNat]) (wr.iterAt b ⟨l.toArray⟩ (p+1)):=by
 have hs:p<(ByteArray.mk l.toArray).size:=by simpa [ByteArray.size] using h
 have e:(ByteArray.mk l.toArray)[p]'hs=c:=hc
 rw[Lib.run_next_any_at wr b _ p ty hit hs,decode_ascii _ p hs (by rw[e];exact hl),e]
def encR (pb:Addr) (k:Nat) (s t d m:Int):Value:=if okB (sh k) s t d m then .tuple #[.int .u32 (enc k s t d m),.nilIface] else .tuple #[.int .u32 0,.iface 332 (.pointer (some pb))]
theorem encR_ok {pb:Addr} {k:Nat} {s t d m:Int} (h:okB (sh k) s t d m=true):encR pb k s t d m=.tuple #[.int .u32 (enc k s t d m),.nilIface]:=by unfold encR;rw[if_pos h]
theorem encR_bad {pb:Addr} {k:Nat} {s t d m:Int} (h:okB (sh k) s t d m=false):encR pb k s t d m=.tuple #[.int .u32 0,.iface 332 (.pointer (some pb))]:=by unfold encR;rw[if_neg (by rw[h];decide)]
theorem encode_any (pk pb:Addr) (k:Nat) (h1:1≤k) (hk:k<54) (s t d m:Int) (m0:0≤m) (m1:m<4294967296) (s0:-9223372036854775808≤s) (s1:s≤9223372036854775807) (t0:-9223372036854775808≤t) (t1:t≤9223372036854775807) (d0:-9223372036854775808≤d) (d1:d≤9223372036854775807) (w:World) (T:Tb pk pb w) :
  Calls Tryz.prog 105 #[ins k s t d m] w fun e w'=>e=.returned (encR pb k s t d m)∧Below w.heap.size w w':=by
 have hz:=T.size
 have hzF:10<w.heap.size:=by omega
 have hzK:5<w.heap.size:=by omega
 have hzB:0<w.heap.size:=by omega
 have hz1:1<w.heap.size:=by omega
 have hz2:1<w.heap.size+1:=by omega
 have hop:0<(k:Int)∧(k:Int)<54:=by omega
 have g:=T.ft k hk
 have k0:(0:Int)≤k:=by omega
 have k1:(k:Int)<54:=by omega
 have HT:Hid (Tb pk pb w):=T
 clear T
 have hn:=sh_all k hk
 go_enter Tryz.func105,Tryz.ntmps105
 go_wp2_with (go_at_call 158;refine (isOp_in _ hop _).mono ?_;rintro e w' ⟨rfl,rfl⟩)
 go_region
 go_wp2_with (go_at_call 155;refine (fields_nat k hk _).mono ?_;rintro e w' ⟨rfl,rfl⟩)
 go_loopw [4] (fun a wr=>∃ p:Nat,p≤(lt (sh k)).length∧a=.int .u32 (eacc k s t d m p)∧Hid (egood (sh k) s t d m p)∧EInv w.heap.size w wr (lt (sh k)) p k s t d m (zS (sh k) p s) (zT (sh k) p t) (zD (sh k) p d) (zM (sh k) p m)) (fun _ wr=>(lt (sh k)).length-wr.iterPos (w.heap.size+1+1))
 case atStart =>
  refine ⟨0,Nat.zero_le _,by rw[eacc_0],egood_0 _ _ _ _ _,?_⟩
  rw[zS_0,zT_0,zD_0,zM_0]
  exact EInv.start w _ k s t d m
 case round =>
  obtain ⟨p,hp,rfl,HG,E⟩:=hrel
  by_cases hlt:p<(lt (sh k)).length
  ·rcases letters (sh k) hn p hlt with hc|hc|hc|hc|hc|hc
   ·have hnx:∀ ty,(Instr.next (.pointer (some ⟨w.heap.size+1+1,0,none⟩)) true ty).run Tryz.prog wr=.ok (.tuple #[.bool true,.int .i64 p,.int .i32 83]) (wr.iterAt (w.heap.size+1+1) ⟨(lt (sh k)).toArray⟩ (p+1)):=fun ty=>dec_at _ p hlt _ hc (by decide) wr _ E.it ty
    have E2:=E.next (p+1)
    generalize wr.iterAt (w.heap.size+1+1) ⟨(lt (sh k)).toArray⟩ (p+1)=wr2 at hnx E2
    obtain ⟨q0,q1,q2,q3,q4⟩:=(⟨E2.i0,E2.i1,E2.i2,E2.i3,E2.i4⟩:_∧_∧_∧_∧_)
    go_wp2_with (go_at_call 156;refine (place83 _).mono ?_;rintro e w' ⟨rfl,rfl⟩)
    refine (take83 k s t d m m0 m1 _).mono ?_
    rintro e w3 ⟨rfl,hb3⟩
    have E3:=E2.grow hb3
    clear q0 q1 q2 q3 q4 hnx
    by_cases hv:0≤s∧s<32
    ·obtain ⟨v0,v1⟩:=hv
     have ST:=step83 k hk h1 s t d m m0 p hlt hc HG.out v0 v1
     obtain ⟨st1,st2,st3,st4,st5,st6,st7,st8⟩:=ST
     have HS:Hid (egood (sh k) s t d m (p+1)):=st2
     have HZ:Hid (zS (sh k) (p+1) s=0∧zT (sh k) (p+1) t=zT (sh k) p t∧zD (sh k) (p+1) d=zD (sh k) p d∧zM (sh k) (p+1) m=zM (sh k) p m):=⟨st3,st4,st5,st6⟩
     clear st2 st3 st4 st5 st6
     have hu:s%18446744073709551616=s:=by omega
     go_wp2_with (go_at_call 157;refine (put83 (w.heap.size+1) 0 (by decide) (by decide) _ _ E3.r1 (E3.fz 1)).mono ?_;rintro e w' ⟨rfl,rfl⟩)
     have E4:=E3.putS 0
     go_roundw
     case rel =>
      refine ⟨p+1,by omega,rfl,HS.out,?_⟩
      rw[HZ.out.1,HZ.out.2.1,HZ.out.2.2.1,HZ.out.2.2.2]
      exact E4
     case measure =>
      rw[iterPos_of E4.it,iterPos_of E.it]
      omega
    ·have HO:Hid (okB (sh k) s t d m=false):=bad83 (sh k) hn s t d m m0 p hlt hc hv
     have hu:32≤s%18446744073709551616:=by omega
     have hbnd:w3.cell? ⟨0,0,none⟩=some (.iface 332 (.pointer (some pb))):=(HT.out.stays E3.bel (Nat.le_refl _)).bound
     go_wp2_with fail
     go_region
     all_goals
      go_wp2
      go_ret2
      exact ⟨by rw[encR_bad HO.out];rfl,E3.bel.drew⟩
   ·have hnx:∀ ty,(Instr.next (.pointer (some ⟨w.heap.size+1+1,0,none⟩)) true ty).run Tryz.prog wr=.ok (.tuple #[.bool true,.int .i64 p,.int .i32 84]) (wr.iterAt (w.heap.size+1+1) ⟨(lt (sh k)).toArray⟩ (p+1)):=fun ty=>dec_at _ p hlt _ hc (by decide) wr _ E.it ty
    have E2:=E.next (p+1)
    generalize wr.iterAt (w.heap.size+1+1) ⟨(lt (sh k)).toArray⟩ (p+1)=wr2 at hnx E2
    obtain ⟨q0,q1,q2,q3,q4⟩:=(⟨E2.i0,E2.i1,E2.i2,E2.i3,E2.i4⟩:_∧_∧_∧_∧_)
    go_wp2_with (go_at_call 156;refine (place84 _).mono ?_;rintro e w' ⟨rfl,rfl⟩)
    refine (take84 k s t d m m0 m1 _).mono ?_
    rintro e w3 ⟨rfl,hb3⟩
    have E3:=E2.grow hb3
    clear q0 q1 q2 q3 q4 hnx
    by_cases hv:0≤t∧t<32
    ·obtain ⟨v0,v1⟩:=hv
     have ST:=step84 k hk h1 s t d m m0 p hlt hc HG.out v0 v1
     obtain ⟨st1,st2,st3,st4,st5,st6,st7,st8⟩:=ST
     have HS:Hid (egood (sh k) s t d m (p+1)):=st2
     have HZ:Hid (zS (sh k) (p+1) s=zS (sh k) p s∧zT (sh k) (p+1) t=0∧zD (sh k) (p+1) d=zD (sh k) p d∧zM (sh k) (p+1) m=zM (sh k) p m):=⟨st3,st4,st5,st6⟩
     clear st2 st3 st4 st5 st6
     have hu:t%18446744073709551616=t:=by omega
     go_wp2_with (go_at_call 157;refine (put84 (w.heap.size+1) 0 (by decide) (by decide) _ _ E3.r2 (E3.fz 2)).mono ?_;rintro e w' ⟨rfl,rfl⟩)
     have E4:=E3.putT 0
     go_roundw
     case rel =>
      refine ⟨p+1,by omega,rfl,HS.out,?_⟩
      rw[HZ.out.1,HZ.out.2.1,HZ.out.2.2.1,HZ.out.2.2.2]
      exact E4
     case measure =>
      rw[iterPos_of E4.it,iterPos_of E.it]
      omega
    ·have HO:Hid (okB (sh k) s t d m=false):=bad84 (sh k) hn s t d m m0 p hlt hc hv
     have hu:32≤t%18446744073709551616:=by omega
     have hbnd:w3.cell? ⟨0,0,none⟩=some (.iface 332 (.pointer (some pb))):=(HT.out.stays E3.bel (Nat.le_refl _)).bound
     go_wp2_with fail
     go_region
     all_goals
      go_wp2
      go_ret2
      exact ⟨by rw[encR_bad HO.out];rfl,E3.bel.drew⟩
   ·have hnx:∀ ty,(Instr.next (.pointer (some ⟨w.heap.size+1+1,0,none⟩)) true ty).run Tryz.prog wr=.ok (.tuple #[.bool true,.int .i64 p,.int .i32 68]) (wr.iterAt (w.heap.size+1+1) ⟨(lt (sh k)).toArray⟩ (p+1)):=fun ty=>dec_at _ p hlt _ hc (by decide) wr _ E.it ty
    have E2:=E.next (p+1)
    generalize wr.iterAt (w.heap.size+1+1) ⟨(lt (sh k)).toArray⟩ (p+1)=wr2 at hnx E2
    obtain ⟨q0,q1,q2,q3,q4⟩:=(⟨E2.i0,E2.i1,E2.i2,E2.i3,E2.i4⟩:_∧_∧_∧_∧_)
    go_wp2_with (go_at_call 156;refine (place68 _).mono ?_;rintro e w' ⟨rfl,rfl⟩)
    refine (take68 k s t d m m0 m1 _).mono ?_
    rintro e w3 ⟨rfl,hb3⟩
    have E3:=E2.grow hb3
    clear q0 q1 q2 q3 q4 hnx
    by_cases hv:0≤d∧d<32
    ·obtain ⟨v0,v1⟩:=hv
     have ST:=step68 k hk h1 s t d m m0 p hlt hc HG.out v0 v1
     obtain ⟨st1,st2,st3,st4,st5,st6,st7,st8⟩:=ST
     have HS:Hid (egood (sh k) s t d m (p+1)):=st2
     have HZ:Hid (zS (sh k) (p+1) s=zS (sh k) p s∧zT (sh k) (p+1) t=zT (sh k) p t∧zD (sh k) (p+1) d=0∧zM (sh k) (p+1) m=zM (sh k) p m):=⟨st3,st4,st5,st6⟩
     clear st2 st3 st4 st5 st6
     have hu:d%18446744073709551616=d:=by omega
     go_wp2_with (go_at_call 157;refine (put68 (w.heap.size+1) 0 (by decide) (by decide) _ _ E3.r3 (E3.fz 3)).mono ?_;rintro e w' ⟨rfl,rfl⟩)
     have E4:=E3.putD 0
     go_roundw
     case rel =>
      refine ⟨p+1,by omega,rfl,HS.out,?_⟩
      rw[HZ.out.1,HZ.out.2.1,HZ.out.2.2.1,HZ.out.2.2.2]
      exact E4
     case measure =>
      rw[iterPos_of E4.it,iterPos_of E.it]
      omega
    ·have HO:Hid (okB (sh k) s t d m=false):=bad68 (sh k) hn s t d m m0 p hlt hc hv
     have hu:32≤d%18446744073709551616:=by omega
     have hbnd:w3.cell? ⟨0,0,none⟩=some (.iface 332 (.pointer (some pb))):=(HT.out.stays E3.bel (Nat.le_refl _)).bound
     go_wp2_with fail
     go_region
     all_goals
      go_wp2
      go_ret2
      exact ⟨by rw[encR_bad HO.out];rfl,E3.bel.drew⟩
   ·have hnx:∀ ty,(Instr.next (.pointer (some ⟨w.heap.size+1+1,0,none⟩)) true ty).run Tryz.prog wr=.ok (.tuple #[.bool true,.int .i64 p,.int .i32 97]) (wr.iterAt (w.heap.size+1+1) ⟨(lt (sh k)).toArray⟩ (p+1)):=fun ty=>dec_at _ p hlt _ hc (by decide) wr _ E.it ty
    have E2:=E.next (p+1)
    generalize wr.iterAt (w.heap.size+1+1) ⟨(lt (sh k)).toArray⟩ (p+1)=wr2 at hnx E2
    obtain ⟨q0,q1,q2,q3,q4⟩:=(⟨E2.i0,E2.i1,E2.i2,E2.i3,E2.i4⟩:_∧_∧_∧_∧_)
    go_wp2_with (go_at_call 156;refine (place97 _).mono ?_;rintro e w' ⟨rfl,rfl⟩)
    refine (take97 k s t d m m0 m1 _).mono ?_
    rintro e w3 ⟨rfl,hb3⟩
    have E3:=E2.grow hb3
    clear q0 q1 q2 q3 q4 hnx
    by_cases hv:0≤m∧m<32
    ·obtain ⟨v0,v1⟩:=hv
     have ST:=step97 k hk h1 s t d m m0 p hlt hc HG.out v0 v1
     obtain ⟨st1,st2,st3,st4,st5,st6,st7,st8⟩:=ST
     have HS:Hid (egood (sh k) s t d m (p+1)):=st2
     have HZ:Hid (zS (sh k) (p+1) s=zS (sh k) p s∧zT (sh k) (p+1) t=zT (sh k) p t∧zD (sh k) (p+1) d=zD (sh k) p d∧zM (sh k) (p+1) m=0):=⟨st3,st4,st5,st6⟩
     clear st2 st3 st4 st5 st6
     go_wp2_with (go_at_call 157;refine (put97 (w.heap.size+1) 0 (by decide) (by decide) _ _ E3.r4 (E3.fz 4)).mono ?_;rintro e w' ⟨rfl,rfl⟩)
     have E4:=E3.putM 0
     go_roundw
     case rel =>
      refine ⟨p+1,by omega,rfl,HS.out,?_⟩
      rw[HZ.out.1,HZ.out.2.1,HZ.out.2.2.1,HZ.out.2.2.2]
      exact E4
     case measure =>
      rw[iterPos_of E4.it,iterPos_of E.it]
      omega
    ·have HO:Hid (okB (sh k) s t d m=false):=bad97 (sh k) hn s t d m m0 p hlt hc hv
     have hu:32≤m:=by omega
     have hbnd:w3.cell? ⟨0,0,none⟩=some (.iface 332 (.pointer (some pb))):=(HT.out.stays E3.bel (Nat.le_refl _)).bound
     go_wp2_with fail
     go_region
     all_goals
      go_wp2
      go_ret2
      exact ⟨by rw[encR_bad HO.out];rfl,E3.bel.drew⟩
   ·have hnx:∀ ty,(Instr.next (.pointer (some ⟨w.heap.size+1+1,0,none⟩)) true ty).run Tryz.prog wr=.ok (.tuple #[.bool true,.int .i64 p,.int .i32 105]) (wr.iterAt (w.heap.size+1+1) ⟨(lt (sh k)).toArray⟩ (p+1)):=fun ty=>dec_at _ p hlt _ hc (by decide) wr _ E.it ty
    have E2:=E.next (p+1)
    generalize wr.iterAt (w.heap.size+1+1) ⟨(lt (sh k)).toArray⟩ (p+1)=wr2 at hnx E2
    obtain ⟨q0,q1,q2,q3,q4⟩:=(⟨E2.i0,E2.i1,E2.i2,E2.i3,E2.i4⟩:_∧_∧_∧_∧_)
    go_wp2_with (go_at_call 156;refine (place105 _).mono ?_;rintro e w' ⟨rfl,rfl⟩)
    refine (take105 k s t d m m0 m1 _).mono ?_
    rintro e w3 ⟨rfl,hb3⟩
    have E3:=E2.grow hb3
    clear q0 q1 q2 q3 q4 hnx
    by_cases hv:0≤m∧m<65536
    ·obtain ⟨v0,v1⟩:=hv
     have ST:=step105 k hk h1 s t d m m0 p hlt hc HG.out v0 v1
     obtain ⟨st1,st2,st3,st4,st5,st6,st7,st8⟩:=ST
     have HS:Hid (egood (sh k) s t d m (p+1)):=st2
     have HZ:Hid (zS (sh k) (p+1) s=zS (sh k) p s∧zT (sh k) (p+1) t=zT (sh k) p t∧zD (sh k) (p+1) d=zD (sh k) p d∧zM (sh k) (p+1) m=0):=⟨st3,st4,st5,st6⟩
     clear st2 st3 st4 st5 st6
     go_wp2_with (go_at_call 157;refine (put105 (w.heap.size+1) 0 (by decide) (by decide) _ _ E3.r4 (E3.fz 4)).mono ?_;rintro e w' ⟨rfl,rfl⟩)
     have E4:=E3.putM 0
     go_roundw
     case rel =>
      refine ⟨p+1,by omega,rfl,HS.out,?_⟩
      rw[HZ.out.1,HZ.out.2.1,HZ.out.2.2.1,HZ.out.2.2.2]
      exact E4
     case measure =>
      rw[iterPos_of E4.it,iterPos_of E.it]
      omega
    ·have HO:Hid (okB (sh k) s t d m=false):=bad105 (sh k) hn s t d m m0 p hlt hc hv
     have hu:65536≤m:=by omega
     have hbnd:w3.cell? ⟨0,0,none⟩=some (.iface 332 (.pointer (some pb))):=(HT.out.stays E3.bel (Nat.le_refl _)).bound
     go_wp2_with fail
     go_region
     all_goals
      go_wp2
      go_ret2
      exact ⟨by rw[encR_bad HO.out];rfl,E3.bel.drew⟩
   ·have hnx:∀ ty,(Instr.next (.pointer (some ⟨w.heap.size+1+1,0,none⟩)) true ty).run Tryz.prog wr=.ok (.tuple #[.bool true,.int .i64 p,.int .i32 106]) (wr.iterAt (w.heap.size+1+1) ⟨(lt (sh k)).toArray⟩ (p+1)):=fun ty=>dec_at _ p hlt _ hc (by decide) wr _ E.it ty
    have E2:=E.next (p+1)
    generalize wr.iterAt (w.heap.size+1+1) ⟨(lt (sh k)).toArray⟩ (p+1)=wr2 at hnx E2
    obtain ⟨q0,q1,q2,q3,q4⟩:=(⟨E2.i0,E2.i1,E2.i2,E2.i3,E2.i4⟩:_∧_∧_∧_∧_)
    go_wp2_with (go_at_call 156;refine (place106 _).mono ?_;rintro e w' ⟨rfl,rfl⟩)
    refine (take106 k s t d m m0 m1 _).mono ?_
    rintro e w3 ⟨rfl,hb3⟩
    have E3:=E2.grow hb3
    clear q0 q1 q2 q3 q4 hnx
    by_cases hv:0≤m∧m<67108864
    ·obtain ⟨v0,v1⟩:=hv
     have ST:=step106 k hk h1 s t d m m0 p hlt hc HG.out v0 v1
     obtain ⟨st1,st2,st3,st4,st5,st6,st7,st8⟩:=ST
     have HS:Hid (egood (sh k) s t d m (p+1)):=st2
     have HZ:Hid (zS (sh k) (p+1) s=zS (sh k) p s∧zT (sh k) (p+1) t=zT (sh k) p t∧zD (sh k) (p+1) d=zD (sh k) p d∧zM (sh k) (p+1) m=0):=⟨st3,st4,st5,st6⟩
     clear st2 st3 st4 st5 st6
     go_wp2_with (go_at_call 157;refine (put106 (w.heap.size+1) 0 (by decide) (by decide) _ _ E3.r4 (E3.fz 4)).mono ?_;rintro e w' ⟨rfl,rfl⟩)
     have E4:=E3.putM 0
     go_roundw
     case rel =>
      refine ⟨p+1,by omega,rfl,HS.out,?_⟩
      rw[HZ.out.1,HZ.out.2.1,HZ.out.2.2.1,HZ.out.2.2.2]
      exact E4
     case measure =>
      rw[iterPos_of E4.it,iterPos_of E.it]
      omega
    ·have HO:Hid (okB (sh k) s t d m=false):=bad106 (sh k) hn s t d m m0 p hlt hc hv
     have hu:67108864≤m:=by omega
     have hbnd:w3.cell? ⟨0,0,none⟩=some (.iface 332 (.pointer (some pb))):=(HT.out.stays E3.bel (Nat.le_refl _)).bound
     go_wp2_with fail
     go_region
     all_goals
      go_wp2
      go_ret2
      exact ⟨by rw[encR_bad HO.out];rfl,E3.bel.drew⟩
  ·obtain rfl:p=(lt (sh k)).length:=by omega
   have hs:¬ (lt (sh k)).length<(ByteArray.mk (lt (sh k)).toArray).size:=by simp[ByteArray.size]
   have hnx:∀ ty,(Instr.next (.pointer (some ⟨w.heap.size+1+1,0,none⟩)) true ty).run Tryz.prog wr=.ok (.tuple #[.bool false]) wr:=fun ty=>Lib.run_next_end_at wr _ _ _ ty E.it hs
   obtain ⟨q0,q1,q2,q3,q4⟩:=(⟨E.r0,E.r1,E.r2,E.r3,E.r4⟩:_∧_∧_∧_∧_)
   have qi:=E.i0
   have HE:Hid (okB (sh k) s t d m=_):=good_end (sh k) hn s t d m m0 HG.out
   have hbnd:wr.cell? ⟨0,0,none⟩=some (.iface 332 (.pointer (some pb))):=(HT.out.stays E.bel (Nat.le_refl _)).bound
   have hbel:=E.bel
   by_cases a1:zS (sh k) (lt (sh k)).length s=0
   ·by_cases a2:zT (sh k) (lt (sh k)).length t=0
    ·by_cases a3:zD (sh k) (lt (sh k)).length d=0
     ·by_cases a4:zM (sh k) (lt (sh k)).length m=0
      ·have HO:Hid (okB (sh k) s t d m=true):=by show okB _ _ _ _ _=_;rw[HE.out];simp[a1,a2,a3,a4]
       clear HE
       go_wp2
       go_ret2
       exact ⟨by rw[encR_ok HO.out,←eacc_end k s t d m hk HO.out m0];rfl,hbel⟩
      ·have HO:Hid (okB (sh k) s t d m=false):=by show okB _ _ _ _ _=_;rw[HE.out];simp[a4]
       clear HE
       go_wp2_with fail
       go_region
       all_goals
        go_wp2
        go_ret2
        exact ⟨by rw[encR_bad HO.out];rfl,hbel.drew⟩
     ·have HO:Hid (okB (sh k) s t d m=false):=by show okB _ _ _ _ _=_;rw[HE.out];simp[a3]
      clear HE
      go_wp2_with fail
      go_region
      all_goals
       go_wp2
       go_ret2
       exact ⟨by rw[encR_bad HO.out];rfl,hbel.drew⟩
    ·have HO:Hid (okB (sh k) s t d m=false):=by show okB _ _ _ _ _=_;rw[HE.out];simp[a2]
     clear HE
     go_wp2_with fail
     go_region
     all_goals
      go_wp2
      go_ret2
      exact ⟨by rw[encR_bad HO.out];rfl,hbel.drew⟩
   ·have HO:Hid (okB (sh k) s t d m=false):=by show okB _ _ _ _ _=_;rw[HE.out];simp[a1]
    clear HE
    go_wp2_with fail
    go_region
    all_goals
     go_wp2
     go_ret2
     exact ⟨by rw[encR_bad HO.out];rfl,hbel.drew⟩
end Go.Proofs.YtflagpkmebdckaaGreatDoor.K
