import Derived.Test.YtepokmggbfoakaaGreatDoorA02
import Derived.Test.YtepokmggbfoakaaGreatDoorA08
import Derived.Lib.OwnKind
set_option maxHeartbeats 3200000
set_option maxRecDepth 100000
namespace Go.Proofs.YtepokmggbfoakaaGreatDoor
def pw(x:Nat):Nat:=2 ^ (20 - x)
theorem ga(x:Nat):0<pw x:=Nm _
theorem jz{n x:Nat}(h:n≤x)(hx:x≤20):pw n=pw x*2 ^ (x - n):=by unfold pw;rw[← N5];congr 1;omega
theorem Lq{n x:Nat}(h:n≤x)(hx:x≤20):pw x∣pw n:=⟨_,jz h hx⟩
theorem Ak{x:Nat}(hx:x≤20):2 ^ x*pw x=1048576:=by unfold pw;rw[← N5,show x+(20 - x)=20 by omega]
def jI(l:List Nat):Nat:=(l.map pw).sum
def pos(n:Nat):Nat→List Nat→Nat
 | _, []=>0
 | i,x :: l=>(if x<n∨(x=n∧0<i)then pw x else 0)+pos n (i - 1) l
theorem kU(n:Nat):∀(l:List Nat) (i:Nat),i<l.length→pos n (i+1) l=pos n i l+if l.getD i 0=n then pw n else 0
 | [],i,h=>by simp at h
 | x :: l,0,_=>by
  have e1:pos n (0+1) (x :: l)=(if x<n∨(x=n∧0<0+1)then pw x else 0)+pos n 0 l:=rfl;have e2:pos n 0 (x :: l)=(if x<n∨(x=n∧0<0)then pw x else 0)+pos n 0 l:=rfl;rw[e1,e2,show(x :: l).getD 0 0=x from rfl];by_cases hx:x=n;·subst hx;rw[LX (show x<x∨(x=x∧0<0+1) by omega),LW (show ¬(x<x∨(x=x∧0<0)) by omega),LX rfl];omega
  ·rw[LW hx];by_cases hl:x<n;·rw[LX (show x<n∨(x=n∧0<0+1) by omega),LX (show x<n∨(x=n∧0<0) by omega)];omega
   ·rw[LW (show ¬(x<n∨(x=n∧0<0+1)) by omega),LW (show ¬(x<n∨(x=n∧0<0)) by omega)];omega
 | x :: l,i+1,h=>by
  have e1:pos n (i+1+1) (x :: l)=(if x<n∨(x=n∧0<i+1+1)then pw x else 0)+pos n (i+1) l:=rfl;have e2:pos n (i+1) (x :: l)=(if x<n∨(x=n∧0<i+1)then pw x else 0)+pos n i l:=rfl;rw[e1,e2,show(x :: l).getD (i+1) 0=l.getD i 0 from rfl,kU n l i (by simpa using h)];by_cases hx:x<n∨x=n;·rw[LX (show x<n∨(x=n∧0<i+1+1) by omega),LX (show x<n∨(x=n∧0<i+1) by omega)];omega
  ·rw[LW (show ¬(x<n∨(x=n∧0<i+1+1)) by omega),LW (show ¬(x<n∨(x=n∧0<i+1)) by omega)];omega
theorem mx(n:Nat):∀(l:List Nat) (i:Nat),l.length≤i→pos n i l=pos (n+1) 0 l
 | [],_,_=>rfl
 | x :: l,i,h=>by
  have h':l.length+1≤i:=by simpa using h
  rw[pos,pos,mx n l (i - 1) (by omega),show(0 - 1:Nat)=0 from rfl];by_cases hx:x<n∨x=n;·rw[LX (show x<n∨(x=n∧0<i) by omega),LX (show x<n+1∨(x=n+1∧0<0) by omega)]
  ·rw[LW (show ¬(x<n∨(x=n∧0<i)) by omega),LW (show ¬(x<n+1∨(x=n+1∧0<0)) by omega)]
theorem oZ(n:Nat)(hn:n≤20):∀(l:List Nat) (i:Nat),pw n∣pos n i l
 | [],_=>⟨0,rfl⟩
 | x :: l,i=>by
  rw[pos];refine Nat.dvd_add ?_ (oZ n hn l _);split;·exact Lq (by omega) hn
  ·exact⟨0,rfl⟩
theorem mY(n:Nat)(l:List Nat){i j:Nat}(h:i≤j):pos n i l≤pos n j l:=by
 induction h with
 | refl=>exact L5 _
 | step h ih=>
  rename_i m;refine Mk ih ?_;by_cases hm:m<l.length;·rw[kU n l m hm];omega
  ·rw[mx n l m (by omega),mx n l (m+1) (by omega)];exact L5 _
theorem qd(l:List Nat){n m:Nat}(h:n<m)(i:Nat):pos n i l≤pos m 0 l:=by
 induction h with
 | refl=>rw[← mx n l (max i l.length) (by omega)];exact mY n l (by omega)
 | step h ih=>rename_i k;refine Mk ih ?_;rw[← mx k l l.length (by omega)];exact mY k l (by omega)
theorem rK(n:Nat):∀(l:List Nat),(∀ x∈l,x<n)→pos n 0 l=jI l
 | [],_=>rfl
 | x :: l,h=>by rw[pos,LX (Or.inl (h x (L4 ..))),show(0 - 1:Nat)=0 from rfl,rK n l fun y hy=>h y (Ma _ hy)];simp[jI]
theorem Ja(l:List Nat)(hl:∀x∈l,x≤20){n:Nat}(hn:n≤20)(i:Nat):pos n i l≤jI l:=by rw[← rK 21 l fun x hx=>by have:=hl x hx;omega];exact qd l (by omega) i
def lie(l:List Nat)(i:Nat):Nat:=pos (l.getD i 0) i l
def dR(l:List Nat)(i:Nat):Nat:=lie l i / pw (l.getD i 0)
structure fQ (l:List Nat):Prop where
 low:∀x∈l,1≤x
 high:∀x∈l,x≤20
 sum:jI l≤1048576
theorem Dy{l:List Nat}{i:Nat}(h:i<l.length):l.getD i 0∈l:=by rw[LU,LV h];exact Mu h
theorem fQ.one{l:List Nat}(h:fQ l){i:Nat}(hi:i<l.length):1≤l.getD i 0∧l.getD i 0≤20:=⟨h.low _ (Dy hi),h.high _ (Dy hi)⟩
theorem l7{l:List Nat}(h:fQ l){i:Nat}(hi:i<l.length):dR l i*pw (l.getD i 0)=lie l i:=
 Nat.div_mul_cancel (oZ _ (h.one hi).2 l i)
theorem zR{l:List Nat}{i:Nat}(hi:i<l.length):pos (l.getD i 0) (i+1) l=lie l i+pw (l.getD i 0):=by rw[kU _ l i hi,LX rfl];rfl
theorem FF{l:List Nat}{i j:Nat}(hi:i<l.length)(h:l.getD i 0<l.getD j 0∨(l.getD i 0=l.getD j 0∧i<j)):lie l i+pw (l.getD i 0)≤lie l j:=by
 rw[← zR hi];rcases h with h | ⟨h,h0⟩;·exact Mk (qd l h (i+1)) (mY _ l (by omega))
 ·unfold lie;rw[← h];exact mY _ l (by omega)
theorem xv{l:List Nat}(h:fQ l){i:Nat}(hi:i<l.length):lie l i+pw (l.getD i 0)≤jI l:=by rw[← zR hi];exact Ja l h.high (h.one hi).2 _
theorem wT{l:List Nat}(h:fQ l){i:Nat}(hi:i<l.length):dR l i<2 ^ l.getD i 0:=by have h1:=xv h hi;have h2:=h.sum;have h3:=l7 h hi;have h4:=Ak (h.one hi).2;have h5:=ga (l.getD i 0);refine OH (a:=pw (l.getD i 0)) ?_;omega
theorem yP{l:List Nat}(h:fQ l){i n:Nat}(hi:i<l.length)(hn:n≤l.getD i 0):dR l i / 2 ^ (l.getD i 0 - n)=lie l i / pw n:=by rw[dR,Oy,←jz hn (h.one hi).2]
theorem t6:∀(l:List Nat),pos 0 0 l=0
 | []=>rfl
 | x :: l=>by rw[pos,LW (show ¬(x<0∨(x=0∧0<0)) by omega),show(0 - 1:Nat)=0 from rfl,t6 l]
def wF(l:List Nat)(p i:Nat):Prop:=i<l.length∧lie l i≤p∧p<lie l i+pw (l.getD i 0)
theorem zT(l:List Nat)(m p:Nat)(h0:p<pos m 0 l→∃i,wF l p i):∀k,k≤l.length→p<pos m k l→∃i,wF l p i
 | 0,_,h=>h0 h
 | k+1,hk,h=>by
  by_cases hp:p<pos m k l;·exact zT l m p h0 k (by omega) hp
  ·rw[kU m l k (by omega)]at h;by_cases he:l.getD k 0=m
   ·rw[LX he]at h;refine⟨k,by omega,?_,?_⟩;·rw[lie,he];omega
    ·rw[lie,he];exact h
   ·rw[LW he]at h;omega
theorem tz(l:List Nat)(p:Nat):∀m,p<pos m 0 l→∃i,wF l p i
 | 0,h=>by rw[t6]at h;omega
 | m+1,h=>zT l m p (tz l p m) l.length (ag _) (by rw[mx m l _ (ag _)];exact h)
theorem FH{l:List Nat}(h:fQ l){p:Nat}(hp:p<jI l):∃i,wF l p i:=by refine tz l p 21 ?_;rw[rK 21 l fun x hx=>by have:=h.high x hx;omega];exact hp
theorem IG{l:List Nat}{p i j:Nat}(hi:wF l p i)(hj:wF l p j):i=j:=by
 obtain⟨a1,a2,a3⟩:=hi;obtain⟨b1,b2,b3⟩:=hj;have key:∀{i j:Nat},i<l.length→j<l.length→(l.getD i 0<l.getD j 0∨(l.getD i 0=l.getD j 0∧i<j))→lie l j≤p→p<lie l i+pw (l.getD i 0)→False:=by intro i j hi _ ho h1 h2;have:=FF hi ho;omega
 by_cases he:i=j;·exact he
 ·exfalso;by_cases h1:l.getD i 0<l.getD j 0∨(l.getD i 0=l.getD j 0∧i<j);·exact key a1 b1 h1 b2 a3
  ·exact key b1 a1 (by omega) a2 b3
def Is(l:List Nat)(n v i:Nat):Prop:=i<l.length∧l.getD i 0=n∧dR l i=v
def n3(l:List Nat)(n v i:Nat):Prop:=i<l.length∧n≤l.getD i 0∧dR l i / 2 ^ (l.getD i 0 - n)=v
theorem Is.begin{l:List Nat}{n v i:Nat}(h:Is l n v i):n3 l n v i:=by obtain⟨h1,h2,h3⟩:=h;refine⟨h1,by omega,?_⟩;rw[h2,Ng,Pu,Qi,h3]
theorem n3.is{l:List Nat}{n v i:Nat}(h:n3 l n v i)(hn:l.getD i 0=n):Is l n v i:=by obtain⟨h1,h2,h3⟩:=h;refine⟨h1,hn,?_⟩;rw[hn,Ng,Pu,Qi]at h3;exact h3
theorem kD{l:List Nat}(h:fQ l){n v i:Nat}(hb:n3 l n v i):v*pw n≤lie l i∧lie l i+pw (l.getD i 0)≤(v+1)*pw n:=by
 obtain⟨h1,h2,h3⟩:=hb;have h0:=(h.one h1).2;rw[yP h h1 h2]at h3;have hd:=Nat.div_add_mod (lie l i) (pw n);have hm:=OG (lie l i) (ga n);rw[h3]at hd;obtain⟨q,hq⟩:=oZ (l.getD i 0) h0 l i;have h4:lie l i=pw (l.getD i 0)*q:=hq;have hs:=jz h2 h0;refine⟨by rw[MU];omega,?_⟩;have h5:pw (l.getD i 0)*q<pw (l.getD i 0)*((v+1)*2 ^ (l.getD i 0 - n)):=by rw[← Nz,MU (pw _) (v+1),Nz,←hs,←h4,On,PR,MU v];omega
 have h6:=Nat.lt_of_mul_lt_mul_left h5
 rw[h4,show pw (l.getD i 0)*q+pw (l.getD i 0)=pw (l.getD i 0)*(q+1) by rw[Nat.mul_add,MR],hs,MU (v+1),Nz,
  MU (2 ^ _) (v+1)]
 exact Qq _ h6
theorem wN{l:List Nat}(h:fQ l){n v i:Nat}(hi:i<l.length)(hn:n≤l.getD i 0)(h1:v*pw n≤lie l i)(h2:lie l i<(v+1)*pw n):n3 l n v i:=by refine⟨hi,hn,?_⟩;rw[yP h hi hn];refine Nat.div_eq_of_lt_le h1 h2
theorem zK{l:List Nat}(h:fQ l){n v i m j:Nat}(hi:Is l n v i)(hm:n≤m){u:Nat}(hu:u / 2 ^ (m - n)=v)(h0:m≤20)(hj:n3 l m u j):i=j:=by
 have b:=kD h hj;have hp:=ga (l.getD j 0);have hs:=jz hm h0;have hd:=Nat.div_add_mod u (2 ^ (m - n));rw[hu]at hd;have e1:v*pw n≤u*pw m:=by rw[hs,MU (pw m),←Nz];refine OQ _ ?_;rw[MU];omega
 have e2:(u+1)*pw m≤(v+1)*pw n:=by rw[hs,MU (pw m),←Nz];refine OQ _ ?_;rw[On,PR,MU v];omega
 refine IG (l:=l) (p:=lie l j) ⟨hi.1,?_,?_⟩ ⟨hj.1,L5 _,by omega⟩;·have:=l7 h hi.1;rw[hi.2.1,hi.2.2]at this;omega
 ·have:=l7 h hi.1;rw[hi.2.1,hi.2.2]at this;rw[hi.2.1,←this,←Nat.succ_mul];have e3:lie l j<(u+1)*pw m:=(by omega);exact Np e3 e2
theorem Bf{l:List Nat}(h:fQ l){n v:Nat}(hn:n≤20)(h0:∀k,k<n→∀i,¬Is l k (v / 2 ^ (n - k)) i):(∃ i,n3 l n v i)↔v*pw n<jI l:=by
 constructor;·rintro⟨i,hi⟩;have a:=kD h hi;have b:=xv h hi.1;have:=ga (l.getD i 0);omega
 ·intro hp;obtain⟨i,hi,h1,h2⟩:=FH h hp;refine⟨i,?_⟩;have h6:=(h.one hi).2;by_cases hk:l.getD i 0<n
  ·exfalso;refine h0 _ hk i ⟨hi,rfl,?_⟩;have hs:=jz (MB hk) hn;rw[← l7 h hi]at h1 h2;rw[hs]at h1 h2;symm;(have hc:∀c:Nat,c*(pw n*2 ^ (n - l.getD i 0))=(c*2 ^ (n - l.getD i 0))*pw n:=fun c=>by rw[MU (pw n),Nz]);refine Nat.div_eq_of_lt_le ?_ ?_;·rw[hc]at h1;exact Nat.le_of_mul_le_mul_right h1 (ga n)
   ·have h3:v*pw n<(dR l i+1)*(pw n*2 ^ (n - l.getD i 0)):=(by rw[On,PR];exact h2);rw[hc]at h3;exact OH h3
  ·have hk:n≤l.getD i 0:=(by omega);have hs:=jz hk h6;have hl:=l7 h hi;have he:lie l i=v*pw n:=(by have hv:v*pw n=(v*2 ^ (l.getD i 0 - n))*pw (l.getD i 0):=(by rw[hs,Nz,MU (2 ^ _)]);rw[hv]at h1 h2 ⊢;rw[← hl]at h1 h2 ⊢;have h3:=Nat.le_of_mul_le_mul_right h1 (ga _);have h4:v*2 ^ (l.getD i 0 - n)*pw (l.getD i 0)<(dR l i+1)*pw (l.getD i 0):=(by rw[On,PR];exact h2);have h5:=OH h4;rw[show dR l i=v*2 ^ (l.getD i 0 - n) by omega]);refine wN h hi hk (by omega) ?_;rw[he,On,PR];have:=ga n;omega
theorem x5(bs:List Nat)(hb:au bs){k n:Nat}(hk:k≤n)(hn:n≤bs.length):val (bs.take n) / 2 ^ (n - k)=val (bs.take k):=by have h1:bs.take n=bs.take k++(bs.take n).drop k:=(by have:=MY k (bs.take n);rw[PX,MN hk]at this;exact this.symm);have h2:((bs.take n).drop k).length=n - k:=(by rw[Mc,Mj];omega);have h3:=iE _ ((hb.take n).drop k);rw[h2]at h3;rw[h1,uC,h2,MU,Nat.mul_add_div (Nm _),Qa h3,MM]
def ml(l:List Nat)(n v:Nat):Option Nat:=(List.range l.length).find? fun i=>l.getD i 0==n&&dR l i==v
theorem pW{l:List Nat}{n v:Nat}(h:ml l n v=none):∀i,¬Is l n v i:=by rintro i ⟨h1,h2,h3⟩;have:=List.find?_eq_none.1 h i (List.mem_range.2 h1);rw[h2,h3]at this;simp at this
theorem jQ{l:List Nat}{n v i:Nat}(h:ml l n v=some i):Is l n v i:=by have h1:=List.find?_some h;have h2:=List.mem_of_find?_eq_some h;simp only[Bool.and_eq_true,NV]at h1;exact⟨List.mem_range.1 h2,h1.1,h1.2⟩
theorem Lm{l:List Nat}(h:fQ l){n v i j:Nat}(hi:Is l n v i)(hj:Is l n v j):i=j:=by refine zK h hi (L5 n) (u:=v) (by rw[Ng,Pu,Qi]) ?_ hj.begin;have:=(h.one hi.1).2;rw[hi.2.1]at this;exact this
theorem vJ{l:List Nat}(h:fQ l){n v i:Nat}(hi:Is l n v i):ml l n v=some i:=by
 cases he:ml l n v with
 | none=>exact absurd hi (pW he i)
 | some j=>rw[Lm h hi (jQ he)]
inductive Nx where
 | hit (i:Nat)
 | short
 | code
def fp(l bs:List Nat):Nat→Nat→Nx
 | 0,_=>.code
 | k+1,n=>if bs.length<n then .short else match ml l n (val (bs.take n))with
   | some i=>.hit i
   | none=>if val (bs.take n)*pw n<jI l then fp l bs k (n+1)else .code
def iI(l bs:List Nat):Nx:=fp l bs 20 1
def u6(l bs:List Nat)(n:Nat):Prop:=∀k,1≤k→k<n→∀i,¬Is l k (val (bs.take k)) i
theorem u6.up{l bs:List Nat}{n:Nat}(h:u6 l bs n)(h1:ml l n (val (bs.take n))=none):u6 l bs (n+1):=by
 intro k hk h0 i;by_cases he:k=n;·subst he;exact pW h1 i
 ·exact h k hk (by omega) i
theorem FM{l:List Nat}(h:fQ l)(v i:Nat):¬Is l 0 v i:=by rintro⟨h1,h2,_⟩;have:=(h.one h1).1;omega
theorem qE{l bs:List Nat}(h:fQ l)(hb:au bs){n:Nat}(hn:n≤bs.length)(h1:n≤20)(hc:u6 l bs n):
 (∃ i,n3 l n (val (bs.take n)) i)↔val (bs.take n)*pw n<jI l:=by
 refine Bf h h1 fun k hk i=> ?_;rw[x5 bs hb (MB hk) hn];by_cases h0:k=0;·subst h0;exact FM h _ i
 ·exact hc k (by omega) hk i
theorem vO{l bs:List Nat}(h:fQ l)(hb:au bs){i:Nat}(hi:i<l.length)(hl:l.getD i 0≤bs.length)(hv:val (bs.take (l.getD i 0))=dR l i):
 ∀k n,n≤l.getD i 0→l.getD i 0<n+k→fp l bs k n=.hit i
 | 0,n,h1,h2=>by omega
 | k+1,n,h1,h2=>by
  have h0:Is l (l.getD i 0) (val (bs.take (l.getD i 0))) i:=⟨hi,rfl,hv.symm⟩;rw[fp,LW (by omega)];by_cases he:n=l.getD i 0;·subst he;rw[vJ h h0]
  ·have h5:n<l.getD i 0:=(by omega);have h3:n3 l n (val (bs.take n)) i:=by refine⟨hi,h1,?_⟩;rw[← hv,x5 bs hb h1 hl]
   cases hj:ml l n (val (bs.take n))with
   | some j=>exfalso;have h4:=zK h (jQ hj) h1 (x5 bs hb h1 hl) (h.one hi).2 h0.begin;have:=(jQ hj).2.1;rw[h4]at this;omega
   | none=>have a:=kD h h3;have b:=xv h hi;have:=ga (l.getD i 0);show(if _<_ then _ else _)=_;rw[LX (by omega)];exact vO h hb hi hl hv k (n+1) (by omega) (by omega)
theorem IW{l bs:List Nat}(h:fQ l)(hb:au bs){i:Nat}(hi:i<l.length)(hl:l.getD i 0≤bs.length)(hv:val (bs.take (l.getD i 0))=dR l i):
 iI l bs=.hit i:=vO h hb hi hl hv 20 1 (h.one hi).1 (by have:=(h.one hi).2;omega)
def eO(l:List Nat)(i:Nat):List Nat:=aj (dR l i) (l.getD i 0)
theorem FL{l:List Nat}(h:fQ l){i:Nat}(hi:i<l.length)(rest:List Nat)(hr:au rest):iI l (eO l i++rest)=.hit i:=by have h0:(eO l i).length=l.getD i 0:=af _ _;have hb:au (eO l i++rest):=au.append (aD _ _) hr;have ht:(eO l i++rest).take (l.getD i 0)=eO l i:=Ql h0;refine IW (bs:=eO l i++rest) h hb hi (by rw[LR,h0];omega) ?_;rw[ht,eO,dW,Ms (wT h hi)]
theorem tF{l bs:List Nat}{i:Nat}:∀k n,fp l bs k n=.hit i→l.getD i 0≤bs.length∧Is l (l.getD i 0) (val (bs.take (l.getD i 0))) i
 | 0,n,h=>by simp[fp]at h
 | k+1,n,h=>by
  rw[fp]at h;by_cases hn:bs.length<n;·rw[LX hn]at h;cases h
  ·rw[LW hn]at h
   cases hj:ml l n (val (bs.take n))with
   | some j=>rw[hj]at h;have h0:j=i:=(by injection h);subst h0;have h2:=jQ hj;have h3:=h2.2.1;subst h3;exact⟨by omega,h2⟩
   | none=>
    rw[hj]at h;by_cases hs:val (bs.take n)*pw n<jI l;·have h':fp l bs k (n+1)=.hit i:=(by rw[← h];exact(LX hs).symm);exact tF k (n+1) h'
    ·have h':Nx.code=.hit i:=(by rw[← h];exact(LW hs).symm);cases h'
def nl(L:List Int):List Nat:=L.map Int.toNat
theorem bV(L:List Int):(nl L).length=L.length:=Mi _
theorem tI(L:List Int)(i:Nat):(nl L).getD i 0=(L.getD i 0).toNat:=by unfold nl;rw[LU,LU,Me];cases L[i]? <;>rfl
theorem Lu(L:List Int):jI (nl L)=dC L:=by unfold jI nl dC pw;rw[MX];rfl
theorem hU{L:List Int}(h:bU L):fQ (nl L):=by
 obtain⟨_,_,h3,h4⟩:=h;refine⟨fun x hx=> ?_,fun x hx=> ?_,by rw[Lu];exact h4⟩;·obtain⟨y,hy,rfl⟩:=List.mem_map.1 hx;have:=h3 y hy;omega
 ·obtain⟨y,hy,rfl⟩:=List.mem_map.1 hx;have:=h3 y hy;omega
def cd(l:List Nat)(n i:Nat):Nat:=pos n i l / pw n
theorem Lg{l:List Nat}{n i:Nat}(hi:i<l.length)(h:l.getD i 0=n):cd l n (i+1)=cd l n i+1:=by unfold cd;rw[kU n l i hi,LX h,Nat.add_div_right _ (ga n)]
theorem Ke{l:List Nat}{n i:Nat}(hi:i<l.length)(h:l.getD i 0≠n):cd l n (i+1)=cd l n i:=by unfold cd;rw[kU n l i hi,LW h,MM]
theorem Kb{l:List Nat}{n i:Nat}(h:l.getD i 0=n):cd l n i=dR l i:=by unfold cd dR lie;rw[h]
theorem LE{l:List Nat}{n i:Nat}(hi:l.length≤i)(hn:n<20):cd l (n+1) 0=2*cd l n i:=by unfold cd;rw[← mx n l i hi];have h1:=jz (n:=n) (x:=n+1) (by omega) (by omega);rw[show n+1 - n=1 by omega,Nat.pow_one]at h1;obtain⟨k,hk⟩:=oZ n (by omega) l i;have hp:=ga n;have h0:=ga (n+1);rw[hk,Nat.mul_div_cancel_left k hp,h1,Nz,Nat.mul_div_cancel_left _ h0]
theorem LD{l:List Nat}(h:fQ l){n:Nat}(hn:n≤20)(i:Nat):cd l n i≤1048576:=by unfold cd;have h1:=Ja l h.high hn i;have h2:=h.sum;exact Mk (Nat.div_le_self _ _) (by omega)
def lW(l:List Nat)(list:List Int):List Nat:=list.flatMap fun x=>eO l x.toNat
theorem F0(l:List Nat)(a:List Int)(x:Int):lW l (a++ [x])=lW l a++eO l x.toNat:=by unfold lW;rw[M9];simp
def my(L list:List Int):List Nat×Nat:=if bU L then(if ∀x∈list,0≤x∧x<(L.length:Int)then(lW (nl L) list,0)else([],60))else([],80)
def fU(l bs:List Nat)(en:Int):Nat→Nat→List Nat→List Nat×Nat×Nat
 | 0,at',out=>(out,at',0)
 | k+1,at',out=>match iI l (bs.drop at')with
   | .hit i=>if(i:Int)=en then(out++ [i],at'+l.getD i 0,0)else fU l bs en k (at'+l.getD i 0) (out++ [i])
   | .short=>([],0,10)
   | .code=>([],0,90)
def fD(L:List Int)(bs:List Nat)(at' n en:Int):List Nat×Nat×Nat:=if bU L then(if at'<0∨(bs.length:Int)<at'∨n<0 then([],0,2)else fU (nl L) bs en n.toNat at'.toNat [])else([],0,80)
theorem yx(l:List Nat)(i:Nat):au (eO l i):=aD _ _
theorem iL(l:List Nat)(i:Nat):(eO l i).length=l.getD i 0:=af _ _
def DOk(L:List Int):Prop:=2≤L.length∧L.length≤258∧∀x∈L,1≤x∧x≤20
instance (L:List Int):Decidable (DOk L):=inferInstanceAs (Decidable (_∧_))
def ups:Nat→List Nat
 | 0=> []
 | k+1=>1 :: 0 :: ups k
def ie:Nat→List Nat
 | 0=> []
 | k+1=>1 :: 1 :: ie k
theorem AT:∀k,ups (k+1)=ups k++ [1,0]
 | 0=>rfl
 | k+1=>by show 1 :: 0 :: ups (k+1)=1 :: 0 :: ups k++ [1,0];rw[AT k];rfl
theorem sQ:∀k,ie (k+1)=ie k++ [1,1]
 | 0=>rfl
 | k+1=>by show 1 :: 1 :: ie (k+1)=1 :: 1 :: ie k++ [1,1];rw[sQ k];rfl
theorem jF:∀k,(ups k).length=2*k
 | 0=>rfl
 | k+1=>by show(ups k).length+1+1=_;rw[jF k];omega
theorem iN:∀k,(ie k).length=2*k
 | 0=>rfl
 | k+1=>by show(ie k).length+1+1=_;rw[iN k];omega
theorem Dn:∀k,au (ups k)
 | 0=>fun b hb=>by cases hb
 | k+1=>fun b hb=>by
  rcases List.mem_cons.1 hb with rfl | hb;·omega
  ·rcases List.mem_cons.1 hb with rfl | hb;·omega
   ·exact Dn k b hb
theorem vi:∀k,au (ie k)
 | 0=>fun b hb=>by cases hb
 | k+1=>fun b hb=>by
  rcases List.mem_cons.1 hb with rfl | hb;·omega
  ·rcases List.mem_cons.1 hb with rfl | hb;·omega
   ·exact vi k b hb
def gj(a x:Nat):List Nat:=ups (x - a)++ie (a - x)++ [0]
theorem lE(a x:Nat):(gj a x).length=2*((x - a)+(a - x))+1:=by unfold gj;rw[LR,LR,jF,iN];show _+1=_;omega
theorem Ep(a x:Nat):au (gj a x):=by refine((Dn _).append (vi _)).append ?_;intro b hb;rw[List.mem_singleton.1 hb];omega
def bE:Nat→List Nat→List Nat
 | _, []=> []
 | a,x :: l=>gj a x++bE x l
theorem sf:∀(l:List Nat) (a:Nat),au (bE a l)
 | [],_=>fun b hb=>by cases hb
 | x :: l,a=>(Ep a x).append (sf l x)
def nu(l:List Nat)(i:Nat):Nat:=l.getD (i - 1) 0
theorem rh:∀(l:List Nat) (a x:Nat),bE a (l++ [x])=bE a l++gj (match l.getLast? with | some y=>y | none=>a) x
 | [],a,x=>by simp[bE]
 | y :: l,a,x=>by
  show gj a y++bE y (l++ [x])=(gj a y++bE y l)++_;rw[rh l y x,LZ];congr 2
  cases l with
  | nil=>rfl
  | cons z l=>rfl
theorem AA{l:List Nat}{i:Nat}(hi:i<l.length):bE (l.getD 0 0) (l.take (i+1))=bE (l.getD 0 0) (l.take i)++gj (nu l i) (l.getD i 0):=by
 rw[Mn hi,rh];congr 2
 ·cases i with
  | zero=>rfl
  | succ k=>rw[List.getLast?_take];unfold nu;have e:l.getD k 0=l[k]:=(by rw[LU,LV (by omega)];rfl);rw[LW (by omega),QD,LV (by omega),e];rfl
 ·rw[LU,LV hi];rfl
def aZ(l:List Nat):List Nat:=aj (l.getD 0 0) 5++bE (l.getD 0 0) l
theorem vj(l:List Nat):au (aZ l):=(aD _ _).append (sf _ _)
def jV(L:List Int):List Nat×Nat:=if DOk L then(aZ (nl L),0)else([],80)
def vZ:Nat→List Nat→Nat
 | _, []=>0
 | a,x :: l=>(x - a)+(a - x)+vZ x l
theorem kp:∀(l:List Nat) (a:Nat),(bE a l).length=l.length+2*vZ a l
 | [],_=>rfl
 | x :: l,a=>by show(gj a x++bE x l).length=(l.length+1)+2*((x - a)+(a - x)+vZ x l);rw[LR,lE,kp l x];omega
theorem xL(l:List Nat):(aZ l).length=5+l.length+2*vZ (l.getD 0 0) l:=by unfold aZ;rw[LR,af,kp];omega
theorem uh:∀(l:List Nat) (a:Nat),a≤20→(∀ x∈l,x≤20)→vZ a l≤20*l.length
 | [],_,_,_=>L5 _
 | x :: l,a,ha,h=>by have hx:=h x (L4 ..);have:=uh l x hx fun y hy=>h y (Ma _ hy);show(x - a)+(a - x)+vZ x l≤20*(l.length+1);omega
def bj:List Nat→Nat→Nat→Nat→List Nat→List Nat×Nat×Nat
 | _,_,0,p,out=>(out,p,0)
 | [],now,_+1,_,_=>if now<1∨20<now then([],0,80)else([],0,10)
 | [b],now,n+1,p,out=>if now<1∨20<now then([],0,80)else if b=0 then(if n=0 then(out++ [now],p+1,0)else([],0,10))else([],0,10)
 | b :: d :: bs,now,n+1,p,out=>if now<1∨20<now then([],0,80)else if b=0 then bj (d :: bs) now n (p+1) (out++ [now])else bj bs (if d=0 then now+1 else now - 1) (n+1) (p+2) out
theorem eX(bs:List Nat)(now p:Nat)(out:List Nat):bj bs now 0 p out=(out,p,0):=by
 cases bs with
 | nil=>rfl
 | cons b bs=>cases bs <;>rfl
theorem gQ(bs:List Nat)(now n p:Nat)(out:List Nat)(h:now<1∨20<now):bj bs now (n+1) p out=([],0,80):=by
 cases bs with
 | nil=>exact LX h
 | cons b bs=>
  cases bs with
  | nil=>exact LX h
  | cons d bs=>rw[bj,LX h]
theorem jf(now n p:Nat)(out:List Nat)(h:¬(now<1∨20<now)):bj [] now (n+1) p out=([],0,10):=LW h
theorem fJ(bs:List Nat)(now n p:Nat)(out:List Nat)(h:¬(now<1∨20<now)):bj (0 :: bs) now (n+1) p out=bj bs now n (p+1) (out++ [now]):=by
 cases bs with
 | nil=>
  rw[bj,LW h,LX rfl]
  cases n with
  | zero=>rw[LX rfl,eX]
  | succ n=>rw[LW (by omega),jf _ _ _ _ h]
 | cons d bs=>rw[bj,LW h,LX rfl]
theorem kY(b now n p:Nat)(out:List Nat)(h:¬(now<1∨20<now))(hb:b≠0):bj [b] now (n+1) p out=([],0,10):=by rw[bj,LW h,LW hb]
theorem eY(b d:Nat)(bs:List Nat)(now n p:Nat)(out:List Nat)(h:¬(now<1∨20<now))(hb:b≠0):bj (b :: d :: bs) now (n+1) p out=bj bs (if d=0 then now+1 else now - 1) (n+1) (p+2) out:=by rw[bj,LW h,LW hb]
def ax(bits:List Nat)(at' n:Int):List Nat×Nat×Nat:=
 if at'<0∨(bits.length:Int)<at'∨n<2∨258<n then([],0,2)
 else if bits.length<at'.toNat+5 then([],0,10)
 else bj (bits.drop (at'.toNat+5)) (val ((bits.drop at'.toNat).take 5)) n.toNat (at'.toNat+5) []
theorem AK:∀(k:Nat) (rest:List Nat) (now n p:Nat) (out:List Nat),1≤now→now+k≤20→bj (ups k++rest) now (n+1) p out=bj rest (now+k) (n+1) (p+2*k) out
 | 0,rest,now,n,p,out,_,_=>rfl
 | k+1,rest,now,n,p,out,h1,h2=>by show bj (1 :: 0 :: (ups k++rest)) now (n+1) p out=_;rw[eY _ _ _ _ _ _ _ (by omega) (by omega),LX rfl,AK k rest (now+1) n (p+2) out (by omega) (by omega)];rw[show now+1+k=now+(k+1) by omega,show p+2+2*k=p+2*(k+1) by omega]
theorem ut:∀(k:Nat) (rest:List Nat) (now n p:Nat) (out:List Nat),k+1≤now→now≤20→bj (ie k++rest) now (n+1) p out=bj rest (now - k) (n+1) (p+2*k) out
 | 0,rest,now,n,p,out,_,_=>rfl
 | k+1,rest,now,n,p,out,h1,h2=>by show bj (1 :: 1 :: (ie k++rest)) now (n+1) p out=_;rw[eY _ _ _ _ _ _ _ (by omega) (by omega),LW (by omega),ut k rest (now - 1) n (p+2) out (by omega) (by omega)];rw[show now - 1 - k=now - (k+1) by omega,show p+2+2*k=p+2*(k+1) by omega]
theorem JD(a x:Nat)(rest:List Nat)(n p:Nat)(out:List Nat)(ha:1≤a∧a≤20)(hx:1≤x∧x≤20):bj (gj a x++rest) a (n+1) p out=bj rest x n (p+(gj a x).length) (out++ [x]):=by have e:gj a x++rest=ups (x - a)++(ie (a - x)++(0 :: rest)):=(by unfold gj;simp);have hl:=lE a x;rw[e,AK _ _ _ _ _ _ ha.1 (by omega),ut _ _ _ _ _ _ (by omega) (by omega),show a+(x - a) - (a - x)=x by omega,fJ _ _ _ _ _ (by omega)];rw[show p+2*(x - a)+2*(a - x)+1=p+(gj a x).length by omega]
theorem uv:∀(l:List Nat) (a:Nat) (rest:List Nat) (p:Nat) (out:List Nat),(1≤a∧a≤20)→(∀ x∈l,1≤x∧x≤20)→bj (bE a l++rest) a l.length p out=(out++l,p+(bE a l).length,0)
 | [],a,rest,p,out,_,_=>by rw[MH,eX];simp[bE]
 | x :: l,a,rest,p,out,ha,h=>by have hx:=h x (L4 ..);show bj (gj a x++bE x l++rest) a (l.length+1) p out=(out++x :: l,p+(gj a x++bE x l).length,0);rw[LZ,JD a x _ _ _ _ ha hx,uv l x rest _ _ hx fun y hy=>h y (Ma _ hy),LR];simp[Nu]
theorem zx{l:List Nat}(h0:0<l.length)(h:∀x∈l,1≤x∧x≤20):1≤l.getD 0 0∧l.getD 0 0≤20:=by refine h _ ?_;rw[LU,LV h0];exact Mu h0
theorem Ik{x:Nat}(h:x≤20)(rest:List Nat):val ((aj x 5++rest).take 5)=x:=by rw[Ql (af 5 x),dW,Ms (by omega)]
theorem qn{l:List Nat}(h2:2≤l.length)(h0:l.length≤258)(h:∀x∈l,1≤x∧x≤20)(pre fH rest:List Nat)(hm:∀bs n p,bj (fH++bs) (l.getD 0 0) (n+1) p []=bj bs (l.getD 0 0) (n+1) (p+fH.length) []):
 ax (pre++(aj (l.getD 0 0) 5++(fH++(bE (l.getD 0 0) l++rest)))) (pre.length:Nat) (l.length:Nat)=(l,pre.length+(aZ l).length+fH.length,0):=by have hf:=zx (by omega) h;have h1:(pre++(aj (l.getD 0 0) 5++(fH++(bE (l.getD 0 0) l++rest)))).length=pre.length+5+fH.length+(bE (l.getD 0 0) l).length+rest.length:=(by simp only[LR,af];omega);unfold ax;rw[LW (by omega),L9,L9,LW (by omega),NS,Ik hf.2];have hd:(pre++(aj (l.getD 0 0) 5++(fH++(bE (l.getD 0 0) l++rest)))).drop (pre.length+5)=fH++(bE (l.getD 0 0) l++rest):=(by rw[← OF,NS,PM (af 5 _)]);rw[hd];obtain⟨n,hn⟩:∃n,l.length=n+1:=⟨l.length - 1,by omega⟩;rw[hn,hm,←hn,uv l _ rest _ _ hf h];have e:pre.length+5+fH.length+(bE (l.getD 0 0) l).length=pre.length+(aZ l).length+fH.length:=(by rw[aZ,LR,af];omega);rw[e];rfl
open Go.RowKit
theorem IA:(Tryz.prog.info? 57).map (fun i=>(i.zero,i.size,i.bytes))=some (some (.slice none 0 0),1,24):=by kernel_rfl
def Bb(w:World)(g n:Nat)(C:Nat→List Nat):Prop:=∀j,j<n→∃A k,w.cell? ⟨g,j,none⟩=some (.slice A (C j).length k)∧aU w A (C j).length (C j)∧(C j).length≤k
theorem Bb.below{w w':World}{g n:Nat}{C:Nat→List Nat}(h:Bb w g n C)(hb:Below w.heap.size w w'):Bb w' g n C:=by intro j hj;obtain⟨A,k,h1,h2,h3⟩:=h j hj;exact⟨A,k,(hb.cell (p:=⟨g,j,none⟩) (Md w _ h1)).trans h1,dG h2 hb,h3⟩
def iz(w:World)(B g n:Nat)(C:Nat→List Nat):Prop:=∃F:Nat→Value,w.ownsRow B 57 1 (.slice (some ⟨g,0,none⟩) n n) n ((List.range n).map F)∧
 ∀j,j<n→∃A k,F j=.slice A (C j).length k∧(C j).length≤k∧w.ownsRow B 3 1 (F j) (C j).length ((C j).map iv)
theorem iz.same{w:World}{B g n:Nat}{C D:Nat→List Nat}(h:iz w B g n C)(hs:∀j,j<n→C j=D j):iz w B g n D:=by obtain⟨F,h1,h2⟩:=h;refine⟨F,h1,fun j hj=> ?_⟩;rw[← hs j hj];exact h2 j hj
theorem iz.read{w:World}{B g n:Nat}{C:Nat→List Nat}(h:iz w B g n C):Bb w g n C:=by
 obtain⟨F,h1,h2⟩:=h;intro j hj;obtain⟨A,k,a,b,c⟩:=h2 j hj;refine⟨A,k,?_,?_,b⟩;·rw[NC h1 j (by omega),Me,Mx hj,←a];rfl
 ·rw[a]at c;exact ct c
theorem iz.frozen{w:World}{B g n:Nat}{C:Nat→List Nat}(h:iz w B g n C)(i:Nat):w.frozen? ⟨g,i,none⟩=false:=by obtain⟨F,h1,_⟩:=h;exact PW h1 i
theorem iz.there{w:World}{B g n:Nat}{C:Nat→List Nat}(h:iz w B g n C)(i:Nat)(hi:i<n):∃v,w.cell? ⟨g,i,none⟩=some v:=by obtain⟨A,k,h1,_⟩:=h.read i hi;exact⟨_,h1⟩
def dP(w:World)(ans:List Nat×Nat)(e:Ending)(w':World):Prop:=∃v,e=.returned (.tuple #[v,.int .i64 ans.2])∧w'.ownsRow w.heap.size 3 1 v ans.1.length (ans.1.map iv)∧Below w.heap.size w w'
theorem rF{L:List Int}{j:Nat}(h:j<L.length):L.getD j 0∈L:=by rw[LU,LV h];exact Mu h
theorem rJ{L:List Nat}{j:Nat}(h:j<L.length):L.getD j 0∈L:=by rw[LU,LV h];exact Mu h
theorem uW(L:List Int)(q:Nat)(h:q<L.length):L.take (q+1)=L.take q++ [L.getD q 0]:=by rw[Mn h,LU,LV h];rfl
def aS(w:World)(ans:List Nat×Nat)(e:Ending)(w':World):Prop:=e=.returned (.tuple #[.agg #[.string ⟨(pack ans.1).toArray⟩,.int .i64 ans.1.length],.int .i64 ans.2])∧Below w.heap.size w w'
theorem DH{L:List Int}(h:DOk L):∀x∈nl L,1≤x∧x≤20:=by intro x hx;obtain⟨y,hy,rfl⟩:=List.mem_map.1 hx;have:=h.2.2 y hy;omega
theorem CW(L:List Int):(jV L).1.length≤11000:=by
 unfold jV;split;·rename_i h;have hn:=DH h;have h1:=xL (nl L);have h2:=zx (l:=nl L) (by rw[bV];have:=h.1;omega) hn;have h3:=uh (nl L) ((nl L).getD 0 0) h2.2 fun x hx=>(hn x hx).2;rw[bV]at h1 h3;have:=h.2.1;show(aZ (nl L)).length≤11000;omega
 ·exact LY _
def bz(w:World)(ans:List Nat×Nat×Nat)(e:Ending)(w':World):Prop:=∃v,e=.returned (.tuple #[v,.int .i64 ans.2.1,.int .i64 ans.2.2])∧w'.ownsRow w.heap.size 3 1 v ans.1.length (ans.1.map iv)∧Below w.heap.size w w'
theorem zl{L:List Nat}{p:Nat}(h:p<L.length):L.drop p=L.getD p 0 :: L.drop (p+1):=by rw[MA h,LU,LV h];rfl
theorem zY{l bs:List Nat}{q k:Nat}(h:bs.length<q):fp l bs (k+1) q=.short:=by rw[fp,LX h]
theorem IU{l bs:List Nat}{q k i:Nat}(h:¬bs.length<q)(hi:ml l q (val (bs.take q))=some i):fp l bs (k+1) q=.hit i:=by rw[fp,LW h,hi]
theorem tH{l bs:List Nat}{q k:Nat}(h:¬bs.length<q)(hi:ml l q (val (bs.take q))=none):fp l bs (k+1) q=if val (bs.take q)*pw q<jI l then fp l bs k (q+1)else .code:=by rw[fp,LW h,hi]
theorem sC{l:List Nat}(h:fQ l){i:Nat}(hi:i<l.length):dR l i<1048576:=by have h1:=wT h hi;have h2:=(h.one hi).2;have h3:2 ^ l.getD i 0≤2 ^ 20:=MW (by decide) h2;omega
theorem pz(l bs:List Nat)(en:Int)(k a:Nat)(o:List Nat):fU l bs en (k+1) a o=match iI l (bs.drop a)with
 | .hit i=>if(i:Int)=en then(o++ [i],a+l.getD i 0,0)else fU l bs en k (a+l.getD i 0) (o++ [i])
 | .short=>([],0,10)
 | .code=>([],0,90):=rfl
end Go.Proofs.YtepokmggbfoakaaGreatDoor
