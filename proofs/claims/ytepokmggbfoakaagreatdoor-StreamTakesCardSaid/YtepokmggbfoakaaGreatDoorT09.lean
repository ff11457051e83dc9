import Derived.Test.YtepokmggbfoakaaGreatDoorT02
import Derived.Test.YtepokmggbfoakaaGreatDoorT08
import Derived.Lib.OwnKind
set_option maxHeartbeats 3200000
set_option maxRecDepth 100000
namespace Go.Proofs.YtepokmggbfoakaaGreatDoor
open _root_.Go.Proofs.Tryz
def pw(x:Nat):Nat:=2^(20-x)
theorem gz(x:Nat):0<pw x:=OT _
theorem jC{n x:Nat}(h:n<=x)(hx:x<=20):pw n=pw x*2^(x-n):=by unfold pw;rw[<- PA];congr 1;omega
theorem MI{n x:Nat}(h:n<=x)(hx:x<=20):pw x∣pw n:=⟨_,jC h hx⟩
theorem AQ{x:Nat}(hx:x<=20):2^x*pw x=1048576:=by unfold pw;rw[<- PA,show x+(20-x)=20 by omega]
def jP(l:List Nat):Nat:=(l.map pw).sum
def pos(n:Nat):Nat->List Nat->Nat
 | _, []=>0
 | i,x::l=>(if x<n\/(x=n/\0<i)then pw x else 0)+pos n (i-1) l
theorem AO:∀(l:List Nat),(∀ x∈l,1<=x)->pos 1 0 l=0
 | [],_=>rfl
 | x::l,h=>by have hx:=h x (Nl ..);rw[pos,Nf (by omega),AO l fun y hy=>h y (Nu _ hy)]
theorem k7(n:Nat):∀(l:List Nat) (i:Nat),i<l.length->pos n (i+1) l=pos n i l+if l.getD i 0=n then pw n else 0
 | [],i,h=>by simp at h
 | x::l,0,_=>by
  have e1:pos n (0+1) (x::l)=(if x<n\/(x=n/\0<0+1)then pw x else 0)+pos n 0 l:=rfl;have e2:pos n 0 (x::l)=(if x<n\/(x=n/\0<0)then pw x else 0)+pos n 0 l:=rfl;rw[e1,e2,show(x::l).getD 0 0=x from rfl];by_cases hx:x=n;·subst hx;rw[Ng (show x<x\/(x=x/\0<0+1) by omega),Nf (show ¬(x<x\/(x=x/\0<0)) by omega),Ng rfl];omega
  ·rw[Nf hx];by_cases hl:x<n;·rw[Ng (show x<n\/(x=n/\0<0+1) by omega),Ng (show x<n\/(x=n/\0<0) by omega)];omega
   ·rw[Nf (show ¬(x<n\/(x=n/\0<0+1)) by omega),Nf (show ¬(x<n\/(x=n/\0<0)) by omega)];omega
 | x::l,i+1,h=>by
  have e1:pos n (i+1+1) (x::l)=(if x<n\/(x=n/\0<i+1+1)then pw x else 0)+pos n (i+1) l:=rfl;have e2:pos n (i+1) (x::l)=(if x<n\/(x=n/\0<i+1)then pw x else 0)+pos n i l:=rfl;rw[e1,e2,show(x::l).getD (i+1) 0=l.getD i 0 from rfl,k7 n l i (by simpa using h)];by_cases hx:x<n\/x=n;·rw[Ng (show x<n\/(x=n/\0<i+1+1) by omega),Ng (show x<n\/(x=n/\0<i+1) by omega)];omega
  ·rw[Nf (show ¬(x<n\/(x=n/\0<i+1+1)) by omega),Nf (show ¬(x<n\/(x=n/\0<i+1)) by omega)];omega
theorem mK(n:Nat):∀(l:List Nat) (i:Nat),l.length<=i->pos n i l=pos (n+1) 0 l
 | [],_,_=>rfl
 | x::l,i,h=>by
  have h':l.length+1<=i:=by simpa using h
  rw[pos,pos,mK n l (i-1) (by omega),show(0-1:Nat)=0 from rfl];by_cases hx:x<n\/x=n;·rw[Ng (show x<n\/(x=n/\0<i) by omega),Ng (show x<n+1\/(x=n+1/\0<0) by omega)]
  ·rw[Nf (show ¬(x<n\/(x=n/\0<i)) by omega),Nf (show ¬(x<n+1\/(x=n+1/\0<0)) by omega)]
theorem pp(n:Nat)(hn:n<=20):∀(l:List Nat) (i:Nat),pw n∣pos n i l
 | [],_=>⟨0,rfl⟩
 | x::l,i=>by
  rw[pos];refine Nat.dvd_add ?_ (pp n hn l _);split;·exact MI (by omega) hn
  ·exact⟨0,rfl⟩
theorem ni(n:Nat)(l:List Nat){i j:Nat}(h:i<=j):pos n i l<=pos n j l:=by
 induction h with
 | refl=>exact Nm _
 | step h ih=>
  rename_i m;refine NH ih ?_;by_cases hm:m<l.length;·rw[k7 n l m hm];omega
  ·rw[mK n l m (by omega),mK n l (m+1) (by omega)];exact Nm _
theorem qz(l:List Nat){n m:Nat}(h:n<m)(i:Nat):pos n i l<=pos m 0 l:=by
 induction h with
 | refl=>rw[<- mK n l (max i l.length) (by omega)];exact ni n l (by omega)
 | step h ih=>rename_i k;refine NH ih ?_;rw[<- mK k l l.length (by omega)];exact ni k l (by omega)
theorem si(n:Nat):∀(l:List Nat),(∀ x∈l,x<n)->pos n 0 l=jP l
 | [],_=>rfl
 | x::l,h=>by rw[pos,Ng (Or.inl (h x (Nl ..))),show(0-1:Nat)=0 from rfl,si n l fun y hy=>h y (Nu _ hy)];simp[jP]
theorem J5(l:List Nat)(hl:∀x∈l,x<=20){n:Nat}(hn:n<=20)(i:Nat):pos n i l<=jP l:=by rw[<- si 21 l fun x hx=>by have:=hl x hx;omega];exact qz l (by omega) i
def lie(l:List Nat)(i:Nat):Nat:=pos (l.getD i 0) i l
def dE(l:List Nat)(i:Nat):Nat:=lie l i/pw (l.getD i 0)
structure eW (l:List Nat):Prop where
 low:∀x∈l,1<=x
 high:∀x∈l,x<=20
 sum:jP l<=1048576
theorem Em{l:List Nat}{i:Nat}(h:i<l.length):l.getD i 0∈l:=by rw[Nb,Nd h];exact NL h
theorem eW.one{l:List Nat}(h:eW l){i:Nat}(hi:i<l.length):1<=l.getD i 0/\l.getD i 0<=20:=⟨h.low _ (Em hi),h.high _ (Em hi)⟩
theorem mn{l:List Nat}(h:eW l){i:Nat}(hi:i<l.length):dE l i*pw (l.getD i 0)=lie l i:=
 Nat.div_mul_cancel (pp _ (h.one hi).2 l i)
theorem Ar{l:List Nat}{i:Nat}(hi:i<l.length):pos (l.getD i 0) (i+1) l=lie l i+pw (l.getD i 0):=by rw[k7 _ l i hi,Ng rfl];rfl
theorem Gr{l:List Nat}{i j:Nat}(hi:i<l.length)(h:l.getD i 0<l.getD j 0\/(l.getD i 0=l.getD j 0/\i<j)):lie l i+pw (l.getD i 0)<=lie l j:=by
 rw[<- Ar hi];rcases h with h|⟨h,h0⟩;·exact NH (qz l h (i+1)) (ni _ l (by omega))
 ·unfold lie;rw[<- h];exact ni _ l (by omega)
theorem ya{l:List Nat}(h:eW l){i:Nat}(hi:i<l.length):lie l i+pw (l.getD i 0)<=jP l:=by rw[<- Ar hi];exact J5 l h.high (h.one hi).2 _
theorem oG{l:List Nat}(h:eW l){i:Nat}(hi:i<l.length):dE l i<2^l.getD i 0:=by have h1:=ya h hi;have h2:=h.sum;have h3:=mn h hi;have h4:=AQ (h.one hi).2;have h5:=gz (l.getD i 0);refine Qo (a:=pw (l.getD i 0)) ?_;omega
theorem zw{l:List Nat}(h:eW l){i n:Nat}(hi:i<l.length)(hn:n<=l.getD i 0):dE l i/2^(l.getD i 0-n)=lie l i/pw n:=by rw[dE,PG,<-jC hn (h.one hi).2]
theorem uB:∀(l:List Nat),pos 0 0 l=0
 | []=>rfl
 | x::l=>by rw[pos,Nf (show ¬(x<0\/(x=0/\0<0)) by omega),show(0-1:Nat)=0 from rfl,uB l]
def xt(l:List Nat)(p i:Nat):Prop:=i<l.length/\lie l i<=p/\p<lie l i+pw (l.getD i 0)
theorem As(l:List Nat)(m p:Nat)(h0:p<pos m 0 l->∃i,xt l p i):∀k,k<=l.length->p<pos m k l->∃i,xt l p i
 | 0,_,h=>h0 h
 | k+1,hk,h=>by
  by_cases hp:p<pos m k l;·exact As l m p h0 k (by omega) hp
  ·rw[k7 m l k (by omega)]at h;by_cases he:l.getD k 0=m
   ·rw[Ng he]at h;refine⟨k,by omega,?_,?_⟩;·rw[lie,he];omega
    ·rw[lie,he];exact h
   ·rw[Nf he]at h;omega
theorem uc(l:List Nat)(p:Nat):∀m,p<pos m 0 l->∃i,xt l p i
 | 0,h=>by rw[uB]at h;omega
 | m+1,h=>As l m p (uc l p m) l.length (ah _) (by rw[mK m l _ (ah _)];exact h)
theorem Gt{l:List Nat}(h:eW l){p:Nat}(hp:p<jP l):∃i,xt l p i:=by refine uc l p 21 ?_;rw[si 21 l fun x hx=>by have:=h.high x hx;omega];exact hp
theorem JC{l:List Nat}{p i j:Nat}(hi:xt l p i)(hj:xt l p j):i=j:=by
 obtain⟨a1,a2,a3⟩:=hi;obtain⟨b1,b2,b3⟩:=hj;have key:∀{i j:Nat},i<l.length->j<l.length->(l.getD i 0<l.getD j 0\/(l.getD i 0=l.getD j 0/\i<j))->lie l j<=p->p<lie l i+pw (l.getD i 0)->False:=by intro i j hi _ ho h1 h2;have:=Gr hi ho;omega
 by_cases he:i=j;·exact he
 ·exfalso;by_cases h1:l.getD i 0<l.getD j 0\/(l.getD i 0=l.getD j 0/\i<j);·exact key a1 b1 h1 b2 a3
  ·exact key b1 a1 (by omega) a2 b3
def Is(l:List Nat)(n v i:Nat):Prop:=i<l.length/\l.getD i 0=n/\dE l i=v
def kH(l:List Nat)(n v i:Nat):Prop:=i<l.length/\n<=l.getD i 0/\dE l i/2^(l.getD i 0-n)=v
theorem Is.begin{l:List Nat}{n v i:Nat}(h:Is l n v i):kH l n v i:=by obtain⟨h1,h2,h3⟩:=h;refine⟨h1,by omega,?_⟩;rw[h2,Ow,Q6,RN,h3]
theorem kH.is{l:List Nat}{n v i:Nat}(h:kH l n v i)(hn:l.getD i 0=n):Is l n v i:=by obtain⟨h1,h2,h3⟩:=h;refine⟨h1,hn,?_⟩;rw[hn,Ow,Q6,RN]at h3;exact h3
theorem kN{l:List Nat}(h:eW l){n v i:Nat}(hb:kH l n v i):v*pw n<=lie l i/\lie l i+pw (l.getD i 0)<=(v+1)*pw n:=by
 obtain⟨h1,h2,h3⟩:=hb;have h0:=(h.one h1).2;rw[zw h h1 h2]at h3;have hd:=Nat.div_add_mod (lie l i) (pw n);have hm:=PV (lie l i) (gz n);rw[h3]at hd;obtain⟨q,hq⟩:=pp (l.getD i 0) h0 l i;have h4:lie l i=pw (l.getD i 0)*q:=hq;have hs:=jC h2 h0;refine⟨by rw[Oq];omega,?_⟩;have h5:pw (l.getD i 0)*q<pw (l.getD i 0)*((v+1)*2^(l.getD i 0-n)):=by rw[<- O8,Oq (pw _) (v+1),O8,<-hs,<-h4,P3,Rm,Oq v];omega
 have h6:=Nat.lt_of_mul_lt_mul_left h5
 rw[h4,show pw (l.getD i 0)*q+pw (l.getD i 0)=pw (l.getD i 0)*(q+1) by rw[Nat.mul_add,Of],hs,Oq (v+1),O8,
  Oq (2^_) (v+1)]
 exact Q9 _ h6
theorem xC{l:List Nat}(h:eW l){n v i:Nat}(hi:i<l.length)(hn:n<=l.getD i 0)(h1:v*pw n<=lie l i)(h2:lie l i<(v+1)*pw n):kH l n v i:=by refine⟨hi,hn,?_⟩;rw[zw h hi hn];refine Nat.div_eq_of_lt_le h1 h2
theorem Am{l:List Nat}(h:eW l){n v i m j:Nat}(hi:Is l n v i)(hm:n<=m){u:Nat}(hu:u/2^(m-n)=v)(h0:m<=20)(hj:kH l m u j):i=j:=by
 have b:=kN h hj;have hp:=gz (l.getD j 0);have hs:=jC hm h0;have hd:=Nat.div_add_mod u (2^(m-n));rw[hu]at hd;have e1:v*pw n<=u*pw m:=by rw[hs,Oq (pw m),<-O8];refine P6 _ ?_;rw[Oq];omega
 have e2:(u+1)*pw m<=(v+1)*pw n:=by rw[hs,Oq (pw m),<-O8];refine P6 _ ?_;rw[P3,Rm,Oq v];omega
 refine JC (l:=l) (p:=lie l j) ⟨hi.1,?_,?_⟩ ⟨hj.1,Nm _,by omega⟩;·have:=mn h hi.1;rw[hi.2.1,hi.2.2]at this;omega
 ·have:=mn h hi.1;rw[hi.2.1,hi.2.2]at this;rw[hi.2.1,<-this,<-Nat.succ_mul];have e3:lie l j<(u+1)*pw m:=(by omega);exact OM e3 e2
theorem BO{l:List Nat}(h:eW l){n v:Nat}(hn:n<=20)(h0:∀k,k<n->∀i,¬Is l k (v/2^(n-k)) i):(∃ i,kH l n v i)↔v*pw n<jP l:=by
 constructor;·rintro⟨i,hi⟩;have a:=kN h hi;have b:=ya h hi.1;have:=gz (l.getD i 0);omega
 ·intro hp;obtain⟨i,hi,h1,h2⟩:=Gt h hp;refine⟨i,?_⟩;have h6:=(h.one hi).2;by_cases hk:l.getD i 0<n
  ·exfalso;refine h0 _ hk i ⟨hi,rfl,?_⟩;have hs:=jC (NV hk) hn;rw[<- mn h hi]at h1 h2;rw[hs]at h1 h2;symm;(have hc:∀c:Nat,c*(pw n*2^(n-l.getD i 0))=(c*2^(n-l.getD i 0))*pw n:=fun c=>by rw[Oq (pw n),O8]);refine Nat.div_eq_of_lt_le ?_ ?_;·rw[hc]at h1;exact Nat.le_of_mul_le_mul_right h1 (gz n)
   ·have h3:v*pw n<(dE l i+1)*(pw n*2^(n-l.getD i 0)):=(by rw[P3,Rm];exact h2);rw[hc]at h3;exact Qo h3
  ·have hk:n<=l.getD i 0:=(by omega);have hs:=jC hk h6;have hl:=mn h hi;have he:lie l i=v*pw n:=(by have hv:v*pw n=(v*2^(l.getD i 0-n))*pw (l.getD i 0):=(by rw[hs,O8,Oq (2^_)]);rw[hv]at h1 h2 |-;rw[<- hl]at h1 h2 |-;have h3:=Nat.le_of_mul_le_mul_right h1 (gz _);have h4:v*2^(l.getD i 0-n)*pw (l.getD i 0)<(dE l i+1)*pw (l.getD i 0):=(by rw[P3,Rm];exact h2);have h5:=Qo h4;rw[show dE l i=v*2^(l.getD i 0-n) by omega]);refine xC h hi hk (by omega) ?_;rw[he,P3,Rm];have:=gz n;omega
theorem sy(bs:List Nat)(hb:am bs){k n:Nat}(hk:k<=n)(hn:n<=bs.length):val (bs.take n)/2^(n-k)=val (bs.take k):=by have h1:bs.take n=bs.take k++(bs.take n).drop k:=(by have:=OF k (bs.take n);rw[Rs,Oh hk]at this;exact this.symm);have h2:((bs.take n).drop k).length=n-k:=(by rw[Nq,Nz];omega);have h3:=fu _ ((hb.take n).drop k);rw[h2]at h3;rw[h1,vd,h2,Oq,Nat.mul_add_div (OT _),RD h3,Og]
def lA(l:List Nat)(n v:Nat):Option Nat:=(List.range l.length).find? fun i=>l.getD i 0==n&&dE l i==v
theorem qk{l:List Nat}{n v:Nat}(h:lA l n v=none):∀i,¬Is l n v i:=by rintro i ⟨h1,h2,h3⟩;have:=List.find?_eq_none.1 h i (List.mem_range.2 h1);rw[h2,h3]at this;simp at this
theorem iX{l:List Nat}{n v i:Nat}(h:lA l n v=some i):Is l n v i:=by have h1:=List.find?_some h;have h2:=List.mem_of_find?_eq_some h;simp only[Bool.and_eq_true,O0]at h1;exact⟨List.mem_range.1 h2,h1.1,h1.2⟩
theorem MC{l:List Nat}(h:eW l){n v i j:Nat}(hi:Is l n v i)(hj:Is l n v j):i=j:=by refine Am h hi (Nm n) (u:=v) (by rw[Ow,Q6,RN]) ?_ hj.begin;have:=(h.one hi.1).2;rw[hi.2.1]at this;exact this
theorem qn{l:List Nat}(h:eW l){n v i:Nat}(hi:Is l n v i):lA l n v=some i:=by
 cases he:lA l n v with
 | none=>exact absurd hi (qk he i)
 | some j=>rw[MC h hi (iX he)]
inductive Nx where
 | hit (i:Nat)
 | short
 | code
def fk(l bs:List Nat):Nat->Nat->Nx
 | 0,_=>.code
 | k+1,n=>if bs.length<n then .short else match lA l n (val (bs.take n))with
   | some i=>.hit i
   | none=>if val (bs.take n)*pw n<jP l then fk l bs k (n+1)else .code
def fm(l bs:List Nat):Nx:=fk l bs 20 1
def sz(l bs:List Nat)(n:Nat):Prop:=∀k,1<=k->k<n->∀i,¬Is l k (val (bs.take k)) i
theorem sz.up{l bs:List Nat}{n:Nat}(h:sz l bs n)(h1:lA l n (val (bs.take n))=none):sz l bs (n+1):=by
 intro k hk h0 i;by_cases he:k=n;·subst he;exact qk h1 i
 ·exact h k hk (by omega) i
theorem Gy{l:List Nat}(h:eW l)(v i:Nat):¬Is l 0 v i:=by rintro⟨h1,h2,_⟩;have:=(h.one h1).1;omega
theorem ml{l bs:List Nat}(h:eW l)(hb:am bs){n:Nat}(hn:n<=bs.length)(h1:n<=20)(hc:sz l bs n):
 (∃ i,kH l n (val (bs.take n)) i)↔val (bs.take n)*pw n<jP l:=by
 refine BO h h1 fun k hk i=> ?_;rw[sy bs hb (NV hk) hn];by_cases h0:k=0;·subst h0;exact Gy h _ i
 ·exact hc k (by omega) hk i
theorem wM{l bs:List Nat}(h:eW l)(hb:am bs){i:Nat}(hi:i<l.length)(hl:l.getD i 0<=bs.length)(hv:val (bs.take (l.getD i 0))=dE l i):
 ∀k n,n<=l.getD i 0->l.getD i 0<n+k->fk l bs k n=.hit i
 | 0,n,h1,h2=>by omega
 | k+1,n,h1,h2=>by
  have h0:Is l (l.getD i 0) (val (bs.take (l.getD i 0))) i:=⟨hi,rfl,hv.symm⟩;rw[fk,Nf (by omega)];by_cases he:n=l.getD i 0;·subst he;rw[qn h h0]
  ·have h5:n<l.getD i 0:=(by omega);have h3:kH l n (val (bs.take n)) i:=by refine⟨hi,h1,?_⟩;rw[<- hv,sy bs hb h1 hl]
   cases hj:lA l n (val (bs.take n))with
   | some j=>exfalso;have h4:=Am h (iX hj) h1 (sy bs hb h1 hl) (h.one hi).2 h0.begin;have:=(iX hj).2.1;rw[h4]at this;omega
   | none=>have a:=kN h h3;have b:=ya h hi;have:=gz (l.getD i 0);show(if _<_ then _ else _)=_;rw[Ng (by omega)];exact wM h hb hi hl hv k (n+1) (by omega) (by omega)
theorem JP{l bs:List Nat}(h:eW l)(hb:am bs){i:Nat}(hi:i<l.length)(hl:l.getD i 0<=bs.length)(hv:val (bs.take (l.getD i 0))=dE l i):
 fm l bs=.hit i:=wM h hb hi hl hv 20 1 (h.one hi).1 (by have:=(h.one hi).2;omega)
def bC(l:List Nat)(i:Nat):List Nat:=ag (dE l i) (l.getD i 0)
theorem Gx{l:List Nat}(h:eW l){i:Nat}(hi:i<l.length)(rest:List Nat)(hr:am rest):fm l (bC l i++rest)=.hit i:=by have h0:(bC l i).length=l.getD i 0:=af _ _;have hb:am (bC l i++rest):=am.append (aB _ _) hr;have ht:(bC l i++rest).take (l.getD i 0)=bC l i:=RQ h0;refine JP (bs:=bC l i++rest) h hb hi (by rw[Nc,h0];omega) ?_;rw[ht,bC,dm,NJ (oG h hi)]
theorem o8{l bs:List Nat}{i:Nat}:∀k n,fk l bs k n=.hit i->l.getD i 0<=bs.length/\Is l (l.getD i 0) (val (bs.take (l.getD i 0))) i
 | 0,n,h=>by simp[fk]at h
 | k+1,n,h=>by
  rw[fk]at h;by_cases hn:bs.length<n;·rw[Ng hn]at h;cases h
  ·rw[Nf hn]at h
   cases hj:lA l n (val (bs.take n))with
   | some j=>rw[hj]at h;have h0:j=i:=(by injection h);subst h0;have h2:=iX hj;have h3:=h2.2.1;subst h3;exact⟨by omega,h2⟩
   | none=>
    rw[hj]at h;by_cases hs:val (bs.take n)*pw n<jP l;·have h':fk l bs k (n+1)=.hit i:=(by rw[<- h];exact(Ng hs).symm);exact o8 k (n+1) h'
    ·have h':Nx.code=.hit i:=(by rw[<- h];exact(Nf hs).symm);cases h'
def nl(L:List Int):List Nat:=L.map Int.toNat
theorem bL(L:List Int):(nl L).length=L.length:=NC _
theorem qt(L:List Int)(i:Nat):(nl L).getD i 0=(L.getD i 0).toNat:=by unfold nl;rw[Nb,Nb,Np];cases L[i]? <;>rfl
theorem ML(L:List Int):jP (nl L)=bB L:=by unfold jP nl bB pw;rw[Ov];rfl
theorem fO{L:List Int}(h:a6 L):eW (nl L):=by
 obtain⟨_,_,h3,h4⟩:=h;refine⟨fun x hx=> ?_,fun x hx=> ?_,by rw[ML];exact h4⟩;·obtain⟨y,hy,rfl⟩:=List.mem_map.1 hx;have:=h3 y hy;omega
 ·obtain⟨y,hy,rfl⟩:=List.mem_map.1 hx;have:=h3 y hy;omega
theorem x5{α:Type}{p q:Prop} [Decidable p] [Decidable q](h:p↔q)(a b:α):(if p then a else b)=if q then a else b:=by
 by_cases hq:q;·rw[Ng hq,Ng (h.2 hq)]
 ·rw[Nf hq,Nf (fun k=>hq (h.1 k))]
def ny(l:List Nat)(n i j:Nat):List Nat:=if l.getD j 0<n\/(l.getD j 0=n/\j<i)then bC l j else []
theorem Hq{l:List Nat}{n i:Nat}(h:l.getD i 0≠n)(j:Nat):ny l n (i+1) j=ny l n i j:=by
 unfold ny;by_cases e:j=i;·subst e;have h1:¬(l.getD j 0=n/\j<j+1):=fun k=>h k.1;have h2:¬(l.getD j 0=n/\j<j):=fun k=>h k.1;simp only[h1,h2,or_false]
 ·exact x5 (by omega) _ _
theorem Ky{l:List Nat}{n i:Nat}(h:l.getD i 0=n)(j:Nat):ny l n (i+1) j=if j=i then bC l i else ny l n i j:=by
 unfold ny;by_cases e:j=i;·subst e;rw[Ng rfl,Ng (Or.inr ⟨h,by omega⟩)]
 ·rw[Nf e];exact x5 (by omega) _ _
theorem L0{l:List Nat}{n i j:Nat}(h:j<i):ny l n i j=ny l (n+1) 0 j:=by unfold ny;exact x5 (by omega) _ _
theorem Hp{l:List Nat}(h:eW l){j:Nat}(hj:j<l.length):ny l 1 0 j= []:=by unfold ny;have:=(h.one hj).1;rw[Nf (by omega)]
theorem Kx{l:List Nat}(h:eW l){j:Nat}(hj:j<l.length):ny l 21 0 j=bC l j:=by unfold ny;have:=(h.one hj).2;rw[Ng (by omega)]
def cd(l:List Nat)(n i:Nat):Nat:=pos n i l/pw n
theorem IG{l:List Nat}(h:eW l):cd l 1 0=0:=by unfold cd;rw[AO l h.low,Nat.zero_div]
theorem IF{l:List Nat}{n i:Nat}(hi:i<l.length)(h:l.getD i 0=n):cd l n (i+1)=cd l n i+1:=by unfold cd;rw[k7 n l i hi,Ng h,Nat.add_div_right _ (gz n)]
theorem Ed{l:List Nat}{n i:Nat}(hi:i<l.length)(h:l.getD i 0≠n):cd l n (i+1)=cd l n i:=by unfold cd;rw[k7 n l i hi,Nf h,Og]
theorem Ec{l:List Nat}{n i:Nat}(h:l.getD i 0=n):cd l n i=dE l i:=by unfold cd dE lie;rw[h]
theorem Mc{l:List Nat}{n i:Nat}(hi:l.length<=i)(hn:n<20):cd l (n+1) 0=2*cd l n i:=by unfold cd;rw[<- mK n l i hi];have h1:=jC (n:=n) (x:=n+1) (by omega) (by omega);rw[show n+1-n=1 by omega,Nat.pow_one]at h1;obtain⟨k,hk⟩:=pp n (by omega) l i;have hp:=gz n;have h0:=gz (n+1);rw[hk,Nat.mul_div_cancel_left k hp,h1,O8,Nat.mul_div_cancel_left _ h0]
theorem Mb{l:List Nat}(h:eW l){n:Nat}(hn:n<=20)(i:Nat):cd l n i<=1048576:=by unfold cd;have h1:=J5 l h.high hn i;have h2:=h.sum;exact NH (RP _ _) (by omega)
def mc(l:List Nat)(list:List Int):List Nat:=list.flatMap fun x=>bC l x.toNat
theorem GP(l:List Nat)(a:List Int)(x:Int):mc l (a++ [x])=mc l a++bC l x.toNat:=by unfold mc;rw[OO];simp
def mL(L list:List Int):List Nat×Nat:=if a6 L then(if ∀x∈list,0<=x/\x<(L.length:Int)then(mc (nl L) list,0)else([],60))else([],80)
def gj(l bs:List Nat)(en:Int):Nat->Nat->List Nat->List Nat×Nat×Nat
 | 0,at',out=>(out,at',0)
 | k+1,at',out=>match fm l (bs.drop at')with
   | .hit i=>if(i:Int)=en then(out++ [i],at'+l.getD i 0,0)else gj l bs en k (at'+l.getD i 0) (out++ [i])
   | .short=>([],0,10)
   | .code=>([],0,90)
def fV(L:List Int)(bs:List Nat)(at' n en:Int):List Nat×Nat×Nat:=if a6 L then(if at'<0\/(bs.length:Int)<at'\/n<0 then([],0,2)else gj (nl L) bs en n.toNat at'.toNat [])else([],0,80)
theorem qS(l:List Nat)(i:Nat):am (bC l i):=aB _ _
theorem cU(l:List Nat)(i:Nat):(bC l i).length=l.getD i 0:=af _ _
def DOk(L:List Int):Prop:=2<=L.length/\L.length<=258/\∀x∈L,1<=x/\x<=20
instance (L:List Int):Decidable (DOk L):=inferInstanceAs (Decidable (_/\_))
def ups:Nat->List Nat
 | 0=> []
 | k+1=>1::0::ups k
def iA:Nat->List Nat
 | 0=> []
 | k+1=>1::1::iA k
theorem BC:∀k,ups (k+1)=ups k++ [1,0]
 | 0=>rfl
 | k+1=>by show 1::0::ups (k+1)=1::0::ups k++ [1,0];rw[BC k];rfl
theorem tG:∀k,iA (k+1)=iA k++ [1,1]
 | 0=>rfl
 | k+1=>by show 1::1::iA (k+1)=1::1::iA k++ [1,1];rw[tG k];rfl
theorem jK:∀k,(ups k).length=2*k
 | 0=>rfl
 | k+1=>by show(ups k).length+1+1=_;rw[jK k];omega
theorem iV:∀k,(iA k).length=2*k
 | 0=>rfl
 | k+1=>by show(iA k).length+1+1=_;rw[iV k];omega
theorem Ea:∀k,am (ups k)
 | 0=>fun b hb=>by cases hb
 | k+1=>fun b hb=>by
  rcases List.mem_cons.1 hb with rfl|hb;·omega
  ·rcases List.mem_cons.1 hb with rfl|hb;·omega
   ·exact Ea k b hb
theorem vO:∀k,am (iA k)
 | 0=>fun b hb=>by cases hb
 | k+1=>fun b hb=>by
  rcases List.mem_cons.1 hb with rfl|hb;·omega
  ·rcases List.mem_cons.1 hb with rfl|hb;·omega
   ·exact vO k b hb
def gE(a x:Nat):List Nat:=ups (x-a)++iA (a-x)++ [0]
theorem lJ(a x:Nat):(gE a x).length=2*((x-a)+(a-x))+1:=by unfold gE;rw[Nc,Nc,jK,iV];show _+1=_;omega
theorem Fg(a x:Nat):am (gE a x):=by refine((Ea _).append (vO _)).append ?_;intro b hb;rw[List.mem_singleton.1 hb];omega
def bP:Nat->List Nat->List Nat
 | _, []=> []
 | a,x::l=>gE a x++bP x l
theorem sO:∀(l:List Nat) (a:Nat),am (bP a l)
 | [],_=>fun b hb=>by cases hb
 | x::l,a=>(Fg a x).append (sO l x)
def nL(l:List Nat)(i:Nat):Nat:=l.getD (i-1) 0
theorem rK:∀(l:List Nat) (a x:Nat),bP a (l++ [x])=bP a l++gE (match l.getLast? with|some y=>y|none=>a) x
 | [],a,x=>by simp[bP]
 | y::l,a,x=>by
  show gE a y++bP y (l++ [x])=(gE a y++bP y l)++_;rw[rK l y x,Ni];congr 2
  cases l with
  | nil=>rfl
  | cons z l=>rfl
theorem Bj{l:List Nat}{i:Nat}(hi:i<l.length):bP (l.getD 0 0) (l.take (i+1))=bP (l.getD 0 0) (l.take i)++gE (nL l i) (l.getD i 0):=by
 rw[NI hi,rK];congr 2
 ·cases i with
  | zero=>rfl
  | succ k=>rw[List.getLast?_take];unfold nL;have e:l.getD k 0=l[k]:=(by rw[Nb,Nd (by omega)];rfl);rw[Nf (by omega),Sb,Nd (by omega),e];rfl
 ·rw[Nb,Nd hi];rfl
def bc(l:List Nat):List Nat:=ag (l.getD 0 0) 5++bP (l.getD 0 0) l
theorem vQ(l:List Nat):am (bc l):=(aB _ _).append (sO _ _)
def j8(L:List Int):List Nat×Nat:=if DOk L then(bc (nl L),0)else([],80)
def wY:Nat->List Nat->Nat
 | _, []=>0
 | a,x::l=>(x-a)+(a-x)+wY x l
theorem kB:∀(l:List Nat) (a:Nat),(bP a l).length=l.length+2*wY a l
 | [],_=>rfl
 | x::l,a=>by show(gE a x++bP x l).length=(l.length+1)+2*((x-a)+(a-x)+wY x l);rw[Nc,lJ,kB l x];omega
theorem yx(l:List Nat):(bc l).length=5+l.length+2*wY (l.getD 0 0) l:=by unfold bc;rw[Nc,af,kB];omega
theorem uN:∀(l:List Nat) (a:Nat),a<=20->(∀ x∈l,x<=20)->wY a l<=20*l.length
 | [],_,_,_=>Nm _
 | x::l,a,ha,h=>by have hx:=h x (Nl ..);have:=uN l x hx fun y hy=>h y (Nu _ hy);show(x-a)+(a-x)+wY x l<=20*(l.length+1);omega
def bu:List Nat->Nat->Nat->Nat->List Nat->List Nat×Nat×Nat
 | _,_,0,p,out=>(out,p,0)
 | [],now,_+1,_,_=>if now<1\/20<now then([],0,80)else([],0,10)
 | [b],now,n+1,p,out=>if now<1\/20<now then([],0,80)else if b=0 then(if n=0 then(out++ [now],p+1,0)else([],0,10))else([],0,10)
 | b::d::bs,now,n+1,p,out=>if now<1\/20<now then([],0,80)else if b=0 then bu (d::bs) now n (p+1) (out++ [now])else bu bs (if d=0 then now+1 else now-1) (n+1) (p+2) out
theorem eG(bs:List Nat)(now p:Nat)(out:List Nat):bu bs now 0 p out=(out,p,0):=by
 cases bs with
 | nil=>rfl
 | cons b bs=>cases bs <;>rfl
theorem f6(bs:List Nat)(now n p:Nat)(out:List Nat)(h:now<1\/20<now):bu bs now (n+1) p out=([],0,80):=by
 cases bs with
 | nil=>exact Ng h
 | cons b bs=>
  cases bs with
  | nil=>exact Ng h
  | cons d bs=>rw[bu,Ng h]
theorem ik(now n p:Nat)(out:List Nat)(h:¬(now<1\/20<now)):bu [] now (n+1) p out=([],0,10):=Nf h
theorem ft(bs:List Nat)(now n p:Nat)(out:List Nat)(h:¬(now<1\/20<now)):bu (0::bs) now (n+1) p out=bu bs now n (p+1) (out++ [now]):=by
 cases bs with
 | nil=>
  rw[bu,Nf h,Ng rfl]
  cases n with
  | zero=>rw[Ng rfl,eG]
  | succ n=>rw[Nf (by omega),ik _ _ _ _ h]
 | cons d bs=>rw[bu,Nf h,Ng rfl]
theorem ji(b now n p:Nat)(out:List Nat)(h:¬(now<1\/20<now))(hb:b≠0):bu [b] now (n+1) p out=([],0,10):=by rw[bu,Nf h,Nf hb]
theorem eH(b d:Nat)(bs:List Nat)(now n p:Nat)(out:List Nat)(h:¬(now<1\/20<now))(hb:b≠0):bu (b::d::bs) now (n+1) p out=bu bs (if d=0 then now+1 else now-1) (n+1) (p+2) out:=by rw[bu,Nf h,Nf hb]
def ao(bits:List Nat)(at' n:Int):List Nat×Nat×Nat:=
 if at'<0\/(bits.length:Int)<at'\/n<2\/258<n then([],0,2)
 else if bits.length<at'.toNat+5 then([],0,10)
 else bu (bits.drop (at'.toNat+5)) (val ((bits.drop at'.toNat).take 5)) n.toNat (at'.toNat+5) []
theorem Bw:∀(k:Nat) (rest:List Nat) (now n p:Nat) (out:List Nat),1<=now->now+k<=20->bu (ups k++rest) now (n+1) p out=bu rest (now+k) (n+1) (p+2*k) out
 | 0,rest,now,n,p,out,_,_=>rfl
 | k+1,rest,now,n,p,out,h1,h2=>by show bu (1::0::(ups k++rest)) now (n+1) p out=_;rw[eH _ _ _ _ _ _ _ (by omega) (by omega),Ng rfl,Bw k rest (now+1) n (p+2) out (by omega) (by omega)];rw[show now+1+k=now+(k+1) by omega,show p+2+2*k=p+2*(k+1) by omega]
theorem uW:∀(k:Nat) (rest:List Nat) (now n p:Nat) (out:List Nat),k+1<=now->now<=20->bu (iA k++rest) now (n+1) p out=bu rest (now-k) (n+1) (p+2*k) out
 | 0,rest,now,n,p,out,_,_=>rfl
 | k+1,rest,now,n,p,out,h1,h2=>by show bu (1::1::(iA k++rest)) now (n+1) p out=_;rw[eH _ _ _ _ _ _ _ (by omega) (by omega),Nf (by omega),uW k rest (now-1) n (p+2) out (by omega) (by omega)];rw[show now-1-k=now-(k+1) by omega,show p+2+2*k=p+2*(k+1) by omega]
theorem KG(a x:Nat)(rest:List Nat)(n p:Nat)(out:List Nat)(ha:1<=a/\a<=20)(hx:1<=x/\x<=20):bu (gE a x++rest) a (n+1) p out=bu rest x n (p+(gE a x).length) (out++ [x]):=by have e:gE a x++rest=ups (x-a)++(iA (a-x)++(0::rest)):=(by unfold gE;simp);have hl:=lJ a x;rw[e,Bw _ _ _ _ _ _ ha.1 (by omega),uW _ _ _ _ _ _ (by omega) (by omega),show a+(x-a)-(a-x)=x by omega,ft _ _ _ _ _ (by omega)];rw[show p+2*(x-a)+2*(a-x)+1=p+(gE a x).length by omega]
theorem uY:∀(l:List Nat) (a:Nat) (rest:List Nat) (p:Nat) (out:List Nat),(1<=a/\a<=20)->(∀ x∈l,1<=x/\x<=20)->bu (bP a l++rest) a l.length p out=(out++l,p+(bP a l).length,0)
 | [],a,rest,p,out,_,_=>by rw[N5,eG];simp[bP]
 | x::l,a,rest,p,out,ha,h=>by have hx:=h x (Nl ..);show bu (gE a x++bP x l++rest) a (l.length+1) p out=(out++x::l,p+(gE a x++bP x l).length,0);rw[Ni,KG a x _ _ _ _ ha hx,uY l x rest _ _ hx fun y hy=>h y (Nu _ hy),Nc];simp[OL]
theorem z8{l:List Nat}(h0:0<l.length)(h:∀x∈l,1<=x/\x<=20):1<=l.getD 0 0/\l.getD 0 0<=20:=by refine h _ ?_;rw[Nb,Nd h0];exact NL h0
theorem Jh{x:Nat}(h:x<=20)(rest:List Nat):val ((ag x 5++rest).take 5)=x:=by rw[RQ (af 5 x),dm,NJ (by omega)]
theorem qL{l:List Nat}(h2:2<=l.length)(h0:l.length<=258)(h:∀x∈l,1<=x/\x<=20)(pre fZ rest:List Nat)(hm:∀bs n p,bu (fZ++bs) (l.getD 0 0) (n+1) p []=bu bs (l.getD 0 0) (n+1) (p+fZ.length) []):
 ao (pre++(ag (l.getD 0 0) 5++(fZ++(bP (l.getD 0 0) l++rest)))) (pre.length:Nat) (l.length:Nat)=(l,pre.length+(bc l).length+fZ.length,0):=by have hf:=z8 (by omega) h;have h1:(pre++(ag (l.getD 0 0) 5++(fZ++(bP (l.getD 0 0) l++rest)))).length=pre.length+5+fZ.length+(bP (l.getD 0 0) l).length+rest.length:=(by simp only[Nc,af];omega);unfold ao;rw[Nf (by omega),Nn,Nn,Nf (by omega),Pw,Jh hf.2];have hd:(pre++(ag (l.getD 0 0) 5++(fZ++(bP (l.getD 0 0) l++rest)))).drop (pre.length+5)=fZ++(bP (l.getD 0 0) l++rest):=(by rw[<- P7,Pw,Rh (af 5 _)]);rw[hd];obtain⟨n,hn⟩:∃n,l.length=n+1:=⟨l.length-1,by omega⟩;rw[hn,hm,<-hn,uY l _ rest _ _ hf h];have e:pre.length+5+fZ.length+(bP (l.getD 0 0) l).length=pre.length+(bc l).length+fZ.length:=(by rw[bc,Nc,af];omega);rw[e];rfl
open Go.RowKit
theorem CT:(prog.info? 57).map (fun i=>(i.zero,i.size,i.bytes))=some (some (.slice none 0 0),1,24):=by kernel_rfl
def sG(w:World)(g n:Nat)(C:Nat->List Nat):Prop:=∀j,j<n->∃A k,w.cell? ⟨g,j,none⟩=some (.slice A (C j).length k)/\aw w A (C j).length (C j)/\(C j).length<=k
theorem sG.below{w w':World}{g n:Nat}{C:Nat->List Nat}(h:sG w g n C)(hb:Below w.heap.size w w'):sG w' g n C:=by intro j hj;obtain⟨A,k,h1,h2,h3⟩:=h j hj;exact⟨A,k,(hb.cell (p:=⟨g,j,none⟩) (Nr w _ h1)).trans h1,bN h2 hb,h3⟩
def dp(w:World)(B g n:Nat)(C:Nat->List Nat):Prop:=∃F:Nat->Value,w.ownsRow B 57 1 (.slice (some ⟨g,0,none⟩) n n) n ((List.range n).map F)/\
 ∀j,j<n->∃A k,F j=.slice A (C j).length k/\(C j).length<=k/\w.ownsRow B 3 1 (F j) (C j).length ((C j).map iv)
theorem dp.same{w:World}{B g n:Nat}{C D:Nat->List Nat}(h:dp w B g n C)(hs:∀j,j<n->C j=D j):dp w B g n D:=by obtain⟨F,h1,h2⟩:=h;refine⟨F,h1,fun j hj=> ?_⟩;rw[<- hs j hj];exact h2 j hj
theorem dp.step{w w':World}{B B' g n:Nat}{C:Nat->List Nat}(h:dp w B g n C)(hs:al B' [] [] w w'):dp w' B g n C:=by obtain⟨F,h1,h2⟩:=h;refine⟨F,hs.row h1 (fun _ _=>ar) ar,fun j hj=> ?_⟩;obtain⟨A,k,a,b,c⟩:=h2 j hj;exact⟨A,k,a,b,hs.row c (fun _ _=>ar) ar⟩
theorem dp.read{w:World}{B g n:Nat}{C:Nat->List Nat}(h:dp w B g n C):sG w g n C:=by
 obtain⟨F,h1,h2⟩:=h;intro j hj;obtain⟨A,k,a,b,c⟩:=h2 j hj;refine⟨A,k,?_,?_,b⟩;·rw[OR h1 j (by omega),Np,NN hj,<-a];rfl
 ·rw[a]at c;exact aN c
theorem dp.frozen{w:World}{B g n:Nat}{C:Nat->List Nat}(h:dp w B g n C)(i:Nat):w.frozen? ⟨g,i,none⟩=false:=by obtain⟨F,h1,_⟩:=h;exact Rq h1 i
theorem dp.there{w:World}{B g n:Nat}{C:Nat->List Nat}(h:dp w B g n C)(i:Nat)(hi:i<n):∃v,w.cell? ⟨g,i,none⟩=some v:=by obtain⟨A,k,h1,_⟩:=h.read i hi;exact⟨_,h1⟩
theorem dp.set{w:World}{B g n:Nat}{C:Nat->List Nat}(h:dp w B g n C)(i:Nat){A:Option Addr}{k:Nat}{L:List Nat}(hL:w.ownsRow B 3 1 (.slice A L.length k) L.length (L.map iv))(hk:L.length<=k):
 dp (w.setCell ⟨g,i,none⟩ (.slice A L.length k)) B g n fun j=>if j=i then L else C j:=by
 obtain⟨F,h1,h2⟩:=h;have h3:=QY h1 i (.slice A L.length k);have h0:((List.range n).map F).set i (.slice A L.length k)=(List.range n).map fun j=>if j=i then(.slice A L.length k)else F j:=by
  apply Oa;intro j;rw[Ru];by_cases e:i=j
  ·subst e;by_cases hj:i<n;·simp[hj]
   ·simp[hj]
  ·have e':¬j=i:=fun k=>e k.symm;rw[Nf e,Np,Np];by_cases hj:j<n;·rw[NN hj];simp[e']
   ·rw[Ny (by rw[NK];omega)];rfl
 rw[h0]at h3;have keep:∀(v:Value) (m:Nat) (xs:List Value),w.ownsRow B 3 1 v m xs->(w.setCell ⟨g,i,none⟩ (.slice A L.length k)).ownsRow B 3 1 v m xs:=by intro v m xs hv;refine hv.kept h3.2 (.inr fun e=> ?_);obtain⟨c1,f1,e1⟩:=Lib.ownsRow_kind hv g e;obtain⟨c2,f2,e2⟩:=Lib.ownsRow_kind h1 g rfl;rw[e1]at e2;simp at e2
 refine⟨_,h3.1,fun j hj=> ?_⟩;by_cases e:j=i
 ·refine⟨A,k,?_,?_,?_⟩;·simp only[Ng e]
  ·simp only[Ng e];exact hk
  ·simp only[Ng e];exact keep _ _ _ hL
 ·obtain⟨A2,k2,a,b,c⟩:=h2 j hj;refine⟨A2,k2,?_,?_,?_⟩;·simp only[Nf e];exact a
  ·simp only[Nf e];exact b
  ·simp only[Nf e];exact keep _ _ _ c
theorem Kz(w:World)(B n:Nat)(hB:B<=w.heap.size)(hn:n<=1000):dp (w.alloc (.cells (madeCells #[.slice none 0 0] n) 57)) B w.heap.size n fun _=> []:=by refine⟨fun _=>.slice none 0 0,⟨by simp,.inr ⟨w.heap.size,n,_,rfl,hB,P4 w _,Nm _,by unfold maxLen;omega,by rw[Rr,Of],?_⟩⟩,fun j _=>⟨none,0,rfl,Nm _,Ns _ _ _ _⟩⟩;rw[Qy,Of,Nt (by simp),QL,NK]
theorem Hr(w:World)(A:Option Addr)(n c:Nat)(L:List Int)(hL:ZIn w A n L)(h9:a6 L):Calls prog 124 #[.slice A n c] w fun e w'=>∃g,e=.returned (.slice (some ⟨g,0,none⟩) n n)/\dp w' w.heap.size g n (bC (nl L))/\Below w.heap.size w w':=by
 obtain⟨i2,h2,hy⟩:=Option.map_eq_some_iff.1 CT;simp only[Pv]at hy;obtain⟨hP,hQ,hR⟩:=hy;have hA:=hL.1;have hX:n<=258:=by have:=h9.2.1;omega
 have hW:2<=n:=by have:=h9.1;omega
 obtain⟨b,off,rfl,hc⟩:=hL.2 (by omega);have hC:∀w1:World,(Instr.makeSlice 88 (.int .i64 n) (.int .i64 n)).run prog w1=.ok (.slice (some ⟨w1.heap.size,0,none⟩) n n) (w1.alloc (.cells (madeCells #[.slice none 0 0] n) 57)):=by intro w1;have h:=QZ (P:=prog) w1 88 57 i2 (.slice none 0 0) underlying88 h2 hP .i64 .i64 (n:Int) (n:Int) (by omega) (by omega) (by rw[hR];omega) (by omega);rw[hQ,Nn,Of]at h;exact h
 have hr:=hC w;have h7:=fO h9;have HF:=aa h7;obtain⟨l,hl⟩:∃l,l=nl L:=⟨_,rfl⟩;have hz:l.length=n:=by rw[hl,bL,hA]
 have hf:=aa hz;have h8:∀i,i<n->w.cell? ⟨b,off+i,none⟩=some (.int .i64 (l.getD i 0:Nat)):=by intro i hi;rw[hc i hi,hl,qt];have:0<=L.getD i 0:=(by rw[Nb,Nd (by omega)];have:=(h9.2.2.1 L[i] (NL ..)).1;show(0:Int)<=L[i];omega);rw[Qc this]
 have hm:=aa h8;have h4:=aa qB;have hv:dp (w.alloc (.cells (madeCells #[.slice none 0 0] n) 57)) w.heap.size w.heap.size n (ny l 1 0):=(Kz w w.heap.size n (ah _) (by omega)).same fun j hj=>(Hp (hl ▸ HF.out) (by omega)).symm;rw[<- hl]at HF |-;clear hC hc hL h9 hA hz h8 hl;have ht:=aa hv;clear hv h7;go_enter func124,ntmps124;go_wp2_with fail;clear hr;go_loopw [4,5] (fun cv nv wx=>∃q k:Nat,1<=q/\q<=21/\nv=.int .i64 q/\cv=.int .i64 k/\k<=1048576/\Hid (q<=20->2*k=cd l q 0)/\dp wx w.heap.size w.heap.size n (ny l q 0)/\Below w.heap.size w wx) (fun _ nv _=>22-(intOf nv).toNat)
 case atStart=>exact⟨1,0,Nm _,by omega,rfl,rfl,by omega,aa fun _=>(IG HF.out).symm,ht.out,(Nj _ _).alloc (ah _) _⟩
 case round=>
  obtain⟨q,k,hY,hZ,rfl,rfl,hk,h1,hT,hb⟩:=hrel;have HT:=aa hT;have HB:=aa hb;clear hT hb ht;by_cases e:q<=20
  ·have d0:decide ((q:Int)<=20)=true:=aX (by omega);have hM:=h1.out e;obtain⟨k2,hq⟩:∃k2,k2=k*2:=⟨_,rfl⟩;have hV:(k:Int)*2=(k2:Int):=(by omega);have HK:Hid (k2=cd l q 0):=aa (by omega);have hN:k2<=2097152:=(by omega);clear hM hq h1;go_wp2_with fail;(go_loopw [4,6] (fun cv iv wx=>∃i k:Nat,i<=n/\iv=.int .i64 i/\cv=.int .i64 k/\Hid (k=cd l q i)/\dp wx w.heap.size w.heap.size n (ny l q i)/\Below w.heap.size w wx) (fun _ iv _=>n-(intOf iv).toNat));case atStart=>exact⟨0,k2,Nh _,rfl,rfl,HK,HT.out,HB.out⟩
   case round=>
    rename World=>wi;obtain⟨i,k,hi,rfl,rfl,h1,hT,hb⟩:=hrel;have hF:=hb.size;have HT:=aa hT;have HB:=aa hb;have hO:k<=1048576:=(by rw[h1.out];exact Mb HF.out (by omega) i);clear hT hb;by_cases e1:i<n
    ·have hh:=hm.out i e1;have hB:=Nr w _ hh;have hK:=(HB.out.cell (p:=⟨b,off+i,none⟩) hB).trans hh;obtain⟨x,hx⟩:∃x,x=l.getD i 0:=⟨_,rfl⟩;rw[<- hx]at hh hK;have HX:=aa hx;clear hx hB hh;by_cases e2:x=q
     ·subst e2;have d2:((x:Int)==(x:Int))=true:=OK _;have hH:=aa (h4.out wi k x (by omega) (by omega));have h3:ag k x=bC l i:=(by unfold bC;rw[<- HX.out,h1.out,Ec HX.out.symm]);have h5:=aa h3;have he:cd l x (i+1)=k+1:=(by rw[IF (by rw[hf.out];exact e1) HX.out.symm,h1.out]);have hn:=aa he;clear h3 he;go_wp2_with fail;refine hH.out.mono ?_;rintro e w3 ⟨g2,cap2,rfl,ha,hp⟩;have h0:w3.ownsRow w.heap.size 3 1 (.slice (some ⟨g2,0,none⟩) (bC l i).length cap2) (bC l i).length ((bC l i).map iv):=(by have h:=World.ownsRow.mono ha hF;rw[h5.out]at h;rw[cU,<-HX.out];exact h);obtain⟨_,_,hE,h6,_,_⟩:=ak h0;simp only[Ou]at hE;obtain⟨rfl,_,rfl⟩:=hE;have hg:=HT.out.step (an hp);have ho:=hg.set i h0 h6;rw[cU,<-HX.out]at ho;have hu:=HB.out.trans (hp.mono hF);obtain⟨v0,H0⟩:=hg.there i e1;have hS:=hg.frozen i;have hI:=aa ho;have hG:=aa (hu.setCell (p:=⟨w.heap.size,i,none⟩) (ah _) (.slice (some ⟨g2,0,none⟩) x cap2));clear ha hp h0 h6 hg ho hu;go_wp2_with fail;go_roundw;case rel=>refine⟨i+1,k+1,by omega,by go_num,by go_num,aa hn.out.symm,hI.out.same fun j hj=> ?_,hG.out⟩;exact(Ky HX.out.symm j).symm
      case measure=>simp[intOf];omega
     ·have d2:((x:Int)==(q:Int))=false:=(by rw[NA];omega);have hD:l.getD i 0≠q:=(by rw[<- HX.out];exact e2);have hs:=aa hD;clear hD;go_wp2_with fail;go_roundw;case rel=>exact⟨i+1,k,by omega,by go_num,rfl,aa (by rw[Ed (by rw[hf.out];exact e1) hs.out];exact h1.out),HT.out.same fun j _=>(Hq hs.out j).symm,HB.out⟩
      case measure=>simp[intOf];omega
    ·obtain rfl:i=n:=(by omega);go_wp2_with fail;go_roundw;case rel=>exact⟨q+1,k,by omega,by omega,by go_num,rfl,hO,aa fun h=>by rw[h1.out,Mc (by rw[hf.out];exact Nm _) (by omega)],HT.out.same fun j hj=>L0 hj,HB.out⟩
     case measure=>simp[intOf];omega
  ·obtain rfl:q=21:=(by omega);have hw:=HT.out.same fun j hj=>Kx HF.out (by rw[hf.out];exact hj);have hJ:=aa hw;clear hw h1;go_wp2_with fail;go_ret;exact⟨_,rfl,hJ.out,HB.out⟩
def cw(w:World)(ans:List Nat×Nat)(e:Ending)(w':World):Prop:=∃v,e=.returned (.tuple #[v,.int .i64 ans.2])/\w'.ownsRow w.heap.size 3 1 v ans.1.length (ans.1.map iv)/\Below w.heap.size w w'
theorem sf{L:List Int}{j:Nat}(h:j<L.length):L.getD j 0∈L:=by rw[Nb,Nd h];exact NL h
theorem o6{L:List Nat}{j:Nat}(h:j<L.length):L.getD j 0∈L:=by rw[Nb,Nd h];exact NL h
theorem vA(L:List Int)(q:Nat)(h:q<L.length):L.take (q+1)=L.take q++ [L.getD q 0]:=by rw[NI h,Nb,Nd h];rfl
def aZ(w:World)(ans:List Nat×Nat)(e:Ending)(w':World):Prop:=e=.returned (.tuple #[.agg #[.string ⟨(aF ans.1).toArray⟩,.int .i64 ans.1.length],.int .i64 ans.2])/\Below w.heap.size w w'
theorem Ev{L:List Int}(h:DOk L):∀x∈nl L,1<=x/\x<=20:=by intro x hx;obtain⟨y,hy,rfl⟩:=List.mem_map.1 hx;have:=h.2.2 y hy;omega
theorem DG(L:List Int):(j8 L).1.length<=11000:=by
 unfold j8;split;·rename_i h;have hn:=Ev h;have h1:=yx (nl L);have h2:=z8 (l:=nl L) (by rw[bL];have:=h.1;omega) hn;have h3:=uN (nl L) ((nl L).getD 0 0) h2.2 fun x hx=>(hn x hx).2;rw[bL]at h1 h3;have:=h.2.1;show(bc (nl L)).length<=11000;omega
 ·exact Nh _
def aL(w:World)(ans:List Nat×Nat×Nat)(e:Ending)(w':World):Prop:=∃v,e=.returned (.tuple #[v,.int .i64 ans.2.1,.int .i64 ans.2.2])/\w'.ownsRow w.heap.size 3 1 v ans.1.length (ans.1.map iv)/\Below w.heap.size w w'
theorem mv{L:List Nat}{p:Nat}(h:p<L.length):L.drop p=L.getD p 0::L.drop (p+1):=by rw[NP h,Nb,Nd h];rfl
theorem CU{w:World}{b off m k a:Nat}{L:List Nat}(h:aw w (some ⟨b,off,none⟩) m L)(h0:a+k<=m)(n:Nat)(hn:n=k):aw w (some ⟨b,off+a,none⟩) n ((L.drop a).take k):=by subst hn;have:=h.cut (a:=a) (k:=n) h0;simp only[Oy,OX]at this;exact this
theorem qD(w:World)(A:Option Addr)(m c:Nat)(bits:List Nat)(a0 k:Nat)(hb:aw w A m bits)(H8:m<=c)(hm:m<=1000000)(hK:am bits)(ha:a0<=m)(H5:2<=k)(hk:k<=258):
 Calls prog 135 #[.slice A m c,.int .i64 a0,.int .i64 k] w (aL w (ao bits a0 k)):=by
 obtain⟨i3,h3,hZ,H0,H1⟩:=NY Tryz.info3;have hA:=hb.1;have HP:Hid (∀ (v:Value) (a:List Nat×Nat×Nat) (w':World),ao bits a0 k=a->w'.ownsRow w.heap.size 3 1 v a.1.length (a.1.map iv)->Below w.heap.size w w'->aL w (ao bits a0 k) (.returned (.tuple #[v,.int .i64 a.2.1,.int .i64 a.2.2])) w'):=aa fun v a w' h1 h2 h3=>⟨v,by rw[h1],by rw[h1];exact h2,h3⟩;have h8:ao bits a0 k=if m<a0+5 then([],0,10)else bu (bits.drop (a0+5)) (val ((bits.drop a0).take 5)) k (a0+5) []:=by rw[ao,Nf (by omega),Nn,Nn,hA]
 have d0:decide ((a0:Int)<0)=false:=aD (by omega);have d2:decide ((k:Int)<2)=false:=aD (by omega);have d3:decide ((258:Int)<(k:Int))=false:=aD (by omega);generalize aL w (ao bits a0 k)=PO at*;generalize ao bits a0 k=ans at*;have hI:=aa hb;have hn:=aa hA;have hH:=aa hK;have hz:=aa lD;clear hb hA hK;by_cases h5:m<a0+5;·rw[Ng h5]at h8;have d4:decide ((m:Int)-(a0:Int)<5)=true:=aX (by omega);have h9:=aa (HP.out (.slice none 0 0) _ w h8 (Ns _ _ _ _) (Nj _ _));clear h8;go_enter func135,ntmps135;go_wp2_with fail;first|exact h9.out|(go_ret3;exact h9.out)
 ·rw[Nf h5]at h8;have d4:decide ((m:Int)-(a0:Int)<5)=false:=aD (by omega);obtain⟨b,off,rfl,hf⟩:=hI.out.2 (by omega);obtain⟨p5,hD⟩:∃p5,p5=a0+5:=⟨_,rfl⟩;have hW:(a0:Int)+5=(p5:Int):=by omega
  have H4:¬c=a0:=by omega
  have H3:(a0:Int)<=(p5:Int):=by omega
  have HA:(p5:Int)<=(c:Int):=by omega
  have hE:p5<=m:=by omega
  rw[<- hD]at h8;have hY:val ((bits.drop a0).take 5)<32:=by have h:=fu _ ((hH.out.drop a0).take 5);have h6:((bits.drop a0).take 5).length=5:=(by rw[Nz,Nq,hn.out];omega);rw[h6]at h;exact h
  have hJ:=aa fun(w1:World) (h:w1=w) (q c':Nat) (hq:q=5)=>hz.out w1 (some ⟨b,off+a0,none⟩) q c' ((bits.drop a0).take 5) (h ▸ CU hI.out (by omega) q hq) ((hH.out.drop a0).take 5) (by omega);obtain⟨now0,hh⟩:∃now0,now0=val ((bits.drop a0).take 5):=⟨_,rfl⟩;rw[<- hh]at hJ h8 hY;have hc:=aa h8;have he:=aa hf;have hP:=aa hD;clear h8 hf hh h5 hD;go_enter func135,ntmps135;go_wp2_with fail;refine(hJ.out _ rfl _ _ (by have:=hP.out;omega)).mono ?_;rintro e w ⟨rfl,rfl⟩;go_wp2_with fail;go_loopw [1,9,10] (fun av nv out wx=>∃(p now:Nat) (o:List Nat),av=.int .i64 p/\p<=m/\nv=.int .i64 now/\now<=40/\o.length<=k/\Hid (ans=bu (bits.drop p) now (k-o.length) p o)/\wx.ownsRow w.heap.size 3 1 out o.length (o.map iv)/\Below w.heap.size w wx) (fun av _ _ _=>m-(intOf av).toNat)
  case atStart=>exact⟨p5,now0, [],rfl,hE,rfl,by omega,Nh _,hc,Ns _ _ _ _,Nj _ _⟩
  case round=>
   obtain⟨p,now,o,rfl,hp,rfl,hh,hC,h4,h7,hb⟩:=hrel;have H2:=hb.size;obtain⟨A0,c5,rfl,hR,hQ,_⟩:=ak h7;unfold maxLen at hQ;have HB:=aa hb;have HO:=aa h7;obtain⟨N,hN⟩:∃N,N=o.length:=⟨_,rfl⟩;have HN:=aa hN;have h0:=h4.out;rw[<- hN]at hC hR h0 |-;by_cases e:N<k
   ·rw[show k-N=(k-N-1)+1 by omega]at h0;by_cases ebad:now<1\/20<now
    ·rw[f6 _ _ _ _ _ ebad]at h0;have h9:=aa (HP.out (.slice none 0 0) _ wr h0 (Ns _ _ _ _) HB.out);clear h0 h4 h7 hb hN HP hc;by_cases e1:now<1;·have d6:decide ((now:Int)<1)=true:=aX (by omega);clear ebad;go_wp2_with fail;first|exact h9.out|(go_ret3;exact h9.out)
     ·have d6:decide ((now:Int)<1)=false:=aD (by omega);have d7:decide ((20:Int)<(now:Int))=true:=aX (by omega);clear ebad;go_wp2_with fail;first|exact h9.out|(go_ret3;exact h9.out)
    ·have d6:decide ((now:Int)<1)=false:=aD (by omega);have d7:decide ((20:Int)<(now:Int))=false:=aD (by omega);by_cases epm:p=m;·have d8:((p:Int)==(m:Int))=true:=(by rw[epm];exact OK _);rw[epm,NW (Ox hn.out),ik _ _ _ _ ebad]at h0;have h9:=aa (HP.out (.slice none 0 0) _ wr h0 (Ns _ _ _ _) HB.out);clear h0 h4 h7 hb hN HP hc ebad epm;go_wp2_with fail;first|exact h9.out|(go_ret3;exact h9.out)
     ·have d8:((p:Int)==(m:Int))=false:=(by rw[NA];omega);have hG:p<m:=(by omega);have hr:b<w.heap.size:=Nr w _ (he.out p hG);have q1:wr.cell? ⟨b,off+p,none⟩=some (.int .i64 (bits.getD p 0:Nat)):=(HB.out.cell (p:=⟨b,off+p,none⟩) hr).trans (he.out p hG);rw[mv (by rw[hn.out];exact hG)]at h0;obtain⟨x,hx⟩:∃x,x=bits.getD p 0:=⟨_,rfl⟩;rw[<- hx]at q1 h0;clear hx epm;by_cases ex:x=0
      ·subst ex;rw[ft _ _ _ _ _ ebad]at h0;have ho:=aa h0;obtain⟨X,hX⟩:∃X,X=o.map iv:=⟨_,rfl⟩;rw[<- hX,<-hN]at HO;have HX:=aa hX;have hi:1<=now:=(by omega);clear h0 h4 h7 hb hN hX ebad;(go_wp2_with (at_builtin;refine Ob _ rfl _ _ 57 rfl w.heap.size 3 i3 (.int .i64 0) 1 8 underlying57 h3 hZ H0 H1 rfl (by decide) _ _ _ rfl (HO.out.alloc _) ⟨wr.heap.size,0,none⟩ 1 1 [.int .i64 now] rfl rfl ?c1 ?c2 ?c3 ?c4 ?c5 ?_));case c1=>exact bn _ _ _
       case c2=>intro u hu;simp at hu;subst hu;rfl
       case c3=>unfold maxLen;omega
       case c4=>omega
       case c5=>simp;omega
       intro v6 w6 hj hg _;have hL:Below w.heap.size w w6:=(HB.out.alloc H2 _).grown hg (by simp;omega) (fun k hk=>(HO.out.lt k hk).1);have hO:=aa hj;have hM:=aa hL;clear hj hg hL;go_wp2_with fail;go_roundw;case rel=>
        refine⟨p+1,now,o++ [now],by go_num,by omega,rfl,hh,by rw[Nc,<-HN.out];show N+1<=k;omega,aa ?_,?_,hM.out⟩;·rw[Nc,<-HN.out,show k-(N+ [now].length)=k-N-1 by simp;omega];exact ho.out
        ·rw[Nc,<-HN.out,NF,<-HX.out];exact hO.out
       case measure=>simp[intOf];omega
      ·have d9:((x:Int)==0)=false:=(by rw[NA];omega);obtain⟨p1,hl⟩:∃p1,p1=p+1:=⟨_,rfl⟩;have hT:(p:Int)+1=(p1:Int):=(by omega);by_cases ep1:p1=m;·have d10:((p1:Int)==(m:Int))=true:=(by rw[ep1];exact OK _);rw[<- hl,ep1,NW (Ox hn.out),ji _ _ _ _ _ ebad ex]at h0;have h9:=aa (HP.out (.slice none 0 0) _ wr h0 (Ns _ _ _ _) HB.out);clear h0 h4 h7 hb hN HP hc ebad ep1 hl ex;go_wp2_with fail;first|exact h9.out|(go_ret3;exact h9.out)
       ·have d10:((p1:Int)==(m:Int))=false:=(by rw[NA];omega);have hv:p1<m:=(by omega);have q2:wr.cell? ⟨b,off+p1,none⟩=some (.int .i64 (bits.getD p1 0:Nat)):=(HB.out.cell (p:=⟨b,off+p1,none⟩) hr).trans (he.out p1 hv);rw[<- hl,mv (by rw[hn.out];exact hv)]at h0;obtain⟨y,hy⟩:∃y,y=bits.getD p1 0:=⟨_,rfl⟩;rw[<- hy]at q2 h0;rw[eH _ _ _ _ _ _ _ ebad ex,show p+2=p1+1 by omega]at h0;have hw:=aa hl;have hi:1<=now:=(by omega);have hB:now<=20:=(by omega);by_cases ey:y=0
        ·subst ey;rw[Ng rfl]at h0;have ho:=aa h0;have hV:(p:Int)+2=((p1+1:Nat):Int):=(by omega);clear h0 h4 h7 hb hN ebad ep1 hl ex hy;go_wp2_with fail;go_roundw;case rel=>exact⟨p1+1,now+1,o,by first|go_num|(have:=hw.out;simp;omega),by omega,by go_num,by omega,by rw[<- HN.out];exact hC,aa (by rw[<- HN.out,show k-N=k-N-1+1 by omega];exact ho.out),by rw[HN.out];exact HO.out,HB.out⟩
         case measure=>have:=hw.out;simp[intOf];omega
        ·have d11:((y:Int)==0)=false:=(by rw[NA];omega);rw[Nf ey]at h0;obtain⟨now1,hs⟩:∃now1,now1=now-1:=⟨_,rfl⟩;have hS:(now:Int)-1=(now1:Int):=(by omega);rw[<- hs]at h0;have ht:now1<=40:=(by omega);have ho:=aa h0;clear h0 h4 h7 hb hN ebad ep1 hl ex hy ey hs hi;go_wp2_with fail;go_roundw;case rel=>exact⟨p1+1,now1,o,by first|go_num|(have:=hw.out;simp;omega),by omega,by go_num,ht,by rw[<- HN.out];exact hC,aa (by rw[<- HN.out,show k-N=k-N-1+1 by omega];exact ho.out),by rw[HN.out];exact HO.out,HB.out⟩
         case measure=>have:=hw.out;simp[intOf];omega
   ·rw[show k-N=0 by omega,eG]at h0;have hF:=HP.out (.slice A0 o.length c5) (o,p,0) wr h0 HO.out HB.out;rw[<- hN]at hF;have h9:=aa hF;clear h0 hF h4 h7 hb hN HP hc;go_wp2_with fail;first|exact h9.out|(go_ret3;exact h9.out)
def Pre(b c:List Nat):Prop:=b.length<=c.length/\c.take b.length=b
theorem wP{l:List Nat}{i:Nat}(hi:i<l.length){b:List Nat}(hb:am b)(h:eW l):Pre b (bC l i)↔kH l b.length (val b) i:=by
 have h0:=cU l i;have hc:=qS l i;have hv:val (bC l i)=dE l i:=by rw[bC,dm,NJ (oG h hi)]
 have key:b.length<=l.getD i 0->val ((bC l i).take b.length)=dE l i/2^(l.getD i 0-b.length):=by intro h3;have:=sy (bC l i) hc (k:=b.length) (n:=l.getD i 0) h3 (by rw[h0];exact Nm _);rw[Nt (by rw[h0];exact Nm _),hv]at this;exact this.symm
 constructor;·rintro⟨h1,h2⟩;rw[h0]at h1;refine⟨hi,h1,?_⟩;rw[<- key h1,h2]
 ·rintro⟨_,h1,h2⟩;refine⟨by rw[h0];exact h1,?_⟩;have e1:=fy b hb;have e2:=fy ((bC l i).take b.length) (hc.take _);rw[Nz,h0,Oh h1,key h1,h2,e1]at e2;exact e2.symm
theorem EF{l:List Nat}{i:Nat}(hi:i<l.length){b:List Nat}(hb:am b)(h:eW l):bC l i=b↔Is l b.length (val b) i:=by
 have h0:=cU l i;have hv:val (bC l i)=dE l i:=by rw[bC,dm,NJ (oG h hi)]
 constructor;·intro e;refine⟨hi,by rw[<- e,h0],by rw[<- e,hv]⟩
 ·rintro⟨_,h1,h2⟩;have e1:=fy b hb;rw[<- h1,<-h2]at e1;exact e1
theorem MH{b c:List Nat}{q:Nat}(hq:q<b.length)(h1:b.length<=c.length)(h:c.take q=b.take q)(he:c.getD q 0=b.getD q 0):c.take (q+1)=b.take (q+1):=by rw[NI hq,NI (by omega:q<c.length),h];rw[Nb,Nb,Nd hq,Nd (by omega)]at he;have h0:c[q]=b[q]:=he;rw[h0]
theorem LP{b c:List Nat}{q:Nat}(hq:q<b.length)(he:c.getD q 0≠b.getD q 0):¬Pre b c:=by rintro⟨h1,h2⟩;apply he;rw[<- h2,Nb,Nb,PR,Ng hq]
def Cz:Value->Nat
 | .bool true=>1
 | _=>0
def K4(w:World)(n:Nat)(C:Nat->List Nat)(b:List Nat)(e:Ending)(w':World):Prop:=
 ∃(k:Nat) (is:Int),e=.returned (.tuple #[.int .i64 k,.int .i64 is])/\k<=n/\(k=0↔∀j,j<n->¬Pre b (C j))/\((is= -1/\∀j,j<n->C j≠b)\/∃j:Nat,j<n/\is=j/\C j=b)/\∃m,w'=w.drewN m
theorem Ew{C:Nat->List Nat}{b:List Nat}{i k:Nat}(h:k=0↔∀j,j<i->¬Pre b (C j))(hn:¬Pre b (C i)):k=0↔∀j,j<i+1->¬Pre b (C j):=by
 rw[h];constructor
 ·intro h2 j hj;by_cases e:j=i;·rw[e];exact hn
  ·exact h2 j (by omega)
 ·intro h2 j hj;exact h2 j (by omega)
theorem EG{C:Nat->List Nat}{b:List Nat}{i k:Nat}(hn:Pre b (C i)):k+1=0↔∀j,j<i+1->¬Pre b (C j):=by
 constructor;·intro h;omega
 ·intro h2;exact absurd hn (h2 i (by omega))
theorem BP(w:World)(g n:Nat)(C:Nat->List Nat)(hT:sG w g n C)(hn:n<=258)(B:Option Addr)(m c:Nat)(b:List Nat)(hb:aw w B m b)(hm:m<=20)(h1:1<=m)(hC:∀j,j<n->(C j).length<=20):Calls prog 186 #[.slice (some ⟨g,0,none⟩) n n,.slice B m c] w (K4 w n C b):=by
 have HT:=aa hT;have hv:=hb.1;have h5:=aa hv;obtain⟨bb,ob,rfl,hu⟩:=hb.2 (by omega);have hB:=aa hu;have hD:=aa hC;clear hT hb hv hu hC;go_enter func186,ntmps186;go_wp2_with fail;go_loopw [6,7,8] (fun cnt isv iv' wx=>∃(i k:Nat) (is:Int),i<=n/\k<=i/\iv'=.int .i64 i/\cnt=.int .i64 k/\isv=.int .i64 is/\Hid (k=0↔∀j,j<i->¬Pre b (C j))/\Hid ((is= -1/\∀j,j<i->C j≠b)\/∃j:Nat,j<i/\is=j/\C j=b)/\∃d,wx=w.drewN d) (fun _ _ iv' _=>n-(intOf iv').toNat)
 case atStart=>exact⟨0,0,-1,Nh _,Nm _,rfl,rfl,rfl,aa (by simp),aa (.inl ⟨rfl,by simp⟩),0,rfl⟩
 case round=>
  obtain⟨i,k,is,hi,hk,rfl,rfl,rfl,h9,hl,hd⟩:=hrel;have HD:=aa hd;by_cases e:i<n
  ·obtain⟨A5,k5,hh,hp,hJ⟩:=HT.out i e;have hI:=hD.out i e;obtain⟨s5,hs⟩:∃s5,s5=(C i).length:=⟨_,rfl⟩;rw[<- hs]at hh hp hJ hI;have he:=aa hs;have hf:∀d,(w.drewN d).cell? ⟨g,i,none⟩=some (.slice A5 s5 k5):=fun d=>hh;have h8:wr.cell? ⟨g,i,none⟩=some (.slice A5 s5 k5):=(by obtain⟨d,rfl⟩:=hd;exact hh);have hF:=aa hp;have ht:=aa hf;clear hs hp hh hd hf;by_cases el:m<=s5
   ·have d1:decide ((m:Int)<=(s5:Int))=true:=aX (by omega);go_wp2_with fail;(go_loopw [9,10] (fun sv qv wx=>∃(q:Nat) (s:Bool),q<=m/\qv=.int .i64 q/\sv=.bool s/\Hid (s=true->(C i).take q=b.take q)/\Hid (s=false->¬Pre b (C i))/\∃d,wx=w.drewN d) (fun sv qv _=>Cz sv*(m+1-(intOf qv).toNat)));case atStart=>exact⟨0,true,Nh _,rfl,rfl,aa (by simp),aa (by simp),HD.out⟩
    case round=>
     rename World=>wi;obtain⟨q,s,hq,rfl,rfl,ho,hr,hd⟩:=hrel;have ha:=aa hd
     cases s with
     | true=>
      by_cases eq:q<m
      ·obtain⟨b5,o5,rfl,h0⟩:=hF.out.2 (by omega);have x1:wi.cell? ⟨b5,o5+q,none⟩=some (.int .i64 ((C i).getD q 0:Nat)):=(by obtain⟨d,rfl⟩:=hd;exact h0 q (by omega));have x2:wi.cell? ⟨bb,ob+q,none⟩=some (.int .i64 (b.getD q 0:Nat)):=(by obtain⟨d,rfl⟩:=hd;exact hB.out q eq);have x3:wi.cell? ⟨g,i,none⟩=some (.slice (some ⟨b5,o5,none⟩) s5 k5):=(by obtain⟨d,rfl⟩:=hd;exact ht.out d);obtain⟨x,hx⟩:∃x,x=(C i).getD q 0:=⟨_,rfl⟩;obtain⟨y,hy⟩:∃y,y=b.getD q 0:=⟨_,rfl⟩;rw[<- hx]at x1;rw[<- hy]at x2;have HX:=aa hx;have HY:=aa hy;have hK:q<s5:=(by omega);clear hd h0 hx hy h8;by_cases exy:x=y
       ·have d3:((x:Int)==(y:Int))=true:=(by rw[exy];exact OK _);have h4:(C i).take (q+1)=b.take (q+1):=MH (by rw[h5.out];exact eq) (by rw[h5.out,<-he.out];exact el) (ho.out rfl) (by rw[<- HX.out,<-HY.out,exy]);have h6:=aa h4;clear h4 exy;go_wp2_with fail;go_quiet (fail);go_wp2_with fail;go_roundw;case rel=>obtain⟨d,hd⟩:=ha.out;exact⟨q+1,true,by omega,by go_num,rfl,aa fun _=>h6.out,aa (by simp),d+nq,by rw[hd];simp⟩
        case measure=>simp[intOf,Cz];omega
       ·have d3:((x:Int)==(y:Int))=false:=(by rw[NA];omega);have h4:¬Pre b (C i):=LP (q:=q) (by rw[h5.out];exact eq) (by rw[<- HX.out,<-HY.out];exact exy);have h6:=aa h4;clear h4 exy;go_wp2_with fail;go_quiet (fail);go_wp2_with fail;go_roundw;case rel=>obtain⟨d,hd⟩:=ha.out;exact⟨q+1,false,by omega,by go_num,rfl,aa (by simp),aa fun _=>h6.out,d+nq,by rw[hd];simp⟩
        case measure=>simp[intOf,Cz];omega
      ·obtain rfl:q=m:=(by omega);have hg:Pre b (C i):=(by have h:=ho.out rfl;refine⟨by rw[h5.out,<-he.out];exact el,?_⟩;rw[h5.out,h,Nt (Ox h5.out)]);have h7:=aa hg;have hH:wi.cell? ⟨g,i,none⟩=some (.slice A5 s5 k5):=(by obtain⟨d,rfl⟩:=hd;exact ht.out d);clear hd hg ho hr h8;by_cases es:s5=q
       ·have d3:((s5:Int)==(q:Int))=true:=(by rw[es];exact OK _);have hw:C i=b:=(by have h:=h7.out.2;rw[h5.out,Nt (by rw[<- he.out,es];exact Nm _)]at h;exact h);have hE:=aa hw;clear hw es;go_wp2_with fail;go_roundw;case rel=>exact⟨i+1,k+1,(i:Int),by omega,by omega,by go_num,by go_num,rfl,aa (EG h7.out),aa (.inr ⟨i,by omega,rfl,hE.out⟩),ha.out⟩
        case measure=>simp[intOf];omega
       ·have d3:((s5:Int)==(q:Int))=false:=(by rw[NA];omega);have hz:C i≠b:=(by intro h;apply es;rw[he.out,h,h5.out]);have hG:=aa hz;clear hz es;go_wp2_with fail;go_roundw;case rel=>
         refine⟨i+1,k+1,is,by omega,by omega,by go_num,by go_num,rfl,aa (EG h7.out),aa ?_,ha.out⟩;rcases hl.out with⟨h1,h2⟩|⟨j,h1,h2,h3⟩
         ·refine .inl ⟨h1,fun j hj=> ?_⟩;by_cases ej:j=i;·rw[ej];exact hG.out
          ·exact h2 j (by omega)
         ·exact .inr ⟨j,by omega,h2,h3⟩
        case measure=>simp[intOf];omega
     | false=>
      have hc:=aa (hr.out rfl);clear hd ho hr h8;go_wp2_with fail;go_roundw;case rel=>
       refine⟨i+1,k,is,by omega,by omega,by go_num,rfl,rfl,aa (Ew h9.out hc.out),aa ?_,ha.out⟩;rcases hl.out with⟨h1,h2⟩|⟨j,h1,h2,h3⟩
       ·refine .inl ⟨h1,fun j hj=> ?_⟩;by_cases ej:j=i;·rw[ej];intro h;exact hc.out ⟨by rw[h];exact Nm _,by rw[h,Qm]⟩
        ·exact h2 j (by omega)
       ·exact .inr ⟨j,by omega,h2,h3⟩
      case measure=>simp[intOf];omega
   ·have d1:decide ((m:Int)<=(s5:Int))=false:=aD (by omega);have hA:¬Pre b (C i):=(by rintro⟨h,_⟩;rw[h5.out,<-he.out]at h;exact el h);have hc:=aa hA;clear hA;go_wp2_with fail;(go_loopw [9,10] (fun sv qv wx=>sv=.bool false/\wx=wr) (fun _ _ _=>0));case atStart=>exact⟨rfl,rfl⟩
    case round=>
     obtain⟨rfl,rfl⟩:=hrel;go_wp2_with fail;go_roundw;case rel=>
      refine⟨i+1,k,is,by omega,by omega,by go_num,rfl,rfl,aa (Ew h9.out hc.out),aa ?_,HD.out⟩;rcases hl.out with⟨h1,h2⟩|⟨j,h1,h2,h3⟩
      ·refine .inl ⟨h1,fun j hj=> ?_⟩;by_cases ej:j=i;·rw[ej];intro h;exact hc.out ⟨by rw[h];exact Nm _,by rw[h,Qm]⟩
       ·exact h2 j (by omega)
      ·exact .inr ⟨j,by omega,h2,h3⟩
     case measure=>simp[intOf];omega
  ·obtain rfl:i=n:=(by omega);clear hd;go_wp2_with fail;go_ret2;exact⟨k,is,rfl,hk,h9.out,hl.out,HD.out⟩
def rt(l:List Nat)(at':Nat):Nx->Nat×Nat×Nat
 | .hit i=>(i,at'+l.getD i 0,0)
 | .short=>(0,0,10)
 | .code=>(0,0,90)
def sD(w:World)(a:Nat×Nat×Nat)(e:Ending)(w':World):Prop:=e=.returned (.tuple #[.int .i64 a.1,.int .i64 a.2.1,.int .i64 a.2.2])/\∃d,w'=w.drewN d
theorem rr{l bs:List Nat}{q k:Nat}(h:bs.length<q):fk l bs (k+1) q=.short:=by rw[fk,Ng h]
theorem Az{l bs:List Nat}{q k i:Nat}(h:¬bs.length<q)(hi:lA l q (val (bs.take q))=some i):fk l bs (k+1) q=.hit i:=by rw[fk,Nf h,hi]
theorem nW{l bs:List Nat}{q k:Nat}(h:¬bs.length<q)(hi:lA l q (val (bs.take q))=none):fk l bs (k+1) q=if val (bs.take q)*pw q<jP l then fk l bs k (q+1)else .code:=by rw[fk,Nf h,hi]
theorem Jv{w:World}{b off m k a:Nat}{L:List Nat}(h:aw w (some ⟨b,off,none⟩) m L)(h0:a+k<=m)(n:Nat)(hn:n=k):aw w (some ⟨b,off+a,none⟩) n ((L.drop a).take k):=by subst hn;have:=h.cut (a:=a) (k:=n) h0;simp only[Oy,OX]at this;exact this
theorem uj(w:World)(g n:Nat)(l:List Nat)(hT:sG w g n (bC l))(hf:eW l)(hD:l.length=n)(hn:n<=258)(B:Option Addr)(m c:Nat)(bits:List Nat)(hb:aw w B m bits)(H2:m<=c)(hm:m<=1000000)(_hc:c<=maxLen)(hI:am bits)(at':Nat)(H0:at'<=m):
 Calls prog 137 #[.slice (some ⟨g,0,none⟩) n n,.slice B m c,.int .i64 at'] w (sD w (rt l at' (fm l (bits.drop at')))):=by
 have HT:=aa hT;have HF:=aa hf;have hv:=aa hD;have hG:=aa hb;obtain⟨bs,hl⟩:∃bs,bs=bits.drop at':=⟨_,rfl⟩;have ho:bs.length=m-at':=by rw[hl,Nq,hb.1]
 have hg:=aa ho;have hh:am bs:=by rw[hl];exact hI.drop _
 have h5:=aa hh;have hQ:=aa hl;have hR:Hid (∀ j,j<n->(bC l j).length<=20):=aa fun j hj=>by rw[cU];exact(hf.one (by rw[hD];exact hj)).2
 have hz:=aa BP;have HP:Hid (∀ (x:Nx) (d:Nat),fm l bs=x->sD w (rt l at' (fm l bs)) (.returned (.tuple #[.int .i64 (rt l at' x).1,.int .i64 (rt l at' x).2.1,.int .i64 (rt l at' x).2.2])) (w.drewN d)):=aa fun x d h=>⟨by rw[h],d,rfl⟩;rw[<- hl];clear hT hf hD hb hl ho hI hh;generalize sD w (rt l at' (fm l bs))=PO at*;go_enter func137,ntmps137;go_wp2_with fail;go_loopw [9] (fun nv wx=>∃q:Nat,1<=q/\q<=21/\nv=.int .i64 q/\Hid (sz l bs q)/\Hid (fm l bs=fk l bs (21-q) q)/\∃d,wx=w.drewN d) (fun nv _=>22-(intOf nv).toNat)
 case atStart=>exact⟨1,Nm _,by omega,rfl,aa (fun k h1 h2=>by omega),aa rfl,0,rfl⟩
 case round=>
  obtain⟨q,H8,HA,rfl,h3,hs,hd⟩:=hrel;have HD:=aa hd;by_cases e:q<=20
  ·have d0:decide ((q:Int)<=20)=true:=aX (by omega);have h4:=hs.out;rw[show 21-q=(20-q)+1 by omega]at h4;obtain⟨p,hp⟩:∃p,p=at'+q:=⟨_,rfl⟩;have H5:(at':Int)+(q:Int)=(p:Int):=(by omega);have H3:p<=1000020:=(by omega);by_cases es:m<p;·rw[rr (by rw[hg.out];omega)]at h4;obtain⟨d,rfl⟩:=hd;have h6:=aa (HP.out _ d h4);clear h4 hs h3 hp;go_wp2_with fail;first|exact h6.out|(go_ret3;exact h6.out)
   ·have hr:¬bs.length<q:=(by rw[hg.out];omega);obtain⟨b,off,rfl,he⟩:=hG.out.2 (by omega);have H1:¬c=at':=(by omega);have HB:at'<p:=(by omega);have H4:p<=c:=(by omega);have htl:(bs.take q).length=q:=(by rw[Nz];omega);have hw:=aa htl;have hc:=aa hr;have hH:=aa h4;have hC:=aa hp
    have hP:=aa fun(wi:World) (hO:∃d,wi=w.drewN d) (k c':Nat) (hk:k=q)=>hz.out wi g n (bC l) (by
     obtain⟨d,rfl⟩:=hO
     exact HT.out) hn (some ⟨b,off+at',none⟩) k c' (bs.take q) (by
     obtain⟨d,rfl⟩:=hO
     have h:=Jv hG.out (a:=at') (k:=q) (by have:=hC.out;omega) k hk
     rw[<- hQ.out]at h
     exact h) (by omega) (by omega) hR.out
    have hV:(at':Int)<=(p:Int):=(by omega);have hZ:(p:Int)<=(c:Int):=(by omega);clear he hd hr htl h4 hs hp;go_wp2_with fail;refine(hP.out wr HD.out _ _ (by have:=hC.out;omega)).mono ?_;rintro e w3 ⟨k,is,rfl,hk,hq,h8,hJ⟩;have hK:∃d,w3=w.drewN d:=(by obtain⟨d,rfl⟩:=hJ;obtain⟨d2,hW⟩:=HD.out;exact⟨d2+d,by rw[hW];simp⟩);have hA:=aa hK;clear hJ hK;rcases h8 with⟨rfl,h7⟩|⟨j,hj,rfl,ha⟩
    ·have h9:lA l q (val (bs.take q))=none:=by
      cases hx:lA l q (val (bs.take q))with
      | none=>rfl
      | some j=>have h8:=iX hx;exfalso;have hY:j<n:=(by have:=h8.1;rw[hv.out]at this;exact this);refine h7 j hY ((EF h8.1 (h5.out.take q) HF.out).2 ?_);rw[hw.out];exact h8
     have h0:=hH.out;rw[nW hc.out h9]at h0;have hy:=ml HF.out h5.out (n:=q) (by have:=hc.out;omega) e h3.out;by_cases ek:k=0;·have hL:¬∃i,kH l q (val (bs.take q)) i:=(by rintro⟨i,hi⟩;have hX:i<n:=(by have:=hi.1;rw[hv.out]at this;exact this);refine hq.1 ek i hX ((wP hi.1 (h5.out.take q) HF.out).2 ?_);rw[hw.out];exact hi);rw[Nf (fun h=>hL (hy.2 h))]at h0;have d2:((k:Int)==0)=true:=(by rw[ek];rfl);obtain⟨d,rfl⟩:=hA.out;have h6:=aa (HP.out _ d h0);clear h0 hy hL hq ek h7 h9;go_wp2_with fail;first|exact h6.out|(go_ret3;exact h6.out)
     ·have hu:∃i,kH l q (val (bs.take q)) i:=by
       rcases R1 (∃ i,kH l q (val (bs.take q)) i)with h|h;·exact h
       ·exfalso;apply ek;rw[hq];intro j hj hF;refine h ⟨j,?_⟩;have:=(wP (l:=l) (i:=j) (by rw[hv.out];exact hj) (h5.out.take q) HF.out).1 hF;rw[hw.out]at this;exact this
      rw[Ng (hy.1 hu)]at h0;have d2:((k:Int)==0)=false:=(by rw[NA];omega);have hN:=h3.out.up h9;have hS:=aa hN;have hB:=aa h0;clear h0 hy hu hq ek h7 h9 hN;go_wp2_with fail;go_roundw;case rel=>exact⟨q+1,by omega,by omega,by go_num,hS,aa (by rw[hB.out,show 21-(q+1)=20-q by omega]),hA.out⟩
      case measure=>simp[intOf];omega
    ·have h8:=(EF (l:=l) (i:=j) (by rw[hv.out];exact hj) (h5.out.take q) HF.out).1 ha;rw[hw.out]at h8;have h0:=hH.out;rw[Az hc.out (qn HF.out h8)]at h0;obtain⟨d,rfl⟩:=hA.out;have hE:=HP.out _ d h0;have hM:(rt l at' (.hit j)).2.1=p:=(by show at'+l.getD j 0=p;rw[h8.2.1,hC.out]);rw[hM]at hE;have ht:PO (.returned (.tuple #[.int .i64 (j:Nat),.int .i64 (p:Nat),.int .i64 0])) (w.drewN d):=hE;have h6:=aa ht;clear h0 h8 ha hq hE ht hM;go_wp2_with fail;first|exact h6.out|(go_ret3;exact h6.out)
  ·obtain rfl:q=21:=(by omega);have h4:fm l bs=.code:=hs.out;obtain⟨d,rfl⟩:=hd;have h6:=aa (HP.out _ d h4);clear h4 hs h3;go_wp2_with fail;first|exact h6.out|(go_ret3;exact h6.out)
theorem th{l:List Nat}(h:eW l){i:Nat}(hi:i<l.length):dE l i<1048576:=by have h1:=oG h hi;have h2:=(h.one hi).2;have h3:2^l.getD i 0<=2^20:=Oj (by decide) h2;omega
theorem pO(l bs:List Nat)(en:Int)(k a:Nat)(o:List Nat):gj l bs en (k+1) a o=match fm l (bs.drop a)with
 | .hit i=>if(i:Int)=en then(o++ [i],a+l.getD i 0,0)else gj l bs en k (a+l.getD i 0) (o++ [i])
 | .short=>([],0,10)
 | .code=>([],0,90):=rfl
