import Derived.Test.YtfhgikojdfblpaaGreatM03
import Derived.Test.YtfhgikojdfblpaaGreatM13
import Derived.Lib.OwnKind
set_option maxHeartbeats 1600000
set_option maxRecDepth 100000
namespace Go.Proofs.YtfhgikojdfblpaaGreat
open _root_.Go.Proofs.Tryz
def pw(x:Nat):Nat:=2^(20-x)
theorem gx(x:Nat):0<pw x:=OE _
theorem jX{n x:Nat}(h:n<=x)(hx:x<=20):pw n=pw x*2^(x-n):=by unfold pw;rw[<- Pw];congr 1;omega
theorem MF{n x:Nat}(h:n<=x)(hx:x<=20):pw x∣pw n:=⟨_,jX h hx⟩
theorem Bm{x:Nat}(hx:x<=20):2^x*pw x=1048576:=by unfold pw;rw[<- Pw,show x+(20-x)=20 by omega]
def kV(l:List Nat):Nat:=(l.map pw).sum
def pos(n:Nat):Nat->List Nat->Nat
 | _, []=>0
 | i,x::l=>(if x<n\/(x=n/\0<i)then pw x else 0)+pos n (i-1) l
theorem Bl:∀(l:List Nat),(∀ x∈l,1<=x)->pos 1 0 l=0
 | [],_=>rfl
 | x::l,h=>by have hx:=h x (Nh ..);rw[pos,Nd,Bl l fun y hy=>h y (Nm _ hy)]
theorem lB(n:Nat):∀(l:List Nat) (i:Nat),i<l.length->pos n (i+1) l=pos n i l+if l.getD i 0=n then pw n else 0
 | [],i,h=>by simp at h
 | x::l,0,_=>by
  have e1:pos n (0+1) (x::l)=(if x<n\/(x=n/\0<0+1)then pw x else 0)+pos n 0 l:=rfl;have e2:pos n 0 (x::l)=(if x<n\/(x=n/\0<0)then pw x else 0)+pos n 0 l:=rfl;rw[e1,e2,show(x::l).getD 0 0=x from rfl];by_cases hx:x=n;·subst hx;rw[Nf (show x<x\/(x=x/\0<0+1) by omega),Nd (show ¬(x<x\/(x=x/\0<0)) by omega),Nf rfl];omega
  ·rw[Nd hx];by_cases hl:x<n;·rw[Nf (show x<n\/(x=n/\0<0+1) by omega),Nf (show x<n\/(x=n/\0<0) by omega)];omega
   ·rw[Nd (show ¬(x<n\/(x=n/\0<0+1)) by omega),Nd (show ¬(x<n\/(x=n/\0<0)) by omega)];omega
 | x::l,i+1,h=>by
  have e1:pos n (i+1+1) (x::l)=(if x<n\/(x=n/\0<i+1+1)then pw x else 0)+pos n (i+1) l:=rfl;have e2:pos n (i+1) (x::l)=(if x<n\/(x=n/\0<i+1)then pw x else 0)+pos n i l:=rfl;rw[e1,e2,show(x::l).getD (i+1) 0=l.getD i 0 from rfl,lB n l i (by simpa using h)];by_cases hx:x<n\/x=n;·rw[Nf (show x<n\/(x=n/\0<i+1+1) by omega),Nf (show x<n\/(x=n/\0<i+1) by omega)];omega
  ·rw[Nd (show ¬(x<n\/(x=n/\0<i+1+1)) by omega),Nd (show ¬(x<n\/(x=n/\0<i+1)) by omega)];omega
theorem ni(n:Nat):∀(l:List Nat) (i:Nat),l.length<=i->pos n i l=pos (n+1) 0 l
 | [],_,_=>rfl
 | x::l,i,h=>by
  have h':l.length+1<=i:=by simpa using h
  rw[pos,pos,ni n l (i-1) (by omega),show(0-1:Nat)=0 from rfl];by_cases hx:x<n\/x=n;·rw[Nf (show x<n\/(x=n/\0<i) by omega),Nf (show x<n+1\/(x=n+1/\0<0) by omega)]
  ·rw[Nd (show ¬(x<n\/(x=n/\0<i)) by omega),Nd (show ¬(x<n+1\/(x=n+1/\0<0)) by omega)]
theorem qk(n:Nat)(hn:n<=20):∀(l:List Nat) (i:Nat),pw n∣pos n i l
 | [],_=>⟨0,rfl⟩
 | x::l,i=>by
  rw[pos];refine Nat.dvd_add ?_ (qk n hn l _);split;·exact MF (by omega) hn
  ·exact⟨0,rfl⟩
theorem nP(n:Nat)(l:List Nat){i j:Nat}(h:i<=j):pos n i l<=pos n j l:=by
 induction h with
 | refl=>exact Nk _
 | step h ih=>
  rename_i m;refine ND ih ?_;by_cases hm:m<l.length;·rw[lB n l m hm];omega
  ·rw[ni n l m (by omega),ni n l (m+1) (by omega)];exact Nk _
theorem rk(l:List Nat){n m:Nat}(h:n<m)(i:Nat):pos n i l<=pos m 0 l:=by
 induction h with
 | refl=>rw[<- ni n l (max i l.length) (by omega)];exact nP n l (by omega)
 | step h ih=>rename_i k;refine ND ih ?_;rw[<- ni k l l.length (by omega)];exact nP k l (by omega)
theorem sK(n:Nat):∀(l:List Nat),(∀ x∈l,x<n)->pos n 0 l=kV l
 | [],_=>rfl
 | x::l,h=>by rw[pos,Nf (Or.inl (h x (Nh ..))),show(0-1:Nat)=0 from rfl,sK n l fun y hy=>h y (Nm _ hy)];simp[kV]
theorem J8(l:List Nat)(hl:∀x∈l,x<=20){n:Nat}(hn:n<=20)(i:Nat):pos n i l<=kV l:=by rw[<- sK 21 l fun x hx=>by have:=hl x hx;omega];exact rk l (by omega) i
def lie(l:List Nat)(i:Nat):Nat:=pos (l.getD i 0) i l
def eB(l:List Nat)(i:Nat):Nat:=lie l i/pw (l.getD i 0)
structure fy (l:List Nat):Prop where
 low:∀x∈l,1<=x
 high:∀x∈l,x<=20
 sum:kV l<=1048576
theorem Et{l:List Nat}{i:Nat}(h:i<l.length):l.getD i 0∈l:=by rw[Na,Nc h];exact NM h
theorem fy.one{l:List Nat}(h:fy l){i:Nat}(hi:i<l.length):1<=l.getD i 0/\l.getD i 0<=20:=⟨h.low _ (Et hi),h.high _ (Et hi)⟩
theorem mM{l:List Nat}(h:fy l){i:Nat}(hi:i<l.length):eB l i*pw (l.getD i 0)=lie l i:=
 Nat.div_mul_cancel (qk _ (h.one hi).2 l i)
theorem AJ{l:List Nat}{i:Nat}(hi:i<l.length):pos (l.getD i 0) (i+1) l=lie l i+pw (l.getD i 0):=by rw[lB _ l i hi,Nf rfl];rfl
theorem Gn{l:List Nat}{i j:Nat}(hi:i<l.length)(h:l.getD i 0<l.getD j 0\/(l.getD i 0=l.getD j 0/\i<j)):lie l i+pw (l.getD i 0)<=lie l j:=by
 rw[<- AJ hi];rcases h with h|⟨h,h0⟩;·exact ND (rk l h (i+1)) (nP _ l (by omega))
 ·unfold lie;rw[<- h];exact nP _ l (by omega)
theorem yj{l:List Nat}(h:fy l){i:Nat}(hi:i<l.length):lie l i+pw (l.getD i 0)<=kV l:=by rw[<- AJ hi];exact J8 l h.high (h.one hi).2 _
theorem xR{l:List Nat}(h:fy l){i:Nat}(hi:i<l.length):eB l i<2^l.getD i 0:=by have h1:=yj h hi;have h2:=h.sum;have h3:=mM h hi;have h4:=Bm (h.one hi).2;have h5:=gx (l.getD i 0);refine Qi (a:=pw (l.getD i 0)) ?_;omega
theorem zU{l:List Nat}(h:fy l){i n:Nat}(hi:i<l.length)(hn:n<=l.getD i 0):eB l i/2^(l.getD i 0-n)=lie l i/pw n:=by rw[eB,O0,<-jX hn (h.one hi).2]
theorem uL:∀(l:List Nat),pos 0 0 l=0
 | []=>rfl
 | x::l=>by rw[pos,Nd (show ¬(x<0\/(x=0/\0<0)) by omega),show(0-1:Nat)=0 from rfl,uL l]
def xD(l:List Nat)(p i:Nat):Prop:=i<l.length/\lie l i<=p/\p<lie l i+pw (l.getD i 0)
theorem AK(l:List Nat)(m p:Nat)(h0:p<pos m 0 l->∃i,xD l p i):∀k,k<=l.length->p<pos m k l->∃i,xD l p i
 | 0,_,h=>h0 h
 | k+1,hk,h=>by
  by_cases hp:p<pos m k l;·exact AK l m p h0 k (by omega) hp
  ·rw[lB m l k (by omega)]at h;by_cases he:l.getD k 0=m
   ·rw[Nf he]at h;refine⟨k,by omega,?_,?_⟩;·rw[lie,he];omega
    ·rw[lie,he];exact h
   ·rw[Nd he]at h;omega
theorem uq(l:List Nat)(p:Nat):∀m,p<pos m 0 l->∃i,xD l p i
 | 0,h=>by rw[uL]at h;omega
 | m+1,h=>AK l m p (uq l p m) l.length (ag _) (by rw[ni m l _ (ag _)];exact h)
theorem Gq{l:List Nat}(h:fy l){p:Nat}(hp:p<kV l):∃i,xD l p i:=by refine uq l p 21 ?_;rw[sK 21 l fun x hx=>by have:=h.high x hx;omega];exact hp
theorem JI{l:List Nat}{p i j:Nat}(hi:xD l p i)(hj:xD l p j):i=j:=by
 obtain⟨a1,a2,a3⟩:=hi;obtain⟨b1,b2,b3⟩:=hj;have key:∀{i j:Nat},i<l.length->j<l.length->(l.getD i 0<l.getD j 0\/(l.getD i 0=l.getD j 0/\i<j))->lie l j<=p->p<lie l i+pw (l.getD i 0)->False:=by intro i j hi _ ho h1 h2;have:=Gn hi ho;omega
 by_cases he:i=j;·exact he
 ·exfalso;by_cases h1:l.getD i 0<l.getD j 0\/(l.getD i 0=l.getD j 0/\i<j);·exact key a1 b1 h1 b2 a3
  ·exact key b1 a1 (by omega) a2 b3
def Is(l:List Nat)(n v i:Nat):Prop:=i<l.length/\l.getD i 0=n/\eB l i=v
def ph(l:List Nat)(n v i:Nat):Prop:=i<l.length/\n<=l.getD i 0/\eB l i/2^(l.getD i 0-n)=v
theorem Is.begin{l:List Nat}{n v i:Nat}(h:Is l n v i):ph l n v i:=by obtain⟨h1,h2,h3⟩:=h;refine⟨h1,by omega,?_⟩;rw[h2,Oz,Q1,RC,h3]
theorem ph.is{l:List Nat}{n v i:Nat}(h:ph l n v i)(hn:l.getD i 0=n):Is l n v i:=by obtain⟨h1,h2,h3⟩:=h;refine⟨h1,hn,?_⟩;rw[hn,Oz,Q1,RC]at h3;exact h3
theorem lg{l:List Nat}(h:fy l){n v i:Nat}(hb:ph l n v i):v*pw n<=lie l i/\lie l i+pw (l.getD i 0)<=(v+1)*pw n:=by
 obtain⟨h1,h2,h3⟩:=hb;have h0:=(h.one h1).2;rw[zU h h1 h2]at h3;have hd:=Nat.div_add_mod (lie l i) (pw n);have hm:=Po (lie l i) (gx n);rw[h3]at hd;obtain⟨q,hq⟩:=qk (l.getD i 0) h0 l i;have h4:lie l i=pw (l.getD i 0)*q:=hq;have hs:=jX h2 h0;refine⟨by rw[Om];omega,?_⟩;have h5:pw (l.getD i 0)*q<pw (l.getD i 0)*((v+1)*2^(l.getD i 0-n)):=by rw[<- OY,Om (pw _) (v+1),OY,<-hs,<-h4,PU,Rk,Om v];omega
 have h6:=Nat.lt_of_mul_lt_mul_left h5
 rw[h4,show pw (l.getD i 0)*q+pw (l.getD i 0)=pw (l.getD i 0)*(q+1) by rw[Nat.mul_add,Oc],hs,Om (v+1),OY,
  Om (2^_) (v+1)]
 exact Q7 _ h6
theorem xM{l:List Nat}(h:fy l){n v i:Nat}(hi:i<l.length)(hn:n<=l.getD i 0)(h1:v*pw n<=lie l i)(h2:lie l i<(v+1)*pw n):ph l n v i:=by refine⟨hi,hn,?_⟩;rw[zU h hi hn];refine Nat.div_eq_of_lt_le h1 h2
theorem AE{l:List Nat}(h:fy l){n v i m j:Nat}(hi:Is l n v i)(hm:n<=m){u:Nat}(hu:u/2^(m-n)=v)(h0:m<=20)(hj:ph l m u j):i=j:=by
 have b:=lg h hj;have hp:=gx (l.getD j 0);have hs:=jX hm h0;have hd:=Nat.div_add_mod u (2^(m-n));rw[hu]at hd;have e1:v*pw n<=u*pw m:=by rw[hs,Om (pw m),<-OY];refine Qp _ ?_;rw[Om];omega
 have e2:(u+1)*pw m<=(v+1)*pw n:=by rw[hs,Om (pw m),<-OY];refine Qp _ ?_;rw[PU,Rk,Om v];omega
 refine JI (l:=l) (p:=lie l j) ⟨hi.1,?_,?_⟩ ⟨hj.1,Nk _,by omega⟩;·have:=mM h hi.1;rw[hi.2.1,hi.2.2]at this;omega
 ·have:=mM h hi.1;rw[hi.2.1,hi.2.2]at this;rw[hi.2.1,<-this,<-Nat.succ_mul];have e3:lie l j<(u+1)*pw m:=(by omega);exact OA e3 e2
theorem Ch{l:List Nat}(h:fy l){n v:Nat}(hn:n<=20)(h0:∀k,k<n->∀i,¬Is l k (v/2^(n-k)) i):(∃ i,ph l n v i)↔v*pw n<kV l:=by
 constructor;·rintro⟨i,hi⟩;have a:=lg h hi;have b:=yj h hi.1;have:=gx (l.getD i 0);omega
 ·intro hp;obtain⟨i,hi,h1,h2⟩:=Gq h hp;refine⟨i,?_⟩;have h6:=(h.one hi).2;by_cases hk:l.getD i 0<n
  ·exfalso;refine h0 _ hk i ⟨hi,rfl,?_⟩;have hs:=jX (NT hk) hn;rw[<- mM h hi]at h1 h2;rw[hs]at h1 h2;symm;(have hc:∀c:Nat,c*(pw n*2^(n-l.getD i 0))=(c*2^(n-l.getD i 0))*pw n:=fun c=>by rw[Om (pw n),OY]);refine Nat.div_eq_of_lt_le ?_ ?_;·rw[hc]at h1;exact Nat.le_of_mul_le_mul_right h1 (gx n)
   ·have h3:v*pw n<(eB l i+1)*(pw n*2^(n-l.getD i 0)):=(by rw[PU,Rk];exact h2);rw[hc]at h3;exact Qi h3
  ·have hk:n<=l.getD i 0:=(by omega);have hs:=jX hk h6;have hl:=mM h hi;have he:lie l i=v*pw n:=(by have hv:v*pw n=(v*2^(l.getD i 0-n))*pw (l.getD i 0):=(by rw[hs,OY,Om (2^_)]);rw[hv]at h1 h2 |-;rw[<- hl]at h1 h2 |-;have h3:=Nat.le_of_mul_le_mul_right h1 (gx _);have h4:v*2^(l.getD i 0-n)*pw (l.getD i 0)<(eB l i+1)*pw (l.getD i 0):=(by rw[PU,Rk];exact h2);have h5:=Qi h4;rw[show eB l i=v*2^(l.getD i 0-n) by omega]);refine xM h hi hk (by omega) ?_;rw[he,PU,Rk];have:=gx n;omega
theorem yP(bs:List Nat)(hb:au bs){k n:Nat}(hk:k<=n)(hn:n<=bs.length):val (bs.take n)/2^(n-k)=val (bs.take k):=by have h1:bs.take n=bs.take k++(bs.take n).drop k:=(by have:=OW k (bs.take n);rw[List.take_take,OJ hk]at this;exact this.symm);have h2:((bs.take n).drop k).length=n-k:=(by rw[Ny,NB];omega);have h3:=gH _ ((hb.take n).drop k);rw[h2]at h3;rw[h1,oY,h2,Om,Nat.mul_add_div (OE _),Ry h3,NY]
def nY(l:List Nat)(n v:Nat):Option Nat:=(List.range l.length).find? fun i=>l.getD i 0==n&&eB l i==v
theorem ra{l:List Nat}{n v:Nat}(h:nY l n v=none):∀i,¬Is l n v i:=by rintro i ⟨h1,h2,h3⟩;have:=List.find?_eq_none.1 h i (List.mem_range.2 h1);rw[h2,h3]at this;simp at this
theorem lX{l:List Nat}{n v i:Nat}(h:nY l n v=some i):Is l n v i:=by have h1:=List.find?_some h;have h2:=List.mem_of_find?_eq_some h;simp only[Bool.and_eq_true,Pn]at h1;exact⟨List.mem_range.1 h2,h1.1,h1.2⟩
theorem MA{l:List Nat}(h:fy l){n v i j:Nat}(hi:Is l n v i)(hj:Is l n v j):i=j:=by refine AE h hi (Nk n) (u:=v) (by rw[Oz,Q1,RC]) ?_ hj.begin;have:=(h.one hi.1).2;rw[hi.2.1]at this;exact this
theorem wN{l:List Nat}(h:fy l){n v i:Nat}(hi:Is l n v i):nY l n v=some i:=by
 cases he:nY l n v with
 | none=>exact absurd hi (ra he i)
 | some j=>rw[MA h hi (lX he)]
inductive Nx where
 | hit (i:Nat)
 | short
 | code
def gL(l bs:List Nat):Nat->Nat->Nx
 | 0,_=>.code
 | k+1,n=>if bs.length<n then .short else match nY l n (val (bs.take n))with
   | some i=>.hit i
   | none=>if val (bs.take n)*pw n<kV l then gL l bs k (n+1)else .code
def kF(l bs:List Nat):Nx:=gL l bs 20 1
def vT(l bs:List Nat)(n:Nat):Prop:=∀k,1<=k->k<n->∀i,¬Is l k (val (bs.take k)) i
theorem vT.up{l bs:List Nat}{n:Nat}(h:vT l bs n)(h1:nY l n (val (bs.take n))=none):vT l bs (n+1):=by
 intro k hk h0 i;by_cases he:k=n;·subst he;exact ra h1 i
 ·exact h k hk (by omega) i
theorem Gy{l:List Nat}(h:fy l)(v i:Nat):¬Is l 0 v i:=by rintro⟨h1,h2,_⟩;have:=(h.one h1).1;omega
theorem rG{l bs:List Nat}(h:fy l)(hb:au bs){n:Nat}(hn:n<=bs.length)(h1:n<=20)(hc:vT l bs n):
 (∃ i,ph l n (val (bs.take n)) i)↔val (bs.take n)*pw n<kV l:=by
 refine Ch h h1 fun k hk i=> ?_;rw[yP bs hb (NT hk) hn];by_cases h0:k=0;·subst h0;exact Gy h _ i
 ·exact hc k (by omega) hk i
theorem wW{l bs:List Nat}(h:fy l)(hb:au bs){i:Nat}(hi:i<l.length)(hl:l.getD i 0<=bs.length)(hv:val (bs.take (l.getD i 0))=eB l i):
 ∀k n,n<=l.getD i 0->l.getD i 0<n+k->gL l bs k n=.hit i
 | 0,n,h1,h2=>by omega
 | k+1,n,h1,h2=>by
  have h0:Is l (l.getD i 0) (val (bs.take (l.getD i 0))) i:=⟨hi,rfl,hv.symm⟩;rw[gL,Nd];by_cases he:n=l.getD i 0;·subst he;rw[wN h h0]
  ·have h5:n<l.getD i 0:=(by omega);have h3:ph l n (val (bs.take n)) i:=by refine⟨hi,h1,?_⟩;rw[<- hv,yP bs hb h1 hl]
   cases hj:nY l n (val (bs.take n))with
   | some j=>exfalso;have h4:=AE h (lX hj) h1 (yP bs hb h1 hl) (h.one hi).2 h0.begin;have:=(lX hj).2.1;rw[h4]at this;omega
   | none=>have a:=lg h h3;have b:=yj h hi;have:=gx (l.getD i 0);show(if _<_ then _ else _)=_;rw[Nf];exact wW h hb hi hl hv k (n+1) (by omega) (by omega)
theorem JS{l bs:List Nat}(h:fy l)(hb:au bs){i:Nat}(hi:i<l.length)(hl:l.getD i 0<=bs.length)(hv:val (bs.take (l.getD i 0))=eB l i):
 kF l bs=.hit i:=wW h hb hi hl hv 20 1 (h.one hi).1 (by have:=(h.one hi).2;omega)
def cV(l:List Nat)(i:Nat):List Nat:=ah (eB l i) (l.getD i 0)
theorem Gx{l:List Nat}(h:fy l){i:Nat}(hi:i<l.length)(rest:List Nat)(hr:au rest):kF l (cV l i++rest)=.hit i:=by have h0:(cV l i).length=l.getD i 0:=af _ _;have hb:au (cV l i++rest):=au.append (aQ _ _) hr;have ht:(cV l i++rest).take (l.getD i 0)=cV l i:=RE h0;refine JS (bs:=cV l i++rest) h hb hi (by rw[Nb,h0];omega) ?_;rw[ht,cV,eG,NL (xR h hi)]
theorem uz{l bs:List Nat}{i:Nat}:∀k n,gL l bs k n=.hit i->l.getD i 0<=bs.length/\Is l (l.getD i 0) (val (bs.take (l.getD i 0))) i
 | 0,n,h=>by simp[gL]at h
 | k+1,n,h=>by
  rw[gL]at h;by_cases hn:bs.length<n;·rw[Nf hn]at h;cases h
  ·rw[Nd hn]at h
   cases hj:nY l n (val (bs.take n))with
   | some j=>rw[hj]at h;have h0:j=i:=(by injection h);subst h0;have h2:=lX hj;have h3:=h2.2.1;subst h3;exact⟨by omega,h2⟩
   | none=>
    rw[hj]at h;by_cases hs:val (bs.take n)*pw n<kV l;·have h':gL l bs k (n+1)=.hit i:=(by rw[<- h];exact(Nf hs).symm);exact uz k (n+1) h'
    ·have h':Nx.code=.hit i:=(by rw[<- h];exact(Nd hs).symm);cases h'
def nl(L:List Int):List Nat:=L.map Int.toNat
theorem bN(L:List Int):(nl L).length=L.length:=Nu _
theorem nf(L:List Int)(i:Nat):(nl L).getD i 0=(L.getD i 0).toNat:=by unfold nl;rw[Na,Na,Np];cases L[i]? <;>rfl
theorem MI(L:List Int):kV (nl L)=bR L:=by unfold kV nl bR pw;rw[Ou];rfl
theorem fM{L:List Int}(h:bK L):fy (nl L):=by
 obtain⟨_,_,h3,h4⟩:=h;refine⟨fun x hx=> ?_,fun x hx=> ?_,by rw[MI];exact h4⟩;·obtain⟨y,hy,rfl⟩:=List.mem_map.1 hx;have:=h3 y hy;omega
 ·obtain⟨y,hy,rfl⟩:=List.mem_map.1 hx;have:=h3 y hy;omega
theorem yd{α:Type}{p q:Prop} [Decidable p] [Decidable q](h:p↔q)(a b:α):(if p then a else b)=if q then a else b:=by
 by_cases hq:q;·rw[Nf hq,Nf (h.2 hq)]
 ·rw[Nd hq,Nd (fun k=>hq (h.1 k))]
def nZ(l:List Nat)(n i j:Nat):List Nat:=if l.getD j 0<n\/(l.getD j 0=n/\j<i)then cV l j else []
theorem Ht{l:List Nat}{n i:Nat}(h:l.getD i 0≠n)(j:Nat):nZ l n (i+1) j=nZ l n i j:=by
 unfold nZ;by_cases e:j=i;·subst e;have h1:¬(l.getD j 0=n/\j<j+1):=fun k=>h k.1;have h2:¬(l.getD j 0=n/\j<j):=fun k=>h k.1;simp only[h1,h2,or_false]
 ·exact yd (by omega) _ _
theorem KF{l:List Nat}{n i:Nat}(h:l.getD i 0=n)(j:Nat):nZ l n (i+1) j=if j=i then cV l i else nZ l n i j:=by
 unfold nZ;by_cases e:j=i;·subst e;rw[Nf rfl,Nf (Or.inr ⟨h,by omega⟩)]
 ·rw[Nd e];exact yd (by omega) _ _
theorem LY{l:List Nat}{n i j:Nat}(h:j<i):nZ l n i j=nZ l (n+1) 0 j:=by unfold nZ;exact yd (by omega) _ _
theorem Hs{l:List Nat}(h:fy l){j:Nat}(hj:j<l.length):nZ l 1 0 j= []:=by unfold nZ;have:=(h.one hj).1;rw[Nd]
theorem KE{l:List Nat}(h:fy l){j:Nat}(hj:j<l.length):nZ l 21 0 j=cV l j:=by unfold nZ;have:=(h.one hj).2;rw[Nf]
def cd(l:List Nat)(n i:Nat):Nat:=pos n i l/pw n
theorem IP{l:List Nat}(h:fy l):cd l 1 0=0:=by unfold cd;rw[Bl l h.low,Nat.zero_div]
theorem IN{l:List Nat}{n i:Nat}(hi:i<l.length)(h:l.getD i 0=n):cd l n (i+1)=cd l n i+1:=by unfold cd;rw[lB n l i hi,Nf h,Nat.add_div_right _ (gx n)]
theorem Eh{l:List Nat}{n i:Nat}(hi:i<l.length)(h:l.getD i 0≠n):cd l n (i+1)=cd l n i:=by unfold cd;rw[lB n l i hi,Nd h,NY]
theorem Eg{l:List Nat}{n i:Nat}(h:l.getD i 0=n):cd l n i=eB l i:=by unfold cd eB lie;rw[h]
theorem Ma{l:List Nat}{n i:Nat}(hi:l.length<=i)(hn:n<20):cd l (n+1) 0=2*cd l n i:=by unfold cd;rw[<- ni n l i hi];have h1:=jX (n:=n) (x:=n+1) (by omega) (by omega);rw[show n+1-n=1 by omega,Nat.pow_one]at h1;obtain⟨k,hk⟩:=qk n (by omega) l i;have hp:=gx n;have h0:=gx (n+1);rw[hk,Nat.mul_div_cancel_left k hp,h1,OY,Nat.mul_div_cancel_left _ h0]
theorem L9{l:List Nat}(h:fy l){n:Nat}(hn:n<=20)(i:Nat):cd l n i<=1048576:=by unfold cd;have h1:=J8 l h.high hn i;have h2:=h.sum;exact ND (QK _ _) (by omega)
def mE(l:List Nat)(list:List Int):List Nat:=list.flatMap fun x=>cV l x.toNat
theorem GR(l:List Nat)(a:List Int)(x:Int):mE l (a++ [x])=mE l a++cV l x.toNat:=by unfold mE;rw[OF];simp
def nj(L list:List Int):List Nat×Nat:=if bK L then(if ∀x∈list,0<=x/\x<(L.length:Int)then(mE (nl L) list,0)else([],60))else([],80)
def gf(l bs:List Nat)(en:Int):Nat->Nat->List Nat->List Nat×Nat×Nat
 | 0,at',out=>(out,at',0)
 | k+1,at',out=>match kF l (bs.drop at')with
   | .hit i=>if(i:Int)=en then(out++ [i],at'+l.getD i 0,0)else gf l bs en k (at'+l.getD i 0) (out++ [i])
   | .short=>([],0,10)
   | .code=>([],0,90)
def fP(L:List Int)(bs:List Nat)(at' n en:Int):List Nat×Nat×Nat:=if bK L then(if at'<0\/(bs.length:Int)<at'\/n<0 then([],0,2)else gf (nl L) bs en n.toNat at'.toNat [])else([],0,80)
theorem zy(l:List Nat)(i:Nat):au (cV l i):=aQ _ _
theorem eJ(l:List Nat)(i:Nat):(cV l i).length=l.getD i 0:=af _ _
def DOk(L:List Int):Prop:=2<=L.length/\L.length<=258/\∀x∈L,1<=x/\x<=20
instance (L:List Int):Decidable (DOk L):=inferInstanceAs (Decidable (_/\_))
def ups:Nat->List Nat
 | 0=> []
 | k+1=>1::0::ups k
def fW:Nat->List Nat
 | 0=> []
 | k+1=>1::1::fW k
theorem vt:∀k,ups (k+1)=ups k++ [1,0]
 | 0=>rfl
 | k+1=>by show 1::0::ups (k+1)=1::0::ups k++ [1,0];rw[vt k];rfl
theorem oF:∀k,fW (k+1)=fW k++ [1,1]
 | 0=>rfl
 | k+1=>by show 1::1::fW (k+1)=1::1::fW k++ [1,1];rw[oF k];rfl
theorem ko:∀k,(ups k).length=2*k
 | 0=>rfl
 | k+1=>by show(ups k).length+1+1=_;rw[ko k];omega
theorem ja:∀k,(fW k).length=2*k
 | 0=>rfl
 | k+1=>by show(fW k).length+1+1=_;rw[ja k];omega
theorem Ee:∀k,au (ups k)
 | 0=>fun b hb=>by cases hb
 | k+1=>fun b hb=>by
  rcases List.mem_cons.1 hb with rfl|hb;·omega
  ·rcases List.mem_cons.1 hb with rfl|hb;·omega
   ·exact Ee k b hb
theorem wg:∀k,au (fW k)
 | 0=>fun b hb=>by cases hb
 | k+1=>fun b hb=>by
  rcases List.mem_cons.1 hb with rfl|hb;·omega
  ·rcases List.mem_cons.1 hb with rfl|hb;·omega
   ·exact wg k b hb
def fJ(a x:Nat):List Nat:=ups (x-a)++fW (a-x)++ [0]
theorem mi(a x:Nat):(fJ a x).length=2*((x-a)+(a-x))+1:=by unfold fJ;rw[Nb,Nb,ko,ja];show _+1=_;omega
theorem Fi(a x:Nat):au (fJ a x):=by refine((Ee _).append (wg _)).append ?_;intro b hb;rw[List.mem_singleton.1 hb];omega
def bL:Nat->List Nat->List Nat
 | _, []=> []
 | a,x::l=>fJ a x++bL x l
theorem tf:∀(l:List Nat) (a:Nat),au (bL a l)
 | [],_=>fun b hb=>by cases hb
 | x::l,a=>(Fi a x).append (tf l x)
def ow(l:List Nat)(i:Nat):Nat:=l.getD (i-1) 0
theorem sr:∀(l:List Nat) (a x:Nat),bL a (l++ [x])=bL a l++fJ (match l.getLast? with|some y=>y|none=>a) x
 | [],a,x=>by simp[bL]
 | y::l,a,x=>by
  show fJ a y++bL y (l++ [x])=(fJ a y++bL y l)++_;rw[sr l y x,Ni];congr 2
  cases l with
  | nil=>rfl
  | cons z l=>rfl
theorem sq{l:List Nat}{i:Nat}(hi:i<l.length):bL (l.getD 0 0) (l.take (i+1))=bL (l.getD 0 0) (l.take i)++fJ (ow l i) (l.getD i 0):=by
 rw[NF hi,sr];congr 2
 ·cases i with
  | zero=>rfl
  | succ k=>rw[List.getLast?_take];unfold ow;have e:l.getD k 0=l[k]:=(by rw[Na,Nc (by omega)];rfl);rw[Nd,RV,Nc (by omega),e];rfl
 ·rw[Na,Nc hi];rfl
def bc(l:List Nat):List Nat:=ah (l.getD 0 0) 5++bL (l.getD 0 0) l
theorem wh(l:List Nat):au (bc l):=(aQ _ _).append (tf _ _)
def eN(L:List Int):List Nat×Nat:=if DOk L then(bc (nl L),0)else([],80)
def xp:Nat->List Nat->Nat
 | _, []=>0
 | a,x::l=>(x-a)+(a-x)+xp x l
theorem kU:∀(l:List Nat) (a:Nat),(bL a l).length=l.length+2*xp a l
 | [],_=>rfl
 | x::l,a=>by show(fJ a x++bL x l).length=(l.length+1)+2*((x-a)+(a-x)+xp x l);rw[Nb,mi,kU l x];omega
theorem yC(l:List Nat):(bc l).length=5+l.length+2*xp (l.getD 0 0) l:=by unfold bc;rw[Nb,af,kU];omega
theorem vc:∀(l:List Nat) (a:Nat),a<=20->(∀ x∈l,x<=20)->xp a l<=20*l.length
 | [],_,_,_=>Nk _
 | x::l,a,ha,h=>by have hx:=h x (Nh ..);have:=vc l x hx fun y hy=>h y (Nm _ hy);show(x-a)+(a-x)+xp x l<=20*(l.length+1);omega
def cD:List Nat->Nat->Nat->Nat->List Nat->List Nat×Nat×Nat
 | _,_,0,p,out=>(out,p,0)
 | [],now,_+1,_,_=>if now<1\/20<now then([],0,80)else([],0,10)
 | [b],now,n+1,p,out=>if now<1\/20<now then([],0,80)else if b=0 then(if n=0 then(out++ [now],p+1,0)else([],0,10))else([],0,10)
 | b::d::bs,now,n+1,p,out=>if now<1\/20<now then([],0,80)else if b=0 then cD (d::bs) now n (p+1) (out++ [now])else cD bs (if d=0 then now+1 else now-1) (n+1) (p+2) out
theorem iw(bs:List Nat)(now p:Nat)(out:List Nat):cD bs now 0 p out=(out,p,0):=by
 cases bs with
 | nil=>rfl
 | cons b bs=>cases bs <;>rfl
theorem jB(bs:List Nat)(now n p:Nat)(out:List Nat)(h:now<1\/20<now):cD bs now (n+1) p out=([],0,80):=by
 cases bs with
 | nil=>exact Nf h
 | cons b bs=>
  cases bs with
  | nil=>exact Nf h
  | cons d bs=>rw[cD,Nf h]
theorem lD(now n p:Nat)(out:List Nat)(h:¬(now<1\/20<now)):cD [] now (n+1) p out=([],0,10):=Nd h
theorem kd(bs:List Nat)(now n p:Nat)(out:List Nat)(h:¬(now<1\/20<now)):cD (0::bs) now (n+1) p out=cD bs now n (p+1) (out++ [now]):=by
 cases bs with
 | nil=>
  rw[cD,Nd h,Nf rfl]
  cases n with
  | zero=>rw[Nf rfl,iw]
  | succ n=>rw[Nd,lD _ _ _ _ h]
 | cons d bs=>rw[cD,Nd h,Nf rfl]
theorem nV(b now n p:Nat)(out:List Nat)(h:¬(now<1\/20<now))(hb:b≠0):cD [b] now (n+1) p out=([],0,10):=by rw[cD,Nd h,Nd hb]
theorem ix(b d:Nat)(bs:List Nat)(now n p:Nat)(out:List Nat)(h:¬(now<1\/20<now))(hb:b≠0):cD (b::d::bs) now (n+1) p out=cD bs (if d=0 then now+1 else now-1) (n+1) (p+2) out:=by rw[cD,Nd h,Nd hb]
def aN(bits:List Nat)(at' n:Int):List Nat×Nat×Nat:=
 if at'<0\/(bits.length:Int)<at'\/n<2\/258<n then([],0,2)
 else if bits.length<at'.toNat+5 then([],0,10)
 else cD (bits.drop (at'.toNat+5)) (val ((bits.drop at'.toNat).take 5)) n.toNat (at'.toNat+5) []
theorem BQ:∀(k:Nat) (rest:List Nat) (now n p:Nat) (out:List Nat),1<=now->now+k<=20->cD (ups k++rest) now (n+1) p out=cD rest (now+k) (n+1) (p+2*k) out
 | 0,rest,now,n,p,out,_,_=>rfl
 | k+1,rest,now,n,p,out,h1,h2=>by show cD (1::0::(ups k++rest)) now (n+1) p out=_;rw[ix _ _ _ _ _ _ _ (by omega) (by omega),Nf rfl,BQ k rest (now+1) n (p+2) out (by omega) (by omega)];rw[show now+1+k=now+(k+1) by omega,show p+2+2*k=p+2*(k+1) by omega]
theorem vl:∀(k:Nat) (rest:List Nat) (now n p:Nat) (out:List Nat),k+1<=now->now<=20->cD (fW k++rest) now (n+1) p out=cD rest (now-k) (n+1) (p+2*k) out
 | 0,rest,now,n,p,out,_,_=>rfl
 | k+1,rest,now,n,p,out,h1,h2=>by show cD (1::1::(fW k++rest)) now (n+1) p out=_;rw[ix _ _ _ _ _ _ _ (by omega) (by omega),Nd,vl k rest (now-1) n (p+2) out (by omega) (by omega)];rw[show now-1-k=now-(k+1) by omega,show p+2+2*k=p+2*(k+1) by omega]
theorem KM(a x:Nat)(rest:List Nat)(n p:Nat)(out:List Nat)(ha:1<=a/\a<=20)(hx:1<=x/\x<=20):cD (fJ a x++rest) a (n+1) p out=cD rest x n (p+(fJ a x).length) (out++ [x]):=by have e:fJ a x++rest=ups (x-a)++(fW (a-x)++(0::rest)):=(by unfold fJ;simp);have hl:=mi a x;rw[e,BQ _ _ _ _ _ _ ha.1 (by omega),vl _ _ _ _ _ _ (by omega) (by omega),show a+(x-a)-(a-x)=x by omega,kd _ _ _ _ _ (by omega)];rw[show p+2*(x-a)+2*(a-x)+1=p+(fJ a x).length by omega]
theorem vn:∀(l:List Nat) (a:Nat) (rest:List Nat) (p:Nat) (out:List Nat),(1<=a/\a<=20)->(∀ x∈l,1<=x/\x<=20)->cD (bL a l++rest) a l.length p out=(out++l,p+(bL a l).length,0)
 | [],a,rest,p,out,_,_=>by rw[Ox,iw];simp[bL]
 | x::l,a,rest,p,out,ha,h=>by have hx:=h x (Nh ..);show cD (fJ a x++bL x l++rest) a (l.length+1) p out=(out++x::l,p+(fJ a x++bL x l).length,0);rw[Ni,KM a x _ _ _ _ ha hx,vn l x rest _ _ hx fun y hy=>h y (Nm _ hy),Nb];simp[OQ]
theorem Aq{l:List Nat}(h0:0<l.length)(h:∀x∈l,1<=x/\x<=20):1<=l.getD 0 0/\l.getD 0 0<=20:=by refine h _ ?_;rw[Na,Nc h0];exact NM h0
theorem Jm{x:Nat}(h:x<=20)(rest:List Nat):val ((ah x 5++rest).take 5)=x:=by rw[RE (af 5 x),eG,NL (by omega)]
theorem rt{l:List Nat}(h2:2<=l.length)(h0:l.length<=258)(h:∀x∈l,1<=x/\x<=20)(pre fT rest:List Nat)(hm:∀bs n p,cD (fT++bs) (l.getD 0 0) (n+1) p []=cD bs (l.getD 0 0) (n+1) (p+fT.length) []):
 aN (pre++(ah (l.getD 0 0) 5++(fT++(bL (l.getD 0 0) l++rest)))) (pre.length:Nat) (l.length:Nat)=(l,pre.length+(bc l).length+fT.length,0):=by have hf:=Aq (by omega) h;have h1:(pre++(ah (l.getD 0 0) 5++(fT++(bL (l.getD 0 0) l++rest)))).length=pre.length+5+fT.length+(bL (l.getD 0 0) l).length+rest.length:=(by simp only[Nb,af];omega);unfold aN;rw[Nd,Nv,Nv,Nd,Qj,Jm hf.2];have hd:(pre++(ah (l.getD 0 0) 5++(fT++(bL (l.getD 0 0) l++rest)))).drop (pre.length+5)=fT++(bL (l.getD 0 0) l++rest):=(by rw[<- Qw,Qj,Rg (af 5 _)]);rw[hd];obtain⟨n,hn⟩:∃n,l.length=n+1:=⟨l.length-1,by omega⟩;rw[hn,hm,<-hn,vn l _ rest _ _ hf h];have e:pre.length+5+fT.length+(bL (l.getD 0 0) l).length=pre.length+(bc l).length+fT.length:=(by rw[bc,Nb,af];omega);rw[e];rfl
open Go.RowKit
theorem qZ:(prog.info? 37).map (fun i=>(i.zero,i.size,i.bytes))=some (some (.slice none 0 0),1,24):=by kernel_rfl
def vv(w:World)(g n:Nat)(C:Nat->List Nat):Prop:=∀j,j<n->∃A k,w.cell? ⟨g,j,none⟩=some (.slice A (C j).length k)/\aB w A (C j).length (C j)/\(C j).length<=k
theorem vv.below{w w':World}{g n:Nat}{C:Nat->List Nat}(h:vv w g n C)(hb:Below w.heap.size w w'):vv w' g n C:=by intro j hj;obtain⟨A,k,h1,h2,h3⟩:=h j hj;exact⟨A,k,(hb.cell (p:=⟨g,j,none⟩) (No w _ h1)).trans h1,cF h2 hb,h3⟩
def dC(w:World)(B g n:Nat)(C:Nat->List Nat):Prop:=∃F:Nat->Value,w.ownsRow B 37 1 (.slice (some ⟨g,0,none⟩) n n) n ((List.range n).map F)/\
 ∀j,j<n->∃A k,F j=.slice A (C j).length k/\(C j).length<=k/\w.ownsRow B 3 1 (F j) (C j).length ((C j).map iv)
theorem dC.same{w:World}{B g n:Nat}{C D:Nat->List Nat}(h:dC w B g n C)(hs:∀j,j<n->C j=D j):dC w B g n D:=by obtain⟨F,h1,h2⟩:=h;refine⟨F,h1,fun j hj=> ?_⟩;rw[<- hs j hj];exact h2 j hj
theorem dC.step{w w':World}{B B' g n:Nat}{C:Nat->List Nat}(h:dC w B g n C)(hs:ak B' [] [] w w'):dC w' B g n C:=by obtain⟨F,h1,h2⟩:=h;refine⟨F,hs.row h1 (fun _ _=>aw) aw,fun j hj=> ?_⟩;obtain⟨A,k,a,b,c⟩:=h2 j hj;exact⟨A,k,a,b,hs.row c (fun _ _=>aw) aw⟩
theorem dC.read{w:World}{B g n:Nat}{C:Nat->List Nat}(h:dC w B g n C):vv w g n C:=by
 obtain⟨F,h1,h2⟩:=h;intro j hj;obtain⟨A,k,a,b,c⟩:=h2 j hj;refine⟨A,k,?_,?_,b⟩;·rw[Oy h1 j (by omega),Np,NJ hj,<-a];rfl
 ·rw[a]at c;exact aE c
theorem dC.frozen{w:World}{B g n:Nat}{C:Nat->List Nat}(h:dC w B g n C)(i:Nat):w.frozen? ⟨g,i,none⟩=false:=by obtain⟨F,h1,_⟩:=h;exact QD h1 i
theorem dC.there{w:World}{B g n:Nat}{C:Nat->List Nat}(h:dC w B g n C)(i:Nat)(hi:i<n):∃v,w.cell? ⟨g,i,none⟩=some v:=by obtain⟨A,k,h1,_⟩:=h.read i hi;exact⟨_,h1⟩
theorem dC.set{w:World}{B g n:Nat}{C:Nat->List Nat}(h:dC w B g n C)(i:Nat){A:Option Addr}{k:Nat}{L:List Nat}(hL:w.ownsRow B 3 1 (.slice A L.length k) L.length (L.map iv))(hk:L.length<=k):
 dC (w.setCell ⟨g,i,none⟩ (.slice A L.length k)) B g n fun j=>if j=i then L else C j:=by
 obtain⟨F,h1,h2⟩:=h;have h3:=Qo h1 i (.slice A L.length k);have h0:((List.range n).map F).set i (.slice A L.length k)=(List.range n).map fun j=>if j=i then(.slice A L.length k)else F j:=by
  apply Ob;intro j;rw[QQ];by_cases e:i=j
  ·subst e;by_cases hj:i<n;·simp[hj]
   ·simp[hj]
  ·have e':¬j=i:=fun k=>e k.symm;rw[Nd e,Np,Np];by_cases hj:j<n;·rw[NJ hj];simp[e']
   ·rw[Nw (by rw[NE];omega)];rfl
 rw[h0]at h3;have keep:∀(v:Value) (m:Nat) (xs:List Value),w.ownsRow B 3 1 v m xs->(w.setCell ⟨g,i,none⟩ (.slice A L.length k)).ownsRow B 3 1 v m xs:=by intro v m xs hv;refine hv.kept h3.2 (.inr fun e=> ?_);obtain⟨c1,f1,e1⟩:=Lib.ownsRow_kind hv g e;obtain⟨c2,f2,e2⟩:=Lib.ownsRow_kind h1 g rfl;rw[e1]at e2;simp at e2
 refine⟨_,h3.1,fun j hj=> ?_⟩;by_cases e:j=i
 ·refine⟨A,k,?_,?_,?_⟩;·simp only[Nf e]
  ·simp only[Nf e];exact hk
  ·simp only[Nf e];exact keep _ _ _ hL
 ·obtain⟨A2,k2,a,b,c⟩:=h2 j hj;refine⟨A2,k2,?_,?_,?_⟩;·simp only[Nd e];exact a
  ·simp only[Nd e];exact b
  ·simp only[Nd e];exact keep _ _ _ c
theorem KG(w:World)(B n:Nat)(hB:B<=w.heap.size)(hn:n<=1000):dC (w.alloc (.cells (madeCells #[.slice none 0 0] n) 37)) B w.heap.size n fun _=> []:=by refine⟨fun _=>.slice none 0 0,⟨by simp,.inr ⟨w.heap.size,n,_,rfl,hB,PC w _,Nk _,by unfold maxLen;omega,by rw[Ro,Oc],?_⟩⟩,fun j _=>⟨none,0,rfl,Nk _,Nt _ _ _ _⟩⟩;rw[PX,Oc,Nr (by simp),PI,NE]
theorem Hu(w:World)(A:Option Addr)(n c:Nat)(L:List Int)(hL:ZIn w A n L)(h9:bK L):Calls prog 121 #[.slice A n c] w fun e w'=>∃g,e=.returned (.slice (some ⟨g,0,none⟩) n n)/\dC w' w.heap.size g n (cV (nl L))/\Below w.heap.size w w':=by
 obtain⟨i2,h2,hy⟩:=Option.map_eq_some_iff.1 qZ;simp only[Ps]at hy;obtain⟨hP,hQ,hR⟩:=hy;have hA:=hL.1;have hX:n<=258:=by have:=h9.2.1;omega
 have hW:2<=n:=by have:=h9.1;omega
 obtain⟨b,off,rfl,hc⟩:=hL.2 (by omega);have hC:∀w1:World,(Instr.makeSlice 41 (.int .i64 n) (.int .i64 n)).run prog w1=.ok (.slice (some ⟨w1.heap.size,0,none⟩) n n) (w1.alloc (.cells (madeCells #[.slice none 0 0] n) 37)):=by intro w1;have h:=Qv (P:=prog) w1 41 37 i2 (.slice none 0 0) underlying41 h2 hP .i64 .i64 (n:Int) (n:Int) (by omega) (by omega) (by rw[hR];omega) (by omega);rw[hQ,Nv,Oc]at h;exact h
 have hr:=hC w;have h7:=fM h9;have HF:=aa h7;obtain⟨l,hl⟩:∃l,l=nl L:=⟨_,rfl⟩;have hz:l.length=n:=by rw[hl,bN,hA]
 have hf:=aa hz;have h8:∀i,i<n->w.cell? ⟨b,off+i,none⟩=some (.int .i64 (l.getD i 0:Nat)):=by intro i hi;rw[hc i hi,hl,nf];have:0<=L.getD i 0:=(by rw[Na,Nc (by omega)];have:=(h9.2.2.1 L[i] (NM ..)).1;show(0:Int)<=L[i];omega);rw[PH this]
 have hm:=aa h8;have h4:=aa fu;have hv:dC (w.alloc (.cells (madeCells #[.slice none 0 0] n) 37)) w.heap.size w.heap.size n (nZ l 1 0):=(KG w w.heap.size n (ag _) (by omega)).same fun j hj=>(Hs (hl ▸ HF.out) (by omega)).symm;rw[<- hl]at HF |-;clear hC hc hL h9 hA hz h8 hl;have ht:=aa hv;clear hv h7;go_enter func121,ntmps121;go_wp2_with fail;clear hr;go_loopw [4,5] (fun cv nv wx=>∃q k:Nat,1<=q/\q<=21/\nv=.int .i64 q/\cv=.int .i64 k/\k<=1048576/\Hid (q<=20->2*k=cd l q 0)/\dC wx w.heap.size w.heap.size n (nZ l q 0)/\Below w.heap.size w wx) (fun _ nv _=>22-(intOf nv).toNat)
 case atStart=>exact⟨1,0,Nk _,by omega,rfl,rfl,by omega,aa fun _=>(IP HF.out).symm,ht.out,(Nj _ _).alloc (ag _) _⟩
 case round=>
  obtain⟨q,k,hY,hZ,rfl,rfl,hk,h1,hT,hb⟩:=hrel;have HT:=aa hT;have HB:=aa hb;clear hT hb ht;by_cases e:q<=20
  ·have d0:decide ((q:Int)<=20)=true:=bE;have hM:=h1.out e;obtain⟨k2,hq⟩:∃k2,k2=k*2:=⟨_,rfl⟩;have hV:(k:Int)*2=(k2:Int):=(by omega);have HK:Hid (k2=cd l q 0):=aa (by omega);have hN:k2<=2097152:=(by omega);clear hM hq h1;go_wp2_with fail;(go_loopw [4,6] (fun cv iv wx=>∃i k:Nat,i<=n/\iv=.int .i64 i/\cv=.int .i64 k/\Hid (k=cd l q i)/\dC wx w.heap.size w.heap.size n (nZ l q i)/\Below w.heap.size w wx) (fun _ iv _=>n-(intOf iv).toNat));case atStart=>exact⟨0,k2,Ng _,rfl,rfl,HK,HT.out,HB.out⟩
   case round=>
    rename World=>wi;obtain⟨i,k,hi,rfl,rfl,h1,hT,hb⟩:=hrel;have hF:=hb.size;have HT:=aa hT;have HB:=aa hb;have hO:k<=1048576:=(by rw[h1.out];exact L9 HF.out (by omega) i);clear hT hb;by_cases e1:i<n
    ·have hh:=hm.out i e1;have hB:=No w _ hh;have hK:=(HB.out.cell (p:=⟨b,off+i,none⟩) hB).trans hh;obtain⟨x,hx⟩:∃x,x=l.getD i 0:=⟨_,rfl⟩;rw[<- hx]at hh hK;have HX:=aa hx;clear hx hB hh;by_cases e2:x=q
     ·subst e2;have d2:((x:Int)==(x:Int))=true:=O9 _;have hH:=aa (h4.out wi k x (by omega) (by omega));have h3:ah k x=cV l i:=(by unfold cV;rw[<- HX.out,h1.out,Eg HX.out.symm]);have h5:=aa h3;have he:cd l x (i+1)=k+1:=(by rw[IN (by rw[hf.out];exact e1) HX.out.symm,h1.out]);have hn:=aa he;clear h3 he;go_wp2_with fail;refine hH.out.mono ?_;rintro e w3 ⟨g2,cap2,rfl,ha,hp⟩;have h0:w3.ownsRow w.heap.size 3 1 (.slice (some ⟨g2,0,none⟩) (cV l i).length cap2) (cV l i).length ((cV l i).map iv):=(by have h:=World.ownsRow.mono ha hF;rw[h5.out]at h;rw[eJ,<-HX.out];exact h);obtain⟨_,_,hE,h6,_,_⟩:=ai h0;simp only[Ol]at hE;obtain⟨rfl,_,rfl⟩:=hE;have hg:=HT.out.step (an hp);have ho:=hg.set i h0 h6;rw[eJ,<-HX.out]at ho;have hu:=HB.out.trans (hp.mono hF);obtain⟨v0,H0⟩:=hg.there i e1;have hS:=hg.frozen i;have hI:=aa ho;have hG:=aa (hu.setCell (p:=⟨w.heap.size,i,none⟩) (ag _) (.slice (some ⟨g2,0,none⟩) x cap2));clear ha hp h0 h6 hg ho hu;go_wp2_with fail;go_roundw;case rel=>refine⟨i+1,k+1,by omega,by go_num,by go_num,aa hn.out.symm,hI.out.same fun j hj=> ?_,hG.out⟩;exact(KF HX.out.symm j).symm
      case measure=>simp[intOf];omega
     ·have d2:((x:Int)==(q:Int))=false:=(by rw[NC];omega);have hD:l.getD i 0≠q:=(by rw[<- HX.out];exact e2);have hs:=aa hD;clear hD;go_wp2_with fail;go_roundw;case rel=>exact⟨i+1,k,by omega,by go_num,rfl,aa (by rw[Eh (by rw[hf.out];exact e1) hs.out];exact h1.out),HT.out.same fun j _=>(Ht hs.out j).symm,HB.out⟩
      case measure=>simp[intOf];omega
    ·obtain rfl:i=n:=(by omega);go_wp2_with fail;go_roundw;case rel=>exact⟨q+1,k,by omega,by omega,by go_num,rfl,hO,aa fun h=>by rw[h1.out,Ma (by rw[hf.out];exact Nk _) (by omega)],HT.out.same fun j hj=>LY hj,HB.out⟩
     case measure=>simp[intOf];omega
  ·obtain rfl:q=21:=(by omega);have hw:=HT.out.same fun j hj=>KE HF.out (by rw[hf.out];exact hj);have hJ:=aa hw;clear hw h1;go_wp2_with fail;go_ret;exact⟨_,rfl,hJ.out,HB.out⟩
