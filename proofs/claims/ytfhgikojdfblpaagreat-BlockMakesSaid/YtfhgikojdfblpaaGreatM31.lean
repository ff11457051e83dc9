import Derived.Test.YtfhgikojdfblpaaGreatM20
import Derived.Test.YtfhgikojdfblpaaGreatM21
import Derived.Test.YtfhgikojdfblpaaGreatM22
import Derived.Test.YtfhgikojdfblpaaGreatM27
import Derived.Test.YtfhgikojdfblpaaGreatM28
import Derived.Test.YtfhgikojdfblpaaGreatM30
set_option maxHeartbeats 3200000
set_option maxRecDepth 100000
namespace Go.Proofs.YtfhgikojdfblpaaGreat
open _root_.Go.Proofs.Tryz
open Go.RowKit
noncomputable def LI (t:List UInt8):List Nat:=open Classical in if h:∃L,S05.ep t L then Classical.choose h else []
theorem md{t:List UInt8}{L:List Nat}(h:S05.ep t L):L=LI t:=by unfold LI;rw[dif_pos ⟨L,h⟩];exact S05.Gk h (Classical.choose_spec (⟨L,h⟩:∃L,S05.ep t L))
noncomputable def mh (t:List UInt8):Nat:=(LI t).idxOf 0
noncomputable def iT (t:List UInt8):List UInt8:=S05.bz t (LI t)
theorem sN{t:List UInt8}{L:List Nat}{k:Nat}(h:S05.ep t L)(hk:k<L.length)(h0:L.getD k 0=0):k=mh t:=by have hL:=md h;unfold mh;rw[<- hL];have hm:(0:Nat)∈L:=(by rw[<- h0,Na,Nc hk];exact NM hk);have h1:=Ph hm;have h2:L[L.idxOf 0]=0:=List.getElem_idxOf h1;have h3:L[k]=0:=(by rw[Na,Nc hk]at h0;exact h0);exact S05.rf (S05.iL h) hk h1 (h3.trans h2.symm)
noncomputable def dB (t:List UInt8):List Nat:=(S06.cz (iT t) (S06.ofL t)).getD []
noncomputable def bO (t:List UInt8):List Nat:=S07.eM (S06.ofL t).length 0 (dB t)
noncomputable def aL (t:List UInt8):List (List Int)×List Int×Nat:=ew (zL (bO t)) ((S06.ofL t).length+2:Nat)
noncomputable def fF (s:List UInt8):List Nat:=ah 54156738319193 48++ah (S02.dQ s) 32++ah (mh (S03.bW s)) 25
noncomputable def gR (t:List UInt8):List Nat:=(cP (aL t).1 (aL t).2.1).1++(aT (aL t).1 (aL t).2.1 (zL (bO t))).1
noncomputable def dS (s:List UInt8):List Nat:=fF s++S06.bU (S06.ofL (S03.bW s))++gR (S03.bW s)
noncomputable def df (s:List UInt8):List Nat×Nat:=if s= []then([],2)else if 262144<(S03.bW s).length then([],3)else(dS s,0)
def dZ(l:List Nat)(p:Nat):Nat×Nat×Nat:=
 if l.length<p+48 then(0,0,10)
 else if val ((l.drop p).take 48)≠54156738319193 then(0,0,120)
 else if l.length<p+48+32 then(0,0,10)
 else if l.length<p+80+1 then(0,0,10)
 else if val ((l.drop (p+80)).take 1)≠0 then(0,0,120)
 else if l.length<p+81+24 then(val ((l.drop (p+48)).take 32),0,10)
 else(val ((l.drop (p+48)).take 32),val ((l.drop (p+81)).take 24),0)
def mJ(col:List UInt8)(row:Nat):List UInt8×Nat:=if 262144<col.length then([],3)else if col.length<=row then([],50)else(S05.jG col row,0)
def xh(l:List Nat)(sum row q:Nat)(most:Int):List UInt8×Nat×Nat×Nat:=
 let u:=S06.aN l (q:Nat)
 if u.2.2≠0 then([],0,0,u.2.2)else
 let g:=gD l (u.2.1:Nat) ((u.1.length+2:Nat):Int)
 if g.2.2.2≠0 then([],0,0,g.2.2.2)else
 let c:=mD g.1 g.2.1 l (g.2.2.1:Nat)
 if c.2.2≠0 then([],0,0,c.2.2)else
 let d:=S07.fD (u.1.length:Nat) most (zL c.1)
 if d.2≠0 then([],0,0,d.2)else
 let b:=mJ (S06.fq (zL d.1) u.1).1 row
 if b.2≠0 then([],0,0,b.2)else
 let x:=S03.fE [] b.1
 if x.2≠0 then([],0,0,x.2)else
 if S02.dQ x.1≠sum then([],0,0,121)else(x.1,sum,c.2.1,0)
def mq(l:List Nat)(at' most:Int):List UInt8×Nat×Nat×Nat:=
 if at'<0\/(l.length:Int)<at'\/most<1\/262144<most then([],0,0,2)
 else if(dZ l at'.toNat).2.2≠0 then([],0,0,(dZ l at'.toNat).2.2)
 else xh l (dZ l at'.toNat).1 (dZ l at'.toNat).2.1 (at'.toNat+105) most
theorem rN:∀(s list:List UInt8) (l:List Nat),S06.cz s list=some l->∀x∈l,x<list.length
 | [],list,l,h,x,hx=>by simp only[S06.cz,Oj]at h;rw[<- h]at hx;exact absurd hx aw
 | b::s,list,l,h,x,hx=>by
  rw[S06.cz]at h;by_cases hb:b∈list
  ·have h1:=Ph hb;rw[Nf hb]at h;obtain⟨m,hm,rfl⟩:=Option.map_eq_some_iff.1 h;rcases List.mem_cons.1 hx with rfl|hx;·exact h1
   ·have h2:=rN s _ m hm x hx;rwa [S06.eh _ _ h1]at h2
  ·rw[Nd hb]at h;cases h
theorem qT(n:Nat)(hn:1<=n):∀(l:List Nat) (r:Nat),(∀ x∈l,x<n)->∃init,S07.eM n r l=init++ [n+1]/\∀x∈init,x<=n
 | [],r,_=>⟨S07.dig r,rfl,fun x hx=>by have:=S07.Em r x hx;omega⟩
 | y::l,r,h=>by
  have hl:∀x∈l,x<n:=fun x hx=>h x (Nm _ hx);by_cases hy:y=0;·rw[hy,S07.tT];exact qT n hn l (r+1) hl
  ·obtain⟨init,h1,h2⟩:=qT n hn l 0 hl;have h0:=h y Nh;refine⟨S07.dig r++(y+1)::init,by rw[S07.tR n r y l hy,h1];simp,fun x hx=> ?_⟩;rcases List.mem_append.1 hx with hx|hx;·have:=S07.Em r x hx;omega
   ·rcases List.mem_cons.1 hx with rfl|hx;·omega
    ·exact h2 x hx
theorem ym(s:List UInt8):(S06.ofL s).length<=256:=by have h:=QP (fun b=>decide (b∈s)) S06.za;have h2:S06.za.length=256:=(by simp[S06.za]);unfold S06.ofL;omega
theorem sJ{s:List UInt8}(h:s≠ []):1<=(S06.ofL s).length:=by
 have:=(S06.pX s h).1;rcases hl:S06.ofL s with _|⟨x,l⟩;·exact absurd hl this
 ·simp
theorem LR(t:List UInt8)(i:Nat)(h:0<t.length):S05.rat t i∈t:=by unfold S05.rat;have hi:=Po i h;rw[Na,Nc hi];exact NM hi
section
variable {t:List UInt8} {k:Nat} (hO:S05.B1 t 0 k) (ht:t≠ []) (htl:t.length<=262144)
include hO
theorem Ko:k=mh t:=by obtain⟨L,h1,h2,h3⟩:=hO;exact sN h1 h2 h3
theorem lT:(iT t).length=t.length:=by obtain⟨L,h1,h2,h3⟩:=hO;unfold iT;rw[S05.bD,<-md h1,S05.dM h1]
theorem uV:mh t<t.length:=by rw[<- Ko hO];obtain⟨L,h1,h2,h3⟩:=hO;rw[<- S05.dM h1];exact h2
theorem I5:S05.jG (iT t) (mh t)=t:=by have hr:=uV hO;have hk:=Ko hO;obtain⟨L,h1,h2,h3⟩:=hO;unfold iT;rw[<- md h1,S05.IB h1 _ hr,<-hk,h3,S05.G0]
theorem Lq(x:UInt8)(hx:x∈iT t):x∈S06.ofL t:=by obtain⟨L,h1,h2,h3⟩:=hO;unfold iT S05.bz at hx;rw[<- md h1]at hx;obtain⟨i,hi,rfl⟩:=List.mem_map.1 hx;have hl:=(h1.2 i).1 hi;rw[S06.nN];exact LR t _ (by omega)
theorem mg:S06.cz (iT t) (S06.ofL t)=some (dB t)/\(dB t).length=t.length/\∀x∈dB t,x<(S06.ofL t).length:=by obtain⟨l,h1,h2⟩:=S06.tW (iT t) (S06.ofL t) (Lq hO);have e:dB t=l:=(by unfold dB;rw[h1];rfl);rw[e];exact⟨h1,h2.trans (lT hO),rN _ _ _ h1⟩
include ht htl
theorem jT:eY (zL (bO t)) (((S06.ofL t).length+2:Nat):Int)/\Ir (zL (bO t)) (((S06.ofL t).length+2:Nat):Int)/\(bO t).length<=t.length+1:=by
 have hn:=sJ ht;have ha:=ym t;obtain⟨hb,hc,h8⟩:=mg hO;obtain⟨init,h1,h2⟩:=qT (S06.ofL t).length hn (dB t) 0 h8;have h7:=S07.oG (S06.ofL t).length (dB t) 0;have hL:bO t=init++ [(S06.ofL t).length+1]:=h1;have h0:(bO t).length<=t.length+1:=by unfold bO;omega
 have hz:(zL (bO t)).length=(bO t).length:=by unfold zL;rw[Nu]
 have h9:(bO t).length=init.length+1:=by rw[hL,Nb,NP]
 refine⟨⟨by omega,by omega,by omega,by omega,fun x hx=> ?_⟩,fun j hj=> ?_,h0⟩
 ·unfold zL at hx;obtain⟨y,hy,rfl⟩:=List.mem_map.1 hx;rw[hL]at hy;rcases List.mem_append.1 hy with hy|hy;·have:=h2 y hy;omega
  ·rw[List.mem_singleton.1 hy];omega
 ·rw[hz]at hj |-;have hg:(zL (bO t)).getD j 0=((bO t).getD j 0:Nat):=by unfold zL;rw[Na,Np,Na,Nc hj];rfl
  rw[hg];by_cases h5:j<init.length
  ·have h3:(bO t).getD j 0<=(S06.ofL t).length:=(by rw[hL,Na,NW h5,Nc h5];exact h2 _ (NM h5));constructor;·intro h4;omega
   ·intro h4;omega
  ·have h6:j=init.length:=(by omega);have h3:(bO t).getD j 0=(S06.ofL t).length+1:=(by rw[hL,h6,Na,NO (ag _),Oz];rfl);constructor;·intro _;omega
   ·intro _;omega
theorem lA(w:World):eX (aL t).1 (aL t).2.1 (zL (bO t)) (((S06.ofL t).length+2:Nat):Int):=(nC w (jT hO ht htl).1).1
theorem EM(w:World):gR t=gQ ((aL t).1.map nl) (nl (aL t).2.1)++dI ((aL t).1.map nl) (nl (aL t).2.1) (nl (zL (bO t))) (zL (bO t)).length/\(aT (aL t).1 (aL t).2.1 (zL (bO t))).2=0:=by have hg:=lA hO ht htl w;have hM:=(jT hO ht htl).1;unfold gR;rw[nE hg,jQ hg hM];exact⟨rfl,rfl⟩
theorem GV(w:World)(s:List UInt8)(sum:Nat)(hs:S03.bW s=t)(ha:s.length<=262144)(B Z:List Nat)(hZ:au Z)(most:Int)(h1:1<=most)(h2:most<=262144):
 xh (B++(S06.bU (S06.ofL t)++gR t)++Z) sum (mh t) B.length most=if(t.length:Int)<=most then(if S02.dQ s≠sum then([],0,0,121)else(s,sum,B.length+(S06.bU (S06.ofL t)++gR t).length,0))else([],0,0,3):=by
 have hg:=lA hO ht htl w;obtain⟨hM,hE,h6⟩:=jT hO ht htl;obtain⟨h7,h8,h9⟩:=mg hO;have hn:=sJ ht;have hc:=ym t;have hb:=lT hO;have h5:=I5 hO;have he:=uV hO;obtain⟨h0,_⟩:=EM hO ht htl w;obtain⟨SH,h3⟩:∃x,x=S06.bU (S06.ofL t):=⟨_,rfl⟩;obtain⟨PB,h4⟩:∃x,x=gQ ((aL t).1.map nl) (nl (aL t).2.1):=⟨_,rfl⟩;obtain⟨CQ,hCQ⟩:∃x,x=dI ((aL t).1.map nl) (nl (aL t).2.1) (nl (zL (bO t))) (zL (bO t)).length:=⟨_,rfl⟩;rw[<- h4,<-hCQ]at h0;have e1:S06.aN (B++(SH++gR t)++Z) (B.length:Nat)=(S06.ofL t,B.length+SH.length,0):=by have h:=S06.rt (S06.ofL t) (S06.pX t ht) B (gR t++Z);unfold S06.aN;rw[Nd,Nv,show B++(SH++gR t)++Z=B++S06.bU (S06.ofL t)++(gR t++Z) by rw[h3];simp only[Ni],h,h3]
 have e2:gD (B++(SH++gR t)++Z) ((B.length+SH.length:Nat):Nat) (((S06.ofL t).length+2:Nat):Int)=((aL t).1,(aL t).2.1,B.length+SH.length+PB.length,0):=by have h:=D0 hg hM (B++SH) (CQ++Z);rw[<- h4,Nb]at h;rw[<- h,h0];simp only[Ni]
 have e3:mD (aL t).1 (aL t).2.1 (B++(SH++gR t)++Z) ((B.length+SH.length+PB.length:Nat):Nat)=(bO t,B.length+SH.length+PB.length+CQ.length,0):=by have h:=F7 hg hM hE (B++SH++PB) Z hZ;rw[<- hCQ,Nb,Nb,AV]at h;rw[<- h,h0];simp only[Ni]
 have e4:S07.fD ((S06.ofL t).length:Nat) most (zL (bO t))=if(t.length:Int)<=most then(dB t,0)else([],3):=by
  have h:=S07.pO (S06.ofL t).length most.toNat hn (dB t) 0 [] h9 (Ng _);unfold S07.fD;rw[Nd,Nv,show zL (bO t)=S07.ints (S07.eM (S06.ofL t).length 0 (dB t))from rfl,h,h8];simp only[Ox,P6,Ok,N8,NY];by_cases hm:(t.length:Int)<=most;·rw[Nf hm,Nf]
  ·rw[Nd hm,Nd]
 have e5:S06.fq (zL (dB t)) (S06.ofL t)=(iT t,0):=by have h:=S06.td _ _ _ h7;unfold S06.fq;rw[Nf (S06.pX t ht),show zL (dB t)=(dB t).map fun(x:Nat)=>(x:Int)from rfl,h]
 have e6:mJ (iT t) (mh t)=(t,0):=by unfold mJ;rw[Nd,Nd,h5]
 have e7:S03.fE [] t=(s,0):=by rw[<- hs];exact S03.pO s ha
 have eL:B.length+(SH++gR t).length=B.length+SH.length+PB.length+CQ.length:=by rw[h0];simp only[Nb];omega
 rw[<- h3,eL];unfold xh;simp only[e1,e2,e3,e4];by_cases hm:(t.length:Int)<=most;·simp[Nf hm,e5,e6,e7]
 ·simp[Nd hm]
end
theorem ru(x n:Nat)(h:x<2^n)(R:List Nat):val ((ah x n++R).take n)=x:=by rw[RE (af n x),eG,NL h]
theorem xU(B C R:List Nat)(p:Nat)(h:p=B.length+C.length):(B++(C++R)).drop p=R:=by rw[h,<-Ni,<-Nb,Qj]
theorem ft(s:List UInt8):(fF s).length=105:=by unfold fF;simp only[Nb,af]
theorem Ge(s:List UInt8)(hr:mh (S03.bW s)<2^24)(B R:List Nat):dZ (B++(fF s++R)) B.length=(S02.dQ s,mh (S03.bW s),0):=by have hl:(B++(fF s++R)).length=B.length+105+R.length:=(by rw[Nb,Nb,ft,OQ]);obtain⟨M,hM⟩:∃M,M=ah 54156738319193 48:=⟨_,rfl⟩;obtain⟨S,hS⟩:∃S,S=ah (S02.dQ s) 32:=⟨_,rfl⟩;obtain⟨W,hW⟩:∃W,W=ah (mh (S03.bW s)) 24:=⟨_,rfl⟩;have h0:M.length=48:=(by rw[hM,af]);have h1:S.length=32:=(by rw[hS,af]);have h2:ah (mh (S03.bW s)) 25=0::W:=(by rw[rF,hW];congr 1;omega);have hH:fF s=M++S++(0::W):=(by unfold fF;rw[h2,hM,hS]);have hb:S02.dQ s<2^32:=S02.pD s;have g0:(B++(fF s++R)).drop B.length=M++(S++(0::W)++R):=(by rw[Qj,hH];simp only[Ni]);have g1:(B++(fF s++R)).drop (B.length+48)=S++((0::W)++R):=(by rw[hH,Ni,Ni];exact xU B M _ _ (by rw[h0]));have g2:(B++(fF s++R)).drop (B.length+80)=(0::W)++R:=(by rw[hH,Ni];exact xU B (M++S) _ _ (by rw[Nb,h0,h1]));have g3:(B++(fF s++R)).drop (B.length+81)=W++R:=(by have e:B++(fF s++R)=B++((M++S++ [0])++(W++R)):=(by rw[hH];simp);rw[e];exact xU B (M++S++ [0]) _ _ (by simp only[Nb,h0,h1,NP]));have v0:val ((M++(S++(0::W)++R)).take 48)=54156738319193:=(by rw[hM];exact ru _ 48 (by omega) _);have v1:val ((S++((0::W)++R)).take 32)=S02.dQ s:=(by rw[hS];exact ru _ 32 hb _);have v2:val (((0::W)++R).take 1)=0:=rfl;have v3:val ((W++R).take 24)=mh (S03.bW s):=(by rw[hW];exact ru _ 24 hr _);unfold dZ;rw[hl,g0,g1,g2,g3,v0,v1,v2,v3];rw[Nd,Nd (by simp),Nd,Nd,Nd (by simp),Nd]
theorem Cn(w:World){s:List UInt8}{k:Nat}(hO:S05.B1 (S03.bW s) 0 k)(ht:S03.bW s≠ [])(htl:(S03.bW s).length<=262144)(h4:s.length<=262144)(B Z:List Nat)(hZ:au Z)(most:Int)(h1:1<=most)(h2:most<=262144):
 mq (B++dS s++Z) (B.length:Nat) most=if((S03.bW s).length:Int)<=most then(s,S02.dQ s,B.length+(dS s).length,0)else([],0,0,3):=by
 have hr:=uV hO;obtain⟨X,hX⟩:∃X,X=S06.bU (S06.ofL (S03.bW s))++gR (S03.bW s):=⟨_,rfl⟩;have e0:dS s=fF s++X:=by unfold dS;rw[hX,Ni]
 have e1:B++dS s++Z=B++(fF s++(X++Z)):=by rw[e0];simp only[Ni]
 have e2:B++(fF s++(X++Z))=(B++fF s)++X++Z:=by simp only[Ni]
 have hh:=Ge s (by omega) B (X++Z);have h0:=GV hO ht htl w s (S02.dQ s) rfl h4 (B++fF s) Z hZ most h1 h2;rw[<- hX,Nd (show ¬S02.dQ s≠S02.dQ s from fun h=>h rfl)]at h0;have hl:(B++fF s).length=B.length+105:=by rw[Nb,ft]
 rw[hl]at h0;have h3:B.length+(dS s).length=B.length+105+X.length:=by rw[e0,Nb,ft];omega
 rw[h3,e1];unfold mq
 rw[Nd (by
  rintro(h|h|h|h)
  ·omega
  ·simp only[Nb]at h
   omega
  ·omega
  ·omega),Nv,hh]
 simp only[R8,not_true_eq_false,RA];rw[e2,h0]
theorem As(T:List (List Nat))(P bits:List Nat)(n0:Nat):∀(k i a:Nat) (out:List Nat),(nX T P bits n0 k i a out).1.length<=out.length+k
 | 0,_,_,_=>by simp[nX]
 | k+1,i,a,out=>by
  rw[qV];split
  ·split;·simp only[Nb,NP];omega
   ·refine ND (As T P bits n0 k _ _ _) ?_;rw[Nb,NP];omega
  ·simp
  ·simp
theorem Jt(T:List (List Int))(P:List Int)(bits:List Nat)(a:Int):(mD T P bits a).1.length<=1638350:=by
 unfold mD;split
 ·rename_i hM;split;·simp
  ·have h:=As (T.map nl) (nl P) bits (T.getD 0 []).length (50*P.length) 0 a.toNat [];have h2:=hM.2.2.2.1;simp only[Ox,N8]at h;omega
 ·simp
theorem pM(n most:Nat):∀(l:List Int) (out:List Nat) (wo:Nat) (ended:Bool),out.length<=most->(S07.eT n most l out wo ended).1.length<=most
 | [],out,wo,ended,h=>by
  unfold S07.eT;split;·exact h
  ·exact Ng _
 | s::l,out,wo,ended,h=>by
  unfold S07.eT;split;·exact Ng _
  split;·exact Ng _
  split;·exact pM n most l out wo true h
  split
  ·split;·exact Ng _
   ·refine pM n most l _ 1 false ?_;rw[Nb,NP];omega
  split;·exact Ng _
  ·refine pM n most l _ _ false ?_;rw[Nb,NA];omega
theorem CO(n most:Int)(L:List Int):(S07.fD n most L).1.length<=262144:=by
 unfold S07.fD;split;·exact Ng _
 ·have h:=pM n.toNat most.toNat L [] 1 false (Ng _);omega
theorem tL:∀(n:Nat) (o l:List UInt8),o.length<=262144->(S03.tK n o l).1.length<=262144
 | 0,o,l,h=>h
 | n+1,o, [],h=>h
 | n+1,o,x::l,h=>by
  unfold S03.tK;split
  ·split;·exact Ng _
   ·refine tL n _ l ?_;rw[Nb,NP];omega
  split;·exact Ng _
  split;·exact Ng _
  split;·exact Ng _
  ·refine tL n _ _ ?_;have h4:((x::l).take 4).length<=4:=(by rw[NB];omega);rw[Nb,Nb,NA];omega
theorem Jd(l:List UInt8):(S03.fE [] l).1.length<=262144:=tL _ _ _ (Ng _)
theorem jg{fn:Func}{t u v x:Tmp}(h:fn.results=#[.tmp t,.tmp u,.tmp v,.tmp x])(tmps:Array Value)(P:Program)(w:World):
 (results fn tmps).run P w=.ok (.tuple #[tmps.getD t undef,tmps.getD u undef,tmps.getD v undef,tmps.getD x undef]) w:=by simp[results,h]
def jp(w:World)(ans:List UInt8×Nat×Nat×Nat)(e:Ending)(w':World):Prop:=e=.returned (.tuple #[.string (S06.eP ans.1),.int .u32 ans.2.1,.int .i64 ans.2.2.1,.int .i64 ans.2.2.2])/\Below w.heap.size w w'
theorem BO(l:List Nat)(p i:Nat):(S06.gF l p i).length<=16:=by unfold S06.gF;rw[Nu];have h:=QP (fun k=>l.getD (p+k) 0==1) (List.range 16);rwa [NE]at h
theorem xZ(l:List Nat)(fl:Nat->Nat):∀(is:List Nat) (p:Nat) (out o:List UInt8) (q:Nat),S06.goT l fl is p out=some (o,q)->o.length<=out.length+16*is.length
 | [],p,out,o,q,h=>by simp only[S06.goT,Oj,Ps]at h;rw[h.1];omega
 | i::is,p,out,o,q,h=>by
  have h2:=BO l p i;rw[Ns];unfold S06.goT at h;split at h;·have:=xZ l fl is p out o q h;omega
  ·split at h;·cases h
   ·have h3:=xZ l fl is _ _ o q h;rw[Nb]at h3;omega
theorem Hw(l:List Nat)(p:Nat):(S06.gE l p).1.length<=256:=by
 unfold S06.gE;split;·exact Ng _
 split;·exact Ng _
 cases hg:S06.goT l (fun i=>l.getD (p+i) 0) (List.range 16) (p+16) []with
 | none=>exact Ng _
 | some r=>
  obtain⟨o,q⟩:=r;have h:=xZ _ _ _ _ _ _ _ hg;rw[NE,Ox]at h;dsimp only;split;·exact Ng _
  ·exact h
theorem xv(l:List Nat)(p:Int):(S06.aN l p).1.length<=256:=by
 unfold S06.aN;split;·exact Ng _
 ·exact Hw l _
theorem jb{e:Nat}(h:e≠0):((e:Int) != 0)=true:=by rw[Pe];omega
theorem lU{e:Nat}(h:¬e≠0):((e:Int) != 0)=false:=by rw[Ra];omega
theorem we(s:List UInt8):au (df s).1:=by
 unfold df;split;·intro b hb;cases hb
 split;·intro b hb;cases hb
 ·show au (dS s);unfold dS fF gR;exact au.append (au.append (au.append (au.append (aQ _ _) (aQ _ _)) (aQ _ _)) (S06.lK _)) (au.append (th _ _) (rH _ _ _))
theorem Cg(s:List UInt8)(h:(df s).2≠0):(df s).1= []:=by
 unfold df at h |-;split;·rfl
 split;·rfl
 ·rename_i h1 h2;rw[Nd h1,Nd h2]at h;exact absurd rfl h
theorem wf(s:List UInt8):(df s).2<=3:=by
 unfold df;split;·exact Pa _
 split;·exact Nk _
 ·exact Ng _
theorem Bn(w:World)(s:ByteArray)(HP:∀wx:World,Calls prog 20 #[.string s] wx (aD wx (df s.data.toList)))(h1:(df s.data.toList).1.length<=100000000):
 Calls prog 6 #[.string s] w (bn w (df s.data.toList)):=by
 obtain⟨w2,hc⟩:∃w2,w2=w.alloc (.cells #[.string ⟨#[]⟩,.int .i64 0] 24):=⟨_,rfl⟩;have hl:Blk w2 w.heap.size 24 #[.string ⟨#[]⟩,.int .i64 0]:=dW hc;have h5:Below w.heap.size w w2:=cB hc;have h7:=aa (HP w2);have h6:=aa (we s.data.toList);have h3:=aa (Cg s.data.toList);have h2:=wf s.data.toList;have hp:=aa hl;have hm:=aa h5;clear HP;generalize df s.data.toList=ans at*;obtain⟨bs,k⟩:=ans;have ha:bs.length<=100000000:=h1;have he:k<=3:=h2;clear hl h5 h1 h2;go_enter func6,ntmps6;go_wp2_with fail;rw[<- hc];clear hc;refine h7.out.mono ?_;rintro e w3 ⟨v,rfl,h4,hb⟩;have hk:=aO hb hp.out;have hj:Below w.heap.size w w3:=aq hm.out hb;have HK:=aa hk;have hh:=aa hj;obtain⟨A1,c1,rfl,_,_,_⟩:=ai h4;have hf:=aE h4;dsimp only at hf;have ho:=aa hf;clear hb hk hj h4 hf;dsimp only;by_cases h0:k=0
 ·subst h0;have hi:=aa (BS w3 A1 bs.length c1 bs ho.out h6.out (by omega));obtain⟨N,hN⟩:∃N,N=bs.length:=⟨_,rfl⟩;rw[<- hN]at hi |-;have HN:=aa hN;clear hN;go_wp2_with fail;refine hi.out.mono ?_;rintro e w4 ⟨rfl,h5⟩;have h9:=aO h5 HK.out;have h8:Below w.heap.size w w4:=aq hh.out h5;have q0:w4.cell? ⟨w.heap.size,0,none⟩=some (.string ⟨#[]⟩):=ac h9 0;have q1:w4.cell? ⟨w.heap.size,1,none⟩=some (.int .i64 0):=ac h9 1;have f0:=ae h9 0;have f1:=ae h9 1;have hn:=aa h8;clear h5 h9 h8;go_wp2_with fail;refine NH (v:=.tuple #[.agg #[.string ⟨(aK bs).toArray⟩,.int .i64 N],.int .i64 0]) ?_ rfl ?_;·simp[results,results6,go_sem,q0,q1]
  ·rw[HN.out];exact⟨rfl,(hn.out.setCell (p:=⟨w.heap.size,0,none⟩) (ag _) _).setCell (p:=⟨w.heap.size,1,none⟩) (ag _) _⟩
 ·have hg:bs= []:=h3.out h0;subst hg;have d0:((k:Int) != 0)=true:=by rw[Pe];omega
  have q0:w3.cell? ⟨w.heap.size,0,none⟩=some (.string ⟨#[]⟩):=ac HK.out 0;have q1:w3.cell? ⟨w.heap.size,1,none⟩=some (.int .i64 0):=ac HK.out 1;have f0:=ae HK.out 0;have f1:=ae HK.out 1;go_wp2_with fail;refine NH (v:=.tuple #[.agg #[.string ⟨#[]⟩,.int .i64 0],.int .i64 k]) ?_ rfl ?_;·simp[results,results6,go_sem,q0,q1]
  ·exact⟨rfl,(hh.out.setCell (p:=⟨w.heap.size,0,none⟩) (ag _) _).setCell (p:=⟨w.heap.size,1,none⟩) (ag _) _⟩
theorem AZ(s:List UInt8):∃L,S05.ep s L:=by
 obtain⟨le,h0⟩:∃le:Nat->Nat->Bool,le=fun a b=>decide (S05.RLt s a b\/a=b):=⟨_,rfl⟩;have hd:∀a b,le a b=true↔S05.RLt s a b\/a=b:=fun a b=>by rw[h0];exact ON
 have h5:∀a b c,le a b=true->le b c=true->le a c=true:=fun a b c h1 h2=>by
  rw[hd]at*;rcases h1 with h1|h1
  ·rcases h2 with h2|h2;·exact .inl (h1.trans h2)
   ·exact .inl (h2 ▸ h1)
  ·exact h1 ▸ h2
 have h4:∀a b,(le a b || le b a)=true:=fun a b=>by
  rw[Bool.or_eq_true,hd,hd];by_cases e:a=b;·exact .inl (.inr e)
  ·rcases S05.RLt.total s a b e with h|h;·exact .inl (.inl h)
   ·exact .inr (.inl h)
 have hp:=List.mergeSort_perm (List.range s.length) le;refine⟨(List.range s.length).mergeSort le,?_,fun i=>by rw[hp.mem_iff,Qu]⟩;have h1:=List.pairwise_mergeSort h5 h4 (List.range s.length);have h2:((List.range s.length).mergeSort le).Pairwise (· ≠ ·):=List.nodup_iff_pairwise_ne.1 (hp.nodup_iff.2 OD);exact(h1.and h2).imp fun {a b} h=>by
  rcases(hd a b).1 h.1 with h3|h3;·exact h3
  ·exact absurd h3 h.2
theorem jA(t:List UInt8)(h:t≠ []):S05.B1 t 0 (mh t):=by obtain⟨L,hL⟩:=AZ t;have h0:0<t.length:=List.length_pos_iff.2 h;obtain⟨k,h1,h2,_⟩:=S05.mV hL 0 h0;have e:=sN hL h1 h2;rw[<- e];exact⟨L,hL,h1,h2⟩
theorem kA{s:List UInt8}(h:s≠ []):S03.bW s≠ []:=by
 cases s with
 | nil=>exact absurd rfl h
 | cons x l=>intro e;have h1:=S03.wD l x 1 (ag _) (by omega);rw[<- S03.jw,e]at h1;cases h1
theorem tk(w:World){s:List UInt8}(hs:s≠ [])(htl:(S03.bW s).length<=262144)(h0:s.length<=262144)(B Z:List Nat)(hZ:au Z)(most:Int)(h1:1<=most)(h2:most<=262144):
 mq (B++(df s).1++Z) (B.length:Nat) most=if((S03.bW s).length:Int)<=most then(s,S02.dQ s,B.length+(df s).1.length,0)else([],0,0,3):=by have e:(df s).1=dS s:=(by unfold df;rw[Nd hs,Nd]);rw[e];exact Cn w (jA _ (kA hs)) (kA hs) htl h0 B Z hZ most h1 h2
structure eZ (B:Nat) (w:World) (rs:List (Value×List Nat)):Prop where
 own:∀r∈rs,w.ownsRow B 3 1 r.1 r.2.length (r.2.map iv)
 apart:rs.Pairwise fun a b=>a.1.ownBlock=none\/a.1.ownBlock≠b.1.ownBlock
theorem eZ.nil(B:Nat)(w:World):eZ B w []:=⟨fun _ h=>absurd h aw,List.Pairwise.nil⟩
theorem oy{a b:Value×List Nat}(h:a.1.ownBlock=none\/a.1.ownBlock≠b.1.ownBlock):b.1.ownBlock=none\/b.1.ownBlock≠a.1.ownBlock:=by
 rcases h with h|h
 ·rw[h]
  cases hb:b.1.ownBlock with
  | none=>exact .inl rfl
  | some x=>exact .inr (by simp)
 ·exact .inr fun e=>h e.symm
theorem eZ.perm{B:Nat}{w:World}{rs rs':List (Value×List Nat)}(h:eZ B w rs)(hp:rs.Perm rs'):eZ B w rs':=
 ⟨fun r hr=>h.own r (hp.mem_iff.2 hr),(hp.pairwise_iff fun h=>oy h).1 h.apart⟩
theorem eZ.low{B:Nat}{w w':World}{rs:List (Value×List Nat)}(h:eZ B w rs)(hb:Below w.heap.size w w'):eZ B w' rs:=
 ⟨fun r hr=>fw (h.own r hr) hb,h.apart⟩
theorem eZ.new{B:Nat}{w w':World}{rs:List (Value×List Nat)}{v:Value}{L:List Nat}(h:eZ B w rs)(hB:B<=w.heap.size)(hb:Below w.heap.size w w')(hv:w'.ownsRow w.heap.size 3 1 v L.length (L.map iv)):eZ B w' ((v,L)::rs):=by
 refine⟨fun r hr=> ?_,List.Pairwise.cons (fun r hr=> ?_) h.apart⟩
 ·rcases List.mem_cons.1 hr with rfl|hr;·exact World.ownsRow.mono hv hB
  ·exact fw (h.own r hr) hb
 ·cases e:v.ownBlock with
  | none=>exact .inl rfl
  | some x=>refine .inr fun e2=> ?_;have h1:=(NS hv x e).1;have h2:=(NS (h.own r hr) x e2.symm).2;omega
theorem mH(w:World)(B:Nat)(v:Value)(n:Nat)(xs:List Value)(h6:w.ownsRow B 3 1 v n xs)(A:Option Addr)(k c:Nat)(L:List Nat)(hi:aB w A k L)(hg:n+k<=1000000000)(hB:B<=w.heap.size):
 ∃v' w',(Builtin.append_ #[37,37] 37 #[v,.slice A k c]).run prog w=.ok v' w'/\w'.ownsRow B 3 1 v' (n+k) (xs++L.map iv)/\w.grownBy w' v.ownBlock/\(v'.ownBlock=v.ownBlock\/v'.ownBlock=some w.heap.size):=by
 obtain⟨i3,h3,ha,hb,hf⟩:=N4 Tryz.info3;have hl:=hi.1;rcases A with _|ad
 ·have hk:k=0:=by
   rcases OL k with h0|h0;·exact h0
   ·obtain⟨b,off,h,_⟩:=hi.2 h0;cases h
  subst hk;have hL:L= []:=Nq hl;subst hL;refine⟨v,w,?_,by simpa using h6,⟨rfl,rfl,rfl,Nk _,fun _ _ _=>rfl⟩,.inl rfl⟩;rcases h6.2 with⟨rfl,rfl⟩|⟨g,cap,cur,rfl,_,_,h9,_⟩;·simp[Builtin.append_,Pk underlying37,sizeOf,typeInfo,h3,Builtin.lenOf,Builtin.firstCells]
  ·simp[Builtin.append_,Pk underlying37,sizeOf,typeInfo,h3,Builtin.lenOf,Builtin.firstCells,h9,storeCells]
 ·have h7:∀j u,(L.map iv)[j]? =some u->w.cell? (ad.add j)=some u:=by
   intro j u hu;have h8:j<k:=(by have:=(List.getElem?_eq_some_iff.1 hu).1;rw[Nu]at this;omega);obtain⟨b,off,he,hc⟩:=hi.2 (by omega);injection he with he
   subst he;rw[OT,hc j h8,<-hu,Np,Na,Nc (by omega)];rfl
  obtain⟨v',w',h1,h2,h4,_,h5⟩:=P1 (P:=prog) w B 37 37 3 i3 (.int .i64 0) 1 8 underlying37 h3 ha hb hf rfl (by decide) v n xs h6 ad k c (L.map iv) (by rw[Nu,hl,Oc]) h7
   (fun u hu=>by obtain⟨q,_,rfl⟩:=List.mem_map.1 hu;rfl) (by unfold maxLen;omega) (by omega) hB
  exact⟨v',w',h1,h2,h4,h5⟩
theorem eZ.put{B:Nat}{w0 w:World}{va vb:Value}{La Lb:List Nat}{rs:List (Value×List Nat)}(h:eZ B w ((va,La)::(vb,Lb)::rs))(hw:Below B w0 w)(hB:B<=w.heap.size)(hl:La.length+Lb.length<=1000000000):
 ∃v' w',(Builtin.append_ #[37,37] 37 #[va,vb]).run prog w=.ok v' w'/\eZ B w' ((v',La++Lb)::rs)/\Below B w0 w'/\w.grownBy w' va.ownBlock:=by
 have ha:=h.own _ Nh;have hb:=h.own _ (Nm _ Nh);dsimp only at ha hb;obtain⟨A,c,rfl,_⟩:=ai hb;obtain⟨v',w',h1,h2,h3,h5⟩:=mH w B va La.length _ ha A Lb.length c Lb (aE hb) hl hB;have h0:=List.pairwise_cons.1 h.apart;have h4:=List.pairwise_cons.1 h0.2;have h6:Below B w0 w':=hw.grown h3 hB (fun k hk=>(NS ha k hk).1);refine⟨v',w',h1,⟨fun r hr=> ?_,List.Pairwise.cons (fun r hr=> ?_) h4.2⟩,h6,h3⟩
 ·rcases List.mem_cons.1 hr with rfl|hr;·rw[Nb,Nz];exact h2
  ·exact(h.own r (Nm _ (Nm _ hr))).kept h3 (oy (h0.1 r (Nm _ hr)))
 ·have h7:=h0.1 r (Nm _ hr);dsimp only at h7 |-;rcases h5 with h5|h5;·rw[h5];exact h7
  ·rw[h5];refine .inr fun e=> ?_;have:=(NS (h.own r (Nm _ (Nm _ hr))) _ e.symm).2;omega
theorem tj{B:Nat}{w w':World}{v:Value}{n:Nat}{xs:List Value}{g:Nat}{t:TypeId}{cs:Array Value}(hk:Blk w g t cs)(ho:w.ownsRow B 3 1 v n xs)(hg:w.grownBy w' v.ownBlock)(ht:t≠3):Blk w' g t cs:=by
 unfold Blk at hk |-;rw[hg.block g (aA hk) (fun e=> ?_)];·exact hk
 ·obtain⟨c,fz,h⟩:=Lib.ownsRow_kind ho g e.symm;rw[hk]at h;injection h with h
  injection h with _ h2 _
  exact ht h2
theorem Gi{w:World}{A:Option Addr}{m k:Nat}{L:List Nat}(h:aB w A m L)(hk:k<=m):aB w A k (L.take k):=by refine⟨by rw[NB,h.1];omega,fun h0=> ?_⟩;obtain⟨b,off,rfl,hc⟩:=h.2 (by omega);refine⟨b,off,rfl,fun i hi=> ?_⟩;rw[hc i (by omega),Na,Na,Pt hi]
theorem eZ.puti{B:Nat}{w0 w:World}{va:Value}{La L:List Nat}{A:Option Addr}{n c:Nat}{rs:List (Value×List Nat)}(h:eZ B w ((va,La)::rs))(hi:aB w A n L)(hw:Below B w0 w)(hB:B<=w.heap.size)(hl:La.length+n<=1000000000):
 ∃v' w',(Builtin.append_ #[37,37] 37 #[va,.slice A n c]).run prog w=.ok v' w'/\eZ B w' ((v',La++L)::rs)/\Below B w0 w'/\w.grownBy w' va.ownBlock:=by
 have ha:=h.own _ Nh;dsimp only at ha;obtain⟨v',w',h1,h2,h3,h5⟩:=mH w B va La.length _ ha A n c L hi hl hB;have h0:=List.pairwise_cons.1 h.apart;have h4:Below B w0 w':=hw.grown h3 hB (fun k hk=>(NS ha k hk).1);refine⟨v',w',h1,⟨fun r hr=> ?_,List.Pairwise.cons (fun r hr=> ?_) h0.2⟩,h4,h3⟩
 ·rcases List.mem_cons.1 hr with rfl|hr;·rw[Nb,Nz,hi.1];exact h2
  ·exact(h.own r (Nm _ hr)).kept h3 (oy (h0.1 r hr))
 ·have h6:=h0.1 r hr;dsimp only at h6 |-;rcases h5 with h5|h5;·rw[h5];exact h6
  ·rw[h5];refine .inr fun e=> ?_;have:=(NS (h.own r (Nm _ hr)) _ e.symm).2;omega
theorem DH(w:World)(s ts cs us ss:ByteArray)(R z N M8 k2:Nat)(PL LT SH GB CQ BB:List Nat)(T:List (List Int))(P:List Int)
 (s3:s.toList.isEmpty=false) (s4:ts.size<=262144) (hR:R<16777216) (hz:z<4294967296) (s5:us.size<=256) (s2:(us.size:Int)+2=(k2:Int))
 (rR:GB.length<=300000) (hCQ:CQ.length<=100000000) (hN:N=SH.length) (s0:M8<=1000) (qs:BB.take N=SH) (s1:0<N) (rl:N<=M8) (qo:BB.length=M8)
 (HE:∀wx:World,Calls prog 58 #[.string s] wx fun e w'=>e=.returned (.string ts)/\Below wx.heap.size wx w')
 (HF:∀wx:World,Calls prog 59 #[.string ts] wx fun e w'=>e=.returned (.tuple #[.string cs,.int .i64 R,.int .i64 0])/\Below wx.heap.size wx w')
 (HU:∀wx:World,Calls prog 60 #[.string ts] wx fun e w'=>e=.returned (.string us)/\Below wx.heap.size wx w')
 (HFr:∀wx:World,Calls prog 61 #[.string cs,.string us] wx (aD wx (PL,0)))
 (HZ:∀(wx:World) (A:Option Addr) (c:Nat),aB wx A PL.length PL->PL.length<=c->Calls prog 62 #[.int .i64 us.size,.slice A PL.length c] wx (aD wx (LT,0)))
 (HBe:∀(wx:World) (A:Option Addr) (c:Nat),aB wx A LT.length LT->LT.length<=c->Calls prog 63 #[.slice A LT.length c,.int .i64 k2] wx (bP wx (T,P,0)))
 (HM:∀wx:World,Calls prog 64 #[.int .u64 54156738319193,.int .i64 48] wx (jq wx 54156738319193 48))
 (HS2:∀wx:World,Calls prog 65 #[.string s] wx fun e w'=>e=.returned (.int .u32 z)/\Below wx.heap.size wx w')
 (HS:∀wx:World,Calls prog 64 #[.int .u64 z,.int .i64 32] wx (jq wx z 32))
 (HR:∀wx:World,Calls prog 64 #[.int .u64 R,.int .i64 25] wx (jq wx R 25))
 (HSh:∀wx:World,Calls prog 66 #[.string us] wx fun e w'=>e=.returned (.tuple #[.agg #[.string ss,.int .i64 N],.int .i64 0])/\Below wx.heap.size wx w')
 (HB:∀(wx:World) (v:Value),aJ wx v T P->Calls prog 67 #[v] wx (aD wx (GB,0)))
 (HC:∀(wx:World) (v:Value),aJ wx v T P->∀(A:Option Addr) (c:Nat),aB wx A LT.length LT->LT.length<=c->Calls prog 68 #[v,.slice A LT.length c] wx (aD wx (CQ,0)))
 (HOf:∀wx:World,Calls prog 69 #[.string ss] wx fun e w'=>∃v,e=.returned v/\w'.ownsRow wx.heap.size 3 1 v M8 (BB.map iv)/\Below wx.heap.size wx w'):
 Calls prog 20 #[.string s] w (aD w (ah 54156738319193 48++ah z 32++ah R 25++SH++(GB++CQ),0)):=by
 have d1:decide ((262144:Int)<(ts.size:Int))=false:=aR
 have u1:IntKind.u64.wrap (z:Int)=z:=by rw[Q3];omega
 have u2:IntKind.u64.wrap (R:Int)=R:=by rw[Q3];omega
 obtain⟨ans,ha⟩:∃ans,ans=ah 54156738319193 48++ah z 32++ah R 25++SH++(GB++CQ):=⟨_,rfl⟩
 rw[<- ha]
 have po:=aa HE
 have pr:=aa HF
 have ql:=aa HU
 have hB:=aa HFr
 have qm:=aa HZ
 have hA:=aa HBe
 have q7:=aa HM
 have hW:=aa HS2
 have qb:=aa HS
 have q8:=aa HR
 have hX:=aa HSh
 have p9:=aa HB
 have pn:=aa HC
 have p2:=aa HOf
 have HA:=aa ha
 have HN:=aa hN
 have rb:=aa qs
 have r8:=aa qo
 clear HE HF HU HFr HZ HBe HM HS2 HS HR HSh HB HC HOf ha hN qs qo
 go_enter func20,ntmps20
 go_wp2_with fail
 refine(po.out w).mono ?_
 rintro e w1 ⟨rfl,qx⟩
 have pb:=aa qx
 clear qx po
 go_wp2_with fail
 refine(pr.out w1).mono ?_
 rintro e w2 ⟨rfl,r0⟩
 have pf:=aa (aq pb.out r0)
 clear r0 pr pb
 go_wp2_with fail
 refine(ql.out w2).mono ?_
 rintro e w3 ⟨rfl,r1⟩
 have pg:=aa (aq pf.out r1)
 clear r1 ql pf
 go_wp2_with fail
 refine(hB.out w3).mono ?_
 rintro e w4 ⟨v4,rfl,HT,r2⟩
 dsimp only at HT |-
 have pj:=aa (aq pg.out r2)
 obtain⟨A4,c4,rfl,rM,_⟩:=ai HT
 have q3:=aa (aE HT)
 clear r2 hB pg HT
 go_wp2_with fail
 refine(qm.out w4 A4 c4 q3.out rM).mono ?_
 rintro e w5 ⟨v5,rfl,HV,r3⟩
 dsimp only at HV |-
 have pk:=aa (aq pj.out r3)
 obtain⟨A5,c5,rfl,r4,_⟩:=ai HV
 have p0:=aa (aE HV)
 clear r3 qm pj q3 HV
 go_wp2_with fail
 refine(hA.out w5 A5 c5 p0.out r4).mono ?_
 rintro e w6 ⟨v6,rfl,HH,p6⟩
 dsimp only at HH |-
 obtain⟨A',n',c',B',m',d',rfl,HH⟩:=HH.parts
 obtain⟨w7,p8⟩:∃w7,w7=w6.alloc (.cells #[.slice A' n' c',.slice B' m' d'] 43):=⟨_,rfl⟩
 obtain⟨HQ,HP⟩:=uf HH
 rw[<- p8]at HQ HP
 have pl:=aa (aq pk.out p6)
 have HX:=aa (aq pl.out HP)
 have q4:=aa (S05.bX (S05.bX p0.out p6) HP)
 obtain⟨g,hg⟩:∃g,g=w6.heap.size:=⟨_,rfl⟩
 rw[<- hg]at HQ
 have ps:=aa HQ
 have HG:=aa hg
 clear p6 HP HQ HH hA pk pl p0
 go_wp2_with fail
 rw[<- p8]
 clear p8
 refine(q7.out w7).mono ?_
 rintro e w8 ⟨g8,c8,rfl,r7,H2⟩
 have pm:=aa (aq HX.out H2)
 have pv:=aa (ps.out.below H2)
 have q5:=aa (S05.bX q4.out H2)
 have q9:=aa ((eZ.nil w.heap.size w7).new HX.out.size H2 (L:=ah 54156738319193 48) (by rw[af];exact r7))
 clear H2 r7 ps q4 HX q7
 go_wp2_with fail
 refine(hW.out w8).mono ?_
 rintro e w9 ⟨rfl,H3⟩
 have HY:=aa (aq pm.out H3)
 have q2:=aa (pv.out.below H3)
 have q6:=aa (S05.bX q5.out H3)
 have qa:=aa (q9.out.low H3)
 clear H3 pm pv q5 q9 hW
 go_wp2_with fail
 refine(qb.out w9).mono ?_
 rintro e w10 ⟨g10,c10,rfl,H8,h3⟩
 have hc:=aa (aq HY.out h3)
 have hC:=aa (q2.out.below h3)
 have hF:=aa (S05.bX q6.out h3)
 have hP:=aa (qa.out.new HY.out.size h3 (L:=ah z 32) (by rw[af];exact H8))
 clear h3 H8 HY q2 q6 qa qb
 go_wp2_with fail
 refine(q8.out w10).mono ?_
 rintro e w11 ⟨g11,c11,rfl,HD,h4⟩
 have hv:=aa (aq hc.out h4)
 have hD:=aa (hC.out.below h4)
 have hG:=aa (S05.bX hF.out h4)
 have hQ:=aa (hP.out.new hc.out.size h4 (L:=ah R 25) (by rw[af];exact HD))
 clear h4 HD hc hC hF hP q8
 go_wp2_with fail
 refine(hX.out w11).mono ?_
 rintro e w12 ⟨rfl,h5⟩
 have hw:=aa (aq hv.out h5)
 have hE:=aa (hD.out.below h5)
 have hH:=aa (S05.bX hG.out h5)
 have hS:=aa (hQ.out.low h5)
 clear h5 hv hD hG hQ hX
 obtain⟨w13,h7⟩:∃w13,w13=w12.alloc (.cells #[.string ss,.int .i64 N] 24):=⟨_,rfl⟩
 have hp:Blk w13 w12.heap.size 24 #[.string ss,.int .i64 N]:=dW h7
 have h6:Below w12.heap.size w12 w13:=cB h7
 obtain⟨k,hk⟩:∃k,k=w12.heap.size:=⟨_,rfl⟩
 have he:=aa (aq hw.out h6)
 have h8:=aa (hE.out.below h6)
 have hI:=aa (S05.bX hH.out h6)
 have hT:=aa (hS.out.low h6)
 rw[<- hk]at hp
 have hK:=aa hp
 have r9:=aa hk
 obtain⟨q0,q1⟩:=h8.out.cells
 have q0:=aa q0
 have q1:=aa q1
 rw[h7]at q0 q1
 have r5:=HG.out
 have q0':=q0.out
 have q1':=q1.out
 rw[r5]at q0' q1'
 clear h6 hp hw hE hH hS q0 q1 r5 hk
 go_wp2_with fail
 rw[<- h7]
 clear h7 q0' q1'
 refine(p9.out w13 _ h8.out.2).mono ?_
 rintro e w14 ⟨v14,rfl,hr,h2⟩
 dsimp only at hr |-
 have hf:=aa (aq he.out h2)
 have hi:=aa (h8.out.below h2)
 have hJ:=aa (S05.bX hI.out h2)
 have hV:=aa (hT.out.new he.out.size h2 (L:=GB) hr)
 have hL:=aa (aO h2 hK.out)
 obtain⟨q0,q1⟩:=hi.out.cells
 rw[HG.out]at q0 q1
 clear h2 hr he h8 hI hT hK p9
 go_wp2_with fail
 clear q0 q1
 refine(pn.out w14 _ hi.out.2 A5 c5 hJ.out r4).mono ?_
 rintro e w15 ⟨v15,rfl,hs,h9⟩
 dsimp only at hs |-
 have hh:=aa (aq hf.out h9)
 have hl:=aa ((hV.out.new hf.out.size h9 (L:=CQ) hs).perm (List.reverse_perm _).symm)
 have hM:=aa (aO h9 hL.out)
 clear h9 hs hf hi hJ hV hL pn HG
 obtain⟨v16,w16,r16,hu,hm,H4⟩:=eZ.put (va:=.slice (some ⟨g8,0,none⟩) 48 c8) (vb:=.slice (some ⟨g10,0,none⟩) 32 c10) (La:=ah 54156738319193 48) (Lb:=ah z 32) (rs:= [(.slice (some ⟨g11,0,none⟩) 25 c11,ah R 25),(v14,GB),(v15,CQ)]) hl.out hh.out hh.out.size (by rw[af,af];omega)
 have H7:=tj hM.out (hl.out.own _ Nh) H4 (by decide)
 obtain⟨v17,w17,r17,HI,hZ,H5⟩:=eZ.put (rs:= [(v14,GB),(v15,CQ)]) hu hm hm.size (by rw[Nb,af,af,af];omega)
 have h0:=tj H7 (hu.own _ Nh) H5 (by decide)
 have R16:=aa r16
 have R17:=aa r17
 have p3:=aa HI
 have hx:=aa hZ
 have p1:=aa h0
 clear r16 hu hm H4 H7 r17 HI hZ H5 h0 hh hl hM
 go_upto_region 18 with(at_builtin;first|refine Lib.wpList_append_run _ rfl (.tmp 96) (.tmp 97) 37 37 rfl (.slice (some ⟨g8,0,none⟩) 48 c8) (.slice (some ⟨g10,0,none⟩) 32 c10) rfl rfl _ _ R16.out ?_|refine Lib.wpList_append_run _ rfl (.tmp 98) (.tmp 99) 37 37 rfl v16 (.slice (some ⟨g11,0,none⟩) 25 c11) rfl rfl _ _ R17.out ?_)
 clear R16 R17
 have hY:(ah 54156738319193 48++ah z 32++ah R 25).length=105:=by simp only[Nb,af]
 have hj:=aa hY
 clear hY
 have h0:=p1.out
 rw[r9.out]at h0
 have r6:=aA h0
 have c0:w17.cell? ⟨w12.heap.size,0,none⟩=some (.string ss):=ac h0 0
 have c1:w17.cell? ⟨w12.heap.size,1,none⟩=some (.int .i64 N):=ac h0 1
 have b0:w17.drew.cell? ⟨w12.heap.size,0,none⟩=some (.string ss):=c0
 have b1:w17.drew.cell? ⟨w12.heap.size,1,none⟩=some (.int .i64 N):=c1
 have hO:=aa h0
 have z1:(0:Int)<=(N:Int):=by omega
 clear h0
 go_region_held3 (fun w'=>w'.cell? ⟨w12.heap.size,0,none⟩=some (.string ss)/\w'.cell? ⟨w12.heap.size,1,none⟩=some (.int .i64 N))
  (first|with_reducible exact⟨c0,c1⟩|with_reducible exact⟨b0,b1⟩|with_reducible exact⟨q20,q21⟩|with_reducible exact⟨t20,t21⟩|go_keep)
  (first
    | (go_at_call 69;refine(p2.out w17.drew).mono ?_;rintro e w20 ⟨v20,rfl,ht,h1⟩
       have q20:w20.cell? ⟨w12.heap.size,0,none⟩=some (.string ss):=(h1.cell (p:=⟨w12.heap.size,0,none⟩) r6).trans b0
       have q21:w20.cell? ⟨w12.heap.size,1,none⟩=some (.int .i64 N):=(h1.cell (p:=⟨w12.heap.size,1,none⟩) r6).trans b1
       obtain⟨A20,c20,rfl,rv,rO,p5⟩:=ai ht
       obtain⟨g20,rfl⟩:=p5 (by omega)
       have z2:(N:Int)<=(c20:Int):=by omega
       have ho:=Gi (k:=N) (aE (by rw[r8.out]at *;exact ht)) rl
       rw[rb.out]at ho
       have p7:=(p3.out.low ((Nj _ _).drew)).low h1
       obtain⟨v21,w21,r21,HJ,H0,H6⟩:=eZ.puti (c:=c20) (rs:= [(v14,GB),(v15,CQ)]) p7 ho (aq hx.out.drew h1) (aq hx.out.drew h1).size (by rw[hj.out];omega)
       have hq:=tj ((an h1).blk (show Blk w17.drew w12.heap.size 24 #[.string ss,.int .i64 N]from hO.out) aw aw) (p7.own _ Nh) H6 (by decide)
       have t20:w21.cell? ⟨w12.heap.size,0,none⟩=some (.string ss):=ac hq 0
       have t21:w21.cell? ⟨w12.heap.size,1,none⟩=some (.int .i64 N):=ac hq 1
       have R21:=aa r21
       have p4:=aa HJ
       have hy:=aa H0
       clear r21 HJ H0 ho ht h1 H6 hq p7)
    | (refine dG rfl _ _ 37 rfl _ _ rfl rfl R21.out ?_))
 obtain⟨v22,w22,r22,HK,hn,_⟩:=eZ.put (rs:= [(v15,CQ)]) p4.out hy.out hy.out.size (by rw[Nb,hj.out,<-HN.out];omega)
 obtain⟨v23,w23,r23,HL,H1,_⟩:=eZ.put (rs:= []) HK hn hn.size (by rw[Nb,Nb,hj.out,<-HN.out];omega)
 have hb:=HL.own _ Nh
 have R22:=aa r22
 have R23:=aa r23
 have HW:=aa H1
 dsimp only at hb
 rw[Ni _ GB CQ,<-HA.out]at hb
 have HO:=aa hb
 clear r22 HK hn r23 HL H1 hb
 go_wp2_with (at_builtin;first|refine Lib.wpList_append_run _ rfl (.tmp 109) (.tmp 110) 37 37 rfl v21 v14 rfl rfl _ _ R22.out ?_|refine Lib.wpList_append_run _ rfl (.tmp 111) (.tmp 112) 37 37 rfl v22 v15 rfl rfl _ _ R23.out ?_)
 go_ret2
 exact⟨_,rfl,HO.out,HW.out⟩
