import Derived.Test.YtepokmggbfoakaaGreatDoorT11
import Derived.Test.YtepokmggbfoakaaGreatDoorT12
import Derived.Test.YtepokmggbfoakaaGreatDoorT13
import Derived.Test.YtepokmggbfoakaaGreatDoorT18
import Derived.Test.YtepokmggbfoakaaGreatDoorT19
import Derived.Test.YtepokmggbfoakaaGreatDoorT21
set_option maxHeartbeats 3200000
set_option maxRecDepth 100000
namespace Go.Proofs.YtepokmggbfoakaaGreatDoor
open _root_.Go.Proofs.Tryz
open Go.RowKit
noncomputable def LI (t:List UInt8):List Nat:=open Classical in if h:∃L,S05.eT t L then Classical.choose h else []
theorem nf{t:List UInt8}{L:List Nat}(h:S05.eT t L):L=LI t:=by unfold LI;rw[dif_pos ⟨L,h⟩];exact S05.Gm h (Classical.choose_spec (⟨L,h⟩:∃L,S05.eT t L))
noncomputable def mO (t:List UInt8):Nat:=(LI t).idxOf 0
noncomputable def kp (t:List UInt8):List UInt8:=S05.bw t (LI t)
theorem yp{t:List UInt8}{L:List Nat}{k:Nat}(h:S05.eT t L)(hk:k<L.length)(h0:L.getD k 0=0):k=mO t:=by have hL:=nf h;unfold mO;rw[<- hL];have hm:(0:Nat)∈L:=(by rw[<- h0,Nb,Nd hk];exact NL hk);have h1:=Pj hm;have h2:L[L.idxOf 0]=0:=List.getElem_idxOf h1;have h3:L[k]=0:=(by rw[Nb,Nd hk]at h0;exact h0);exact S05.wO (S05.jZ h) hk h1 (h3.trans h2.symm)
noncomputable def dP (t:List UInt8):List Nat:=(S06.dw (kp t) (S06.ofL t)).getD []
noncomputable def ct (t:List UInt8):List Nat:=S07.fY (S06.ofL t).length 0 (dP t)
noncomputable def aY (t:List UInt8):List (List Int)×List Int×Nat:=fN (zL (ct t)) ((S06.ofL t).length+2:Nat)
noncomputable def fF (s:List UInt8):List Nat:=ag 54156738319193 48++ag (S02.bW s) 32++ag (mO (S03.aU s)) 25
noncomputable def gH (t:List UInt8):List Nat:=(fC (aY t).1 (aY t).2.1).1++(bX (aY t).1 (aY t).2.1 (zL (ct t))).1
noncomputable def cP (s:List UInt8):List Nat:=fF s++S06.dZ (S06.ofL (S03.aU s))++gH (S03.aU s)
noncomputable def eM (s:List UInt8):List Nat×Nat:=if s= []then([],2)else if 262144<(S03.aU s).length then([],3)else(cP s,0)
def bj(l:List Nat)(p:Nat):Nat×Nat×Nat:=
 if l.length<p+48 then(0,0,10)
 else if val ((l.drop p).take 48)≠54156738319193 then(0,0,120)
 else if l.length<p+48+32 then(0,0,10)
 else if l.length<p+80+1 then(0,0,10)
 else if val ((l.drop (p+80)).take 1)≠0 then(0,0,120)
 else if l.length<p+81+24 then(val ((l.drop (p+48)).take 32),0,10)
 else(val ((l.drop (p+48)).take 32),val ((l.drop (p+81)).take 24),0)
def iy(col:List UInt8)(row:Nat):List UInt8×Nat:=if 262144<col.length then([],3)else if col.length<=row then([],50)else(S05.f5 col row,0)
def jD(l:List Nat)(sum row q:Nat)(most:Int):List UInt8×Nat×Nat×Nat:=
 let u:=S06.ao l (q:Nat)
 if u.2.2≠0 then([],0,0,u.2.2)else
 let g:=dC l (u.2.1:Nat) ((u.1.length+2:Nat):Int)
 if g.2.2.2≠0 then([],0,0,g.2.2.2)else
 let c:=dV g.1 g.2.1 l (g.2.2.1:Nat)
 if c.2.2≠0 then([],0,0,c.2.2)else
 let d:=S07.dH (u.1.length:Nat) most (zL c.1)
 if d.2≠0 then([],0,0,d.2)else
 let b:=iy (S06.cL (zL d.1) u.1).1 row
 if b.2≠0 then([],0,0,b.2)else
 let x:=S03.eD [] b.1
 if x.2≠0 then([],0,0,x.2)else
 if S02.bW x.1≠sum then([],0,0,121)else(x.1,sum,c.2.1,0)
def bR(l:List Nat)(at' most:Int):List UInt8×Nat×Nat×Nat:=
 if at'<0\/(l.length:Int)<at'\/most<1\/262144<most then([],0,0,2)
 else if(bj l at'.toNat).2.2≠0 then([],0,0,(bj l at'.toNat).2.2)
 else jD l (bj l at'.toNat).1 (bj l at'.toNat).2.1 (at'.toNat+105) most
theorem rf:∀(s list:List UInt8) (l:List Nat),S06.dw s list=some l->∀x∈l,x<list.length
 | [],list,l,h,x,hx=>by simp only[S06.dw,On]at h;rw[<- h]at hx;exact absurd hx ar
 | b::s,list,l,h,x,hx=>by
  rw[S06.dw]at h;by_cases hb:b∈list
  ·have h1:=Pj hb;rw[Ng hb]at h;obtain⟨m,hm,rfl⟩:=Option.map_eq_some_iff.1 h;rcases List.mem_cons.1 hx with rfl|hx;·exact h1
   ·have h2:=rf s _ m hm x hx;rwa [S06.dS _ _ h1]at h2
  ·rw[Nf hb]at h;cases h
theorem qe(n:Nat)(hn:1<=n):∀(l:List Nat) (r:Nat),(∀ x∈l,x<n)->∃init,S07.fY n r l=init++ [n+1]/\∀x∈init,x<=n
 | [],r,_=>⟨S07.dig r,rfl,fun x hx=>by have:=S07.Ei r x hx;omega⟩
 | y::l,r,h=>by
  have hl:∀x∈l,x<n:=fun x hx=>h x (Nu _ hx);by_cases hy:y=0;·rw[hy,S07.zX];exact qe n hn l (r+1) hl
  ·obtain⟨init,h1,h2⟩:=qe n hn l 0 hl;have h0:=h y Nl;refine⟨S07.dig r++(y+1)::init,by rw[S07.zW n r y l hy,h1];simp,fun x hx=> ?_⟩;rcases List.mem_append.1 hx with hx|hx;·have:=S07.Ei r x hx;omega
   ·rcases List.mem_cons.1 hx with rfl|hx;·omega
    ·exact h2 x hx
theorem C9(s:List UInt8):(S06.ofL s).length<=256:=by have h:=Qu (fun b=>decide (b∈s)) S06.yS;have h2:S06.yS.length=256:=(by simp[S06.yS]);unfold S06.ofL;omega
theorem yf{s:List UInt8}(h:s≠ []):1<=(S06.ofL s).length:=by
 have:=(S06.sg s h).1;rcases hl:S06.ofL s with _|⟨x,l⟩;·exact absurd hl this
 ·simp
theorem LQ(t:List UInt8)(i:Nat)(h:0<t.length):S05.rat t i∈t:=by unfold S05.rat;have hi:=PV i h;rw[Nb,Nd hi];exact NL hi
section
variable {t:List UInt8} {k:Nat} (hO:S05.BG t 0 k) (ht:t≠ []) (htl:t.length<=262144)
include hO
theorem Kh:k=mO t:=by obtain⟨L,h1,h2,h3⟩:=hO;exact yp h1 h2 h3
theorem nN:(kp t).length=t.length:=by obtain⟨L,h1,h2,h3⟩:=hO;unfold kp;rw[S05.bE,<-nf h1,S05.dN h1]
theorem yt:mO t<t.length:=by rw[<- Kh hO];obtain⟨L,h1,h2,h3⟩:=hO;rw[<- S05.dN h1];exact h2
theorem IX:S05.f5 (kp t) (mO t)=t:=by have hr:=yt hO;have hk:=Kh hO;obtain⟨L,h1,h2,h3⟩:=hO;unfold kp;rw[<- nf h1,S05.Iv h1 _ hr,<-hk,h3,S05.G0]
theorem Lk(x:UInt8)(hx:x∈kp t):x∈S06.ofL t:=by obtain⟨L,h1,h2,h3⟩:=hO;unfold kp S05.bw at hx;rw[<- nf h1]at hx;obtain⟨i,hi,rfl⟩:=List.mem_map.1 hx;have hl:=(h1.2 i).1 hi;rw[S06.nd];exact LQ t _ (by omega)
theorem n6:S06.dw (kp t) (S06.ofL t)=some (dP t)/\(dP t).length=t.length/\∀x∈dP t,x<(S06.ofL t).length:=by obtain⟨l,h1,h2⟩:=S06.tK (kp t) (S06.ofL t) (Lk hO);have e:dP t=l:=(by unfold dP;rw[h1];rfl);rw[e];exact⟨h1,h2.trans (nN hO),rf _ _ _ h1⟩
include ht htl
theorem kX:iJ (zL (ct t)) (((S06.ofL t).length+2:Nat):Int)/\Ik (zL (ct t)) (((S06.ofL t).length+2:Nat):Int)/\(ct t).length<=t.length+1:=by
 have hn:=yf ht;have ha:=C9 t;obtain⟨hb,hc,h8⟩:=n6 hO;obtain⟨init,h1,h2⟩:=qe (S06.ofL t).length hn (dP t) 0 h8;have h7:=S07.nP (S06.ofL t).length (dP t) 0;have hL:ct t=init++ [(S06.ofL t).length+1]:=h1;have h0:(ct t).length<=t.length+1:=by unfold ct;omega
 have hz:(zL (ct t)).length=(ct t).length:=by unfold zL;rw[NC]
 have h9:(ct t).length=init.length+1:=by rw[hL,Nc,NM]
 refine⟨⟨by omega,by omega,by omega,by omega,fun x hx=> ?_⟩,fun j hj=> ?_,h0⟩
 ·unfold zL at hx;obtain⟨y,hy,rfl⟩:=List.mem_map.1 hx;rw[hL]at hy;rcases List.mem_append.1 hy with hy|hy;·have:=h2 y hy;omega
  ·rw[List.mem_singleton.1 hy];omega
 ·rw[hz]at hj |-;have hg:(zL (ct t)).getD j 0=((ct t).getD j 0:Nat):=by unfold zL;rw[Nb,Np,Nb,Nd hj];rfl
  rw[hg];by_cases h5:j<init.length
  ·have h3:(ct t).getD j 0<=(S06.ofL t).length:=(by rw[hL,Nb,NT h5,Nd h5];exact h2 _ (NL h5));constructor;·intro h4;omega
   ·intro h4;omega
  ·have h6:j=init.length:=(by omega);have h3:(ct t).getD j 0=(S06.ofL t).length+1:=(by rw[hL,h6,Nb,NU (ah _),Ow];rfl);constructor;·intro _;omega
   ·intro _;omega
theorem nh(w:World):eX (aY t).1 (aY t).2.1 (zL (ct t)) (((S06.ofL t).length+2:Nat):Int):=(pT w (kX hO ht htl).1).1
theorem EJ(w:World):gH t=iG ((aY t).1.map nl) (nl (aY t).2.1)++dG ((aY t).1.map nl) (nl (aY t).2.1) (nl (zL (ct t))) (zL (ct t)).length/\(bX (aY t).1 (aY t).2.1 (zL (ct t))).2=0:=by have hg:=nh hO ht htl w;have hM:=(kX hO ht htl).1;unfold gH;rw[pW hg,lz hg hM];exact⟨rfl,rfl⟩
theorem GT(w:World)(s:List UInt8)(sum:Nat)(hs:S03.aU s=t)(hb:s.length<=262144)(B Z:List Nat)(hZ:am Z)(most:Int)(h1:1<=most)(h2:most<=262144):
 jD (B++(S06.dZ (S06.ofL t)++gH t)++Z) sum (mO t) B.length most=if(t.length:Int)<=most then(if S02.bW s≠sum then([],0,0,121)else(s,sum,B.length+(S06.dZ (S06.ofL t)++gH t).length,0))else([],0,0,3):=by
 have hg:=nh hO ht htl w;obtain⟨hM,hE,h7⟩:=kX hO ht htl;obtain⟨h8,h9,ha⟩:=n6 hO;have hn:=yf ht;have he:=C9 t;have hc:=nN hO;have h6:=IX hO;have hf:=yt hO;obtain⟨h0,_⟩:=EJ hO ht htl w;obtain⟨SH,h3⟩:∃x,x=S06.dZ (S06.ofL t):=⟨_,rfl⟩;obtain⟨PB,h5⟩:∃x,x=iG ((aY t).1.map nl) (nl (aY t).2.1):=⟨_,rfl⟩;obtain⟨CQ,h4⟩:∃x,x=dG ((aY t).1.map nl) (nl (aY t).2.1) (nl (zL (ct t))) (zL (ct t)).length:=⟨_,rfl⟩;rw[<- h5,<-h4]at h0;have e1:S06.ao (B++(SH++gH t)++Z) (B.length:Nat)=(S06.ofL t,B.length+SH.length,0):=by have h:=S06.qL (S06.ofL t) (S06.sg t ht) B (gH t++Z);unfold S06.ao;rw[Nf (by omega),Nn,show B++(SH++gH t)++Z=B++S06.dZ (S06.ofL t)++(gH t++Z) by rw[h3];simp only[Ni],h,h3]
 have e2:dC (B++(SH++gH t)++Z) ((B.length+SH.length:Nat):Nat) (((S06.ofL t).length+2:Nat):Int)=((aY t).1,(aY t).2.1,B.length+SH.length+PB.length,0):=by have h:=DW hg hM (B++SH) (CQ++Z);rw[<- h5,Nc]at h;rw[<- h,h0];simp only[Ni]
 have e3:dV (aY t).1 (aY t).2.1 (B++(SH++gH t)++Z) ((B.length+SH.length+PB.length:Nat):Nat)=(ct t,B.length+SH.length+PB.length+CQ.length,0):=by have h:=F7 hg hM hE (B++SH++PB) Z hZ;rw[<- h4,Nc,Nc,AA]at h;rw[<- h,h0];simp only[Ni]
 have e4:S07.dH ((S06.ofL t).length:Nat) most (zL (ct t))=if(t.length:Int)<=most then(dP t,0)else([],3):=by
  have h:=S07.oO (S06.ofL t).length most.toNat hn (dP t) 0 [] ha (Nh _);unfold S07.dH;rw[Nf (by omega),Nn,show zL (ct t)=S07.ints (S07.fY (S06.ofL t).length 0 (dP t))from rfl,h,h9];simp only[N5,PN,NX,N8,Og];by_cases hm:(t.length:Int)<=most;·rw[Ng hm,Ng (by omega)]
  ·rw[Nf hm,Nf (by omega)]
 have e5:S06.cL (zL (dP t)) (S06.ofL t)=(kp t,0):=by have h:=S06.sM _ _ _ h8;unfold S06.cL;rw[Ng (S06.sg t ht),show zL (dP t)=(dP t).map fun(x:Nat)=>(x:Int)from rfl,h]
 have e6:iy (kp t) (mO t)=(t,0):=by unfold iy;rw[Nf (by omega),Nf (by omega),h6]
 have e7:S03.eD [] t=(s,0):=by rw[<- hs];exact S03.oO s hb
 have eL:B.length+(SH++gH t).length=B.length+SH.length+PB.length+CQ.length:=by rw[h0];simp only[Nc];omega
 rw[<- h3,eL];unfold jD;simp only[e1,e2,e3,e4];by_cases hm:(t.length:Int)<=most;·simp[Ng hm,e5,e6,e7]
 ·simp[Nf hm]
end
theorem lf(x n:Nat)(h:x<2^n)(R:List Nat):val ((ag x n++R).take n)=x:=by rw[RQ (af n x),dm,NJ h]
theorem xO(B C R:List Nat)(p:Nat)(h:p=B.length+C.length):(B++(C++R)).drop p=R:=by rw[h,<-Ni,<-Nc,Pw]
theorem fA(s:List UInt8):(fF s).length=105:=by unfold fF;simp only[Nc,af]
theorem Gf(s:List UInt8)(hr:mO (S03.aU s)<2^24)(B R:List Nat):bj (B++(fF s++R)) B.length=(S02.bW s,mO (S03.aU s),0):=by have hl:(B++(fF s++R)).length=B.length+105+R.length:=(by rw[Nc,Nc,fA,OL]);obtain⟨M,hM⟩:∃M,M=ag 54156738319193 48:=⟨_,rfl⟩;obtain⟨S,hS⟩:∃S,S=ag (S02.bW s) 32:=⟨_,rfl⟩;obtain⟨W,hW⟩:∃W,W=ag (mO (S03.aU s)) 24:=⟨_,rfl⟩;have h0:M.length=48:=(by rw[hM,af]);have h1:S.length=32:=(by rw[hS,af]);have h2:ag (mO (S03.aU s)) 25=0::W:=(by rw[qV,hW];congr 1;omega);have hH:fF s=M++S++(0::W):=(by unfold fF;rw[h2,hM,hS]);have hb:S02.bW s<2^32:=S02.oE s;have g0:(B++(fF s++R)).drop B.length=M++(S++(0::W)++R):=(by rw[Pw,hH];simp only[Ni]);have g1:(B++(fF s++R)).drop (B.length+48)=S++((0::W)++R):=(by rw[hH,Ni,Ni];exact xO B M _ _ (by rw[h0]));have g2:(B++(fF s++R)).drop (B.length+80)=(0::W)++R:=(by rw[hH,Ni];exact xO B (M++S) _ _ (by rw[Nc,h0,h1]));have g3:(B++(fF s++R)).drop (B.length+81)=W++R:=(by have e:B++(fF s++R)=B++((M++S++ [0])++(W++R)):=(by rw[hH];simp);rw[e];exact xO B (M++S++ [0]) _ _ (by simp only[Nc,h0,h1,NM]));have v0:val ((M++(S++(0::W)++R)).take 48)=54156738319193:=(by rw[hM];exact lf _ 48 (by omega) _);have v1:val ((S++((0::W)++R)).take 32)=S02.bW s:=(by rw[hS];exact lf _ 32 hb _);have v2:val (((0::W)++R).take 1)=0:=rfl;have v3:val ((W++R).take 24)=mO (S03.aU s):=(by rw[hW];exact lf _ 24 hr _);unfold bj;rw[hl,g0,g1,g2,g3,v0,v1,v2,v3];rw[Nf (by omega),Nf (by simp),Nf (by omega),Nf (by omega),Nf (by simp),Nf (by omega)]
theorem BW(w:World){s:List UInt8}{k:Nat}(hO:S05.BG (S03.aU s) 0 k)(ht:S03.aU s≠ [])(htl:(S03.aU s).length<=262144)(h4:s.length<=262144)(B Z:List Nat)(hZ:am Z)(most:Int)(h1:1<=most)(h2:most<=262144):
 bR (B++cP s++Z) (B.length:Nat) most=if((S03.aU s).length:Int)<=most then(s,S02.bW s,B.length+(cP s).length,0)else([],0,0,3):=by
 have hr:=yt hO;obtain⟨X,hX⟩:∃X,X=S06.dZ (S06.ofL (S03.aU s))++gH (S03.aU s):=⟨_,rfl⟩;have e0:cP s=fF s++X:=by unfold cP;rw[hX,Ni]
 have e1:B++cP s++Z=B++(fF s++(X++Z)):=by rw[e0];simp only[Ni]
 have e2:B++(fF s++(X++Z))=(B++fF s)++X++Z:=by simp only[Ni]
 have hh:=Gf s (by omega) B (X++Z);have h0:=GT hO ht htl w s (S02.bW s) rfl h4 (B++fF s) Z hZ most h1 h2;rw[<- hX,Nf (show ¬S02.bW s≠S02.bW s from fun h=>h rfl)]at h0;have hl:(B++fF s).length=B.length+105:=by rw[Nc,fA]
 rw[hl]at h0;have h3:B.length+(cP s).length=B.length+105+X.length:=by rw[e0,Nc,fA];omega
 rw[h3,e1];unfold bR
 rw[Nf (by
  rintro(h|h|h|h)
  ·omega
  ·simp only[Nc]at h
   omega
  ·omega
  ·omega),Nn,hh]
 simp only[Sh,not_true_eq_false,RK];rw[e2,h0]
theorem AG(s:List UInt8):∃L,S05.eT s L:=by
 obtain⟨le,h0⟩:∃le:Nat->Nat->Bool,le=fun a b=>decide (S05.RLt s a b\/a=b):=⟨_,rfl⟩;have hd:∀a b,le a b=true↔S05.RLt s a b\/a=b:=fun a b=>by rw[h0];exact OU
 have h5:∀a b c,le a b=true->le b c=true->le a c=true:=fun a b c h1 h2=>by
  rw[hd]at*;rcases h1 with h1|h1
  ·rcases h2 with h2|h2;·exact .inl (h1.trans h2)
   ·exact .inl (h2 ▸ h1)
  ·exact h1 ▸ h2
 have h4:∀a b,(le a b || le b a)=true:=fun a b=>by
  rw[Bool.or_eq_true,hd,hd];by_cases e:a=b;·exact .inl (.inr e)
  ·rcases S05.RLt.total s a b e with h|h;·exact .inl (.inl h)
   ·exact .inr (.inl h)
 have hp:=List.mergeSort_perm (List.range s.length) le;refine⟨(List.range s.length).mergeSort le,?_,fun i=>by rw[hp.mem_iff,QV]⟩;have h1:=List.pairwise_mergeSort h5 h4 (List.range s.length);have h2:((List.range s.length).mergeSort le).Pairwise (· ≠ ·):=List.nodup_iff_pairwise_ne.1 (hp.nodup_iff.2 OS);exact(h1.and h2).imp fun {a b} h=>by
  rcases(hd a b).1 h.1 with h3|h3;·exact h3
  ·exact absurd h3 h.2
theorem la(t:List UInt8)(h:t≠ []):S05.BG t 0 (mO t):=by obtain⟨L,hL⟩:=AG t;have h0:0<t.length:=List.length_pos_iff.2 h;obtain⟨k,h1,h2,_⟩:=S05.rm hL 0 h0;have e:=yp hL h1 h2;rw[<- e];exact⟨L,hL,h1,h2⟩
theorem lw{s:List UInt8}(h:s≠ []):S03.aU s≠ []:=by
 cases s with
 | nil=>exact absurd rfl h
 | cons x l=>intro e;have h1:=S03.qd l x 1 (ah _) (by omega);rw[<- S03.g9,e]at h1;cases h1
theorem sS(w:World){s:List UInt8}(hs:s≠ [])(htl:(S03.aU s).length<=262144)(h0:s.length<=262144)(B Z:List Nat)(hZ:am Z)(most:Int)(h1:1<=most)(h2:most<=262144):
 bR (B++(eM s).1++Z) (B.length:Nat) most=if((S03.aU s).length:Int)<=most then(s,S02.bW s,B.length+(eM s).1.length,0)else([],0,0,3):=by have e:(eM s).1=cP s:=(by unfold eM;rw[Nf hs,Nf (by omega)]);rw[e];exact BW w (la _ (lw hs)) (lw hs) htl h0 B Z hZ most h1 h2
theorem rJ(k:Nat):∀(l:List Nat) (a:Nat),(k<=a/\a<=k+1)->(∀ x∈l,k<=x/\x<=k+1)->(bP a l).length<=3*l.length
 | [],_,_,_=>by simp[bP]
 | x::l,a,ha,h=>by have hx:=h x Nl;have ih:=rJ k l x hx fun y hy=>h y (Nu _ hy);rw[bP,Nc,lJ,Nv];omega
theorem xR{k:Nat}(c:Nat)(w:List Nat)(i:Nat):k<=bZ k c w i/\bZ k c w i<=k+1:=by unfold bZ;split <;>omega
theorem FZ{W:List Nat}(h2:2<=W.length)(hn:W.length<=258):∃k,k<=8/\∀x∈oV W,k<=x/\x<=k+1:=by
 refine⟨Nat.log2 W.length,?_,fun x hx=> ?_⟩
 ·have h1:2^(Nat.log2 W.length)<=W.length:=Nat.log2_self_le (by omega);rcases NZ 8 (Nat.log2 W.length)with h|h;·have h4:2^9<=2^(Nat.log2 W.length):=Oj (by decide) h;omega
  ·exact h
 ·unfold oV at hx;obtain⟨i,_,rfl⟩:=List.mem_map.1 hx;exact xR _ _ _
theorem DF{k:Nat}{l:List Nat}(h:∀x∈l,k<=x/\x<=k+1):(bc l).length<=5+3*l.length:=by
 unfold bc;rw[Nc,af]
 match l,h with
 | [],_=>simp[bP]
 | x::l,h=>have h1:=rJ k (x::l) x (h x Nl) h;show 5+(bP x (x::l)).length<=_;omega
theorem nE:∀G:Nat,(aJ [0,1,2,3,4,5] (List.replicate G 0)).length=G
 | 0=>rfl
 | G+1=>by rw[Pg];show(List.replicate 0 1++0::aJ [0,1,2,3,4,5] (List.replicate G 0)).length=_;rw[Nc,Nv,nE G,NE];omega
theorem q6(T:List (List Nat))(P L:List Nat)(h:∀i j,(T.getD (P.getD i 0) []).getD j 0<=9):∀q,(dG T P L q).length<=9*q
 | 0=>by simp[dG]
 | q+1=>by have ih:=q6 T P L h q;have h1:=h (q/50) (L.getD q 0);rw[mq,Nc,bC,af];omega
theorem CA{L:List Int}{m:Int}(hM:iJ L m):(fK (bi L m).1 (bi L m).2.1 L).1<=1576+aR L.length+9*L.length:=by
 have hg:=qg hM;rw[wZ hg hM,pW hg,lz hg hM];obtain⟨f,hf⟩:∃f,f=lx (iP L) m.toNat:=⟨_,rfl⟩;obtain⟨G,hG⟩:∃G,G=aR L.length:=⟨_,rfl⟩;have h7:=hM.1;have h4:=hM.2.1;have h5:∃k,k<=8/\∀x∈f,k<=x/\x<=k+1:=by rw[hf];unfold lx;exact FZ (by unfold bD;simp;omega) (by unfold bD;simp;omega)
 have h6:f.length=m.toNat:=by rw[hf];unfold lx oV bD;simp
 have e1:(bi L m).1= [zL f,zL f]:=by unfold bi;rw[Ng hM,hf]
 have e2:(bi L m).2.1=zL (List.replicate G 0):=by unfold bi;rw[Ng hM,hG]
 rw[e1,e2,<-hG];show(iG ([zL f,zL f].map nl) (nl (zL (List.replicate G 0)))).length+(dG ([zL f,zL f].map nl) (nl (zL (List.replicate G 0))) (nl L) L.length).length<=_;have e3: [zL f,zL f].map nl= [f,f]:=by simp only[OB,Qx,AA]
 rw[e3,AA];obtain⟨k,hk,h0⟩:=h5;have h1:=DF h0;have h2:(iG [f,f] (List.replicate G 0)).length<=18+G+2*(5+3*f.length):=by unfold iG;simp only[Nc,af,nE,N9,List.flatMap_nil,N5];omega
 have h3:=q6 [f,f] (List.replicate G 0) (nl L) (fun i j=>by
  have e4:(List.replicate G 0).getD i 0=0:=by
   rw[Nb,Pm]
   split <;>rfl
  rw[e4]
  show f.getD j 0<=9
  rw[Nb]
  rcases NZ j f.length with hj|hj
  ·rw[Nd hj]
   have:=h0 _ (NL hj)
   show f[j]<=9
   omega
  ·rw[Ny hj]
   exact Nh _) L.length
 omega
theorem BN(w:World)(s:List UInt8):(eM s).1.length<=12*s.length+4000:=by
 unfold eM;split;·exact Nh _
 split;·exact Nh _
 ·rename_i h1 h2;show(cP s).length<=12*s.length+4000;have h0:=lw h1;have hO:=la _ h0;obtain⟨hM,_,h9⟩:=kX hO h0 (by omega);have hg:=nh hO h0 (by omega) w;have h3:=(pT w hM).2.2;have h4:=CA hM;have h5:=wZ hg hM;have h6:=S03.m9 s;have hz:(zL (ct (S03.aU s))).length=(ct (S03.aU s)).length:=(by unfold zL;rw[NC]);obtain⟨r,h7,h8⟩:=S06.j9 (S06.ofL (S03.aU s));have e:(fN (zL (ct (S03.aU s))) (((S06.ofL (S03.aU s)).length+2:Nat):Int))=aY (S03.aU s):=rfl;rw[e,h5]at h3;unfold cP gH;rw[Nc,Nc,Nc,fA];unfold aR at h4;omega
theorem Fb(w:World){s:List UInt8}(hs:s≠ [])(htl:(S03.aU s).length<=262144):137<(eM s).1.length:=by have e:(eM s).1=cP s:=(by unfold eM;rw[Nf hs,Nf (by omega)]);have h1:=lw hs;have hO:=la _ h1;obtain⟨h0,_⟩:=EJ hO h1 htl w;obtain⟨r,h2,h3⟩:=S06.j9 (S06.ofL (S03.aU s));rw[e];unfold cP;rw[Nc,Nc,fA,h0];unfold iG;simp only[Nc,af];omega
def In(w:World)(ans:Nat×Nat×Nat)(e:Ending)(w':World):Prop:=e=.returned (.tuple #[.int .u32 ans.1,.int .i64 ans.2.1,.int .i64 ans.2.2])/\w=w'
theorem nw{l:List Nat}(h:am l)(p k:Nat)(hp:p+k<=l.length):val ((l.drop p).take k)<2^k:=by have h1:=fu _ ((h.drop p).take k);rw[Nz,Nq,Oh (by omega)]at h1;exact h1
theorem GX(w:World)(A:Option Addr)(n c p:Nat)(L:List Nat)(hi:aw w A n L)(hg:n<=c)(hc:c<=maxLen)(hn:n<=1000000)(hp:p<=n)(h2:am L):
 Calls prog 77 #[.slice A n c,.int .i64 p] w (In w (bj L p)):=by
 have h3:=hi.1;have NS:=aa fun(a k:Nat) (ha:a<=n) (hk:k<=64) (h:n<a+k)=>nc w A n c a k (by omega) ha hk h;have NO:=aa fun(a k:Nat) (hk:k<=64) (h:a+k<=n)=>yd w A n c L a k hi h2 hg hc hk h;have VP:=aa fun(a k:Nat) (h:a+k<=n)=>nw h2 a k (by rw[h3];exact h)
 have h0:bj L p=if n<p+48 then(0,0,10)
  else if val ((L.drop p).take 48)≠54156738319193 then(0,0,120)
  else if n<p+48+32 then(0,0,10)
  else if n<p+80+1 then(0,0,10)
  else if val ((L.drop (p+80)).take 1)≠0 then(0,0,120)
  else if n<p+81+24 then(val ((L.drop (p+48)).take 32),0,10)
  else(val ((L.drop (p+48)).take 32),val ((L.drop (p+81)).take 24),0):=by rw[<- h3];rfl
 rw[h0];clear h0 hi h2 h3 hc;obtain⟨p1,h4⟩:∃p1,p1=p+48:=⟨_,rfl⟩;obtain⟨p2,h5⟩:∃p2,p2=p+80:=⟨_,rfl⟩;obtain⟨p3,h6⟩:∃p3,p3=p+81:=⟨_,rfl⟩;have i1:(p:Int)+48=(p1:Int):=by omega
 have i2:(p:Int)+80=(p2:Int):=by omega
 have i3:(p:Int)+81=(p3:Int):=by omega
 rw[<- h4,<-h5,<-h6];have h1:=aa h4;have h7:=aa h5;have hf:=aa h6;clear h4 h5 h6;by_cases e1:n<p1;·rw[Ng e1];have N1:=aa (NS.out p 48 hp (by omega) (by have:=h1.out;omega));clear NS NO VP;go_enter func77,ntmps77;go_wp2_with fail;refine N1.out.mono ?_;rintro e w' ⟨rfl,rfl⟩;go_wp2_with fail;go_ret3;exact⟨rfl,rfl⟩
 rw[Nf e1];have N1:=aa (NO.out p 48 (by omega) (by have:=h1.out;omega));have v1:=VP.out p 48 (by have:=h1.out;omega);obtain⟨m1,h8⟩:∃x,x=val ((L.drop p).take 48):=⟨_,rfl⟩;rw[<- h8]at N1 v1 |-;have v1:m1<281474976710656:=by simpa using v1
 clear h8;by_cases e2:m1≠54156738319193;·rw[Ng e2];have d2':((m1:Int) != 54156738319193)=true:=(by rw[OP];omega);clear NS NO VP;go_enter func77,ntmps77;go_wp2_with fail;refine N1.out.mono ?_;rintro e w' ⟨rfl,rfl⟩;go_wp2_with fail;go_ret3;exact⟨rfl,rfl⟩
 rw[Nf e2];have d2':((m1:Int) != 54156738319193)=false:=by rw[OW];omega
 clear e2;by_cases e3:n<p1+32;·rw[Ng e3];have N2:=aa (NS.out p1 32 (by omega) (by omega) e3);clear NS NO VP;go_enter func77,ntmps77;go_wp2_with fail;refine N1.out.mono ?_;rintro e w' ⟨rfl,rfl⟩;go_wp2_with fail;refine N2.out.mono ?_;rintro e w' ⟨rfl,rfl⟩;go_wp2_with fail;go_ret3;exact⟨rfl,rfl⟩
 rw[Nf e3];have N2:=aa (NO.out p1 32 (by omega) (by omega));have v2:=VP.out p1 32 (by omega);obtain⟨m2,h9⟩:∃x,x=val ((L.drop p1).take 32):=⟨_,rfl⟩;rw[<- h9]at N2 v2 |-;have v2:m2<4294967296:=by simpa using v2
 clear h9;by_cases e4:n<p2+1;·rw[Ng e4];have N3:=aa (NS.out p2 1 (by have:=h7.out;have:=h1.out;omega) (by omega) e4);clear NS NO VP;go_enter func77,ntmps77;go_wp2_with fail;refine N1.out.mono ?_;rintro e w' ⟨rfl,rfl⟩;go_wp2_with fail;refine N2.out.mono ?_;rintro e w' ⟨rfl,rfl⟩;go_wp2_with fail;refine N3.out.mono ?_;rintro e w' ⟨rfl,rfl⟩;go_wp2_with fail;go_ret3;exact⟨rfl,rfl⟩
 rw[Nf e4];have N3:=aa (NO.out p2 1 (by omega) (by omega));have v3:=VP.out p2 1 (by omega);obtain⟨m3,hb⟩:∃x,x=val ((L.drop p2).take 1):=⟨_,rfl⟩;rw[<- hb]at N3 v3 |-;have v3:m3<2:=by simpa using v3
 clear hb;by_cases e5:m3≠0;·rw[Ng e5];have d5':((m3:Int) != 0)=true:=(by rw[OP];omega);clear NS NO VP;go_enter func77,ntmps77;go_wp2_with fail;refine N1.out.mono ?_;rintro e w' ⟨rfl,rfl⟩;go_wp2_with fail;refine N2.out.mono ?_;rintro e w' ⟨rfl,rfl⟩;go_wp2_with fail;refine N3.out.mono ?_;rintro e w' ⟨rfl,rfl⟩;go_wp2_with fail;go_ret3;exact⟨rfl,rfl⟩
 rw[Nf e5];have d5':((m3:Int) != 0)=false:=by rw[OW];omega
 have u2:IntKind.u32.wrap (m2:Int)=m2:=by rw[IntKind.wrap_u32];omega
 clear e5;by_cases e6:n<p3+24;·rw[Ng e6];have N4:=aa (NS.out p3 24 (by have:=h7.out;have:=hf.out;omega) (by omega) e6);clear NS NO VP;go_enter func77,ntmps77;go_wp2_with fail;refine N1.out.mono ?_;rintro e w' ⟨rfl,rfl⟩;go_wp2_with fail;refine N2.out.mono ?_;rintro e w' ⟨rfl,rfl⟩;go_wp2_with fail;refine N3.out.mono ?_;rintro e w' ⟨rfl,rfl⟩;go_wp2_with fail;refine N4.out.mono ?_;rintro e w' ⟨rfl,rfl⟩;go_wp2_with fail;go_ret3;exact⟨rfl,rfl⟩
 rw[Nf e6];have N4:=aa (NO.out p3 24 (by omega) (by omega));have v4:=VP.out p3 24 (by omega);obtain⟨m4,he⟩:∃x,x=val ((L.drop p3).take 24):=⟨_,rfl⟩;rw[<- he]at N4 v4 |-;have v4:m4<16777216:=by simpa using v4
 clear he;have u4:IntKind.i64.wrap (m4:Int)=m4:=by rw[Oe];omega
 clear NS NO VP;go_enter func77,ntmps77;go_wp2_with fail;refine N1.out.mono ?_;rintro e w' ⟨rfl,rfl⟩;go_wp2_with fail;refine N2.out.mono ?_;rintro e w' ⟨rfl,rfl⟩;go_wp2_with fail;refine N3.out.mono ?_;rintro e w' ⟨rfl,rfl⟩;go_wp2_with fail;refine N4.out.mono ?_;rintro e w' ⟨rfl,rfl⟩;go_wp2_with fail;go_ret3;exact⟨rfl,rfl⟩
theorem Aa(T:List (List Nat))(P bits:List Nat)(n0:Nat):∀(k i a:Nat) (out:List Nat),(iW T P bits n0 k i a out).1.length<=out.length+k
 | 0,_,_,_=>by simp[iW]
 | k+1,i,a,out=>by
  rw[jf];split
  ·split;·simp only[Nc,NM];omega
   ·refine NH (Aa T P bits n0 k _ _ _) ?_;rw[Nc,NM];omega
  ·simp
  ·simp
theorem Ab(T:List (List Int))(P:List Int)(bits:List Nat)(a:Int):(dV T P bits a).1.length<=1638350:=by
 unfold dV;split
 ·rename_i hM;split;·simp
  ·have h:=Aa (T.map nl) (nl P) bits (T.getD 0 []).length (50*P.length) 0 a.toNat [];have h2:=hM.2.2.2.1;simp only[N5,N8]at h;omega
 ·simp
theorem oN(n most:Nat):∀(l:List Int) (out:List Nat) (wo:Nat) (ended:Bool),out.length<=most->(S07.dI n most l out wo ended).1.length<=most
 | [],out,wo,ended,h=>by
  unfold S07.dI;split;·exact h
  ·exact Nh _
 | s::l,out,wo,ended,h=>by
  unfold S07.dI;split;·exact Nh _
  split;·exact Nh _
  split;·exact oN n most l out wo true h
  split
  ·split;·exact Nh _
   ·refine oN n most l _ 1 false ?_;rw[Nc,NM];omega
  split;·exact Nh _
  ·refine oN n most l _ _ false ?_;rw[Nc,NE];omega
theorem tz(n most:Int)(L:List Int):(S07.dH n most L).1.length<=262144:=by
 unfold S07.dH;split;·exact Nh _
 ·have h:=oN n.toNat most.toNat L [] 1 false (Nh _);omega
theorem tD:∀(n:Nat) (o l:List UInt8),o.length<=262144->(S03.tC n o l).1.length<=262144
 | 0,o,l,h=>h
 | n+1,o, [],h=>h
 | n+1,o,x::l,h=>by
  unfold S03.tC;split
  ·split;·exact Nh _
   ·refine tD n _ l ?_;rw[Nc,NM];omega
  split;·exact Nh _
  split;·exact Nh _
  split;·exact Nh _
  ·refine tD n _ _ ?_;have h4:((x::l).take 4).length<=4:=(by rw[Nz];omega);rw[Nc,Nc,NE];omega
theorem tA(l:List UInt8):(S03.eD [] l).1.length<=262144:=tD _ _ _ (Nh _)
theorem Do(w:World)(s:ByteArray)(row:Nat):Calls prog 83 #[.string s,.int .i64 row] w fun e w'=>e=.returned (.tuple #[.string (S06.bq (iy s.data.toList row).1),.int .i64 (iy s.data.toList row).2])/\Below w.heap.size w w':=by
 have hl:s.data.toList.length=s.size:=rfl;unfold iy;by_cases h1:262144<s.size;·rw[Ng (by omega)];refine(S05.GQ w s row h1).mono ?_;rintro e w' ⟨rfl,rfl⟩;exact⟨rfl,Nj _ _⟩
 ·rw[Nf (by omega)];by_cases h2:s.size<=row;·rw[Ng (by omega)];refine(S05.GR w s row (by omega) (.inr (by omega))).mono ?_;rintro e w' ⟨rfl,rfl⟩;exact⟨rfl,Nj _ _⟩
  ·rw[Nf (by omega)];exact S05.qA w s row (by omega) (by omega)
theorem aI{fn:Func}{t u v x:Tmp}(h:fn.results=#[.tmp t,.tmp u,.tmp v,.tmp x])(tmps:Array Value)(P:Program)(w:World):
 (results fn tmps).run P w=.ok (.tuple #[tmps.getD t undef,tmps.getD u undef,tmps.getD v undef,tmps.getD x undef]) w:=by simp[results,h]
def eQ(w:World)(ans:List UInt8×Nat×Nat×Nat)(e:Ending)(w':World):Prop:=e=.returned (.tuple #[.string (S06.bq ans.1),.int .u32 ans.2.1,.int .i64 ans.2.2.1,.int .i64 ans.2.2.2])/\Below w.heap.size w w'
theorem Dq(w:World)(A:Option Addr)(n c:Nat)(at' most:Int)(_hn:n<=1000000)(h:at'<0\/(n:Int)<at'\/most<1\/262144<most):
 Calls prog 40 #[.slice A n c,.int .i64 at',.int .i64 most] w fun e w'=>e=.returned (.tuple #[.string ⟨#[]⟩,.int .u32 0,.int .i64 0,.int .i64 2])/\w=w':=by
 by_cases h1:at'<0;·clear h;go_enter func40,ntmps40;go_wp2_with fail;(try simp only[Exit.inBlock,Exit.then]);exact ND (aI rfl _ _ _) rfl ⟨rfl,rfl⟩
 by_cases h2:(n:Int)<at';·clear h;go_enter func40,ntmps40;go_wp2_with fail;(try simp only[Exit.inBlock,Exit.then]);exact ND (aI rfl _ _ _) rfl ⟨rfl,rfl⟩
 by_cases h3:most<1;·clear h;go_enter func40,ntmps40;go_wp2_with fail;(try simp only[Exit.inBlock,Exit.then]);exact ND (aI rfl _ _ _) rfl ⟨rfl,rfl⟩
 have d3:decide (262144<most)=true:=aX (by omega);clear h;go_enter func40,ntmps40;go_wp2_with fail;try simp only[Exit.inBlock,Exit.then]
 exact ND (aI rfl _ _ _) rfl ⟨rfl,rfl⟩
theorem Bt(l:List Nat)(p i:Nat):(S06.dR l p i).length<=16:=by unfold S06.dR;rw[NC];have h:=Qu (fun k=>l.getD (p+k) 0==1) (List.range 16);rwa [NK]at h
theorem xV(l:List Nat)(fl:Nat->Nat):∀(is:List Nat) (p:Nat) (out o:List UInt8) (q:Nat),S06.goT l fl is p out=some (o,q)->o.length<=out.length+16*is.length
 | [],p,out,o,q,h=>by simp only[S06.goT,On,Pv]at h;rw[h.1];omega
 | i::is,p,out,o,q,h=>by
  have h2:=Bt l p i;rw[Nv];unfold S06.goT at h;split at h;·have:=xV l fl is p out o q h;omega
  ·split at h;·cases h
   ·have h3:=xV l fl is _ _ o q h;rw[Nc]at h3;omega
theorem Hs(l:List Nat)(p:Nat):(S06.dQ l p).1.length<=256:=by
 unfold S06.dQ;split;·exact Nh _
 split;·exact Nh _
 cases hg:S06.goT l (fun i=>l.getD (p+i) 0) (List.range 16) (p+16) []with
 | none=>exact Nh _
 | some r=>
  obtain⟨o,q⟩:=r;have h:=xV _ _ _ _ _ _ _ hg;rw[NK,N5]at h;dsimp only;split;·exact Nh _
  ·exact h
theorem qK(l:List Nat)(p:Int):(S06.ao l p).1.length<=256:=by
 unfold S06.ao;split;·exact Nh _
 ·exact Hs l _
theorem cG{e:Nat}(h:e≠0):((e:Int) != 0)=true:=by rw[OP];omega
theorem eE{e:Nat}(h:¬e≠0):((e:Int) != 0)=false:=by rw[OW];omega
theorem GS(w:World)(A:Option Addr)(n c a0 m0:Nat)(L:List Nat)(hi:aw w A n L)(hf:n<=c)(hc:c<=maxLen)(hn:n<=1000000)(ha:a0<=n)(hh:am L)(HF:1<=m0)(HJ:m0<=262144):
 Calls prog 40 #[.slice A n c,.int .i64 a0,.int .i64 m0] w (eQ w (bR L a0 m0)):=by
 have h6:bR L a0 m0=if(bj L a0).2.2≠0 then([],0,0,(bj L a0).2.2)else jD L (bj L a0).1 (bj L a0).2.1 (a0+105) m0:=by unfold bR;rw[Nf (by rw[hi.1];omega),Nn]
 have HH:=aa (GX w A n c a0 L hi hf hc hn ha hh);have HU:=aa (S06.G6 w A n c ((a0+105:Nat):Int) L hi hf (by omega) (by omega));have HG:=aa fun(wx:World) (h:aw wx A n L) (p k:Int)=>Dy wx A n c L p k h hf hn hc hh;have HC:=aa fun(wx:World) (v:Value) (T:List (List Int)) (P:List Int) (hp:aQ wx v T P) (h:aw wx A n L) (p:Int)=>GU wx v T P hp A n c L p h hf hn hc hh;have HI:=aa fun(wx:World) (hb:Below w.heap.size w wx)=>S05.jy hi hb;generalize bR L a0 m0=ans at*;have h4:=aa (fun(w1:World) (e:Nat) (h:ans=([],0,0,e)) (hb:Below w.heap.size w w1)=>(show eQ w ans (.returned (.tuple #[.string ⟨#[]⟩,.int .u32 0,.int .i64 0,.int .i64 e])) w1 from⟨by rw[h];rfl,hb⟩));have ho:=aa (fun(w1:World) (s:ByteArray) (x q:Nat) (h:ans=(s.data.toList,x,q,0)) (hb:Below w.heap.size w w1)=>(show eQ w ans (.returned (.tuple #[.string s,.int .u32 x,.int .i64 q,.int .i64 (0:Nat)])) w1 from⟨by rw[h];rfl,hb⟩));generalize eQ w ans=PO at*;clear hi hf hc hh;obtain⟨q0,hV⟩:∃q0,q0=a0+105:=⟨_,rfl⟩;have j0:(a0:Int)+105=(q0:Int):=by omega
 rw[<- hV]at h6 HU;have HK:q0<=1000105:=by omega
 clear hV;generalize bj L a0=hd at*;obtain⟨x,row,he⟩:=hd;dsimp only at h6;have h3:=aa h6;clear h6;have d0:decide ((a0:Int)<0)=false:=aD (by omega);have d2:decide ((m0:Int)<1)=false:=aD (by omega);have d3:decide (262144<(m0:Int))=false:=aD (by omega);go_enter func40,ntmps40;go_wp2_with fail;refine HH.out.mono ?_;rintro e w1 ⟨rfl,rfl⟩;dsimp only;by_cases e1:he≠0;·have dd:=cG e1;have h0:=h3.out;rw[Ng e1]at h0;have HA:=aa (h4.out w he h0 (Nj _ _));clear h0 h3;go_wp2_with fail;(try simp only[Exit.inBlock,Exit.then]);refine ND (aI rfl _ _ _) rfl ?_;exact HA.out
 have dd:=eE e1;have h0:=h3.out;rw[Nf e1]at h0;clear h3 HH;unfold jD at h0;have h8:=qK L (q0:Nat);generalize S06.ao L (q0:Nat)=u at*;obtain⟨ul,up,ue⟩:=u;dsimp only at h0 h8;have hH:=aa h8;clear h8;have h3:=aa h0;clear h0;go_wp2_with fail;refine HU.out.mono ?_;rintro e w1 ⟨rfl,hq⟩;have hz:=aa hq;have H2:=aa (HI.out w1 hq);clear hq HU e1 dd;dsimp only;by_cases e2:ue≠0;·have dd:=cG e2;have h0:=h3.out;rw[Ng e2]at h0;have HA:=aa (h4.out w1 ue h0 hz.out);clear h0 h3;go_wp2_with fail;(try simp only[Exit.inBlock,Exit.then]);refine ND (aI rfl _ _ _) rfl ?_;exact HA.out
 have dd:=eE e2;have h0:=h3.out;rw[Nf e2]at h0;clear h3;obtain⟨us,hl⟩:∃us,us=S06.bq ul:=⟨_,rfl⟩;have hW:us.data.toList=ul:=by rw[hl];rfl
 have HB:us.size=ul.length:=by rw[hl];rfl
 have hu:us.size<=256:=by have:=hH.out;omega
 clear hH;rw[<- hl];rw[<- hW]at h0;rw[show us.data.toList.length=us.size from rfl]at h0;clear hW HB hl;obtain⟨k2,hS⟩:∃k2,k2=us.size+2:=⟨_,rfl⟩;have j1:(us.size:Int)+2=(k2:Int):=by omega
 rw[<- hS]at h0;clear hS e2;have HT:=aa (HG.out w1 H2.out (up:Nat) (k2:Nat));generalize dC L (up:Nat) ((k2:Nat):Int)=g at*;obtain⟨T,P,gp,ge⟩:=g;dsimp only at h0;have h3:=aa h0;clear h0;go_wp2_with fail;refine HT.out.mono ?_;rintro e w2 ⟨v,rfl,hk,hJ⟩;obtain⟨A',n',c',B',m',d',rfl,hk⟩:=hk.parts;obtain⟨w3,hg⟩:∃w3,w3=w2.alloc (.cells #[.slice A' n' c',.slice B' m' d'] 90):=⟨_,rfl⟩;obtain⟨hj,hr⟩:=tV hk;rw[<- hg]at hj hr;have hX:=aa (ap hz.out hJ);have hm:=aa (ap hX.out hr);have H3:=aa (HI.out w3 hm.out);have H1:=aa hj;obtain⟨qa,qb⟩:=hj.cells;rw[hg]at qa qb;clear hJ hr hj hk HT dd;dsimp only;by_cases e3:ge≠0;·have dd:=cG e3;have h0:=h3.out;rw[Ng e3]at h0;have HA:=aa (h4.out w3 ge h0 hm.out);clear h0 h3;go_wp2_with fail;(try simp only[Exit.inBlock,Exit.then]);rw[<- hg];refine ND (aI rfl _ _ _) rfl ?_;exact HA.out
 have dd:=eE e3;have h0:=h3.out;rw[Nf e3]at h0;clear h3 e3;have hG:=aa (HC.out w3 _ T P H1.out.2 H3.out (gp:Nat));have ht:=Ab T P L (gp:Nat);generalize dV T P L ((gp:Nat):Int)=cg at*;obtain⟨cl,cp,ce⟩:=cg;dsimp only at h0 ht;have h3:=aa h0;have hZ:=aa ht;clear h0 ht;go_wp2_with fail;rw[<- hg];clear hg qa qb;refine hG.out.mono ?_;rintro e w4 h7;obtain⟨A4,c4,rfl,hx,hR,hK⟩:=E3 h7;have hA:=aa (ap hm.out hK);have H4:=aa hR;clear hK hR h7 hG dd;dsimp only;by_cases e4:ce≠0;·have dd:=cG e4;have h0:=h3.out;rw[Ng e4]at h0;have HA:=aa (h4.out w4 ce h0 hA.out);clear h0 h3;go_wp2_with fail;(try simp only[Exit.inBlock,Exit.then]);refine ND (aI rfl _ _ _) rfl ?_;exact HA.out
 have dd:=eE e4;have h0:=h3.out;rw[Nf e4]at h0;clear h3 e4;have HD:=aa (S07.J7 w4 A4 cl.length c4 (zL cl) (us.size:Nat) (m0:Nat) (dK H4.out) hx (by have:=hZ.out;omega));have hv:=tz (us.size:Nat) (m0:Nat) (zL cl);generalize S07.dH (us.size:Nat) (m0:Nat) (zL cl)=dg at*;obtain⟨dl,de⟩:=dg;dsimp only at h0 hv;have h3:=aa h0;have H0:=aa hv;clear h0 hv;go_wp2_with fail;refine HD.out.mono ?_;rintro e w5 ⟨v5,rfl,h5,hL⟩;obtain⟨A5,c5,rfl,H8,_⟩:=ak h5;have H5:=aa (aN h5);have hB:=aa (ap hA.out hL);clear h5 hL HD dd;dsimp only;by_cases e5:de≠0;·have dd:=cG e5;have h0:=h3.out;rw[Ng e5]at h0;have HA:=aa (h4.out w5 de h0 hB.out);clear h0 h3;go_wp2_with fail;(try simp only[Exit.inBlock,Exit.then]);refine ND (aI rfl _ _ _) rfl ?_;exact HA.out
 have dd:=eE e5;have h0:=h3.out;rw[Nf e5]at h0;clear h3 e5;have hF:=aa (S06.qA w5 A5 dl.length c5 (zL dl) us (dK H5.out) (by have:=H0.out;omega) (by omega));generalize S06.cL (zL dl) us.data.toList=bg at*;obtain⟨bl,be⟩:=bg;dsimp only at h0;have h3:=aa h0;clear h0;go_wp2_with fail;refine hF.out.mono ?_;rintro e w6 ⟨rfl,hM⟩;have hY:=aa (ap hB.out hM);clear hM hF dd;dsimp only;obtain⟨bs,hs⟩:∃bs,bs=S06.bq bl:=⟨_,rfl⟩;have hQ:bs.data.toList=bl:=by rw[hs];rfl
 rw[<- hs];have h0:=h3.out;rw[<- hQ]at h0;clear h3 hs hQ;have HW:=aa (Do w6 bs row);generalize iy bs.data.toList row=kg at*;obtain⟨kl,ke⟩:=kg;dsimp only at h0;have h3:=aa h0;clear h0;go_wp2_with fail;refine HW.out.mono ?_;rintro e w7 ⟨rfl,hN⟩;have hC:=aa (ap hY.out hN);clear hN HW;dsimp only;by_cases e6:ke≠0;·have dd:=cG e6;have h0:=h3.out;rw[Ng e6]at h0;have HA:=aa (h4.out w7 ke h0 hC.out);clear h0 h3;go_wp2_with fail;(try simp only[Exit.inBlock,Exit.then]);refine ND (aI rfl _ _ _) rfl ?_;exact HA.out
 have dd:=eE e6;obtain⟨ks,hw⟩:∃ks,ks=S06.bq kl:=⟨_,rfl⟩;have hT:ks.data.toList=kl:=by rw[hw];rfl
 rw[<- hw];have h0:=h3.out;rw[Nf e6,<-hT]at h0;clear h3 e6 hw hT;have HX:=aa (S03.uF w7 ks);have h9:=tA ks.data.toList;generalize S03.eD [] ks.data.toList=xg at*;obtain⟨xl,xe⟩:=xg;dsimp only at h0 h9;have h3:=aa h0;have hI:=aa h9;clear h0 h9;go_wp2_with fail;refine HX.out.mono ?_;rintro e w8 ⟨rfl,hO⟩;have hD:=aa (ap hC.out hO);clear hO HX dd;dsimp only;by_cases e7:xe≠0;·have dd:=cG e7;have h0:=h3.out;rw[Ng e7]at h0;have HA:=aa (h4.out w8 xe h0 hD.out);clear h0 h3;go_wp2_with fail;(try simp only[Exit.inBlock,Exit.then]);refine ND (aI rfl _ _ _) rfl ?_;exact HA.out
 have dd:=eE e7;obtain⟨xs,hy⟩:∃xs:ByteArray,xs=⟨xl.toArray⟩:=⟨_,rfl⟩;have h9:xs.data.toList=xl:=by rw[hy]
 have HE:xs.size<=262144:=by have h1:xs.data.toList.length=xs.size:=rfl;have h2:=hI.out;rw[h9]at h1;omega
 rw[<- hy];have h0:=h3.out;rw[Nf e7,<-h9]at h0;clear h3 e7 hy h9 hI;have HZ:=aa (S02.IA w8 xs (by omega));generalize S02.bW xs.data.toList=z at*;have h3:=aa h0;clear h0 HE;go_wp2_with fail;refine HZ.out.mono ?_;rintro e w9 ⟨rfl,hP⟩;have hE:=aa (ap hD.out hP);clear hP HZ dd;dsimp only;by_cases e8:z≠x;·have dd:((z:Int) != (x:Int))=true:=(by rw[OP];omega);have h0:=h3.out;rw[Ng e8]at h0;have HA:=aa (h4.out w9 121 h0 hE.out);clear h0 h3;go_wp2_with fail;(try simp only[Exit.inBlock,Exit.then]);refine ND (aI rfl _ _ _) rfl ?_;exact HA.out
 have dd:((z:Int) != (x:Int))=false:=by rw[OW];omega
 have h0:=h3.out;rw[Nf e8]at h0;have HA:=aa (ho.out w9 xs x cp h0 hE.out);clear h0 h3;go_wp2_with fail;try simp only[Exit.inBlock,Exit.then]
 refine ND (aI rfl _ _ _) rfl ?_;exact HA.out
theorem vM(s:List UInt8):am (eM s).1:=by
 unfold eM;split;·intro b hb;cases hb
 split;·intro b hb;cases hb
 ·show am (cP s);unfold cP fF gH;exact am.append (am.append (am.append (am.append (aB _ _) (aB _ _)) (aB _ _)) (S06.sN _)) (am.append (sP _ _) (qZ _ _ _))
theorem Lo{n:Nat}{l:List Nat}(h1:1<=n)(h2:n<=256)(h:∀x∈l,x<n):S07.mw (n:Nat) (zL l)=(S07.fY n 0 l,0):=by
 unfold S07.mw
 rw[Nf (by omega),Ng (fun x hx=>by
  unfold zL at hx
  obtain⟨y,hy,rfl⟩:=List.mem_map.1 hx
  have:=h y hy
  omega),Nn]
 rw[show (zL l).map Int.toNat=l from AA l]
theorem BM(s:List UInt8)(_hs:s.length<=200000):(eM s).1.length<=100000000:=by
 unfold eM;split;·exact Nh _
 split;·exact Nh _
 ·rename_i h1 h2;show(cP s).length<=100000000;have hO:=la _ (lw h1);have h6:=(kX hO (lw h1) (by omega)).2.2;have h3:=jW (aY (S03.aU s)).1 (aY (S03.aU s)).2.1;have h4:=iU (aY (S03.aU s)).1 (aY (S03.aU s)).2.1 (zL (ct (S03.aU s))) (by unfold zL;rw[NC];omega);obtain⟨r,h0,h5⟩:=S06.j9 (S06.ofL (S03.aU s));unfold cP gH;rw[Nc,Nc,Nc,fA];omega
theorem Dp(w:World)(A:Option Addr)(n c:Nat)(at' most:Int)(L:List Nat)(hi:aw w A n L)(h1:n<=c)(hc:c<=maxLen)(hn:n<=1000000)(h0:am L):
 Calls prog 40 #[.slice A n c,.int .i64 at',.int .i64 most] w (eQ w (bR L at' most)):=by
 by_cases h:at'<0\/(n:Int)<at'\/most<1\/262144<most;·have e:bR L at' most=([],0,0,2):=(by unfold bR;rw[Ng (by rw[hi.1];exact h)]);rw[e];refine(Dq w A n c at' most hn h).mono ?_;rintro e w' ⟨rfl,rfl⟩;exact⟨rfl,Nj _ _⟩
 ·obtain⟨a0,rfl⟩:∃a0:Nat,at'=a0:=⟨at'.toNat,by omega⟩;obtain⟨m0,rfl⟩:∃m0:Nat,most=m0:=⟨most.toNat,by omega⟩;exact GS w A n c a0 m0 L hi h1 hc hn (by omega) h0 (by omega) (by omega)
