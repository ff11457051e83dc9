import Derived.Test.YtepokmggbfoakaaGreatDoorA11
import Derived.Test.YtepokmggbfoakaaGreatDoorA12
import Derived.Test.YtepokmggbfoakaaGreatDoorA13
import Derived.Test.YtepokmggbfoakaaGreatDoorA18
import Derived.Test.YtepokmggbfoakaaGreatDoorA19
import Derived.Test.YtepokmggbfoakaaGreatDoorA21
set_option maxHeartbeats 3200000
set_option maxRecDepth 100000
namespace Go.Proofs.YtepokmggbfoakaaGreatDoor
open Go.RowKit
noncomputable def KE (t:List UInt8):List Nat:=open Classical in if h:∃L,S05.eD t L then Classical.choose h else []
theorem mW{t:List UInt8}{L:List Nat}(h:S05.eD t L):L=KE t:=by unfold KE;rw[dif_pos ⟨L,h⟩];exact S05.FA h (Classical.choose_spec (⟨L,h⟩:∃L,S05.eD t L))
noncomputable def mB (t:List UInt8):Nat:=(KE t).idxOf 0
noncomputable def j5 (t:List UInt8):List UInt8:=S05.bf t (KE t)
theorem xH{t:List UInt8}{L:List Nat}{k:Nat}(h:S05.eD t L)(hk:k<L.length)(h0:L.getD k 0=0):k=mB t:=by have hL:=mW h;unfold mB;rw[← hL];have hm:(0:Nat)∈L:=(by rw[← h0,LU,LV hk];exact Mu hk);have h1:=NL hm;have h2:L[L.idxOf 0]=0:=List.getElem_idxOf h1;have h3:L[k]=0:=(by rw[LU,LV hk]at h0;exact h0);exact S05.vR (S05.jR h) hk h1 (h3.trans h2.symm)
noncomputable def dJ (t:List UInt8):List Nat:=(S06.dq (j5 t) (S06.ofL t)).getD []
noncomputable def b4 (t:List UInt8):List Nat:=S07.fG (S06.ofL t).length 0 (dJ t)
noncomputable def aW (t:List UInt8):List (List Int)×List Int×Nat:=fy (zL (b4 t)) ((S06.ofL t).length+2:Nat)
noncomputable def fm (s:List UInt8):List Nat:=aj 54156738319193 48++aj (S02.b6 s) 32++aj (mB (S03.aT s)) 25
noncomputable def gn (t:List UInt8):List Nat:=(fe (aW t).1 (aW t).2.1).1++(bI (aW t).1 (aW t).2.1 (zL (b4 t))).1
noncomputable def cL (s:List UInt8):List Nat:=fm s++S06.dM (S06.ofL (S03.aT s))++gn (S03.aT s)
noncomputable def dX (s:List UInt8):List Nat×Nat:=if s= []then([],2)else if 262144<(S03.aT s).length then([],3)else(cL s,0)
def bY(l:List Nat)(p:Nat):Nat×Nat×Nat:=
 if l.length<p+48 then(0,0,10)
 else if val ((l.drop p).take 48)≠54156738319193 then(0,0,120)
 else if l.length<p+48+32 then(0,0,10)
 else if l.length<p+80+1 then(0,0,10)
 else if val ((l.drop (p+80)).take 1)≠0 then(0,0,120)
 else if l.length<p+81+24 then(val ((l.drop (p+48)).take 32),0,10)
 else(val ((l.drop (p+48)).take 32),val ((l.drop (p+81)).take 24),0)
def kC(col:List UInt8)(row:Nat):List UInt8×Nat:=if 262144<col.length then([],3)else if col.length≤row then([],50)else(S05.jl col row,0)
def kW(l:List Nat)(sum row q:Nat)(most:Int):List UInt8×Nat×Nat×Nat:=
 let u:=S06.ax l (q:Nat)
 if u.2.2≠0 then([],0,0,u.2.2)else
 let g:=dU l (u.2.1:Nat) ((u.1.length+2:Nat):Int)
 if g.2.2.2≠0 then([],0,0,g.2.2.2)else
 let c:=ij g.1 g.2.1 l (g.2.2.1:Nat)
 if c.2.2≠0 then([],0,0,c.2.2)else
 let d:=S07.eQ (u.1.length:Nat) most (zL c.1)
 if d.2≠0 then([],0,0,d.2)else
 let b:=kC (S06.eE (zL d.1) u.1).1 row
 if b.2≠0 then([],0,0,b.2)else
 let x:=S03.e9 [] b.1
 if x.2≠0 then([],0,0,x.2)else
 if S02.b6 x.1≠sum then([],0,0,121)else(x.1,sum,c.2.1,0)
def cH(l:List Nat)(at' most:Int):List UInt8×Nat×Nat×Nat:=
 if at'<0∨(l.length:Int)<at'∨most<1∨262144<most then([],0,0,2)
 else if(bY l at'.toNat).2.2≠0 then([],0,0,(bY l at'.toNat).2.2)
 else kW l (bY l at'.toNat).1 (bY l at'.toNat).2.1 (at'.toNat+105) most
theorem qL:∀(s list:List UInt8) (l:List Nat),S06.dq s list=some l→∀x∈l,x<list.length
 | [],list,l,h,x,hx=>by simp only[S06.dq,MS]at h;rw[← h]at hx;exact absurd hx ay
 | b :: s,list,l,h,x,hx=>by
  rw[S06.dq]at h;by_cases hb:b∈list
  ·have h1:=NL hb;rw[LX hb]at h;obtain⟨m,hm,rfl⟩:=Option.map_eq_some_iff.1 h;rcases List.mem_cons.1 hx with rfl | hx;·exact h1
   ·have h2:=qL s _ m hm x hx;rwa [S06.ef _ _ h1]at h2
  ·rw[LW hb]at h;cases h
theorem pQ(n:Nat)(hn:1≤n):∀(l:List Nat) (r:Nat),(∀ x∈l,x<n)→∃init,S07.fG n r l=init++ [n+1]∧∀x∈init,x≤n
 | [],r,_=>⟨S07.dig r,rfl,fun x hx=>by have:=S07.Dt r x hx;omega⟩
 | y :: l,r,h=>by
  have hl:∀x∈l,x<n:=fun x hx=>h x (Ma _ hx);by_cases hy:y=0;·rw[hy,S07.zt];exact pQ n hn l (r+1) hl
  ·obtain⟨init,h1,h2⟩:=pQ n hn l 0 hl;have h0:=h y L4;refine⟨S07.dig r++(y+1) :: init,by rw[S07.zo n r y l hy,h1];simp,fun x hx=> ?_⟩;rcases List.mem_append.1 hx with hx | hx;·have:=S07.Dt r x hx;omega
   ·rcases List.mem_cons.1 hx with rfl | hx;·omega
    ·exact h2 x hx
theorem Cv(s:List UInt8):(S06.ofL s).length≤256:=by have h:=P7 (fun b=>decide (b∈s)) S06.yh;have h2:S06.yh.length=256:=(by simp[S06.yh]);unfold S06.ofL;omega
theorem xw{s:List UInt8}(h:s≠ []):1≤(S06.ofL s).length:=by
 have:=(S06.rH s h).1;rcases hl:S06.ofL s with _ | ⟨x,l⟩;·exact absurd hl this
 ·simp
theorem KJ(t:List UInt8)(i:Nat)(h:0<t.length):S05.rat t i∈t:=by unfold S05.rat;have hi:=OG i h;rw[LU,LV hi];exact Mu hi
section
variable {t:List UInt8} {k:Nat} (hO:S05.AX t 0 k) (ht:t≠ []) (htl:t.length≤262144)
include hO
theorem Jj:k=mB t:=by obtain⟨L,h1,h2,h3⟩:=hO;exact xH h1 h2 h3
theorem nz:(j5 t).length=t.length:=by obtain⟨L,h1,h2,h3⟩:=hO;unfold j5;rw[S05.bq,←mW h1,S05.dH h1]
theorem xJ:mB t<t.length:=by rw[← Jj hO];obtain⟨L,h1,h2,h3⟩:=hO;rw[← S05.dH h1];exact h2
theorem Hr:S05.jl (j5 t) (mB t)=t:=by have hr:=xJ hO;have hk:=Jj hO;obtain⟨L,h1,h2,h3⟩:=hO;unfold j5;rw[← mW h1,S05.G2 h1 _ hr,←hk,h3,S05.F6]
theorem Kg(x:UInt8)(hx:x∈j5 t):x∈S06.ofL t:=by obtain⟨L,h1,h2,h3⟩:=hO;unfold j5 S05.bf at hx;rw[← mW h1]at hx;obtain⟨i,hi,rfl⟩:=List.mem_map.1 hx;have hl:=(h1.2 i).1 hi;rw[S06.mV];exact KJ t _ (by omega)
theorem nN:S06.dq (j5 t) (S06.ofL t)=some (dJ t)∧(dJ t).length=t.length∧∀x∈dJ t,x<(S06.ofL t).length:=by obtain⟨l,h1,h2⟩:=S06.sV (j5 t) (S06.ofL t) (Kg hO);have e:dJ t=l:=(by unfold dJ;rw[h1];rfl);rw[e];exact⟨h1,h2.trans (nz hO),qL _ _ _ h1⟩
include ht htl
theorem kQ:ix (zL (b4 t)) (((S06.ofL t).length+2:Nat):Int)∧GT (zL (b4 t)) (((S06.ofL t).length+2:Nat):Int)∧(b4 t).length≤t.length+1:=by
 have hn:=xw ht;have ha:=Cv t;obtain⟨hb,hc,h8⟩:=nN hO;obtain⟨init,h1,h2⟩:=pQ (S06.ofL t).length hn (dJ t) 0 h8;have h7:=S07.nB (S06.ofL t).length (dJ t) 0;have hL:b4 t=init++ [(S06.ofL t).length+1]:=h1;have h0:(b4 t).length≤t.length+1:=by unfold b4;omega
 have hz:(zL (b4 t)).length=(b4 t).length:=by unfold zL;rw[Mi]
 have h9:(b4 t).length=init.length+1:=by rw[hL,LR,Mq]
 refine⟨⟨by omega,by omega,by omega,by omega,fun x hx=> ?_⟩,fun j hj=> ?_,h0⟩
 ·unfold zL at hx;obtain⟨y,hy,rfl⟩:=List.mem_map.1 hx;rw[hL]at hy;rcases List.mem_append.1 hy with hy | hy;·have:=h2 y hy;omega
  ·rw[List.mem_singleton.1 hy];omega
 ·rw[hz]at hj ⊢;have hg:(zL (b4 t)).getD j 0=((b4 t).getD j 0:Nat):=by unfold zL;rw[LU,Me,LU,LV hj];rfl
  rw[hg];by_cases h5:j<init.length
  ·have h3:(b4 t).getD j 0≤(S06.ofL t).length:=(by rw[hL,LU,ME h5,LV h5];exact h2 _ (Mu h5));constructor;·intro h4;omega
   ·intro h4;omega
  ·have h6:j=init.length:=(by omega);have h3:(b4 t).getD j 0=(S06.ofL t).length+1:=(by rw[hL,h6,LU,MC (ag _),Ng];rfl);constructor;·intro _;omega
   ·intro _;omega
theorem mX(w:World):eI (aW t).1 (aW t).2.1 (zL (b4 t)) (((S06.ofL t).length+2:Nat):Int):=(pF w (kQ hO ht htl).1).1
theorem DW(w:World):gn t=iq ((aW t).1.map nl) (nl (aW t).2.1)++dB ((aW t).1.map nl) (nl (aW t).2.1) (nl (zL (b4 t))) (zL (b4 t)).length∧(bI (aW t).1 (aW t).2.1 (zL (b4 t))).2=0:=by have hg:=mX hO ht htl w;have hM:=(kQ hO ht htl).1;unfold gn;rw[pH hg,lw hg hM];exact⟨rfl,rfl⟩
theorem F3(w:World)(s:List UInt8)(sum:Nat)(hs:S03.aT s=t)(hb:s.length≤262144)(B Z:List Nat)(hZ:au Z)(most:Int)(h1:1≤most)(h2:most≤262144):
 kW (B++(S06.dM (S06.ofL t)++gn t)++Z) sum (mB t) B.length most=if(t.length:Int)≤most then(if S02.b6 s≠sum then([],0,0,121)else(s,sum,B.length+(S06.dM (S06.ofL t)++gn t).length,0))else([],0,0,3):=by
 have hg:=mX hO ht htl w;obtain⟨hM,hE,h7⟩:=kQ hO ht htl;obtain⟨h8,h9,ha⟩:=nN hO;have hn:=xw ht;have he:=Cv t;have hc:=nz hO;have h6:=Hr hO;have hf:=xJ hO;obtain⟨h0,_⟩:=DW hO ht htl w;obtain⟨SH,h3⟩:∃x,x=S06.dM (S06.ofL t):=⟨_,rfl⟩;obtain⟨PB,h5⟩:∃x,x=iq ((aW t).1.map nl) (nl (aW t).2.1):=⟨_,rfl⟩;obtain⟨CQ,h4⟩:∃x,x=dB ((aW t).1.map nl) (nl (aW t).2.1) (nl (zL (b4 t))) (zL (b4 t)).length:=⟨_,rfl⟩;rw[← h5,←h4]at h0;have e1:S06.ax (B++(SH++gn t)++Z) (B.length:Nat)=(S06.ofL t,B.length+SH.length,0):=by have h:=S06.qn (S06.ofL t) (S06.rH t ht) B (gn t++Z);unfold S06.ax;rw[LW (by omega),L9,show B++(SH++gn t)++Z=B++S06.dM (S06.ofL t)++(gn t++Z) by rw[h3];simp only[LZ],h,h3]
 have e2:dU (B++(SH++gn t)++Z) ((B.length+SH.length:Nat):Nat) (((S06.ofL t).length+2:Nat):Int)=((aW t).1,(aW t).2.1,B.length+SH.length+PB.length,0):=by have h:=C8 hg hM (B++SH) (CQ++Z);rw[← h5,LR]at h;rw[← h,h0];simp only[LZ]
 have e3:ij (aW t).1 (aW t).2.1 (B++(SH++gn t)++Z) ((B.length+SH.length+PB.length:Nat):Nat)=(b4 t,B.length+SH.length+PB.length+CQ.length,0):=by have h:=Fl hg hM hE (B++SH++PB) Z hZ;rw[← h4,LR,LR,zZ]at h;rw[← h,h0];simp only[LZ]
 have e4:S07.eQ ((S06.ofL t).length:Nat) most (zL (b4 t))=if(t.length:Int)≤most then(dJ t,0)else([],3):=by
  have h:=S07.oC (S06.ofL t).length most.toNat hn (dJ t) 0 [] ha (LY _);unfold S07.eQ;rw[LW (by omega),L9,show zL (b4 t)=S07.ints (S07.fG (S06.ofL t).length 0 (dJ t))from rfl,h,h9];simp only[MH,OY,Mz,MG,MM];by_cases hm:(t.length:Int)≤most;·rw[LX hm,LX (by omega)]
  ·rw[LW hm,LW (by omega)]
 have e5:S06.eE (zL (dJ t)) (S06.ofL t)=(j5 t,0):=by have h:=S06.sd _ _ _ h8;unfold S06.eE;rw[LX (S06.rH t ht),show zL (dJ t)=(dJ t).map fun(x:Nat)=>(x:Int)from rfl,h]
 have e6:kC (j5 t) (mB t)=(t,0):=by unfold kC;rw[LW (by omega),LW (by omega),h6]
 have e7:S03.e9 [] t=(s,0):=by rw[← hs];exact S03.oC s hb
 have eL:B.length+(SH++gn t).length=B.length+SH.length+PB.length+CQ.length:=by rw[h0];simp only[LR];omega
 rw[← h3,eL];unfold kW;simp only[e1,e2,e3,e4];by_cases hm:(t.length:Int)≤most;·simp[LX hm,e5,e6,e7]
 ·simp[LW hm]
end
theorem k5(x n:Nat)(h:x<2 ^ n)(R:List Nat):val ((aj x n++R).take n)=x:=by rw[Ql (af n x),dW,Ms h]
theorem wZ(B C R:List Nat)(p:Nat)(h:p=B.length+C.length):(B++(C++R)).drop p=R:=by rw[h,←LZ,←LR,NS]
theorem fb(s:List UInt8):(fm s).length=105:=by unfold fm;simp only[LR,af]
theorem Ft(s:List UInt8)(hr:mB (S03.aT s)<2 ^ 24)(B R:List Nat):bY (B++(fm s++R)) B.length=(S02.b6 s,mB (S03.aT s),0):=by have hl:(B++(fm s++R)).length=B.length+105+R.length:=(by rw[LR,LR,fb,Nu]);obtain⟨M,hM⟩:∃M,M=aj 54156738319193 48:=⟨_,rfl⟩;obtain⟨S,hS⟩:∃S,S=aj (S02.b6 s) 32:=⟨_,rfl⟩;obtain⟨W,hW⟩:∃W,W=aj (mB (S03.aT s)) 24:=⟨_,rfl⟩;have h0:M.length=48:=(by rw[hM,af]);have h1:S.length=32:=(by rw[hS,af]);have h2:aj (mB (S03.aT s)) 25=0 :: W:=(by rw[yy,hW];congr 1;omega);have hH:fm s=M++S++(0 :: W):=(by unfold fm;rw[h2,hM,hS]);have hb:S02.b6 s<2 ^ 32:=S02.om s;have g0:(B++(fm s++R)).drop B.length=M++(S++(0 :: W)++R):=(by rw[NS,hH];simp only[LZ]);have g1:(B++(fm s++R)).drop (B.length+48)=S++((0 :: W)++R):=(by rw[hH,LZ,LZ];exact wZ B M _ _ (by rw[h0]));have g2:(B++(fm s++R)).drop (B.length+80)=(0 :: W)++R:=(by rw[hH,LZ];exact wZ B (M++S) _ _ (by rw[LR,h0,h1]));have g3:(B++(fm s++R)).drop (B.length+81)=W++R:=(by have e:B++(fm s++R)=B++((M++S++ [0])++(W++R)):=(by rw[hH];simp);rw[e];exact wZ B (M++S++ [0]) _ _ (by simp only[LR,h0,h1,Mq]));have v0:val ((M++(S++(0 :: W)++R)).take 48)=54156738319193:=(by rw[hM];exact k5 _ 48 (by omega) _);have v1:val ((S++((0 :: W)++R)).take 32)=S02.b6 s:=(by rw[hS];exact k5 _ 32 hb _);have v2:val (((0 :: W)++R).take 1)=0:=rfl;have v3:val ((W++R).take 24)=mB (S03.aT s):=(by rw[hW];exact k5 _ 24 hr _);unfold bY;rw[hl,g0,g1,g2,g3,v0,v1,v2,v3];rw[LW (by omega),LW (by simp),LW (by omega),LW (by omega),LW (by simp),LW (by omega)]
theorem Bl(w:World){s:List UInt8}{k:Nat}(hO:S05.AX (S03.aT s) 0 k)(ht:S03.aT s≠ [])(htl:(S03.aT s).length≤262144)(h4:s.length≤262144)(B Z:List Nat)(hZ:au Z)(most:Int)(h1:1≤most)(h2:most≤262144):
 cH (B++cL s++Z) (B.length:Nat) most=if((S03.aT s).length:Int)≤most then(s,S02.b6 s,B.length+(cL s).length,0)else([],0,0,3):=by
 have hr:=xJ hO;obtain⟨X,hX⟩:∃X,X=S06.dM (S06.ofL (S03.aT s))++gn (S03.aT s):=⟨_,rfl⟩;have e0:cL s=fm s++X:=by unfold cL;rw[hX,LZ]
 have e1:B++cL s++Z=B++(fm s++(X++Z)):=by rw[e0];simp only[LZ]
 have e2:B++(fm s++(X++Z))=(B++fm s)++X++Z:=by simp only[LZ]
 have hh:=Ft s (by omega) B (X++Z);have h0:=F3 hO ht htl w s (S02.b6 s) rfl h4 (B++fm s) Z hZ most h1 h2;rw[← hX,LW (show ¬S02.b6 s≠S02.b6 s from fun h=>h rfl)]at h0;have hl:(B++fm s).length=B.length+105:=by rw[LR,fb]
 rw[hl]at h0;have h3:B.length+(cL s).length=B.length+105+X.length:=by rw[e0,LR,fb];omega
 rw[h3,e1];unfold cH
 rw[LW (by
  rintro(h | h | h | h)
  ·omega
  ·simp only[LR]at h
   omega
  ·omega
  ·omega),L9,hh]
 simp only[ne_eq,not_true_eq_false,Qf];rw[e2,h0]
theorem Ab(s:List UInt8):∃L,S05.eD s L:=by
 obtain⟨le,h0⟩:∃le:Nat→Nat→Bool,le=fun a b=>decide (S05.RLt s a b∨a=b):=⟨_,rfl⟩;have hd:∀a b,le a b=true↔S05.RLt s a b∨a=b:=fun a b=>by rw[h0];exact Nv
 have h5:∀a b c,le a b=true→le b c=true→le a c=true:=fun a b c h1 h2=>by
  rw[hd]at*;rcases h1 with h1 | h1
  ·rcases h2 with h2 | h2;·exact .inl (h1.trans h2)
   ·exact .inl (h2 ▸ h1)
  ·exact h1 ▸ h2
 have h4:∀a b,(le a b || le b a)=true:=fun a b=>by
  rw[Bool.or_eq_true,hd,hd];by_cases e:a=b;·exact .inl (.inr e)
  ·rcases S05.RLt.total s a b e with h | h;·exact .inl (.inl h)
   ·exact .inr (.inl h)
 have hp:=List.mergeSort_perm (List.range s.length) le;refine⟨(List.range s.length).mergeSort le,?_,fun i=>by rw[hp.mem_iff,Po]⟩;have h1:=List.pairwise_mergeSort h5 h4 (List.range s.length);have h2:((List.range s.length).mergeSort le).Pairwise (· ≠ ·):=List.nodup_iff_pairwise_ne.1 (hp.nodup_iff.2 Nk);exact(h1.and h2).imp fun {a b} h=>by
  rcases(hd a b).1 h.1 with h3 | h3;·exact h3
  ·exact absurd h3 h.2
theorem kV(t:List UInt8)(h:t≠ []):S05.AX t 0 (mB t):=by obtain⟨L,hL⟩:=Ab t;have h0:0<t.length:=List.length_pos_iff.2 h;obtain⟨k,h1,h2,_⟩:=S05.qS hL 0 h0;have e:=xH hL h1 h2;rw[← e];exact⟨L,hL,h1,h2⟩
theorem lq{s:List UInt8}(h:s≠ []):S03.aT s≠ []:=by
 cases s with
 | nil=>exact absurd rfl h
 | cons x l=>intro e;have h1:=S03.pP l x 1 (ag _) (by omega);rw[← S03.gD,e]at h1;cases h1
theorem sk(w:World){s:List UInt8}(hs:s≠ [])(htl:(S03.aT s).length≤262144)(h0:s.length≤262144)(B Z:List Nat)(hZ:au Z)(most:Int)(h1:1≤most)(h2:most≤262144):
 cH (B++(dX s).1++Z) (B.length:Nat) most=if((S03.aT s).length:Int)≤most then(s,S02.b6 s,B.length+(dX s).1.length,0)else([],0,0,3):=by have e:(dX s).1=cL s:=(by unfold dX;rw[LW hs,LW (by omega)]);rw[e];exact Bl w (kV _ (lq hs)) (lq hs) htl h0 B Z hZ most h1 h2
theorem rg(k:Nat):∀(l:List Nat) (a:Nat),(k≤a∧a≤k+1)→(∀ x∈l,k≤x∧x≤k+1)→(bE a l).length≤3*l.length
 | [],_,_,_=>by simp[bE]
 | x :: l,a,ha,h=>by have hx:=h x L4;have ih:=rg k l x hx fun y hy=>h y (Ma _ hy);rw[bE,LR,lE,Mb];omega
theorem xf{k:Nat}(c:Nat)(w:List Nat)(i:Nat):k≤bO k c w i∧bO k c w i≤k+1:=by unfold bO;split <;>omega
theorem Fg{W:List Nat}(h2:2≤W.length)(hn:W.length≤258):∃k,k≤8∧∀x∈oH W,k≤x∧x≤k+1:=by
 refine⟨Nat.log2 W.length,?_,fun x hx=> ?_⟩
 ·have h1:2 ^ (Nat.log2 W.length)≤W.length:=Nat.log2_self_le (by omega);rcases MF 8 (Nat.log2 W.length)with h | h;·have h4:2 ^ 9≤2 ^ (Nat.log2 W.length):=MW (by decide) h;omega
  ·exact h
 ·unfold oH at hx;obtain⟨i,_,rfl⟩:=List.mem_map.1 hx;exact xf _ _ _
theorem CV{k:Nat}{l:List Nat}(h:∀x∈l,k≤x∧x≤k+1):(aZ l).length≤5+3*l.length:=by
 unfold aZ;rw[LR,af]
 match l,h with
 | [],_=>simp[bE]
 | x :: l,h=>have h1:=rg k (x :: l) x (h x L4) h;show 5+(bE x (x :: l)).length≤_;omega
theorem ni:∀G:Nat,(aH [0,1,2,3,4,5] (List.replicate G 0)).length=G
 | 0=>rfl
 | G+1=>by rw[NJ];show(List.replicate 0 1++0 :: aH [0,1,2,3,4,5] (List.replicate G 0)).length=_;rw[LR,Mb,ni G,Mo];omega
theorem qG(T:List (List Nat))(P L:List Nat)(h:∀i j,(T.getD (P.getD i 0) []).getD j 0≤9):∀q,(dB T P L q).length≤9*q
 | 0=>by simp[dB]
 | q+1=>by have ih:=qG T P L h q;have h1:=h (q / 50) (L.getD q 0);rw[l8,LR,eO,af];omega
theorem BX{L:List Int}{m:Int}(hM:ix L m):(ft (a9 L m).1 (a9 L m).2.1 L).1≤1576+aQ L.length+9*L.length:=by
 have hg:=pS hM;rw[we hg hM,pH hg,lw hg hM];obtain⟨f,hf⟩:∃f,f=lr (iC L) m.toNat:=⟨_,rfl⟩;obtain⟨G,hG⟩:∃G,G=aQ L.length:=⟨_,rfl⟩;have h7:=hM.1;have h4:=hM.2.1;have h5:∃k,k≤8∧∀x∈f,k≤x∧x≤k+1:=by rw[hf];unfold lr;exact Fg (by unfold bn;simp;omega) (by unfold bn;simp;omega)
 have h6:f.length=m.toNat:=by rw[hf];unfold lr oH bn;simp
 have e1:(a9 L m).1= [zL f,zL f]:=by unfold a9;rw[LX hM,hf]
 have e2:(a9 L m).2.1=zL (List.replicate G 0):=by unfold a9;rw[LX hM,hG]
 rw[e1,e2,←hG];show(iq ([zL f,zL f].map nl) (nl (zL (List.replicate G 0)))).length+(dB ([zL f,zL f].map nl) (nl (zL (List.replicate G 0))) (nl L) L.length).length≤_;have e3: [zL f,zL f].map nl= [f,f]:=by simp only[M8,Pa,zZ]
 rw[e3,zZ];obtain⟨k,hk,h0⟩:=h5;have h1:=CV h0;have h2:(iq [f,f] (List.replicate G 0)).length≤18+G+2*(5+3*f.length):=by unfold iq;simp only[LR,af,ni,MD,Pw,MH];omega
 have h3:=qG [f,f] (List.replicate G 0) (nl L) (fun i j=>by
  have e4:(List.replicate G 0).getD i 0=0:=by
   rw[LU,N8]
   split <;>rfl
  rw[e4]
  show f.getD j 0≤9
  rw[LU]
  rcases MF j f.length with hj | hj
  ·rw[LV hj]
   have:=h0 _ (Mu hj)
   show f[j]≤9
   omega
  ·rw[Mf hj]
   exact LY _) L.length
 omega
theorem lh(w:World)(s:List UInt8):(dX s).1.length≤12*s.length+4000:=by
 unfold dX;split;·exact LY _
 split;·exact LY _
 ·rename_i h1 h2;show(cL s).length≤12*s.length+4000;have h0:=lq h1;have hO:=kV _ h0;obtain⟨hM,_,h9⟩:=kQ hO h0 (by omega);have hg:=mX hO h0 (by omega) w;have h3:=(pF w hM).2.2;have h4:=BX hM;have h5:=we hg hM;have h6:=S03.gE s;have hz:(zL (b4 (S03.aT s))).length=(b4 (S03.aT s)).length:=(by unfold zL;rw[Mi]);obtain⟨r,h7,h8⟩:=S06.jW (S06.ofL (S03.aT s));have e:(fy (zL (b4 (S03.aT s))) (((S06.ofL (S03.aT s)).length+2:Nat):Int))=aW (S03.aT s):=rfl;rw[e,h5]at h3;unfold cL gn;rw[LR,LR,LR,fb];unfold aQ at h4;omega
theorem Ej(w:World){s:List UInt8}(hs:s≠ [])(htl:(S03.aT s).length≤262144):137<(dX s).1.length:=by have e:(dX s).1=cL s:=(by unfold dX;rw[LW hs,LW (by omega)]);have h1:=lq hs;have hO:=kV _ h1;obtain⟨h0,_⟩:=DW hO h1 htl w;obtain⟨r,h2,h3⟩:=S06.jW (S06.ofL (S03.aT s));rw[e];unfold cL;rw[LR,LR,fb,h0];unfold iq;simp only[LR,af];omega
theorem wm{l:List Nat}(h:au l)(p k:Nat)(hp:p+k≤l.length):val ((l.drop p).take k)<2 ^ k:=by have h1:=iE _ ((h.drop p).take k);rw[Mj,Mc,MN (by omega)]at h1;exact h1
theorem zA(T:List (List Nat))(P bits:List Nat)(n0:Nat):∀(k i a:Nat) (out:List Nat),(j8 T P bits n0 k i a out).1.length≤out.length+k
 | 0,_,_,_=>by simp[j8]
 | k+1,i,a,out=>by
  rw[kL];split
  ·split;·simp only[LR,Mq];omega
   ·refine Mk (zA T P bits n0 k _ _ _) ?_;rw[LR,Mq];omega
  ·simp
  ·simp
theorem Ir(T:List (List Int))(P:List Int)(bits:List Nat)(a:Int):(ij T P bits a).1.length≤1638350:=by
 unfold ij;split
 ·rename_i hM;split;·simp
  ·have h:=zA (T.map nl) (nl P) bits (T.getD 0 []).length (50*P.length) 0 a.toNat [];have h2:=hM.2.2.2.1;simp only[MH,MG]at h;omega
 ·simp
theorem oA(n most:Nat):∀(l:List Int) (out:List Nat) (wo:Nat) (ended:Bool),out.length≤most→(S07.eu n most l out wo ended).1.length≤most
 | [],out,wo,ended,h=>by
  unfold S07.eu;split;·exact h
  ·exact LY _
 | s :: l,out,wo,ended,h=>by
  unfold S07.eu;split;·exact LY _
  split;·exact LY _
  split;·exact oA n most l out wo true h
  split
  ·split;·exact LY _
   ·refine oA n most l _ 1 false ?_;rw[LR,Mq];omega
  split;·exact LY _
  ·refine oA n most l _ _ false ?_;rw[LR,Mo];omega
theorem BO(n most:Int)(L:List Int):(S07.eQ n most L).1.length≤262144:=by
 unfold S07.eQ;split;·exact LY _
 ·have h:=oA n.toNat most.toNat L [] 1 false (LY _);omega
theorem sN:∀(n:Nat) (o l:List UInt8),o.length≤262144→(S03.sM n o l).1.length≤262144
 | 0,o,l,h=>h
 | n+1,o, [],h=>h
 | n+1,o,x :: l,h=>by
  unfold S03.sM;split
  ·split;·exact LY _
   ·refine sN n _ l ?_;rw[LR,Mq];omega
  split;·exact LY _
  split;·exact LY _
  split;·exact LY _
  ·refine sN n _ _ ?_;have h4:((x :: l).take 4).length≤4:=(by rw[Mj];omega);rw[LR,LR,Mo];omega
theorem zd(l:List UInt8):(S03.e9 [] l).1.length≤262144:=sN _ _ _ (LY _)
theorem db{fn:Func}{t u v x:Tmp}(h:fn.results=#[.tmp t,.tmp u,.tmp v,.tmp x])(tmps:Array Value)(P:Program)(w:World):
 (results fn tmps).run P w=.ok (.tuple #[tmps.getD t undef,tmps.getD u undef,tmps.getD v undef,tmps.getD x undef]) w:=by simp[results,h]
def kw(w:World)(ans:List UInt8×Nat×Nat×Nat)(e:Ending)(w':World):Prop:=e=.returned (.tuple #[.string (S06.aX ans.1),.int .u32 ans.2.1,.int .i64 ans.2.2.1,.int .i64 ans.2.2.2])∧Below w.heap.size w w'
theorem AI(l:List Nat)(p i:Nat):(S06.eH l p i).length≤16:=by unfold S06.eH;rw[Mi];have h:=P7 (fun k=>l.getD (p+k) 0==1) (List.range 16);rwa [Mt]at h
theorem xj(l:List Nat)(fl:Nat→Nat):∀(is:List Nat) (p:Nat) (out o:List UInt8) (q:Nat),S06.goT l fl is p out=some (o,q)→o.length≤out.length+16*is.length
 | [],p,out,o,q,h=>by simp only[S06.goT,MS,Oj]at h;rw[h.1];omega
 | i :: is,p,out,o,q,h=>by
  have h2:=AI l p i;rw[Mb];unfold S06.goT at h;split at h;·have:=xj l fl is p out o q h;omega
  ·split at h;·cases h
   ·have h3:=xj l fl is _ _ o q h;rw[LR]at h3;omega
theorem Gx(l:List Nat)(p:Nat):(S06.fN l p).1.length≤256:=by
 unfold S06.fN;split;·exact LY _
 split;·exact LY _
 cases hg:S06.goT l (fun i=>l.getD (p+i) 0) (List.range 16) (p+16) []with
 | none=>exact LY _
 | some r=>
  obtain⟨o,q⟩:=r;have h:=xj _ _ _ _ _ _ _ hg;rw[Mt,MH]at h;dsimp only;split;·exact LY _
  ·exact h
theorem wk(l:List Nat)(p:Int):(S06.ax l p).1.length≤256:=by
 unfold S06.ax;split;·exact LY _
 ·exact Gx l _
theorem dO{e:Nat}(h:e≠0):((e:Int) != 0)=true:=by rw[Oe];omega
theorem js{e:Nat}(h:¬e≠0):((e:Int) != 0)=false:=by rw[OZ];omega
theorem vh(s:List UInt8):au (dX s).1:=by
 unfold dX;split;·intro b hb;cases hb
 split;·intro b hb;cases hb
 ·show au (cL s);unfold cL fm gn;exact au.append (au.append (au.append (au.append (aD _ _) (aD _ _)) (aD _ _)) (S06.se _)) (au.append (sg _ _) (qF _ _ _))
theorem Kk{n:Nat}{l:List Nat}(h1:1≤n)(h2:n≤256)(h:∀x∈l,x<n):S07.mc (n:Nat) (zL l)=(S07.fG n 0 l,0):=by
 unfold S07.mc
 rw[LW (by omega),LX (fun x hx=>by
  unfold zL at hx
  obtain⟨y,hy,rfl⟩:=List.mem_map.1 hx
  have:=h y hy
  omega),L9]
 rw[show (zL l).map Int.toNat=l from zZ l]
theorem Be(s:List UInt8)(_hs:s.length≤200000):(dX s).1.length≤100000000:=by
 unfold dX;split;·exact LY _
 split;·exact LY _
 ·rename_i h1 h2;show(cL s).length≤100000000;have hO:=kV _ (lq h1);have h6:=(kQ hO (lq h1) (by omega)).2.2;have h3:=jM (aW (S03.aT s)).1 (aW (S03.aT s)).2.1;have h4:=iM (aW (S03.aT s)).1 (aW (S03.aT s)).2.1 (zL (b4 (S03.aT s))) (by unfold zL;rw[Mi];omega);obtain⟨r,h0,h5⟩:=S06.jW (S06.ofL (S03.aT s));unfold cL gn;rw[LR,LR,LR,fb];omega
end Go.Proofs.YtepokmggbfoakaaGreatDoor
