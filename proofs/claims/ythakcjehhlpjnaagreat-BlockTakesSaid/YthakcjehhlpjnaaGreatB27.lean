import Derived.Test.YthakcjehhlpjnaaGreatB16
import Derived.Test.YthakcjehhlpjnaaGreatB17
import Derived.Test.YthakcjehhlpjnaaGreatB18
import Derived.Test.YthakcjehhlpjnaaGreatB23
import Derived.Test.YthakcjehhlpjnaaGreatB24
import Derived.Test.YthakcjehhlpjnaaGreatB26
import Derived.Lib.ConvBytes
import Derived.Lib.AtoiErrMem
set_option maxHeartbeats 3200000
set_option maxRecDepth 100000
namespace Go.Proofs.YthakcjehhlpjnaaGreat
open Go.RowKit
noncomputable def IN (t:List UInt8):List Nat:=open Classical in if h:∃L,S05.ef t L then Classical.choose h else []
theorem mc{t:List UInt8}{L:List Nat}(h:S05.ef t L):L=IN t:=by
 unfold IN
 rw[dif_pos ⟨L,h⟩]
 exact S05.Ek h (Classical.choose_spec (⟨L,h⟩:∃L,S05.ef t L))
noncomputable def mh (t:List UInt8):Nat:=(IN t).idxOf 0
noncomputable def jv (t:List UInt8):List UInt8:=S05.a6 t (IN t)
theorem uZ{t:List UInt8}{L:List Nat}{k:Nat}(h:S05.ef t L)(hk:k<L.length)(h0:L.getD k 0=0):k=mh t:=by
 have hL:=mc h
 unfold mh
 rw[← hL]
 have hm:(0:Nat)∈L:=by
  rw[← h0,List.getD_eq_getElem?_getD,List.getElem?_eq_getElem hk]
  exact List.getElem_mem hk
 have h1:=List.idxOf_lt_length_of_mem hm
 have h2:L[L.idxOf 0]=0:=List.getElem_idxOf h1
 have h3:L[k]=0:=by
  rw[List.getD_eq_getElem?_getD,List.getElem?_eq_getElem hk]at h0
  exact h0
 exact S05.uG (S05.jt h) hk h1 (h3.trans h2.symm)
noncomputable def dp (t:List UInt8):List Nat:=(S06.cJ (jv t) (S06.ofL t)).getD []
noncomputable def bL (t:List UInt8):List Nat:=S07.fy (S06.ofL t).length 0 (dp t)
noncomputable def aO (t:List UInt8):List (List Int)×List Int×Nat:=fo (zL (bL t)) ((S06.ofL t).length+2:Nat)
noncomputable def fI (s:List UInt8):List Nat:=ai 54156738319193 48++ai (S02.db s) 32++ai (mh (S03.bB s)) 25
noncomputable def gF (t:List UInt8):List Nat:=(eG (aO t).1 (aO t).2.1).1++(bD (aO t).1 (aO t).2.1 (zL (bL t))).1
noncomputable def dh (s:List UInt8):List Nat:=fI s++S06.dL (S06.ofL (S03.bB s))++gF (S03.bB s)
noncomputable def dR (s:List UInt8):List Nat×Nat:=if s= []then([],2)else if 262144<(S03.bB s).length then([],3)else(dh s,0)
def bJ(l:List Nat)(p:Nat):Nat×Nat×Nat:=
 if l.length<p+48 then(0,0,10)
 else if val ((l.drop p).take 48)≠54156738319193 then(0,0,120)
 else if l.length<p+48+32 then(0,0,10)
 else if l.length<p+80+1 then(0,0,10)
 else if val ((l.drop (p+80)).take 1)≠0 then(0,0,120)
 else if l.length<p+81+24 then(val ((l.drop (p+48)).take 32),0,10)
 else(val ((l.drop (p+48)).take 32),val ((l.drop (p+81)).take 24),0)
def iL(col:List UInt8)(row:Nat):List UInt8×Nat:=if 262144<col.length then([],3)else if col.length≤row then([],50)else(S05.fF col row,0)
def pP(l:List Nat)(sum row q:Nat)(most:Int):List UInt8×Nat×Nat×Nat:=
 let u:=S06.ax l (q:Nat)
 if u.2.2≠0 then([],0,0,u.2.2)else
 let g:=eJ l (u.2.1:Nat) ((u.1.length+2:Nat):Int)
 if g.2.2.2≠0 then([],0,0,g.2.2.2)else
 let c:=eK g.1 g.2.1 l (g.2.2.1:Nat)
 if c.2.2≠0 then([],0,0,c.2.2)else
 let d:=S07.dC (u.1.length:Nat) most (zL c.1)
 if d.2≠0 then([],0,0,d.2)else
 let b:=iL (S06.cw (zL d.1) u.1).1 row
 if b.2≠0 then([],0,0,b.2)else
 let x:=S03.dZ [] b.1
 if x.2≠0 then([],0,0,x.2)else
 if S02.db x.1≠sum then([],0,0,121)else(x.1,sum,c.2.1,0)
def fE(l:List Nat)(at' most:Int):List UInt8×Nat×Nat×Nat:=
 if at'<0∨(l.length:Int)<at'∨most<1∨262144<most then([],0,0,2)
 else if(bJ l at'.toNat).2.2≠0 then([],0,0,(bJ l at'.toNat).2.2)
 else pP l (bJ l at'.toNat).1 (bJ l at'.toNat).2.1 (at'.toNat+105) most
theorem pS:∀(s list:List UInt8) (l:List Nat),S06.cJ s list=some l→∀x∈l,x<list.length
 | [],list,l,h,x,hx=>by
   simp only[S06.cJ,Option.some.injEq]at h
   rw[← h]at hx
   exact absurd hx aq
 | b :: s,list,l,h,x,hx=>by
   rw[S06.cJ]at h
   by_cases hb:b∈list
   ·have h1:=List.idxOf_lt_length_of_mem hb
    rw[if_pos hb]at h
    obtain⟨m,hm,rfl⟩:=Option.map_eq_some_iff.1 h
    rcases List.mem_cons.1 hx with rfl | hx
    ·exact h1
    ·have h2:=pS s _ m hm x hx
     rwa [S06.da _ _ h1]at h2
   ·rw[if_neg hb]at h
    cases h
theorem oL(n:Nat)(hn:1≤n):∀(l:List Nat) (r:Nat),(∀ x∈l,x<n)→∃init,S07.fy n r l=init++ [n+1]∧∀x∈init,x≤n
 | [],r,_=>⟨S07.dig r,rfl,fun x hx=>by have:=S07.Bl r x hx;omega⟩
 | y :: l,r,h=>by
   have hl:∀x∈l,x<n:=fun x hx=>h x (List.mem_cons_of_mem _ hx)
   by_cases hy:y=0
   ·rw[hy,S07.vZ]
    exact oL n hn l (r+1) hl
   ·obtain⟨init,h1,h2⟩:=oL n hn l 0 hl
    have h0:=h y List.mem_cons_self
    refine⟨S07.dig r++(y+1) :: init,by rw[S07.xu n r y l hy,h1];simp,fun x hx=> ?_⟩
    rcases List.mem_append.1 hx with hx | hx
    ·have:=S07.Bl r x hx
     omega
    ·rcases List.mem_cons.1 hx with rfl | hx
     ·omega
     ·exact h2 x hx
theorem Bi(s:List UInt8):(S06.ofL s).length≤256:=by
 have h:=List.length_filter_le (fun b=>decide (b∈s)) S06.yg
 have h2:S06.yg.length=256:=by simp[S06.yg]
 unfold S06.ofL
 omega
theorem vC{s:List UInt8}(h:s≠ []):1≤(S06.ofL s).length:=by
 have:=(S06.qx s h).1
 rcases hl:S06.ofL s with _ | ⟨x,l⟩
 ·exact absurd hl this
 ·simp
theorem It(t:List UInt8)(i:Nat)(h:0<t.length):S05.rat t i∈t:=by
 unfold S05.rat
 have hi:=Nat.mod_lt i h
 rw[List.getD_eq_getElem?_getD,List.getElem?_eq_getElem hi]
 exact List.getElem_mem hi
section
variable {t:List UInt8} {k:Nat} (hO:S05.zH t 0 k) (ht:t≠ []) (htl:t.length≤262144)
include hO
theorem Hv:k=mh t:=by
 obtain⟨L,h1,h2,h3⟩:=hO
 exact uZ h1 h2 h3
theorem mF:(jv t).length=t.length:=by
 obtain⟨L,h1,h2,h3⟩:=hO
 unfold jv
 rw[S05.a4,←mc h1,S05.dw h1]
theorem uY:mh t<t.length:=by
 rw[← Hv hO]
 obtain⟨L,h1,h2,h3⟩:=hO
 rw[← S05.dw h1]
 exact h2
theorem Gq:S05.fF (jv t) (mh t)=t:=by
 have hr:=uY hO
 have hk:=Hv hO
 obtain⟨L,h1,h2,h3⟩:=hO
 unfold jv
 rw[← mc h1,S05.Gh h1 _ hr,←hk,h3,S05.Dl]
theorem IK(x:UInt8)(hx:x∈jv t):x∈S06.ofL t:=by
 obtain⟨L,h1,h2,h3⟩:=hO
 unfold jv S05.a6 at hx
 rw[← mc h1]at hx
 obtain⟨i,hi,rfl⟩:=List.mem_map.1 hx
 have hl:=(h1.2 i).1 hi
 rw[S06.lU]
 exact It t _ (by omega)
theorem mU:S06.cJ (jv t) (S06.ofL t)=some (dp t)∧(dp t).length=t.length∧∀x∈dp t,x<(S06.ofL t).length:=by
 obtain⟨l,h1,h2⟩:=S06.qH (jv t) (S06.ofL t) (IK hO)
 have e:dp t=l:=by
  unfold dp
  rw[h1]
  rfl
 rw[e]
 exact⟨h1,h2.trans (mF hO),pS _ _ _ h1⟩
include ht htl
theorem jM:g9 (zL (bL t)) (((S06.ofL t).length+2:Nat):Int)∧Gg (zL (bL t)) (((S06.ofL t).length+2:Nat):Int)∧(bL t).length≤t.length+1:=by
 have hn:=vC ht
 have ha:=Bi t
 obtain⟨hb,hc,h8⟩:=mU hO
 obtain⟨init,h1,h2⟩:=oL (S06.ofL t).length hn (dp t) 0 h8
 have h7:=S07.mV (S06.ofL t).length (dp t) 0
 have hL:bL t=init++ [(S06.ofL t).length+1]:=h1
 have h0:(bL t).length≤t.length+1:=by
  unfold bL
  omega
 have hz:(zL (bL t)).length=(bL t).length:=by unfold zL;rw[List.length_map]
 have h9:(bL t).length=init.length+1:=by rw[hL,List.length_append,List.length_singleton]
 refine⟨⟨by omega,by omega,by omega,by omega,fun x hx=> ?_⟩,fun j hj=> ?_,h0⟩
 ·unfold zL at hx
  obtain⟨y,hy,rfl⟩:=List.mem_map.1 hx
  rw[hL]at hy
  rcases List.mem_append.1 hy with hy | hy
  ·have:=h2 y hy
   omega
  ·rw[List.mem_singleton.1 hy]
   omega
 ·rw[hz]at hj ⊢
  have hg:(zL (bL t)).getD j 0=((bL t).getD j 0:Nat):=by
   unfold zL
   rw[List.getD_eq_getElem?_getD,List.getElem?_map,List.getD_eq_getElem?_getD,List.getElem?_eq_getElem hj]
   rfl
  rw[hg]
  by_cases h5:j<init.length
  ·have h3:(bL t).getD j 0≤(S06.ofL t).length:=by
    rw[hL,List.getD_eq_getElem?_getD,List.getElem?_append_left h5,List.getElem?_eq_getElem h5]
    exact h2 _ (List.getElem_mem h5)
   constructor
   ·intro h4
    omega
   ·intro h4
    omega
  ·have h6:j=init.length:=by omega
   have h3:(bL t).getD j 0=(S06.ofL t).length+1:=by
    rw[hL,h6,List.getD_eq_getElem?_getD,List.getElem?_append_right (ah _),Nat.sub_self]
    rfl
   constructor
   ·intro _
    omega
   ·intro _
    omega
theorem l8(w:World):eN (aO t).1 (aO t).2.1 (zL (bL t)) (((S06.ofL t).length+2:Nat):Int):=(oM w (jM hO ht htl).1).1
theorem Bz(w:World):gF t=gB ((aO t).1.map nl) (nl (aO t).2.1)++cQ ((aO t).1.map nl) (nl (aO t).2.1) (nl (zL (bL t))) (zL (bL t)).length∧(bD (aO t).1 (aO t).2.1 (zL (bL t))).2=0:=by
 have hg:=l8 hO ht htl w
 have hM:=(jM hO ht htl).1
 unfold gF
 rw[oE hg,kJ hg hM]
 exact⟨rfl,rfl⟩
theorem CO(w:World)(s:List UInt8)(sum:Nat)(hs:S03.bB s=t)(hb:s.length≤262144)(B Z:List Nat)(hZ:an Z)(most:Int)(h1:1≤most)(h2:most≤262144):
 pP (B++(S06.dL (S06.ofL t)++gF t)++Z) sum (mh t) B.length most=if(t.length:Int)≤most then(if S02.db s≠sum then([],0,0,121)else(s,sum,B.length+(S06.dL (S06.ofL t)++gF t).length,0))else([],0,0,3):=by
 have hg:=l8 hO ht htl w
 obtain⟨hM,hE,h7⟩:=jM hO ht htl
 obtain⟨h8,h9,ha⟩:=mU hO
 have hn:=vC ht
 have he:=Bi t
 have hc:=mF hO
 have h6:=Gq hO
 have hf:=uY hO
 obtain⟨h0,_⟩:=Bz hO ht htl w
 obtain⟨SH,h3⟩:∃x,x=S06.dL (S06.ofL t):=⟨_,rfl⟩
 obtain⟨PB,h5⟩:∃x,x=gB ((aO t).1.map nl) (nl (aO t).2.1):=⟨_,rfl⟩
 obtain⟨CQ,h4⟩:∃x,x=cQ ((aO t).1.map nl) (nl (aO t).2.1) (nl (zL (bL t))) (zL (bL t)).length:=⟨_,rfl⟩
 rw[← h5,←h4]at h0
 have e1:S06.ax (B++(SH++gF t)++Z) (B.length:Nat)=(S06.ofL t,B.length+SH.length,0):=by
  have h:=S06.oU (S06.ofL t) (S06.qx t ht) B (gF t++Z)
  unfold S06.ax
  rw[if_neg (by omega),Int.toNat_natCast,show B++(SH++gF t)++Z=B++S06.dL (S06.ofL t)++(gF t++Z) by rw[h3];simp only[List.append_assoc],h,h3]
 have e2:eJ (B++(SH++gF t)++Z) ((B.length+SH.length:Nat):Nat) (((S06.ofL t).length+2:Nat):Int)=((aO t).1,(aO t).2.1,B.length+SH.length+PB.length,0):=by
  have h:=AL hg hM (B++SH) (CQ++Z)
  rw[← h5,List.length_append]at h
  rw[← h,h0]
  simp only[List.append_assoc]
 have e3:eK (aO t).1 (aO t).2.1 (B++(SH++gF t)++Z) ((B.length+SH.length+PB.length:Nat):Nat)=(bL t,B.length+SH.length+PB.length+CQ.length,0):=by
  have h:=Ck hg hM hE (B++SH++PB) Z hZ
  rw[← h4,List.length_append,List.length_append,wj]at h
  rw[← h,h0]
  simp only[List.append_assoc]
 have e4:S07.dC ((S06.ofL t).length:Nat) most (zL (bL t))=if(t.length:Int)≤most then(dp t,0)else([],3):=by
  have h:=S07.mY (S06.ofL t).length most.toNat hn (dp t) 0 [] ha (Nat.zero_le _)
  unfold S07.dC
  rw[if_neg (by omega),Int.toNat_natCast,show zL (bL t)=S07.ints (S07.fy (S06.ofL t).length 0 (dp t))from rfl,h,h9]
  simp only[List.length_nil,List.replicate_zero,List.nil_append,Nat.zero_add,Nat.add_zero]
  by_cases hm:(t.length:Int)≤most
  ·rw[if_pos hm,if_pos (by omega)]
  ·rw[if_neg hm,if_neg (by omega)]
 have e5:S06.cw (zL (dp t)) (S06.ofL t)=(jv t,0):=by
  have h:=S06.rC _ _ _ h8
  unfold S06.cw
  rw[if_pos (S06.qx t ht),show zL (dp t)=(dp t).map fun(x:Nat)=>(x:Int)from rfl,h]
 have e6:iL (jv t) (mh t)=(t,0):=by
  unfold iL
  rw[if_neg (by omega),if_neg (by omega),h6]
 have e7:S03.dZ [] t=(s,0):=by
  rw[← hs]
  exact S03.mY s hb
 have eL:B.length+(SH++gF t).length=B.length+SH.length+PB.length+CQ.length:=by
  rw[h0]
  simp only[List.length_append]
  omega
 rw[← h3,eL]
 unfold pP
 simp only[e1,e2,e3,e4]
 by_cases hm:(t.length:Int)≤most
 ·simp[if_pos hm,e5,e6,e7]
 ·simp[if_neg hm]
end
theorem oW(x n:Nat)(h:x<2 ^ n)(R:List Nat):val ((ai x n++R).take n)=x:=by
 rw[List.take_left' (af n x),cV,Nat.mod_eq_of_lt h]
theorem vq(B C R:List Nat)(p:Nat)(h:p=B.length+C.length):(B++(C++R)).drop p=R:=by
 rw[h,←List.append_assoc,←List.length_append,List.drop_left]
theorem eS(s:List UInt8):(fI s).length=105:=by
 unfold fI
 simp only[List.length_append,af]
theorem Et(s:List UInt8)(hr:mh (S03.bB s)<2 ^ 24)(B R:List Nat):bJ (B++(fI s++R)) B.length=(S02.db s,mh (S03.bB s),0):=by
 have hl:(B++(fI s++R)).length=B.length+105+R.length:=by
  rw[List.length_append,List.length_append,eS,Nat.add_assoc]
 obtain⟨M,hM⟩:∃M,M=ai 54156738319193 48:=⟨_,rfl⟩
 obtain⟨S,hS⟩:∃S,S=ai (S02.db s) 32:=⟨_,rfl⟩
 obtain⟨W,hW⟩:∃W,W=ai (mh (S03.bB s)) 24:=⟨_,rfl⟩
 have h0:M.length=48:=by rw[hM,af]
 have h1:S.length=32:=by rw[hS,af]
 have h2:ai (mh (S03.bB s)) 25=0 :: W:=by
  rw[pi,hW]
  congr 1
  omega
 have hH:fI s=M++S++(0 :: W):=by unfold fI;rw[h2,hM,hS]
 have hb:S02.db s<2 ^ 32:=S02.xH s
 have g0:(B++(fI s++R)).drop B.length=M++(S++(0 :: W)++R):=by
  rw[List.drop_left,hH]
  simp only[List.append_assoc]
 have g1:(B++(fI s++R)).drop (B.length+48)=S++((0 :: W)++R):=by
  rw[hH,List.append_assoc,List.append_assoc]
  exact vq B M _ _ (by rw[h0])
 have g2:(B++(fI s++R)).drop (B.length+80)=(0 :: W)++R:=by
  rw[hH,List.append_assoc]
  exact vq B (M++S) _ _ (by rw[List.length_append,h0,h1])
 have g3:(B++(fI s++R)).drop (B.length+81)=W++R:=by
  have e:B++(fI s++R)=B++((M++S++ [0])++(W++R)):=by rw[hH];simp
  rw[e]
  exact vq B (M++S++ [0]) _ _ (by simp only[List.length_append,h0,h1,List.length_singleton])
 have v0:val ((M++(S++(0 :: W)++R)).take 48)=54156738319193:=by rw[hM];exact oW _ 48 (by omega) _
 have v1:val ((S++((0 :: W)++R)).take 32)=S02.db s:=by rw[hS];exact oW _ 32 hb _
 have v2:val (((0 :: W)++R).take 1)=0:=rfl
 have v3:val ((W++R).take 24)=mh (S03.bB s):=by rw[hW];exact oW _ 24 hr _
 unfold bJ
 rw[hl,g0,g1,g2,g3,v0,v1,v2,v3]
 rw[if_neg (by omega),if_neg (by simp),if_neg (by omega),if_neg (by omega),if_neg (by simp),if_neg (by omega)]
theorem AO(w:World){s:List UInt8}{k:Nat}(hO:S05.zH (S03.bB s) 0 k)(ht:S03.bB s≠ [])(htl:(S03.bB s).length≤262144)(h4:s.length≤262144)(B Z:List Nat)(hZ:an Z)(most:Int)(h1:1≤most)(h2:most≤262144):
 fE (B++dh s++Z) (B.length:Nat) most=if((S03.bB s).length:Int)≤most then(s,S02.db s,B.length+(dh s).length,0)else([],0,0,3):=by
 have hr:=uY hO
 obtain⟨X,hX⟩:∃X,X=S06.dL (S06.ofL (S03.bB s))++gF (S03.bB s):=⟨_,rfl⟩
 have e0:dh s=fI s++X:=by unfold dh;rw[hX,List.append_assoc]
 have e1:B++dh s++Z=B++(fI s++(X++Z)):=by rw[e0];simp only[List.append_assoc]
 have e2:B++(fI s++(X++Z))=(B++fI s)++X++Z:=by simp only[List.append_assoc]
 have hh:=Et s (by omega) B (X++Z)
 have h0:=CO hO ht htl w s (S02.db s) rfl h4 (B++fI s) Z hZ most h1 h2
 rw[← hX,if_neg (show ¬S02.db s≠S02.db s from fun h=>h rfl)]at h0
 have hl:(B++fI s).length=B.length+105:=by rw[List.length_append,eS]
 rw[hl]at h0
 have h3:B.length+(dh s).length=B.length+105+X.length:=by rw[e0,List.length_append,eS];omega
 rw[h3,e1]
 unfold fE
 rw[if_neg (by
  rintro(h | h | h | h)
  ·omega
  ·simp only[List.length_append]at h
   omega
  ·omega
  ·omega),Int.toNat_natCast,hh]
 simp only[ne_eq,not_true_eq_false,if_false]
 rw[e2,h0]
def F7(w:World)(ans:Nat×Nat×Nat)(e:Ending)(w':World):Prop:=e=.returned (.tuple #[.int .u32 ans.1,.int .i64 ans.2.1,.int .i64 ans.2.2])∧w=w'
theorem Cj{l:List Nat}(h:an l)(p k:Nat)(hp:p+k≤l.length):val ((l.drop p).take k)<2 ^ k:=by
 have h1:=eD _ ((h.drop p).take k)
 rw[List.length_take,List.length_drop,Nat.min_eq_left (by omega)]at h1
 exact h1
theorem Ch(w:World)(A:Option Addr)(n c p:Nat)(L:List Nat)(hi:aw w A n L)(hg:n≤c)(hc:c≤maxLen)(hn:n≤1000000)(hp:p≤n)(h2:an L):
 Calls Tryz.prog 36 #[.slice A n c,.int .i64 p] w (F7 w (bJ L p)):=by
 have h3:=hi.1
 have NS:=aa fun(a k:Nat) (ha:a≤n) (hk:k≤64) (h:n<a+k)=>oI w A n c a k (by omega) ha hk h
 have NO:=aa fun(a k:Nat) (hk:k≤64) (h:a+k≤n)=>y4 w A n c L a k hi h2 hg hc hk h
 have VP:=aa fun(a k:Nat) (h:a+k≤n)=>Cj h2 a k (by rw[h3];exact h)
 have h0:bJ L p=if n<p+48 then(0,0,10)
  else if val ((L.drop p).take 48)≠54156738319193 then(0,0,120)
  else if n<p+48+32 then(0,0,10)
  else if n<p+80+1 then(0,0,10)
  else if val ((L.drop (p+80)).take 1)≠0 then(0,0,120)
  else if n<p+81+24 then(val ((L.drop (p+48)).take 32),0,10)
  else(val ((L.drop (p+48)).take 32),val ((L.drop (p+81)).take 24),0):=by rw[← h3];rfl
 rw[h0]
 clear h0 hi h2 h3 hc
 obtain⟨p1,h4⟩:∃p1,p1=p+48:=⟨_,rfl⟩
 obtain⟨p2,h5⟩:∃p2,p2=p+80:=⟨_,rfl⟩
 obtain⟨p3,h6⟩:∃p3,p3=p+81:=⟨_,rfl⟩
 have i1:(p:Int)+48=(p1:Int):=by omega
 have i2:(p:Int)+80=(p2:Int):=by omega
 have i3:(p:Int)+81=(p3:Int):=by omega
 rw[← h4,←h5,←h6]
 have h1:=aa h4
 have h7:=aa h5
 have hf:=aa h6
 clear h4 h5 h6
 by_cases e1:n<p1
 ·rw[if_pos e1]
  have N1:=aa (NS.out p 48 hp (by omega) (by have:=h1.out;omega))
  clear NS NO VP
  go_enter Tryz.func36,Tryz.ntmps36
  go_wp2_with fail
  refine N1.out.mono ?_
  rintro e w' ⟨rfl,rfl⟩
  go_wp2_with fail
  go_ret3
  exact⟨rfl,rfl⟩
 rw[if_neg e1]
 have N1:=aa (NO.out p 48 (by omega) (by have:=h1.out;omega))
 have v1:=VP.out p 48 (by have:=h1.out;omega)
 obtain⟨m1,h8⟩:∃x,x=val ((L.drop p).take 48):=⟨_,rfl⟩
 rw[← h8]at N1 v1 ⊢
 have v1:m1<281474976710656:=by simpa using v1
 clear h8
 by_cases e2:m1≠54156738319193
 ·rw[if_pos e2]
  have d2:((m1:Int)==54156738319193)=false:=beq_false_of_ne (by omega)
  have d2':((m1:Int) != 54156738319193)=true:=by
   rw[bne_iff_ne]
   omega
  clear NS NO VP
  go_enter Tryz.func36,Tryz.ntmps36
  go_wp2_with fail
  refine N1.out.mono ?_
  rintro e w' ⟨rfl,rfl⟩
  go_wp2_with fail
  go_ret3
  exact⟨rfl,rfl⟩
 rw[if_neg e2]
 have d2:((m1:Int)==54156738319193)=true:=beq_iff_eq.2 (by omega)
 have d2':((m1:Int) != 54156738319193)=false:=by
  rw[bne_eq_false_iff_eq]
  omega
 clear e2
 by_cases e3:n<p1+32
 ·rw[if_pos e3]
  have N2:=aa (NS.out p1 32 (by omega) (by omega) e3)
  clear NS NO VP
  go_enter Tryz.func36,Tryz.ntmps36
  go_wp2_with fail
  refine N1.out.mono ?_
  rintro e w' ⟨rfl,rfl⟩
  go_wp2_with fail
  refine N2.out.mono ?_
  rintro e w' ⟨rfl,rfl⟩
  go_wp2_with fail
  go_ret3
  exact⟨rfl,rfl⟩
 rw[if_neg e3]
 have N2:=aa (NO.out p1 32 (by omega) (by omega))
 have v2:=VP.out p1 32 (by omega)
 obtain⟨m2,h9⟩:∃x,x=val ((L.drop p1).take 32):=⟨_,rfl⟩
 rw[← h9]at N2 v2 ⊢
 have v2:m2<4294967296:=by simpa using v2
 clear h9
 by_cases e4:n<p2+1
 ·rw[if_pos e4]
  have N3:=aa (NS.out p2 1 (by have:=h7.out;have:=h1.out;omega) (by omega) e4)
  clear NS NO VP
  go_enter Tryz.func36,Tryz.ntmps36
  go_wp2_with fail
  refine N1.out.mono ?_
  rintro e w' ⟨rfl,rfl⟩
  go_wp2_with fail
  refine N2.out.mono ?_
  rintro e w' ⟨rfl,rfl⟩
  go_wp2_with fail
  refine N3.out.mono ?_
  rintro e w' ⟨rfl,rfl⟩
  go_wp2_with fail
  go_ret3
  exact⟨rfl,rfl⟩
 rw[if_neg e4]
 have N3:=aa (NO.out p2 1 (by omega) (by omega))
 have v3:=VP.out p2 1 (by omega)
 obtain⟨m3,hb⟩:∃x,x=val ((L.drop p2).take 1):=⟨_,rfl⟩
 rw[← hb]at N3 v3 ⊢
 have v3:m3<2:=by simpa using v3
 clear hb
 by_cases e5:m3≠0
 ·rw[if_pos e5]
  have d5:((m3:Int)==0)=false:=beq_false_of_ne (by omega)
  have d5':((m3:Int) != 0)=true:=by
   rw[bne_iff_ne]
   omega
  clear NS NO VP
  go_enter Tryz.func36,Tryz.ntmps36
  go_wp2_with fail
  refine N1.out.mono ?_
  rintro e w' ⟨rfl,rfl⟩
  go_wp2_with fail
  refine N2.out.mono ?_
  rintro e w' ⟨rfl,rfl⟩
  go_wp2_with fail
  refine N3.out.mono ?_
  rintro e w' ⟨rfl,rfl⟩
  go_wp2_with fail
  go_ret3
  exact⟨rfl,rfl⟩
 rw[if_neg e5]
 have d5:((m3:Int)==0)=true:=beq_iff_eq.2 (by omega)
 have d5':((m3:Int) != 0)=false:=by
  rw[bne_eq_false_iff_eq]
  omega
 have u2:IntKind.u32.wrap (m2:Int)=m2:=by rw[IntKind.wrap_u32];omega
 clear e5
 by_cases e6:n<p3+24
 ·rw[if_pos e6]
  have N4:=aa (NS.out p3 24 (by have:=h7.out;have:=hf.out;omega) (by omega) e6)
  clear NS NO VP
  go_enter Tryz.func36,Tryz.ntmps36
  go_wp2_with fail
  refine N1.out.mono ?_
  rintro e w' ⟨rfl,rfl⟩
  go_wp2_with fail
  refine N2.out.mono ?_
  rintro e w' ⟨rfl,rfl⟩
  go_wp2_with fail
  refine N3.out.mono ?_
  rintro e w' ⟨rfl,rfl⟩
  go_wp2_with fail
  refine N4.out.mono ?_
  rintro e w' ⟨rfl,rfl⟩
  go_wp2_with fail
  go_ret3
  exact⟨rfl,rfl⟩
 rw[if_neg e6]
 have N4:=aa (NO.out p3 24 (by omega) (by omega))
 have v4:=VP.out p3 24 (by omega)
 obtain⟨m4,he⟩:∃x,x=val ((L.drop p3).take 24):=⟨_,rfl⟩
 rw[← he]at N4 v4 ⊢
 have v4:m4<16777216:=by simpa using v4
 clear he
 have u4:IntKind.i64.wrap (m4:Int)=m4:=by rw[IntKind.wrap_i64];omega
 clear NS NO VP
 go_enter Tryz.func36,Tryz.ntmps36
 go_wp2_with fail
 refine N1.out.mono ?_
 rintro e w' ⟨rfl,rfl⟩
 go_wp2_with fail
 refine N2.out.mono ?_
 rintro e w' ⟨rfl,rfl⟩
 go_wp2_with fail
 refine N3.out.mono ?_
 rintro e w' ⟨rfl,rfl⟩
 go_wp2_with fail
 refine N4.out.mono ?_
 rintro e w' ⟨rfl,rfl⟩
 go_wp2_with fail
 go_ret3
 exact⟨rfl,rfl⟩
theorem xZ(T:List (List Nat))(P bits:List Nat)(n0:Nat):∀(k i a:Nat) (out:List Nat),(kA T P bits n0 k i a out).1.length≤out.length+k
 | 0,_,_,_=>by simp[kA]
 | k+1,i,a,out=>by
   rw[lV]
   split
   ·split
    ·simp only[List.length_append,List.length_singleton]
     omega
    ·refine Nat.le_trans (xZ T P bits n0 k _ _ _) ?_
     rw[List.length_append,List.length_singleton]
     omega
   ·simp
   ·simp
theorem wA(T:List (List Int))(P:List Int)(bits:List Nat)(a:Int):(eK T P bits a).1.length≤1638350:=by
 unfold eK
 split
 ·rename_i hM
  split
  ·simp
  ·have h:=xZ (T.map nl) (nl P) bits (T.getD 0 []).length (50*P.length) 0 a.toNat []
   have h2:=hM.2.2.2.1
   simp only[List.length_nil,Nat.zero_add]at h
   omega
 ·simp
theorem nk(n most:Nat):∀(l:List Int) (out:List Nat) (wo:Nat) (ended:Bool),out.length≤most→(S07.cT n most l out wo ended).1.length≤most
 | [],out,wo,ended,h=>by
   unfold S07.cT
   split
   ·exact h
   ·exact Nat.zero_le _
 | s :: l,out,wo,ended,h=>by
   unfold S07.cT
   split
   ·exact Nat.zero_le _
   split
   ·exact Nat.zero_le _
   split
   ·exact nk n most l out wo true h
   split
   ·split
    ·exact Nat.zero_le _
    ·refine nk n most l _ 1 false ?_
     rw[List.length_append,List.length_singleton]
     omega
   split
   ·exact Nat.zero_le _
   ·refine nk n most l _ _ false ?_
    rw[List.length_append,List.length_replicate]
    omega
theorem rt(n most:Int)(L:List Int):(S07.dC n most L).1.length≤262144:=by
 unfold S07.dC
 split
 ·exact Nat.zero_le _
 ·have h:=nk n.toNat most.toNat L [] 1 false (Nat.zero_le _)
  omega
theorem sE:∀(n:Nat) (o l:List UInt8),o.length≤262144→(S03.qI n o l).1.length≤262144
 | 0,o,l,h=>h
 | n+1,o, [],h=>h
 | n+1,o,x :: l,h=>by
   unfold S03.qI
   split
   ·split
    ·exact Nat.zero_le _
    ·refine sE n _ l ?_
     rw[List.length_append,List.length_singleton]
     omega
   split
   ·exact Nat.zero_le _
   split
   ·exact Nat.zero_le _
   split
   ·exact Nat.zero_le _
   ·refine sE n _ _ ?_
    have h4:((x :: l).take 4).length≤4:=by rw[List.length_take];omega
    rw[List.length_append,List.length_append,List.length_replicate]
    omega
theorem yu(l:List UInt8):(S03.dZ [] l).1.length≤262144:=sE _ _ _ (Nat.zero_le _)
theorem zQ(w:World)(s:ByteArray)(row:Nat):Calls Tryz.prog 42 #[.string s,.int .i64 row] w fun e w'=>e=.returned (.tuple #[.string (S06.cN (iL s.data.toList row).1),.int .i64 (iL s.data.toList row).2])∧Below w.heap.size w w':=by
 have hl:s.data.toList.length=s.size:=rfl
 unfold iL
 by_cases h1:262144<s.size
 ·rw[if_pos (by omega)]
  refine(S05.ER w s row h1).mono ?_
  rintro e w' ⟨rfl,rfl⟩
  exact⟨rfl,Below.refl _ _⟩
 ·rw[if_neg (by omega)]
  by_cases h2:s.size≤row
  ·rw[if_pos (by omega)]
   refine(S05.D7 w s row (by omega) (.inr (by omega))).mono ?_
   rintro e w' ⟨rfl,rfl⟩
   exact⟨rfl,Below.refl _ _⟩
  ·rw[if_neg (by omega)]
   exact S05.o6 w s row (by omega) (by omega)
theorem aS{fn:Func}{t u v x:Tmp}(h:fn.results=#[.tmp t,.tmp u,.tmp v,.tmp x])(tmps:Array Value)(P:Program)(w:World):
 (results fn tmps).run P w=.ok (.tuple #[tmps.getD t undef,tmps.getD u undef,tmps.getD v undef,tmps.getD x undef]) w:=by
 simp[results,h]
def dI(w:World)(ans:List UInt8×Nat×Nat×Nat)(e:Ending)(w':World):Prop:=e=.returned (.tuple #[.string (S06.cN ans.1),.int .u32 ans.2.1,.int .i64 ans.2.2.1,.int .i64 ans.2.2.2])∧Below w.heap.size w w'
theorem AZ(w:World)(A:Option Addr)(n c:Nat)(at' most:Int)(_hn:n≤1000000)(h:at'<0∨(n:Int)<at'∨most<1∨262144<most):
 Calls Tryz.prog 12 #[.slice A n c,.int .i64 at',.int .i64 most] w fun e w'=>e=.returned (.tuple #[.string ⟨#[]⟩,.int .u32 0,.int .i64 0,.int .i64 2])∧w=w':=by
 by_cases h1:at'<0
 ·have d0:decide (at'<0)=true:=decide_eq_true h1
  clear h
  go_enter Tryz.func12,Tryz.ntmps12
  go_wp2_with fail
  try simp only[Exit.inBlock,Exit.then]
  exact bodyPost_ret (aS rfl _ _ _) rfl ⟨rfl,rfl⟩
 have d0:decide (at'<0)=false:=decide_eq_false h1
 by_cases h2:(n:Int)<at'
 ·have d1:decide ((n:Int)<at')=true:=decide_eq_true h2
  clear h
  go_enter Tryz.func12,Tryz.ntmps12
  go_wp2_with fail
  try simp only[Exit.inBlock,Exit.then]
  exact bodyPost_ret (aS rfl _ _ _) rfl ⟨rfl,rfl⟩
 have d1:decide ((n:Int)<at')=false:=decide_eq_false h2
 by_cases h3:most<1
 ·have d2:decide (most<1)=true:=decide_eq_true h3
  clear h
  go_enter Tryz.func12,Tryz.ntmps12
  go_wp2_with fail
  try simp only[Exit.inBlock,Exit.then]
  exact bodyPost_ret (aS rfl _ _ _) rfl ⟨rfl,rfl⟩
 have d2:decide (most<1)=false:=decide_eq_false h3
 have d3:decide (262144<most)=true:=ar (by omega)
 clear h
 go_enter Tryz.func12,Tryz.ntmps12
 go_wp2_with fail
 try simp only[Exit.inBlock,Exit.then]
 exact bodyPost_ret (aS rfl _ _ _) rfl ⟨rfl,rfl⟩
theorem yP(l:List Nat)(p i:Nat):(S06.eh l p i).length≤16:=by
 unfold S06.eh
 rw[List.length_map]
 have h:=List.length_filter_le (fun k=>l.getD (p+k) 0==1) (List.range 16)
 rwa [List.length_range]at h
theorem uJ(l:List Nat)(fl:Nat→Nat):∀(is:List Nat) (p:Nat) (out o:List UInt8) (q:Nat),S06.goT l fl is p out=some (o,q)→o.length≤out.length+16*is.length
 | [],p,out,o,q,h=>by
   simp only[S06.goT,Option.some.injEq,Prod.mk.injEq]at h
   rw[h.1]
   omega
 | i :: is,p,out,o,q,h=>by
   have h2:=yP l p i
   rw[List.length_cons]
   unfold S06.goT at h
   split at h
   ·have:=uJ l fl is p out o q h
    omega
   ·split at h
    ·cases h
    ·have h3:=uJ l fl is _ _ o q h
     rw[List.length_append]at h3
     omega
theorem C2(l:List Nat)(p:Nat):(S06.dE l p).1.length≤256:=by
 unfold S06.dE
 split
 ·exact Nat.zero_le _
 split
 ·exact Nat.zero_le _
 cases hg:S06.goT l (fun i=>l.getD (p+i) 0) (List.range 16) (p+16) []with
 | none=>exact Nat.zero_le _
 | some r=>
   obtain⟨o,q⟩:=r
   have h:=uJ _ _ _ _ _ _ _ hg
   rw[List.length_range,List.length_nil]at h
   dsimp only
   split
   ·exact Nat.zero_le _
   ·exact h
theorem nX(l:List Nat)(p:Int):(S06.ax l p).1.length≤256:=by
 unfold S06.ax
 split
 ·exact Nat.zero_le _
 ·exact C2 l _
theorem dG{e:Nat}(h:e≠0):((e:Int) != 0)=true:=by
 rw[bne_iff_ne]
 omega
theorem eV{e:Nat}(h:¬e≠0):((e:Int) != 0)=false:=by
 rw[bne_eq_false_iff_eq]
 omega
theorem Dy(w:World)(A:Option Addr)(n c a0 m0:Nat)(L:List Nat)(hi:aw w A n L)(hf:n≤c)(hc:c≤maxLen)(hn:n≤1000000)(ha:a0≤n)(hh:an L)(HJ:1≤m0)(HK:m0≤262144):
 Calls Tryz.prog 12 #[.slice A n c,.int .i64 a0,.int .i64 m0] w (dI w (fE L a0 m0)):=by
 have h6:fE L a0 m0=if(bJ L a0).2.2≠0 then([],0,0,(bJ L a0).2.2)else pP L (bJ L a0).1 (bJ L a0).2.1 (a0+105) m0:=by
  unfold fE
  rw[if_neg (by rw[hi.1];omega),Int.toNat_natCast]
 have HH:=aa (Ch w A n c a0 L hi hf hc hn ha hh)
 have HU:=aa (S06.EB w A n c ((a0+105:Nat):Int) L hi hf (by omega) (by omega))
 have HG:=aa fun(wx:World) (h:aw wx A n L) (p k:Int)=>y8 wx A n c L p k h hf hn hc hh
 have HC:=aa fun(wx:World) (v:Value) (T:List (List Int)) (P:List Int) (hp:aN wx v T P) (h:aw wx A n L) (p:Int)=>C6 wx v T P hp A n c L p h hf hn hc hh
 have HI:=aa fun(wx:World) (hb:Below w.heap.size w wx)=>S05.iT hi hb
 generalize fE L a0 m0=ans at*
 have h4:=aa (fun(w1:World) (e:Nat) (h:ans=([],0,0,e)) (hb:Below w.heap.size w w1)=>(show dI w ans (.returned (.tuple #[.string ⟨#[]⟩,.int .u32 0,.int .i64 0,.int .i64 e])) w1 from⟨by rw[h];rfl,hb⟩))
 have ho:=aa (fun(w1:World) (s:ByteArray) (x q:Nat) (h:ans=(s.data.toList,x,q,0)) (hb:Below w.heap.size w w1)=>(show dI w ans (.returned (.tuple #[.string s,.int .u32 x,.int .i64 q,.int .i64 (0:Nat)])) w1 from⟨by rw[h];rfl,hb⟩))
 generalize dI w ans=PO at*
 clear hi hf hc hh
 obtain⟨q0,hV⟩:∃q0,q0=a0+105:=⟨_,rfl⟩
 have j0:(a0:Int)+105=(q0:Int):=by omega
 rw[← hV]at h6 HU
 have HL:q0≤1000105:=by omega
 clear hV
 generalize bJ L a0=hd at*
 obtain⟨x,row,he⟩:=hd
 dsimp only at h6
 have h3:=aa h6
 clear h6
 have d0:decide ((a0:Int)<0)=false:=ao (by omega)
 have d1:decide ((n:Int)<(a0:Int))=false:=ao (by omega)
 have d2:decide ((m0:Int)<1)=false:=ao (by omega)
 have d3:decide (262144<(m0:Int))=false:=ao (by omega)
 go_enter Tryz.func12,Tryz.ntmps12
 go_wp2_with fail
 refine HH.out.mono ?_
 rintro e w1 ⟨rfl,rfl⟩
 dsimp only
 by_cases e1:he≠0
 ·have dd:=dG e1
  have h0:=h3.out
  rw[if_pos e1]at h0
  have HA:=aa (h4.out w he h0 (Below.refl _ _))
  clear h0 h3
  go_wp2_with fail
  try simp only[Exit.inBlock,Exit.then]
  refine bodyPost_ret (aS rfl _ _ _) rfl ?_
  exact HA.out
 have dd:=eV e1
 have h0:=h3.out
 rw[if_neg e1]at h0
 clear h3 HH
 unfold pP at h0
 have h8:=nX L (q0:Nat)
 generalize S06.ax L (q0:Nat)=u at*
 obtain⟨ul,up,ue⟩:=u
 dsimp only at h0 h8
 have hI:=aa h8
 clear h8
 have h3:=aa h0
 clear h0
 go_wp2_with fail
 refine HU.out.mono ?_
 rintro e w1 ⟨rfl,hq⟩
 have hA:=aa hq
 have H2:=aa (HI.out w1 hq)
 clear hq HU e1 dd
 dsimp only
 by_cases e2:ue≠0
 ·have dd:=dG e2
  have h0:=h3.out
  rw[if_pos e2]at h0
  have HA:=aa (h4.out w1 ue h0 hA.out)
  clear h0 h3
  go_wp2_with fail
  try simp only[Exit.inBlock,Exit.then]
  refine bodyPost_ret (aS rfl _ _ _) rfl ?_
  exact HA.out
 have dd:=eV e2
 have h0:=h3.out
 rw[if_neg e2]at h0
 clear h3
 obtain⟨us,hl⟩:∃us,us=S06.cN ul:=⟨_,rfl⟩
 have hW:us.data.toList=ul:=by rw[hl];rfl
 have HB:us.size=ul.length:=by rw[hl];rfl
 have hu:us.size≤256:=by
  have:=hI.out
  omega
 clear hI
 rw[← hl]
 rw[← hW]at h0
 rw[show us.data.toList.length=us.size from rfl]at h0
 clear hW HB hl
 obtain⟨k2,hw⟩:∃k2,k2=us.size+2:=⟨_,rfl⟩
 have j1:(us.size:Int)+2=(k2:Int):=by omega
 rw[← hw]at h0
 have HF:=aa hw
 clear hw e2
 have HT:=aa (HG.out w1 H2.out (up:Nat) (k2:Nat))
 generalize eJ L (up:Nat) ((k2:Nat):Int)=g at*
 obtain⟨T,P,gp,ge⟩:=g
 dsimp only at h0
 have h3:=aa h0
 clear h0
 go_wp2_with fail
 refine HT.out.mono ?_
 rintro e w2 ⟨v,rfl,hk,hK⟩
 obtain⟨A',n',c',B',m',d',rfl,hk⟩:=hk.parts
 obtain⟨w3,hg⟩:∃w3,w3=w2.alloc (.cells #[.slice A' n' c',.slice B' m' d'] 52):=⟨_,rfl⟩
 obtain⟨hj,hr⟩:=sK hk
 rw[← hg]at hj hr
 have hX:=aa (ap hA.out hK)
 have hm:=aa (ap hX.out hr)
 have H3:=aa (HI.out w3 hm.out)
 have H1:=aa hj
 obtain⟨qa,qb⟩:=hj.cells
 rw[hg]at qa qb
 clear hK hr hj hk HT dd
 dsimp only
 by_cases e3:ge≠0
 ·have dd:=dG e3
  have h0:=h3.out
  rw[if_pos e3]at h0
  have HA:=aa (h4.out w3 ge h0 hm.out)
  clear h0 h3
  go_wp2_with fail
  try simp only[Exit.inBlock,Exit.then]
  rw[← hg]
  refine bodyPost_ret (aS rfl _ _ _) rfl ?_
  exact HA.out
 have dd:=eV e3
 have h0:=h3.out
 rw[if_neg e3]at h0
 clear h3 e3
 have hH:=aa (HC.out w3 _ T P H1.out.2 H3.out (gp:Nat))
 have ht:=wA T P L (gp:Nat)
 generalize eK T P L ((gp:Nat):Int)=cg at*
 obtain⟨cl,cp,ce⟩:=cg
 dsimp only at h0 ht
 have h3:=aa h0
 have hZ:=aa ht
 clear h0 ht
 go_wp2_with fail
 rw[← hg]
 clear hg qa qb
 refine hH.out.mono ?_
 rintro e w4 h7
 obtain⟨A4,c4,rfl,hy,hS,hL⟩:=DY h7
 have hB:=aa (ap hm.out hL)
 have H4:=aa hS
 clear hL hS h7 hH dd
 dsimp only
 by_cases e4:ce≠0
 ·have dd:=dG e4
  have h0:=h3.out
  rw[if_pos e4]at h0
  have HA:=aa (h4.out w4 ce h0 hB.out)
  clear h0 h3
  go_wp2_with fail
  try simp only[Exit.inBlock,Exit.then]
  refine bodyPost_ret (aS rfl _ _ _) rfl ?_
  exact HA.out
 have dd:=eV e4
 have h0:=h3.out
 rw[if_neg e4]at h0
 clear h3 e4
 have HD:=aa (S07.Hc w4 A4 cl.length c4 (zL cl) (us.size:Nat) (m0:Nat) (cR H4.out) hy (by have:=hZ.out;omega))
 have hv:=rt (us.size:Nat) (m0:Nat) (zL cl)
 generalize S07.dC (us.size:Nat) (m0:Nat) (zL cl)=dg at*
 obtain⟨dl,de⟩:=dg
 dsimp only at h0 hv
 have h3:=aa h0
 have H0:=aa hv
 clear h0 hv
 go_wp2_with fail
 refine HD.out.mono ?_
 rintro e w5 ⟨v5,rfl,h5,hM⟩
 obtain⟨A5,c5,rfl,H8,_⟩:=aj h5
 have H5:=aa (aJ h5)
 have hC:=aa (ap hB.out hM)
 clear h5 hM HD dd
 dsimp only
 by_cases e5:de≠0
 ·have dd:=dG e5
  have h0:=h3.out
  rw[if_pos e5]at h0
  have HA:=aa (h4.out w5 de h0 hC.out)
  clear h0 h3
  go_wp2_with fail
  try simp only[Exit.inBlock,Exit.then]
  refine bodyPost_ret (aS rfl _ _ _) rfl ?_
  exact HA.out
 have dd:=eV e5
 have h0:=h3.out
 rw[if_neg e5]at h0
 clear h3 e5
 have hG:=aa (S06.o6 w5 A5 dl.length c5 (zL dl) us (cR H5.out) (by have:=H0.out;omega) (by omega))
 generalize S06.cw (zL dl) us.data.toList=bg at*
 obtain⟨bl,be⟩:=bg
 dsimp only at h0
 have h3:=aa h0
 clear h0
 go_wp2_with fail
 refine hG.out.mono ?_
 rintro e w6 ⟨rfl,hN⟩
 have hY:=aa (ap hC.out hN)
 clear hN hG dd
 dsimp only
 obtain⟨bs,hs⟩:∃bs,bs=S06.cN bl:=⟨_,rfl⟩
 have hR:bs.data.toList=bl:=by rw[hs];rfl
 rw[← hs]
 have h0:=h3.out
 rw[← hR]at h0
 clear h3 hs hR
 have HW:=aa (zQ w6 bs row)
 generalize iL bs.data.toList row=kg at*
 obtain⟨kl,ke⟩:=kg
 dsimp only at h0
 have h3:=aa h0
 clear h0
 go_wp2_with fail
 refine HW.out.mono ?_
 rintro e w7 ⟨rfl,hO⟩
 have hD:=aa (ap hY.out hO)
 clear hO HW
 dsimp only
 by_cases e6:ke≠0
 ·have dd:=dG e6
  have h0:=h3.out
  rw[if_pos e6]at h0
  have HA:=aa (h4.out w7 ke h0 hD.out)
  clear h0 h3
  go_wp2_with fail
  try simp only[Exit.inBlock,Exit.then]
  refine bodyPost_ret (aS rfl _ _ _) rfl ?_
  exact HA.out
 have dd:=eV e6
 obtain⟨ks,hx⟩:∃ks,ks=S06.cN kl:=⟨_,rfl⟩
 have hT:ks.data.toList=kl:=by rw[hx];rfl
 rw[← hx]
 have h0:=h3.out
 rw[if_neg e6,←hT]at h0
 clear h3 e6 hx hT
 have HX:=aa (S03.rg w7 ks)
 have h9:=yu ks.data.toList
 generalize S03.dZ [] ks.data.toList=xg at*
 obtain⟨xl,xe⟩:=xg
 dsimp only at h0 h9
 have h3:=aa h0
 have hJ:=aa h9
 clear h0 h9
 go_wp2_with fail
 refine HX.out.mono ?_
 rintro e w8 ⟨rfl,hP⟩
 have hE:=aa (ap hD.out hP)
 clear hP HX dd
 dsimp only
 by_cases e7:xe≠0
 ·have dd:=dG e7
  have h0:=h3.out
  rw[if_pos e7]at h0
  have HA:=aa (h4.out w8 xe h0 hE.out)
  clear h0 h3
  go_wp2_with fail
  try simp only[Exit.inBlock,Exit.then]
  refine bodyPost_ret (aS rfl _ _ _) rfl ?_
  exact HA.out
 have dd:=eV e7
 obtain⟨xs,hz⟩:∃xs:ByteArray,xs=⟨xl.toArray⟩:=⟨_,rfl⟩
 have h9:xs.data.toList=xl:=by rw[hz]
 have HE:xs.size≤262144:=by
  have h1:xs.data.toList.length=xs.size:=rfl
  have h2:=hJ.out
  rw[h9]at h1
  omega
 rw[← hz]
 have h0:=h3.out
 rw[if_neg e7,←h9]at h0
 clear h3 e7 hz h9 hJ
 have HZ:=aa (S02.Gj w8 xs (by omega))
 generalize S02.db xs.data.toList=z at*
 have h3:=aa h0
 clear h0 HE
 go_wp2_with fail
 refine HZ.out.mono ?_
 rintro e w9 ⟨rfl,hQ⟩
 have hF:=aa (ap hE.out hQ)
 clear hQ HZ dd
 dsimp only
 by_cases e8:z≠x
 ·have dd:((z:Int) != (x:Int))=true:=by
   rw[bne_iff_ne]
   omega
  have h0:=h3.out
  rw[if_pos e8]at h0
  have HA:=aa (h4.out w9 121 h0 hF.out)
  clear h0 h3
  go_wp2_with fail
  try simp only[Exit.inBlock,Exit.then]
  refine bodyPost_ret (aS rfl _ _ _) rfl ?_
  exact HA.out
 have dd:((z:Int) != (x:Int))=false:=by
  rw[bne_eq_false_iff_eq]
  omega
 have h0:=h3.out
 rw[if_neg e8]at h0
 have HA:=aa (ho.out w9 xs x cp h0 hF.out)
 clear h0 h3
 go_wp2_with fail
 try simp only[Exit.inBlock,Exit.then]
 refine bodyPost_ret (aS rfl _ _ _) rfl ?_
 exact HA.out
theorem DN(s:List UInt8):an (dR s).1:=by
 unfold dR
 split
 ·intro b hb
  cases hb
 split
 ·intro b hb
  cases hb
 ·show an (dh s)
  unfold dh fI gF
  exact an.append (an.append (an.append (an.append (aE _ _) (aE _ _)) (aE _ _)) (S06.ri _)) (an.append (qM _ _) (pG _ _ _))
theorem wY(s:List UInt8):∃L,S05.ef s L:=by
 obtain⟨le,h0⟩:∃le:Nat→Nat→Bool,le=fun a b=>decide (S05.RLt s a b∨a=b):=⟨_,rfl⟩
 have hd:∀a b,le a b=true↔S05.RLt s a b∨a=b:=fun a b=>by rw[h0];exact decide_eq_true_iff
 have h5:∀a b c,le a b=true→le b c=true→le a c=true:=fun a b c h1 h2=>by
  rw[hd]at*
  rcases h1 with h1 | h1
  ·rcases h2 with h2 | h2
   ·exact .inl (h1.trans h2)
   ·exact .inl (h2 ▸ h1)
  ·exact h1 ▸ h2
 have h4:∀a b,(le a b || le b a)=true:=fun a b=>by
  rw[Bool.or_eq_true,hd,hd]
  by_cases e:a=b
  ·exact .inl (.inr e)
  ·rcases S05.RLt.total s a b e with h | h
   ·exact .inl (.inl h)
   ·exact .inr (.inl h)
 have hp:=List.mergeSort_perm (List.range s.length) le
 refine⟨(List.range s.length).mergeSort le,?_,fun i=>by rw[hp.mem_iff,List.mem_range]⟩
 have h1:=List.pairwise_mergeSort h5 h4 (List.range s.length)
 have h2:((List.range s.length).mergeSort le).Pairwise (· ≠ ·):=List.nodup_iff_pairwise_ne.1 (hp.nodup_iff.2 List.nodup_range)
 exact(h1.and h2).imp fun {a b} h=>by
  rcases(hd a b).1 h.1 with h3 | h3
  ·exact h3
  ·exact absurd h3 h.2
theorem jY(t:List UInt8)(h:t≠ []):S05.zH t 0 (mh t):=by
 obtain⟨L,hL⟩:=wY t
 have h0:0<t.length:=List.length_pos_iff.2 h
 obtain⟨k,h1,h2,_⟩:=S05.pu hL 0 h0
 have e:=uZ hL h1 h2
 rw[← e]
 exact⟨L,hL,h1,h2⟩
theorem ko{s:List UInt8}(h:s≠ []):S03.bB s≠ []:=by
 cases s with
 | nil=>exact absurd rfl h
 | cons x l=>
   intro e
   have h1:=S03.ur l x 1 (ah _) (by omega)
   rw[← S03.iw,e]at h1
   cases h1
theorem si(w:World){s:List UInt8}(hs:s≠ [])(htl:(S03.bB s).length≤262144)(h0:s.length≤262144)(B Z:List Nat)(hZ:an Z)(most:Int)(h1:1≤most)(h2:most≤262144):
 fE (B++(dR s).1++Z) (B.length:Nat) most=if((S03.bB s).length:Int)≤most then(s,S02.db s,B.length+(dR s).1.length,0)else([],0,0,3):=by
 have e:(dR s).1=dh s:=by
  unfold dR
  rw[if_neg hs,if_neg (by omega)]
 rw[e]
 exact AO w (jY _ (ko hs)) (ko hs) htl h0 B Z hZ most h1 h2
theorem Ia{n:Nat}{l:List Nat}(h1:1≤n)(h2:n≤256)(h:∀x∈l,x<n):S07.ln (n:Nat) (zL l)=(S07.fy n 0 l,0):=by
 unfold S07.ln
 rw[if_neg (by omega),if_pos (fun x hx=>by
  unfold zL at hx
  obtain⟨y,hy,rfl⟩:=List.mem_map.1 hx
  have:=h y hy
  omega),Int.toNat_natCast]
 rw[show (zL l).map Int.toNat=l from wj l]
theorem zW(s:List UInt8)(_hs:s.length≤200000):(dR s).1.length≤100000000:=by
 unfold dR
 split
 ·exact Nat.zero_le _
 split
 ·exact Nat.zero_le _
 ·rename_i h1 h2
  show(dh s).length≤100000000
  have hO:=jY _ (ko h1)
  have h6:=(jM hO (ko h1) (by omega)).2.2
  have h3:=jo (aO (S03.bB s)).1 (aO (S03.bB s)).2.1
  have h4:=im (aO (S03.bB s)).1 (aO (S03.bB s)).2.1 (zL (bL (S03.bB s))) (by unfold zL;rw[List.length_map];omega)
  obtain⟨r,h0,h5⟩:=S06.ji (S06.ofL (S03.bB s))
  unfold dh gF
  rw[List.length_append,List.length_append,List.length_append,eS]
  omega
theorem yZ(w:World)(A:Option Addr)(n c:Nat)(at' most:Int)(L:List Nat)(hi:aw w A n L)(h1:n≤c)(hc:c≤maxLen)(hn:n≤1000000)(h0:an L):
 Calls Tryz.prog 12 #[.slice A n c,.int .i64 at',.int .i64 most] w (dI w (fE L at' most)):=by
 by_cases h:at'<0∨(n:Int)<at'∨most<1∨262144<most
 ·have e:fE L at' most=([],0,0,2):=by
   unfold fE
   rw[if_pos (by rw[hi.1];exact h)]
  rw[e]
  refine(AZ w A n c at' most hn h).mono ?_
  rintro e w' ⟨rfl,rfl⟩
  exact⟨rfl,Below.refl _ _⟩
 ·obtain⟨a0,rfl⟩:∃a0:Nat,at'=a0:=⟨at'.toNat,by omega⟩
  obtain⟨m0,rfl⟩:∃m0:Nat,most=m0:=⟨most.toNat,by omega⟩
  exact Dy w A n c a0 m0 L hi h1 hc hn (by omega) h0 (by omega) (by omega)
theorem pK(k:Nat):∀(l:List Nat) (a:Nat),(k≤a∧a≤k+1)→(∀ x∈l,k≤x∧x≤k+1)→(bC a l).length≤3*l.length
 | [],_,_,_=>by simp[bC]
 | x :: l,a,ha,h=>by
   have hx:=h x List.mem_cons_self
   have ih:=pK k l x hx fun y hy=>h y (List.mem_cons_of_mem _ hy)
   rw[bC,List.length_append,kO,List.length_cons]
   omega
theorem vb{k:Nat}(c:Nat)(w:List Nat)(i:Nat):k≤bI k c w i∧bI k c w i≤k+1:=by
 unfold bI
 split <;>omega
theorem Cm{W:List Nat}(h2:2≤W.length)(hn:W.length≤258):∃k,k≤8∧∀x∈nU W,k≤x∧x≤k+1:=by
 refine⟨Nat.log2 W.length,?_,fun x hx=> ?_⟩
 ·have h1:2 ^ (Nat.log2 W.length)≤W.length:=Nat.log2_self_le (by omega)
  rcases Nat.lt_or_ge 8 (Nat.log2 W.length)with h | h
  ·have h4:2 ^ 9≤2 ^ (Nat.log2 W.length):=Nat.pow_le_pow_right (by decide) h
   have h5:(2:Nat) ^ 9=512:=by decide
   omega
  ·exact h
 ·unfold nU at hx
  obtain⟨i,_,rfl⟩:=List.mem_map.1 hx
  exact vb _ _ _
theorem Be{k:Nat}{l:List Nat}(h:∀x∈l,k≤x∧x≤k+1):(aX l).length≤5+3*l.length:=by
 unfold aX
 rw[List.length_append,af]
 match l,h with
 | [],_=>simp[bC]
 | x :: l,h=>
   have h1:=pK k (x :: l) x (h x List.mem_cons_self) h
   show 5+(bC x (x :: l)).length≤_
   omega
theorem mj:∀G:Nat,(aG [0,1,2,3,4,5] (List.replicate G 0)).length=G
 | 0=>rfl
 | G+1=>by
   rw[List.replicate_succ]
   show(List.replicate 0 1++0 :: aG [0,1,2,3,4,5] (List.replicate G 0)).length=_
   rw[List.length_append,List.length_cons,mj G,List.length_replicate]
   omega
theorem p7(T:List (List Nat))(P L:List Nat)(h:∀i j,(T.getD (P.getD i 0) []).getD j 0≤9):∀q,(cQ T P L q).length≤9*q
 | 0=>by simp[cQ]
 | q+1=>by
   have ih:=p7 T P L h q
   have h1:=h (q / 50) (L.getD q 0)
   rw[lF,List.length_append,bf,af]
   omega
theorem zJ{L:List Int}{m:Int}(hM:g9 L m):(ff (aZ L m).1 (aZ L m).2.1 L).1≤1576+aQ L.length+9*L.length:=by
 have hg:=oJ hM
 rw[tQ hg hM,oE hg,kJ hg hM]
 obtain⟨f,hf⟩:∃f,f=kD (hU L) m.toNat:=⟨_,rfl⟩
 obtain⟨G,hG⟩:∃G,G=aQ L.length:=⟨_,rfl⟩
 have h7:=hM.1
 have h4:=hM.2.1
 have h5:∃k,k≤8∧∀x∈f,k≤x∧x≤k+1:=by
  rw[hf]
  unfold kD
  exact Cm (by unfold bh;simp;omega) (by unfold bh;simp;omega)
 have h6:f.length=m.toNat:=by
  rw[hf]
  unfold kD nU bh
  simp
 have e1:(aZ L m).1= [zL f,zL f]:=by unfold aZ;rw[if_pos hM,hf]
 have e2:(aZ L m).2.1=zL (List.replicate G 0):=by unfold aZ;rw[if_pos hM,hG]
 rw[e1,e2,←hG]
 show(gB ([zL f,zL f].map nl) (nl (zL (List.replicate G 0)))).length+(cQ ([zL f,zL f].map nl) (nl (zL (List.replicate G 0))) (nl L) L.length).length≤_
 have e3: [zL f,zL f].map nl= [f,f]:=by simp only[List.map_cons,List.map_nil,wj]
 rw[e3,wj]
 obtain⟨k,hk,h0⟩:=h5
 have h1:=Be h0
 have h2:(gB [f,f] (List.replicate G 0)).length≤18+G+2*(5+3*f.length):=by
  unfold gB
  simp only[List.length_append,af,mj,List.flatMap_cons,List.flatMap_nil,List.length_nil]
  omega
 have h3:=p7 [f,f] (List.replicate G 0) (nl L) (fun i j=>by
  have e4:(List.replicate G 0).getD i 0=0:=by
   rw[List.getD_eq_getElem?_getD,List.getElem?_replicate]
   split <;>rfl
  rw[e4]
  show f.getD j 0≤9
  rw[List.getD_eq_getElem?_getD]
  rcases Nat.lt_or_ge j f.length with hj | hj
  ·rw[List.getElem?_eq_getElem hj]
   have:=h0 _ (List.getElem_mem hj)
   show f[j]≤9
   omega
  ·rw[List.getElem?_eq_none hj]
   exact Nat.zero_le _) L.length
 omega
theorem An(w:World)(s:List UInt8):(dR s).1.length≤12*s.length+4000:=by
 unfold dR
 split
 ·exact Nat.zero_le _
 split
 ·exact Nat.zero_le _
 ·rename_i h1 h2
  show(dh s).length≤12*s.length+4000
  have h0:=ko h1
  have hO:=jY _ h0
  obtain⟨hM,_,ha⟩:=jM hO h0 (by omega)
  have hg:=l8 hO h0 (by omega) w
  have h3:=(oM w hM).2.2
  have h4:=zJ hM
  have h5:=tQ hg hM
  have h6:=S03.j5 s
  have hz:(zL (bL (S03.bB s))).length=(bL (S03.bB s)).length:=by unfold zL;rw[List.length_map]
  obtain⟨r,h8,h9⟩:=S06.ji (S06.ofL (S03.bB s))
  have e:(fo (zL (bL (S03.bB s))) (((S06.ofL (S03.bB s)).length+2:Nat):Int))=aO (S03.bB s):=rfl
  rw[e,h5]at h3
  unfold dh gF
  rw[List.length_append,List.length_append,List.length_append,eS]
  unfold aQ at h4
  have h7:(eG (aO (S03.bB s)).1 (aO (S03.bB s)).2.1).1.length+(bD (aO (S03.bB s)).1 (aO (S03.bB s)).2.1 (zL (bL (S03.bB s)))).1.length≤_:=h3
  omega
theorem CX(w:World){s:List UInt8}(hs:s≠ [])(htl:(S03.bB s).length≤262144):137<(dR s).1.length:=by
 have e:(dR s).1=dh s:=by
  unfold dR
  rw[if_neg hs,if_neg (by omega)]
 have h1:=ko hs
 have hO:=jY _ h1
 obtain⟨h0,_⟩:=Bz hO h1 htl w
 obtain⟨r,h2,h3⟩:=S06.ji (S06.ofL (S03.bB s))
 rw[e]
 unfold dh
 rw[List.length_append,List.length_append,eS,h0]
 unfold gB
 simp only[List.length_append,af]
 omega
structure iF (K:Nat):Prop where
 one:1≤K
 make:∀(w:World) (s:ByteArray),s.size≤K→Calls Tryz.prog 9 #[.string s] w (aV w (dR s.data.toList))
 take:∀(w:World) (s:ByteArray) (at' most:Int),s.size≤40000→ -9223372036854775808≤at'→at'≤9223372036854775807→ -9223372036854775808≤most→most≤9223372036854775807→Calls Tryz.prog 11 #[.string s,.int .i64 at',.int .i64 most] w (dI w (fE (al s.data.toList) at' most))
 sum:∀(w:World) (s:ByteArray),s.size≤40000→Calls Tryz.prog 14 #[.string s] w fun e w'=>e=.returned (.int .u32 (S02.db s.data.toList))∧Below w.heap.size w w'
 enc:∀(w:World) (s:ByteArray),s.size≤40000→Calls Tryz.prog 15 #[.string s] w fun e w'=>e=.returned (.string (S06.cN (S03.bB s.data.toList)))∧Below w.heap.size w w'
theorem vt:fE (al (⟨#[0,0,0,0,0,0]⟩:ByteArray).data.toList) 0 1=([],0,0,120):=by decide +kernel
theorem JV:S02.db [97]=429103979:=by decide +kernel
theorem Ja:S03.bB [97]= [97]:=by decide +kernel
theorem IZ{s:List UInt8}(h:s≠ [])(h2:s.length≤200000):(dR s).2=0:=by
 have:=S03.j5 s
 unfold dR
 rw[if_neg h,if_neg (by omega)]
theorem xr(l:List Nat):(⟨(aK l).toArray⟩:ByteArray).size=(l.length+7) / 8:=by
 show(aK l).toArray.size=_
 rw[List.size_toArray,eB]
theorem Al(w:World){s:List UInt8}(hs:s≠ [])(h3:s.length≤200000)(u:ByteArray)(most:Int)(h1:1≤most)(h2:most≤262144):
 fE (al (u++⟨(aK (dR s).1).toArray⟩).data.toList) ((8*u.size:Nat):Int) most=if((S03.bB s).length:Int)≤most then(s,S02.db s,8*u.size+(dR s).1.length,0)else([],0,0,3):=by
 obtain⟨Z,hZ,h0⟩:=D5 u _ (dR s).1 (DN s) rfl
 have hl:=S03.j5 s
 have hb:(al u.data.toList).length=8*u.size:=aA _
 have h:=si w hs (by omega) (by omega) (al u.data.toList) Z h0 most h1 h2
 rw[hb]at h
 rw[hZ,h]
theorem xy(w:World){s:List UInt8}(hs:s≠ [])(h0:s.length≤200000)(most:Int)(h1:1≤most)(h2:most≤262144):
 fE (al (⟨(aK (dR s).1).toArray⟩:ByteArray).data.toList) 0 most=if((S03.bB s).length:Int)≤most then(s,S02.db s,(dR s).1.length,0)else([],0,0,3):=by
 have h:=Al w hs h0 ⟨#[]⟩ most h1 h2
 have e:(⟨#[]⟩:ByteArray)++⟨(aK (dR s).1).toArray⟩=⟨(aK (dR s).1).toArray⟩:=by
  apply ByteArray.ext
  simp
 rw[e]at h
 have e2:8*(⟨#[]⟩:ByteArray).size+(dR s).1.length=(dR s).1.length:=by
  show 8*0+_=_
  omega
 rw[e2]at h
 exact h
section
variable {K:Nat} (R:iF K)
include R
theorem vW(w:World):Calls Tryz.prog 8 #[] w fun e w'=>e=.returned (.bool true)∧Below w.heap.size w w':=by
 have h6:=R.make w ⟨#[97]⟩ (Nat.le_trans (by decide) R.one)
 have h1:=CX w (s:= [97]) (by simp) (by rw[Ja];decide)
 have h0:=An w [97]
 have hb:=xr (dR [97]).1
 have h3:=xy w (s:= [97]) (by simp) (by decide) 1 (by omega) (by omega)
 rw[Ja,JV]at h3
 have h9:(dR [97]).2=0:=IZ (by simp) (by decide)
 have HM:Hid (Calls Tryz.prog 9 #[.string ⟨#[97]⟩] w fun e w'=>e=.returned (.tuple #[.agg #[.string ⟨(aK (dR [97]).1).toArray⟩,.int .i64 (dR [97]).1.length],.int .i64 0])∧Below w.heap.size w w'):=aa (by
  have h:=h6
  unfold aV at h
  have e:dR (⟨#[97]⟩:ByteArray).data.toList=dR [97]:=rfl
  rw[e,h9]at h
  exact h)
 obtain⟨T,hT⟩:∃T,T=(⟨(aK (dR [97]).1).toArray⟩:ByteArray):=⟨_,rfl⟩
 obtain⟨n,hn⟩:∃n,n=(dR [97]).1.length:=⟨_,rfl⟩
 rw[← hT,←hn]at HM hb
 rw[← hT,←hn]at h3
 rw[← hn]at h1 h0
 have ha:([97]:List UInt8).length=1:=rfl
 rw[ha]at h0 h3
 have hh:Hid (∀ wx,Calls Tryz.prog 11 #[.string T,.int .i64 0,.int .i64 1] wx fun e w'=>e=.returned (.tuple #[.string ⟨#[97]⟩,.int .u32 429103979,.int .i64 n,.int .i64 0])∧Below wx.heap.size wx w'):=aa fun wx=>by
  have h:=R.take wx T 0 1 (by omega) (by omega) (by omega) (by omega) (by omega)
  rw[h3,if_pos (by omega)]at h
  exact h
 have hi:Hid (∀ wx,Calls Tryz.prog 11 #[.string ⟨#[0,0,0,0,0,0]⟩,.int .i64 0,.int .i64 1] wx fun e w'=>e=.returned (.tuple #[.string ⟨#[]⟩,.int .u32 0,.int .i64 0,.int .i64 120])∧Below wx.heap.size wx w'):=aa fun wx=>by
  have h:=R.take wx ⟨#[0,0,0,0,0,0]⟩ 0 1 (by decide) (by omega) (by omega) (by omega) (by omega)
  rw[vt]at h
  exact h
 have d1:decide ((137:Int)<(n:Int))=true:=ar (by omega)
 have d2:((n:Int)==(n:Int))=true:=beq_self_eq_true _
 have hj:n≤5000:=by omega
 clear h6 h1 h0 hb h3 h9 hT hn ha R
 go_enter Tryz.func8,Tryz.ntmps8
 go_wp2_with fail
 refine HM.out.mono ?_
 rintro e w1 ⟨rfl,h7⟩
 have h2:Below w1.heap.size w1 (w1.alloc (.cells #[.string T,.int .i64 n] 24)):=(Below.refl _ _).alloc (ah _) _
 have HK:=aa (ag w1 24 #[.string T,.int .i64 n])
 have hc:=aa (ap h7 h2)
 clear h2
 go_upto_region 2 with fail
 generalize w1.alloc (.cells #[.string T,.int .i64 n] 24)=w2 at*
 generalize w1.heap.size=g at*
 have q0:w2.cell? ⟨g,0,none⟩=some (.string T):=(ac HK.out 0).trans rfl
 clear h7
 go_wp2_with fail
 refine(hh.out w2).mono ?_
 rintro e w3 ⟨rfl,h4⟩
 have hg:=aa (aL h4 HK.out)
 have he:=aa (ap hc.out h4)
 clear h4 q0
 go_wp2_with fail
 refine(hi.out w3).mono ?_
 rintro e w4 ⟨rfl,h5⟩
 have h8:=aL h5 hg.out
 have hf:=aa (ap he.out h5)
 have q1:w4.cell? ⟨g,1,none⟩=some (.int .i64 n):=(ac h8 1).trans rfl
 clear h5 h8
 go_wp2_with fail
 go_ret
 exact⟨rfl,hf.out⟩
end
section
variable {K:Nat} (R:iF K)
include R
theorem Eu(w:World)(s:ByteArray)(at' most:Int)(hs:s.size≤9223372036854775807)(h1: -9223372036854775808≤at')(h2:at'≤9223372036854775807)(h3: -9223372036854775808≤most)(h4:most≤9223372036854775807):
 Calls Tryz.prog 4 #[.string s,.int .i64 at',.int .i64 most] w fun e w'=>e=.returned (.bool true)∧Below w.heap.size w w':=by
 have h9:=aa (vW R)
 by_cases hq:400<s.size
 ·have d0:decide ((400:Int)<(s.size:Int))=true:=ar (by omega)
  clear R
  go_enter Tryz.func4,Tryz.ntmps4
  go_wp2_with fail
  refine(h9.out _).mono ?_
  rintro e w7 ⟨rfl,h8⟩
  have hh:=aa h8
  clear h8
  go_wp2_with fail
  go_ret
  exact⟨rfl,hh.out⟩
 have d0:decide ((400:Int)<(s.size:Int))=false:=ao (by omega)
 by_cases hm:3000<most∧most≤262144
 ·have d1:decide (3000<most)=true:=decide_eq_true hm.1
  have d2:decide (most≤262144)=true:=decide_eq_true hm.2
  clear R hm
  go_enter Tryz.func4,Tryz.ntmps4
  go_wp2_with fail
  refine(h9.out _).mono ?_
  rintro e w7 ⟨rfl,h8⟩
  have hh:=aa h8
  clear h8
  go_wp2_with fail
  go_ret
  exact⟨rfl,hh.out⟩
 have HA:=aa (R.take w s at' most (by omega) h1 h2 h3 h4)
 have hp:=aa fun w1:World=>Fs w1 s (by omega)
 have HR:=aa fun(w1:World) (B:Option Addr) (m d:Nat) (hb:aw w1 B m (al s.data.toList)) (hr:m≤d) (hd:d≤maxLen) (hm:m≤1000000)=>yZ w1 B m d at' most (al s.data.toList) hb hr hd hm (aM _)
 generalize fE (al s.data.toList) at' most=ans at*
 obtain⟨t,x,p,k⟩:=ans
 have hn:Hid (Calls Tryz.prog 11 #[.string s,.int .i64 at',.int .i64 most] w fun e w'=>e=.returned (.tuple #[.string (S06.cN t),.int .u32 x,.int .i64 p,.int .i64 k])∧Below w.heap.size w w'):=HA
 have ha:Hid (∀ (w1:World) (B:Option Addr) (m d:Nat),aw w1 B m (al s.data.toList)→m≤d→d≤maxLen→m≤1000000→Calls Tryz.prog 12 #[.slice B m d,.int .i64 at',.int .i64 most] w1 fun e w'=>e=.returned (.tuple #[.string (S06.cN t),.int .u32 x,.int .i64 p,.int .i64 k])∧Below w1.heap.size w1 w'):=HR
 generalize S06.cN t=T at*
 generalize al s.data.toList=bits at*
 have e1:((x:Int)==(x:Int))=true:=beq_self_eq_true _
 have e2:((p:Int)==(p:Int))=true:=beq_self_eq_true _
 have e3:((k:Int)==(k:Int))=true:=beq_self_eq_true _
 clear HA HR R
 have key:∀(b:Bool),(decide (3000<most)=b)→(b=true→decide (most≤262144)=false)→Calls Tryz.prog 4 #[.string s,.int .i64 at',.int .i64 most] w fun e w'=>e=.returned (.bool true)∧Below w.heap.size w w':=by
  intro b d1 d2
  cases b with
  | true=>
    have d3:=d2 rfl
    clear d2
    go_enter Tryz.func4,Tryz.ntmps4
    go_wp2_with fail
    refine hn.out.mono ?_
    rintro e w1 ⟨rfl,h0⟩
    have hc:=aa h0
    clear h0
    go_wp2_with fail
    refine(hp.out w1).mono ?_
    rintro e w2 ⟨v,rfl,ho,h5⟩
    obtain⟨B,d,rfl,hj,hk,_⟩:=aj ho
    have hi:=aa (ha.out w2 B (8*s.size) d (aJ ho) hj hk (by omega))
    have he:=aa (ap hc.out h5)
    clear ho h5 ha
    go_wp2_with fail
    refine hi.out.mono ?_
    rintro e w3 ⟨rfl,h6⟩
    have hf:=aa (ap he.out h6)
    clear h6
    go_wp2_with fail
    refine(h9.out _).mono ?_
    rintro e w5 ⟨rfl,h7⟩
    have hg:=aa (ap hf.out h7)
    clear h7
    go_wp2_with fail
    go_ret
    exact⟨rfl,hg.out⟩
  | false=>
    clear d2
    go_enter Tryz.func4,Tryz.ntmps4
    go_wp2_with fail
    refine hn.out.mono ?_
    rintro e w1 ⟨rfl,h0⟩
    have hc:=aa h0
    clear h0
    go_wp2_with fail
    refine(hp.out w1).mono ?_
    rintro e w2 ⟨v,rfl,ho,h5⟩
    obtain⟨B,d,rfl,hj,hk,_⟩:=aj ho
    have hi:=aa (ha.out w2 B (8*s.size) d (aJ ho) hj hk (by omega))
    have he:=aa (ap hc.out h5)
    clear ho h5 ha
    go_wp2_with fail
    refine hi.out.mono ?_
    rintro e w3 ⟨rfl,h6⟩
    have hf:=aa (ap he.out h6)
    clear h6
    go_wp2_with fail
    refine(h9.out _).mono ?_
    rintro e w5 ⟨rfl,h7⟩
    have hg:=aa (ap hf.out h7)
    clear h7
    go_wp2_with fail
    go_ret
    exact⟨rfl,hg.out⟩
 by_cases hl:3000<most
 ·exact key true (decide_eq_true hl) fun _=>decide_eq_false fun h=>hm ⟨hl,h⟩
 ·exact key false (decide_eq_false hl) (by intro h;cases h)
end
end Go.Proofs.YthakcjehhlpjnaaGreat
