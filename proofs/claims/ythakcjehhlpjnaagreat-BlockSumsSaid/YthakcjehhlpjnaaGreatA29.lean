import Derived.Test.YthakcjehhlpjnaaGreatA17
import Derived.Test.YthakcjehhlpjnaaGreatA18
import Derived.Test.YthakcjehhlpjnaaGreatA19
import Derived.Test.YthakcjehhlpjnaaGreatA25
import Derived.Test.YthakcjehhlpjnaaGreatA26
import Derived.Test.YthakcjehhlpjnaaGreatA28
set_option maxHeartbeats 3200000
set_option maxRecDepth 100000
namespace Go.Proofs.YthakcjehhlpjnaaGreat
open Go.RowKit
noncomputable def Gt (t:List UInt8):List Nat:=open Classical in if h:∃L,S05.dR t L then Classical.choose h else []
theorem lB{t:List UInt8}{L:List Nat}(h:S05.dR t L):L=Gt t:=by
 unfold Gt
 rw[dif_pos ⟨L,h⟩]
 exact S05.BC h (Classical.choose_spec (⟨L,h⟩:∃L,S05.dR t L))
noncomputable def ji (t:List UInt8):Nat:=(Gt t).idxOf 0
noncomputable def jg (t:List UInt8):List UInt8:=S05.a6 t (Gt t)
theorem ux{t:List UInt8}{L:List Nat}{k:Nat}(h:S05.dR t L)(hk:k<L.length)(h0:L.getD k 0=0):k=ji t:=by
 have hL:=lB h
 unfold ji
 rw[← hL]
 have hm:(0:Nat)∈L:=by
  rw[← h0,List.getD_eq_getElem?_getD,List.getElem?_eq_getElem hk]
  exact List.getElem_mem hk
 have h1:=List.idxOf_lt_length_of_mem hm
 have h2:L[L.idxOf 0]=0:=List.getElem_idxOf h1
 have h3:L[k]=0:=by
  rw[List.getD_eq_getElem?_getD,List.getElem?_eq_getElem hk]at h0
  exact h0
 exact S05.sQ (S05.jf h) hk h1 (h3.trans h2.symm)
noncomputable def db (t:List UInt8):List Nat:=(S06.cK (jg t) (S06.ofL t)).getD []
noncomputable def bH (t:List UInt8):List Nat:=S07.eP (S06.ofL t).length 0 (db t)
noncomputable def aO (t:List UInt8):List (List Int)×List Int×Nat:=eM (zL (bH t)) ((S06.ofL t).length+2:Nat)
noncomputable def eI (s:List UInt8):List Nat:=aj 54156738319193 48++aj (S02.cL s) 32++aj (ji (S03.aR s)) 25
noncomputable def eA (t:List UInt8):List Nat:=(eh (aO t).1 (aO t).2.1).1++(bw (aO t).1 (aO t).2.1 (zL (bH t))).1
noncomputable def cw (s:List UInt8):List Nat:=eI s++S06.cD (S06.ofL (S03.aR s))++eA (S03.aR s)
noncomputable def bV (s:List UInt8):List Nat×Nat:=if s= []then([],2)else if 262144<(S03.aR s).length then([],3)else(cw s,0)
def b6(l:List Nat)(p:Nat):Nat×Nat×Nat:=
 if l.length<p+48 then(0,0,10)
 else if val ((l.drop p).take 48)≠54156738319193 then(0,0,120)
 else if l.length<p+48+32 then(0,0,10)
 else if l.length<p+80+1 then(0,0,10)
 else if val ((l.drop (p+80)).take 1)≠0 then(0,0,120)
 else if l.length<p+81+24 then(val ((l.drop (p+48)).take 32),0,10)
 else(val ((l.drop (p+48)).take 32),val ((l.drop (p+81)).take 24),0)
def lp(col:List UInt8)(row:Nat):List UInt8×Nat:=if 262144<col.length then([],3)else if col.length≤row then([],50)else(S05.iF col row,0)
def tH(l:List Nat)(sum row q:Nat)(most:Int):List UInt8×Nat×Nat×Nat:=
 let u:=S06.aE l (q:Nat)
 if u.2.2≠0 then([],0,0,u.2.2)else
 let g:=fp l (u.2.1:Nat) ((u.1.length+2:Nat):Int)
 if g.2.2.2≠0 then([],0,0,g.2.2.2)else
 let c:=kK g.1 g.2.1 l (g.2.2.1:Nat)
 if c.2.2≠0 then([],0,0,c.2.2)else
 let d:=S07.eC (u.1.length:Nat) most (zL c.1)
 if d.2≠0 then([],0,0,d.2)else
 let b:=lp (S06.ep (zL d.1) u.1).1 row
 if b.2≠0 then([],0,0,b.2)else
 let x:=S03.eJ [] b.1
 if x.2≠0 then([],0,0,x.2)else
 if S02.cL x.1≠sum then([],0,0,121)else(x.1,sum,c.2.1,0)
def gm(l:List Nat)(at' most:Int):List UInt8×Nat×Nat×Nat:=
 if at'<0∨(l.length:Int)<at'∨most<1∨262144<most then([],0,0,2)
 else if(b6 l at'.toNat).2.2≠0 then([],0,0,(b6 l at'.toNat).2.2)
 else tH l (b6 l at'.toNat).1 (b6 l at'.toNat).2.1 (at'.toNat+105) most
theorem pp:∀(s list:List UInt8) (l:List Nat),S06.cK s list=some l→∀x∈l,x<list.length
 | [],list,l,h,x,hx=>by
   simp only[S06.cK,Option.some.injEq]at h
   rw[← h]at hx
   exact absurd hx az
 | b :: s,list,l,h,x,hx=>by
   rw[S06.cK]at h
   by_cases hb:b∈list
   ·have h1:=List.idxOf_lt_length_of_mem hb
    rw[if_pos hb]at h
    obtain⟨m,hm,rfl⟩:=Option.map_eq_some_iff.1 h
    rcases List.mem_cons.1 hx with rfl | hx
    ·exact h1
    ·have h2:=pp s _ m hm x hx
     rwa [S06.dI _ _ h1]at h2
   ·rw[if_neg hb]at h
    cases h
theorem n7(n:Nat)(hn:1≤n):∀(l:List Nat) (r:Nat),(∀ x∈l,x<n)→∃init,S07.eP n r l=init++ [n+1]∧∀x∈init,x≤n
 | [],r,_=>⟨S07.dig r,rfl,fun x hx=>by have:=S07.As r x hx;omega⟩
 | y :: l,r,h=>by
   have hl:∀x∈l,x<n:=fun x hx=>h x (List.mem_cons_of_mem _ hx)
   by_cases hy:y=0
   ·rw[hy,S07.ya]
    exact n7 n hn l (r+1) hl
   ·obtain⟨init,h1,h2⟩:=n7 n hn l 0 hl
    have h0:=h y List.mem_cons_self
    refine⟨S07.dig r++(y+1) :: init,by rw[S07.xy n r y l hy,h1];simp,fun x hx=> ?_⟩
    rcases List.mem_append.1 hx with hx | hx
    ·have:=S07.As r x hx
     omega
    ·rcases List.mem_cons.1 hx with rfl | hx
     ·omega
     ·exact h2 x hx
theorem yR(s:List UInt8):(S06.ofL s).length≤256:=by
 have h:=List.length_filter_le (fun b=>decide (b∈s)) S06.vy
 have h2:S06.vy.length=256:=by simp[S06.vy]
 unfold S06.ofL
 omega
theorem u7{s:List UInt8}(h:s≠ []):1≤(S06.ofL s).length:=by
 have:=(S06.pU s h).1
 rcases hl:S06.ofL s with _ | ⟨x,l⟩
 ·exact absurd hl this
 ·simp
theorem GC(t:List UInt8)(i:Nat)(h:0<t.length):S05.rat t i∈t:=by
 unfold S05.rat
 have hi:=Nat.mod_lt i h
 rw[List.getD_eq_getElem?_getD,List.getElem?_eq_getElem hi]
 exact List.getElem_mem hi
section
variable {t:List UInt8} {k:Nat} (hO:S05.uG t 0 k) (ht:t≠ []) (htl:t.length≤262144)
include hO
theorem EO:k=ji t:=by
 obtain⟨L,h1,h2,h3⟩:=hO
 exact ux h1 h2 h3
theorem me:(jg t).length=t.length:=by
 obtain⟨L,h1,h2,h3⟩:=hO
 unfold jg
 rw[S05.a4,←lB h1,S05.cV h1]
theorem rN:ji t<t.length:=by
 rw[← EO hO]
 obtain⟨L,h1,h2,h3⟩:=hO
 rw[← S05.cV h1]
 exact h2
theorem FG:S05.iF (jg t) (ji t)=t:=by
 have hr:=rN hO
 have hk:=EO hO
 obtain⟨L,h1,h2,h3⟩:=hO
 unfold jg
 rw[← lB h1,S05.Ge h1 _ hr,←hk,h3,S05.BT]
theorem G5(x:UInt8)(hx:x∈jg t):x∈S06.ofL t:=by
 obtain⟨L,h1,h2,h3⟩:=hO
 unfold jg S05.a6 at hx
 rw[← lB h1]at hx
 obtain⟨i,hi,rfl⟩:=List.mem_map.1 hx
 have hl:=(h1.2 i).1 hi
 rw[S06.lF]
 exact GC t _ (by omega)
theorem mp:S06.cK (jg t) (S06.ofL t)=some (db t)∧(db t).length=t.length∧∀x∈db t,x<(S06.ofL t).length:=by
 obtain⟨l,h1,h2⟩:=S06.p9 (jg t) (S06.ofL t) (G5 hO)
 have e:db t=l:=by
  unfold db
  rw[h1]
  rfl
 rw[e]
 exact⟨h1,h2.trans (me hO),pp _ _ _ h1⟩
include ht htl
theorem ju:gz (zL (bH t)) (((S06.ofL t).length+2:Nat):Int)∧Gd (zL (bH t)) (((S06.ofL t).length+2:Nat):Int)∧(bH t).length≤t.length+1:=by
 have hn:=u7 ht
 have ha:=yR t
 obtain⟨hb,hc,h8⟩:=mp hO
 obtain⟨init,h1,h2⟩:=n7 (S06.ofL t).length hn (db t) 0 h8
 have h7:=S07.mC (S06.ofL t).length (db t) 0
 have hL:bH t=init++ [(S06.ofL t).length+1]:=h1
 have h0:(bH t).length≤t.length+1:=by
  unfold bH
  omega
 have hz:(zL (bH t)).length=(bH t).length:=by unfold zL;rw[List.length_map]
 have h9:(bH t).length=init.length+1:=by rw[hL,List.length_append,List.length_singleton]
 refine⟨⟨by omega,by omega,by omega,by omega,fun x hx=> ?_⟩,fun j hj=> ?_,h0⟩
 ·unfold zL at hx
  obtain⟨y,hy,rfl⟩:=List.mem_map.1 hx
  rw[hL]at hy
  rcases List.mem_append.1 hy with hy | hy
  ·have:=h2 y hy
   omega
  ·rw[List.mem_singleton.1 hy]
   omega
 ·rw[hz]at hj ⊢
  have hg:(zL (bH t)).getD j 0=((bH t).getD j 0:Nat):=by
   unfold zL
   rw[List.getD_eq_getElem?_getD,List.getElem?_map,List.getD_eq_getElem?_getD,List.getElem?_eq_getElem hj]
   rfl
  rw[hg]
  by_cases h5:j<init.length
  ·have h3:(bH t).getD j 0≤(S06.ofL t).length:=by
    rw[hL,List.getD_eq_getElem?_getD,List.getElem?_append_left h5,List.getElem?_eq_getElem h5]
    exact h2 _ (List.getElem_mem h5)
   constructor
   ·intro h4
    omega
   ·intro h4
    omega
  ·have h6:j=init.length:=by omega
   have h3:(bH t).getD j 0=(S06.ofL t).length+1:=by
    rw[hL,h6,List.getD_eq_getElem?_getD,List.getElem?_append_right (ah _),Nat.sub_self]
    rfl
   constructor
   ·intro _
    omega
   ·intro _
    omega
theorem lL(w:World):ed (aO t).1 (aO t).2.1 (zL (bH t)) (((S06.ofL t).length+2:Nat):Int):=(nP w (ju hO ht htl).1).1
theorem AM(w:World):eA t=gg ((aO t).1.map nl) (nl (aO t).2.1)++cQ ((aO t).1.map nl) (nl (aO t).2.1) (nl (zL (bH t))) (zL (bH t)).length∧(bw (aO t).1 (aO t).2.1 (zL (bH t))).2=0:=by
 have hg:=lL hO ht htl w
 have hM:=(ju hO ht htl).1
 unfold eA
 rw[oe hg,kx hg hM]
 exact⟨rfl,rfl⟩
theorem tO(w:World)(s:List UInt8)(sum:Nat)(hs:S03.aR s=t)(hb:s.length≤262144)(B Z:List Nat)(hZ:aw Z)(most:Int)(h1:1≤most)(h2:most≤262144):
 tH (B++(S06.cD (S06.ofL t)++eA t)++Z) sum (ji t) B.length most=if(t.length:Int)≤most then(if S02.cL s≠sum then([],0,0,121)else(s,sum,B.length+(S06.cD (S06.ofL t)++eA t).length,0))else([],0,0,3):=by
 have hg:=lL hO ht htl w
 obtain⟨hM,hE,h7⟩:=ju hO ht htl
 obtain⟨h8,h9,ha⟩:=mp hO
 have hn:=u7 ht
 have he:=yR t
 have hc:=me hO
 have h6:=FG hO
 have hf:=rN hO
 obtain⟨h0,_⟩:=AM hO ht htl w
 obtain⟨SH,h3⟩:∃x,x=S06.cD (S06.ofL t):=⟨_,rfl⟩
 obtain⟨PB,h5⟩:∃x,x=gg ((aO t).1.map nl) (nl (aO t).2.1):=⟨_,rfl⟩
 obtain⟨CQ,h4⟩:∃x,x=cQ ((aO t).1.map nl) (nl (aO t).2.1) (nl (zL (bH t))) (zL (bH t)).length:=⟨_,rfl⟩
 rw[← h5,←h4]at h0
 have e1:S06.aE (B++(SH++eA t)++Z) (B.length:Nat)=(S06.ofL t,B.length+SH.length,0):=by
  have h:=S06.oD (S06.ofL t) (S06.pU t ht) B (eA t++Z)
  unfold S06.aE
  rw[if_neg (by omega),Int.toNat_natCast,show B++(SH++eA t)++Z=B++S06.cD (S06.ofL t)++(eA t++Z) by rw[h3];simp only[List.append_assoc],h,h3]
 have e2:fp (B++(SH++eA t)++Z) ((B.length+SH.length:Nat):Nat) (((S06.ofL t).length+2:Nat):Int)=((aO t).1,(aO t).2.1,B.length+SH.length+PB.length,0):=by
  have h:=zw hg hM (B++SH) (CQ++Z)
  rw[← h5,List.length_append]at h
  rw[← h,h0]
  simp only[List.append_assoc]
 have e3:kK (aO t).1 (aO t).2.1 (B++(SH++eA t)++Z) ((B.length+SH.length+PB.length:Nat):Nat)=(bH t,B.length+SH.length+PB.length+CQ.length,0):=by
  have h:=CP hg hM hE (B++SH++PB) Z hZ
  rw[← h4,List.length_append,List.length_append,xq]at h
  rw[← h,h0]
  simp only[List.append_assoc]
 have e4:S07.eC ((S06.ofL t).length:Nat) most (zL (bH t))=if(t.length:Int)≤most then(db t,0)else([],3):=by
  have h:=S07.nE (S06.ofL t).length most.toNat hn (db t) 0 [] ha (Nat.zero_le _)
  unfold S07.eC
  rw[if_neg (by omega),Int.toNat_natCast,show zL (bH t)=S07.ints (S07.eP (S06.ofL t).length 0 (db t))from rfl,h,h9]
  simp only[List.length_nil,List.replicate_zero,List.nil_append,Nat.zero_add,Nat.add_zero]
  by_cases hm:(t.length:Int)≤most
  ·rw[if_pos hm,if_pos (by omega)]
  ·rw[if_neg hm,if_neg (by omega)]
 have e5:S06.ep (zL (db t)) (S06.ofL t)=(jg t,0):=by
  have h:=S06.qG _ _ _ h8
  unfold S06.ep
  rw[if_pos (S06.pU t ht),show zL (db t)=(db t).map fun(x:Nat)=>(x:Int)from rfl,h]
 have e6:lp (jg t) (ji t)=(t,0):=by
  unfold lp
  rw[if_neg (by omega),if_neg (by omega),h6]
 have e7:S03.eJ [] t=(s,0):=by
  rw[← hs]
  exact S03.nE s hb
 have eL:B.length+(SH++eA t).length=B.length+SH.length+PB.length+CQ.length:=by
  rw[h0]
  simp only[List.length_append]
  omega
 rw[← h3,eL]
 unfold tH
 simp only[e1,e2,e3,e4]
 by_cases hm:(t.length:Int)≤most
 ·simp[if_pos hm,e5,e6,e7]
 ·simp[if_neg hm]
end
theorem jK(x n:Nat)(h:x<2 ^ n)(R:List Nat):val ((aj x n++R).take n)=x:=by
 rw[List.take_left' (af n x),dD,Nat.mod_eq_of_lt h]
theorem lH(B C R:List Nat)(p:Nat)(h:p=B.length+C.length):(B++(C++R)).drop p=R:=by
 rw[h,←List.append_assoc,←List.length_append,List.drop_left]
theorem ek(s:List UInt8):(eI s).length=105:=by
 unfold eI
 simp only[List.length_append,af]
theorem Bq(s:List UInt8)(hr:ji (S03.aR s)<2 ^ 24)(B R:List Nat):b6 (B++(eI s++R)) B.length=(S02.cL s,ji (S03.aR s),0):=by
 have hl:(B++(eI s++R)).length=B.length+105+R.length:=by
  rw[List.length_append,List.length_append,ek,Nat.add_assoc]
 obtain⟨M,hM⟩:∃M,M=aj 54156738319193 48:=⟨_,rfl⟩
 obtain⟨S,hS⟩:∃S,S=aj (S02.cL s) 32:=⟨_,rfl⟩
 obtain⟨W,hW⟩:∃W,W=aj (ji (S03.aR s)) 24:=⟨_,rfl⟩
 have h0:M.length=48:=by rw[hM,af]
 have h1:S.length=32:=by rw[hS,af]
 have h2:aj (ji (S03.aR s)) 25=0 :: W:=by
  rw[oG,hW]
  congr 1
  omega
 have hH:eI s=M++S++(0 :: W):=by unfold eI;rw[h2,hM,hS]
 have hb:S02.cL s<2 ^ 32:=S02.wa s
 have g0:(B++(eI s++R)).drop B.length=M++(S++(0 :: W)++R):=by
  rw[List.drop_left,hH]
  simp only[List.append_assoc]
 have g1:(B++(eI s++R)).drop (B.length+48)=S++((0 :: W)++R):=by
  rw[hH,List.append_assoc,List.append_assoc]
  exact lH B M _ _ (by rw[h0])
 have g2:(B++(eI s++R)).drop (B.length+80)=(0 :: W)++R:=by
  rw[hH,List.append_assoc]
  exact lH B (M++S) _ _ (by rw[List.length_append,h0,h1])
 have g3:(B++(eI s++R)).drop (B.length+81)=W++R:=by
  have e:B++(eI s++R)=B++((M++S++ [0])++(W++R)):=by rw[hH];simp
  rw[e]
  exact lH B (M++S++ [0]) _ _ (by simp only[List.length_append,h0,h1,List.length_singleton])
 have v0:val ((M++(S++(0 :: W)++R)).take 48)=54156738319193:=by rw[hM];exact jK _ 48 (by omega) _
 have v1:val ((S++((0 :: W)++R)).take 32)=S02.cL s:=by rw[hS];exact jK _ 32 hb _
 have v2:val (((0 :: W)++R).take 1)=0:=rfl
 have v3:val ((W++R).take 24)=ji (S03.aR s):=by rw[hW];exact jK _ 24 hr _
 unfold b6
 rw[hl,g0,g1,g2,g3,v0,v1,v2,v3]
 rw[if_neg (by omega),if_neg (by simp),if_neg (by omega),if_neg (by omega),if_neg (by simp),if_neg (by omega)]
theorem yp(w:World){s:List UInt8}{k:Nat}(hO:S05.uG (S03.aR s) 0 k)(ht:S03.aR s≠ [])(htl:(S03.aR s).length≤262144)(h4:s.length≤262144)(B Z:List Nat)(hZ:aw Z)(most:Int)(h1:1≤most)(h2:most≤262144):
 gm (B++cw s++Z) (B.length:Nat) most=if((S03.aR s).length:Int)≤most then(s,S02.cL s,B.length+(cw s).length,0)else([],0,0,3):=by
 have hr:=rN hO
 obtain⟨X,hX⟩:∃X,X=S06.cD (S06.ofL (S03.aR s))++eA (S03.aR s):=⟨_,rfl⟩
 have e0:cw s=eI s++X:=by unfold cw;rw[hX,List.append_assoc]
 have e1:B++cw s++Z=B++(eI s++(X++Z)):=by rw[e0];simp only[List.append_assoc]
 have e2:B++(eI s++(X++Z))=(B++eI s)++X++Z:=by simp only[List.append_assoc]
 have hh:=Bq s (by omega) B (X++Z)
 have h0:=tO hO ht htl w s (S02.cL s) rfl h4 (B++eI s) Z hZ most h1 h2
 rw[← hX,if_neg (show ¬S02.cL s≠S02.cL s from fun h=>h rfl)]at h0
 have hl:(B++eI s).length=B.length+105:=by rw[List.length_append,ek]
 rw[hl]at h0
 have h3:B.length+(cw s).length=B.length+105+X.length:=by rw[e0,List.length_append,ek];omega
 rw[h3,e1]
 unfold gm
 rw[if_neg (by
  rintro(h | h | h | h)
  ·omega
  ·simp only[List.length_append]at h
   omega
  ·omega
  ·omega),Int.toNat_natCast,hh]
 simp only[ne_eq,not_true_eq_false,if_false]
 rw[e2,h0]
theorem wD(T:List (List Nat))(P bits:List Nat)(n0:Nat):∀(k i a:Nat) (out:List Nat),(lX T P bits n0 k i a out).1.length≤out.length+k
 | 0,_,_,_=>by simp[lX]
 | k+1,i,a,out=>by
   rw[nT]
   split
   ·split
    ·simp only[List.length_append,List.length_singleton]
     omega
    ·refine Nat.le_trans (wD T P bits n0 k _ _ _) ?_
     rw[List.length_append,List.length_singleton]
     omega
   ·simp
   ·simp
theorem Fg(T:List (List Int))(P:List Int)(bits:List Nat)(a:Int):(kK T P bits a).1.length≤1638350:=by
 unfold kK
 split
 ·rename_i hM
  split
  ·simp
  ·have h:=wD (T.map nl) (nl P) bits (T.getD 0 []).length (50*P.length) 0 a.toNat []
   have h2:=hM.2.2.2.1
   simp only[List.length_nil,Nat.zero_add]at h
   omega
 ·simp
theorem mL(n most:Nat):∀(l:List Int) (out:List Nat) (wo:Nat) (ended:Bool),out.length≤most→(S07.dM n most l out wo ended).1.length≤most
 | [],out,wo,ended,h=>by
   unfold S07.dM
   split
   ·exact h
   ·exact Nat.zero_le _
 | s :: l,out,wo,ended,h=>by
   unfold S07.dM
   split
   ·exact Nat.zero_le _
   split
   ·exact Nat.zero_le _
   split
   ·exact mL n most l out wo true h
   split
   ·split
    ·exact Nat.zero_le _
    ·refine mL n most l _ 1 false ?_
     rw[List.length_append,List.length_singleton]
     omega
   split
   ·exact Nat.zero_le _
   ·refine mL n most l _ _ false ?_
    rw[List.length_append,List.length_replicate]
    omega
theorem zi(n most:Int)(L:List Int):(S07.eC n most L).1.length≤262144:=by
 unfold S07.eC
 split
 ·exact Nat.zero_le _
 ·have h:=mL n.toNat most.toNat L [] 1 false (Nat.zero_le _)
  omega
theorem qh:∀(n:Nat) (o l:List UInt8),o.length≤262144→(S03.rt n o l).1.length≤262144
 | 0,o,l,h=>h
 | n+1,o, [],h=>h
 | n+1,o,x :: l,h=>by
   unfold S03.rt
   split
   ·split
    ·exact Nat.zero_le _
    ·refine qh n _ l ?_
     rw[List.length_append,List.length_singleton]
     omega
   split
   ·exact Nat.zero_le _
   split
   ·exact Nat.zero_le _
   split
   ·exact Nat.zero_le _
   ·refine qh n _ _ ?_
    have h4:((x :: l).take 4).length≤4:=by rw[List.length_take];omega
    rw[List.length_append,List.length_append,List.length_replicate]
    omega
theorem D0(l:List UInt8):(S03.eJ [] l).1.length≤262144:=qh _ _ _ (Nat.zero_le _)
theorem gF{fn:Func}{t u v x:Tmp}(h:fn.results=#[.tmp t,.tmp u,.tmp v,.tmp x])(tmps:Array Value)(P:Program)(w:World):
 (results fn tmps).run P w=.ok (.tuple #[tmps.getD t undef,tmps.getD u undef,tmps.getD v undef,tmps.getD x undef]) w:=by
 simp[results,h]
def eu(w:World)(ans:List UInt8×Nat×Nat×Nat)(e:Ending)(w':World):Prop:=e=.returned (.tuple #[.string (S06.fm ans.1),.int .u32 ans.2.1,.int .i64 ans.2.2.1,.int .i64 ans.2.2.2])∧Below w.heap.size w w'
theorem vr(l:List Nat)(p i:Nat):(S06.ff l p i).length≤16:=by
 unfold S06.ff
 rw[List.length_map]
 have h:=List.length_filter_le (fun k=>l.getD (p+k) 0==1) (List.range 16)
 rwa [List.length_range]at h
theorem t8(l:List Nat)(fl:Nat→Nat):∀(is:List Nat) (p:Nat) (out o:List UInt8) (q:Nat),S06.goT l fl is p out=some (o,q)→o.length≤out.length+16*is.length
 | [],p,out,o,q,h=>by
   simp only[S06.goT,Option.some.injEq,Prod.mk.injEq]at h
   rw[h.1]
   omega
 | i :: is,p,out,o,q,h=>by
   have h2:=vr l p i
   rw[List.length_cons]
   unfold S06.goT at h
   split at h
   ·have:=t8 l fl is p out o q h
    omega
   ·split at h
    ·cases h
    ·have h3:=t8 l fl is _ _ o q h
     rw[List.length_append]at h3
     omega
theorem Bw(l:List Nat)(p:Nat):(S06.fy l p).1.length≤256:=by
 unfold S06.fy
 split
 ·exact Nat.zero_le _
 split
 ·exact Nat.zero_le _
 cases hg:S06.goT l (fun i=>l.getD (p+i) 0) (List.range 16) (p+16) []with
 | none=>exact Nat.zero_le _
 | some r=>
   obtain⟨o,q⟩:=r
   have h:=t8 _ _ _ _ _ _ _ hg
   rw[List.length_range,List.length_nil]at h
   dsimp only
   split
   ·exact Nat.zero_le _
   ·exact h
theorem tf(l:List Nat)(p:Int):(S06.aE l p).1.length≤256:=by
 unfold S06.aE
 split
 ·exact Nat.zero_le _
 ·exact Bw l _
theorem g9{e:Nat}(h:e≠0):((e:Int) != 0)=true:=by
 rw[bne_iff_ne]
 omega
theorem jX{e:Nat}(h:¬e≠0):((e:Int) != 0)=false:=by
 rw[bne_eq_false_iff_eq]
 omega
theorem sN(s:List UInt8):aw (bV s).1:=by
 unfold bV
 split
 ·intro b hb
  cases hb
 split
 ·intro b hb
  cases hb
 ·show aw (cw s)
  unfold cw eI eA
  exact aw.append (aw.append (aw.append (aw.append (aJ _ _) (aJ _ _)) (aJ _ _)) (S06.rP _)) (aw.append (qk _ _) (pn _ _ _))
theorem Fo(S:List Nat)(h1:S.length=32)(row:Nat)(hr:row<2 ^ 24)(B R:List Nat):b6 (B++(aj 54156738319193 48++S++aj row 25++R)) B.length=(val S,row,0):=by
 obtain⟨M,hM⟩:∃M,M=aj 54156738319193 48:=⟨_,rfl⟩
 obtain⟨W,hW⟩:∃W,W=aj row 24:=⟨_,rfl⟩
 have h0:M.length=48:=by rw[hM,af]
 have h2:aj row 25=0 :: W:=by
  rw[oG,hW]
  congr 1
  omega
 have h3:W.length=24:=by rw[hW,af]
 rw[← hM,h2]
 have hl:(B++(M++S++(0 :: W)++R)).length=B.length+105+R.length:=by
  simp only[List.length_append,List.length_cons,h0,h1,h3]
  omega
 have g0:(B++(M++S++(0 :: W)++R)).drop B.length=M++(S++(0 :: W)++R):=by
  rw[List.drop_left]
  simp only[List.append_assoc]
 have g1:(B++(M++S++(0 :: W)++R)).drop (B.length+48)=S++((0 :: W)++R):=by
  rw[List.append_assoc,List.append_assoc]
  exact lH B M _ _ (by rw[h0])
 have g2:(B++(M++S++(0 :: W)++R)).drop (B.length+80)=(0 :: W)++R:=by
  rw[List.append_assoc (M++S)]
  exact lH B (M++S) _ _ (by rw[List.length_append,h0,h1])
 have g3:(B++(M++S++(0 :: W)++R)).drop (B.length+81)=W++R:=by
  have e:B++(M++S++(0 :: W)++R)=B++((M++S++ [0])++(W++R)):=by simp
  rw[e]
  exact lH B (M++S++ [0]) _ _ (by simp only[List.length_append,h0,h1,List.length_singleton])
 have v0:val ((M++(S++(0 :: W)++R)).take 48)=54156738319193:=by rw[hM];exact jK _ 48 (by omega) _
 have v1:val ((S++((0 :: W)++R)).take 32)=val S:=by rw[List.take_left' h1]
 have v2:val (((0 :: W)++R).take 1)=0:=rfl
 have v3:val ((W++R).take 24)=row:=by rw[hW];exact jK _ 24 hr _
 unfold b6
 rw[hl,g0,g1,g2,g3,v0,v1,v2,v3]
 rw[if_neg (by omega),if_neg (by simp),if_neg (by omega),if_neg (by omega),if_neg (by simp),if_neg (by omega)]
theorem DJ(w:World){s:List UInt8}{k:Nat}(hO:S05.uG (S03.aR s) 0 k)(ht:S03.aR s≠ [])(htl:(S03.aR s).length≤262144)(h3:s.length≤262144)(S:List Nat)(hS:S.length=32)(h2:val S≠S02.cL s)(B Z:List Nat)(hZ:aw Z):
 gm (B++(aj 54156738319193 48++S++aj (ji (S03.aR s)) 25++S06.cD (S06.ofL (S03.aR s))++eA (S03.aR s))++Z) (B.length:Nat) 262144=([],0,0,121):=by
 have hr:=rN hO
 obtain⟨X,hX⟩:∃X,X=S06.cD (S06.ofL (S03.aR s))++eA (S03.aR s):=⟨_,rfl⟩
 obtain⟨H,hH⟩:∃H,H=aj 54156738319193 48++S++aj (ji (S03.aR s)) 25:=⟨_,rfl⟩
 have h1:H.length=105:=by rw[hH];simp only[List.length_append,af,hS]
 rw[← hH]
 have e1:B++(H++S06.cD (S06.ofL (S03.aR s))++eA (S03.aR s))++Z=B++(H++(X++Z)):=by rw[hX];simp only[List.append_assoc]
 have e2:B++(H++(X++Z))=(B++H)++X++Z:=by simp only[List.append_assoc]
 have hh:=Fo S hS (ji (S03.aR s)) (by omega) B (X++Z)
 rw[← hH]at hh
 have h0:=tO hO ht htl w s (val S) rfl h3 (B++H) Z hZ 262144 (by omega) (by omega)
 rw[← hX,if_pos (by omega),if_pos (Ne.symm h2)]at h0
 have hl:(B++H).length=B.length+105:=by rw[List.length_append,h1]
 rw[hl]at h0
 rw[e1]
 unfold gm
 rw[if_neg (by
  rintro(h | h | h | h)
  ·omega
  ·simp only[List.length_append]at h
   omega
  ·omega
  ·omega),Int.toNat_natCast,hh]
 simp only[ne_eq,not_true_eq_false,if_false]
 rw[e2,h0]
theorem vh(s:List UInt8):∃L,S05.dR s L:=by
 obtain⟨le,h0⟩:∃le:Nat→Nat→Bool,le=fun a b=>decide (S05.RLt s a b∨a=b):=⟨_,rfl⟩
 have hd:∀a b,le a b=true↔S05.RLt s a b∨a=b:=fun a b=>by rw[h0];exact decide_eq_true_iff
 have h5:∀a b c,le a b=true→le b c=true→le a c=true:=fun a b c h1 h2=>by
  rw[hd]at*
  rcases h1 with h1 | h1
  ·rcases h2 with h2 | h2
   ·exact .inl (h1.trans h2)
   ·exact .inl (h2 ▸ h1)
  ·exact h1 ▸ h2
 have h4:∀a b,(le a b || le b a)=true:=fun a b=>by
  rw[Bool.or_eq_true,hd,hd]
  by_cases e:a=b
  ·exact .inl (.inr e)
  ·rcases S05.RLt.total s a b e with h | h
   ·exact .inl (.inl h)
   ·exact .inr (.inl h)
 have hp:=List.mergeSort_perm (List.range s.length) le
 refine⟨(List.range s.length).mergeSort le,?_,fun i=>by rw[hp.mem_iff,List.mem_range]⟩
 have h1:=List.pairwise_mergeSort h5 h4 (List.range s.length)
 have h2:((List.range s.length).mergeSort le).Pairwise (· ≠ ·):=List.nodup_iff_pairwise_ne.1 (hp.nodup_iff.2 List.nodup_range)
 exact(h1.and h2).imp fun {a b} h=>by
  rcases(hd a b).1 h.1 with h3 | h3
  ·exact h3
  ·exact absurd h3 h.2
theorem ii(t:List UInt8)(h:t≠ []):S05.uG t 0 (ji t):=by
 obtain⟨L,hL⟩:=vh t
 have h0:0<t.length:=List.length_pos_iff.2 h
 obtain⟨k,h1,h2,_⟩:=S05.pu hL 0 h0
 have e:=ux hL h1 h2
 rw[← e]
 exact⟨L,hL,h1,h2⟩
theorem iU{s:List UInt8}(h:s≠ []):S03.aR s≠ []:=by
 cases s with
 | nil=>exact absurd rfl h
 | cons x l=>
   intro e
   have h1:=S03.tQ l x 1 (ah _) (by omega)
   rw[← S03.im,e]at h1
   cases h1
theorem qf(w:World){s:List UInt8}(hs:s≠ [])(htl:(S03.aR s).length≤262144)(h0:s.length≤262144)(B Z:List Nat)(hZ:aw Z)(most:Int)(h1:1≤most)(h2:most≤262144):
 gm (B++(bV s).1++Z) (B.length:Nat) most=if((S03.aR s).length:Int)≤most then(s,S02.cL s,B.length+(bV s).1.length,0)else([],0,0,3):=by
 have e:(bV s).1=cw s:=by
  unfold bV
  rw[if_neg hs,if_neg (by omega)]
 rw[e]
 exact yp w (ii _ (iU hs)) (iU hs) htl h0 B Z hZ most h1 h2
theorem Hn{n:Nat}{l:List Nat}(h1:1≤n)(h2:n≤256)(h:∀x∈l,x<n):S07.kN (n:Nat) (zL l)=(S07.eP n 0 l,0):=by
 unfold S07.kN
 rw[if_neg (by omega),if_pos (fun x hx=>by
  unfold zL at hx
  obtain⟨y,hy,rfl⟩:=List.mem_map.1 hx
  have:=h y hy
  omega),Int.toNat_natCast]
 rw[show (zL l).map Int.toNat=l from xq l]
theorem yZ(s:List UInt8)(_hs:s.length≤200000):(bV s).1.length≤100000000:=by
 unfold bV
 split
 ·exact Nat.zero_le _
 split
 ·exact Nat.zero_le _
 ·rename_i h1 h2
  show(cw s).length≤100000000
  have hO:=ii _ (iU h1)
  have h6:=(ju hO (iU h1) (by omega)).2.2
  have h3:=iV (aO (S03.aR s)).1 (aO (S03.aR s)).2.1
  have h4:=gL (aO (S03.aR s)).1 (aO (S03.aR s)).2.1 (zL (bH (S03.aR s))) (by unfold zL;rw[List.length_map];omega)
  obtain⟨r,h0,h5⟩:=S06.iT (S06.ofL (S03.aR s))
  unfold cw eA
  rw[List.length_append,List.length_append,List.length_append,ek]
  omega
theorem oO(k:Nat):∀(l:List Nat) (a:Nat),(k≤a∧a≤k+1)→(∀ x∈l,k≤x∧x≤k+1)→(bz a l).length≤3*l.length
 | [],_,_,_=>by simp[bz]
 | x :: l,a,ha,h=>by
   have hx:=h x List.mem_cons_self
   have ih:=oO k l x hx fun y hy=>h y (List.mem_cons_of_mem _ hy)
   rw[bz,List.length_append,j9,List.length_cons]
   omega
theorem ui{k:Nat}(c:Nat)(w:List Nat)(i:Nat):k≤bE k c w i∧bE k c w i≤k+1:=by
 unfold bE
 split <;>omega
theorem Du{W:List Nat}(h2:2≤W.length)(hn:W.length≤258):∃k,k≤8∧∀x∈mJ W,k≤x∧x≤k+1:=by
 refine⟨Nat.log2 W.length,?_,fun x hx=> ?_⟩
 ·have h1:2 ^ (Nat.log2 W.length)≤W.length:=Nat.log2_self_le (by omega)
  rcases Nat.lt_or_ge 8 (Nat.log2 W.length)with h | h
  ·have h4:2 ^ 9≤2 ^ (Nat.log2 W.length):=Nat.pow_le_pow_right (by decide) h
   have h5:(2:Nat) ^ 9=512:=by decide
   omega
  ·exact h
 ·unfold mJ at hx
  obtain⟨i,_,rfl⟩:=List.mem_map.1 hx
  exact ui _ _ _
theorem zZ{k:Nat}{l:List Nat}(h:∀x∈l,k≤x∧x≤k+1):(aX l).length≤5+3*l.length:=by
 unfold aX
 rw[List.length_append,af]
 match l,h with
 | [],_=>simp[bz]
 | x :: l,h=>
   have h1:=oO k (x :: l) x (h x List.mem_cons_self) h
   show 5+(bz x (x :: l)).length≤_
   omega
theorem l5:∀G:Nat,(aH [0,1,2,3,4,5] (List.replicate G 0)).length=G
 | 0=>rfl
 | G+1=>by
   rw[List.replicate_succ]
   show(List.replicate 0 1++0 :: aH [0,1,2,3,4,5] (List.replicate G 0)).length=_
   rw[List.length_append,List.length_cons,l5 G,List.length_replicate]
   omega
theorem oK(T:List (List Nat))(P L:List Nat)(h:∀i j,(T.getD (P.getD i 0) []).getD j 0≤9):∀q,(cQ T P L q).length≤9*q
 | 0=>by simp[cQ]
 | q+1=>by
   have ih:=oK T P L h q
   have h1:=h (q / 50) (L.getD q 0)
   rw[k5,List.length_append,dU,af]
   omega
theorem y7{L:List Int}{m:Int}(hM:gz L m):(eE (aY L m).1 (aY L m).2.1 L).1≤1576+aP L.length+9*L.length:=by
 have hg:=oB hM
 rw[tc hg hM,oe hg,kx hg hM]
 obtain⟨f,hf⟩:∃f,f=j7 (gr L) m.toNat:=⟨_,rfl⟩
 obtain⟨G,hG⟩:∃G,G=aP L.length:=⟨_,rfl⟩
 have h7:=hM.1
 have h4:=hM.2.1
 have h5:∃k,k≤8∧∀x∈f,k≤x∧x≤k+1:=by
  rw[hf]
  unfold j7
  exact Du (by unfold bf;simp;omega) (by unfold bf;simp;omega)
 have h6:f.length=m.toNat:=by
  rw[hf]
  unfold j7 mJ bf
  simp
 have e1:(aY L m).1= [zL f,zL f]:=by unfold aY;rw[if_pos hM,hf]
 have e2:(aY L m).2.1=zL (List.replicate G 0):=by unfold aY;rw[if_pos hM,hG]
 rw[e1,e2,←hG]
 show(gg ([zL f,zL f].map nl) (nl (zL (List.replicate G 0)))).length+(cQ ([zL f,zL f].map nl) (nl (zL (List.replicate G 0))) (nl L) L.length).length≤_
 have e3: [zL f,zL f].map nl= [f,f]:=by simp only[List.map_cons,List.map_nil,xq]
 rw[e3,xq]
 obtain⟨k,hk,h0⟩:=h5
 have h1:=zZ h0
 have h2:(gg [f,f] (List.replicate G 0)).length≤18+G+2*(5+3*f.length):=by
  unfold gg
  simp only[List.length_append,af,l5,List.flatMap_cons,List.flatMap_nil,List.length_nil]
  omega
 have h3:=oK [f,f] (List.replicate G 0) (nl L) (fun i j=>by
  have e4:(List.replicate G 0).getD i 0=0:=by
   rw[List.getD_eq_getElem?_getD,List.getElem?_replicate]
   split <;>rfl
  rw[e4]
  show f.getD j 0≤9
  rw[List.getD_eq_getElem?_getD]
  rcases Nat.lt_or_ge j f.length with hj | hj
  ·rw[List.getElem?_eq_getElem hj]
   have:=h0 _ (List.getElem_mem hj)
   show f[j]≤9
   omega
  ·rw[List.getElem?_eq_none hj]
   exact Nat.zero_le _) L.length
 omega
theorem jZ(w:World)(s:List UInt8):(bV s).1.length≤12*s.length+4000:=by
 unfold bV
 split
 ·exact Nat.zero_le _
 split
 ·exact Nat.zero_le _
 ·rename_i h1 h2
  show(cw s).length≤12*s.length+4000
  have h0:=iU h1
  have hO:=ii _ h0
  obtain⟨hM,_,ha⟩:=ju hO h0 (by omega)
  have hg:=lL hO h0 (by omega) w
  have h3:=(nP w hM).2.2
  have h4:=y7 hM
  have h5:=tc hg hM
  have h6:=S03.fO s
  have hz:(zL (bH (S03.aR s))).length=(bH (S03.aR s)).length:=by unfold zL;rw[List.length_map]
  obtain⟨r,h8,h9⟩:=S06.iT (S06.ofL (S03.aR s))
  have e:(eM (zL (bH (S03.aR s))) (((S06.ofL (S03.aR s)).length+2:Nat):Int))=aO (S03.aR s):=rfl
  rw[e,h5]at h3
  unfold cw eA
  rw[List.length_append,List.length_append,List.length_append,ek]
  unfold aP at h4
  have h7:(eh (aO (S03.aR s)).1 (aO (S03.aR s)).2.1).1.length+(bw (aO (S03.aR s)).1 (aO (S03.aR s)).2.1 (zL (bH (S03.aR s)))).1.length≤_:=h3
  omega
theorem tF(w:World){s:List UInt8}(hs:s≠ [])(htl:(S03.aR s).length≤262144):137<(bV s).1.length:=by
 have e:(bV s).1=cw s:=by
  unfold bV
  rw[if_neg hs,if_neg (by omega)]
 have h1:=iU hs
 have hO:=ii _ h1
 obtain⟨h0,_⟩:=AM hO h1 htl w
 obtain⟨r,h2,h3⟩:=S06.iT (S06.ofL (S03.aR s))
 rw[e]
 unfold cw
 rw[List.length_append,List.length_append,ek,h0]
 unfold gg
 simp only[List.length_append,af]
 omega
structure cT (K:Nat):Prop where
 one:1≤K
 make:∀(w:World) (s:ByteArray),s.size≤K→Calls Tryz.prog 9 #[.string s] w (aW w (bV s.data.toList))
 take:∀(w:World) (s:ByteArray) (at' most:Int),s.size≤40000→ -9223372036854775808≤at'→at'≤9223372036854775807→ -9223372036854775808≤most→most≤9223372036854775807→Calls Tryz.prog 11 #[.string s,.int .i64 at',.int .i64 most] w (eu w (gm (ak s.data.toList) at' most))
 sum:∀(w:World) (s:ByteArray),s.size≤40000→Calls Tryz.prog 14 #[.string s] w fun e w'=>e=.returned (.int .u32 (S02.cL s.data.toList))∧Below w.heap.size w w'
 enc:∀(w:World) (s:ByteArray),s.size≤40000→Calls Tryz.prog 15 #[.string s] w fun e w'=>e=.returned (.string (S06.fm (S03.aR s.data.toList)))∧Below w.heap.size w w'
theorem vg:gm (ak (⟨#[0,0,0,0,0,0]⟩:ByteArray).data.toList) 0 1=([],0,0,120):=by decide +kernel
theorem IS:S02.cL [97]=429103979:=by decide +kernel
theorem Ht:S03.aR [97]= [97]:=by decide +kernel
theorem pP{s:List UInt8}(h:s≠ [])(h2:s.length≤200000):(bV s).2=0:=by
 have:=S03.fO s
 unfold bV
 rw[if_neg h,if_neg (by omega)]
theorem lr(l:List Nat):(⟨(aG l).toArray⟩:ByteArray).size=(l.length+7) / 8:=by
 show(aG l).toArray.size=_
 rw[List.size_toArray,dG]
theorem qM(w:World){s:List UInt8}(hs:s≠ [])(h3:s.length≤200000)(u:ByteArray)(most:Int)(h1:1≤most)(h2:most≤262144):
 gm (ak (u++⟨(aG (bV s).1).toArray⟩).data.toList) ((8*u.size:Nat):Int) most=if((S03.aR s).length:Int)≤most then(s,S02.cL s,8*u.size+(bV s).1.length,0)else([],0,0,3):=by
 obtain⟨Z,hZ,h0⟩:=DV u _ (bV s).1 (sN s) rfl
 have hl:=S03.fO s
 have hb:(ak u.data.toList).length=8*u.size:=ax _
 have h:=qf w hs (by omega) (by omega) (ak u.data.toList) Z h0 most h1 h2
 rw[hb]at h
 rw[hZ,h]
theorem oV(w:World){s:List UInt8}(hs:s≠ [])(h0:s.length≤200000)(most:Int)(h1:1≤most)(h2:most≤262144):
 gm (ak (⟨(aG (bV s).1).toArray⟩:ByteArray).data.toList) 0 most=if((S03.aR s).length:Int)≤most then(s,S02.cL s,(bV s).1.length,0)else([],0,0,3):=by
 have h:=qM w hs h0 ⟨#[]⟩ most h1 h2
 have e:(⟨#[]⟩:ByteArray)++⟨(aG (bV s).1).toArray⟩=⟨(aG (bV s).1).toArray⟩:=by
  apply ByteArray.ext
  simp
 rw[e]at h
 have e2:8*(⟨#[]⟩:ByteArray).size+(bV s).1.length=(bV s).1.length:=by
  show 8*0+_=_
  omega
 rw[e2]at h
 exact h
section
variable {K:Nat} (R:cT K)
include R
theorem e9(w:World):Calls Tryz.prog 8 #[] w fun e w'=>e=.returned (.bool true)∧Below w.heap.size w w':=by
 have h6:=R.make w ⟨#[97]⟩ (Nat.le_trans (by decide) R.one)
 have h1:=tF w (s:= [97]) (by simp) (by rw[Ht];decide)
 have h0:=jZ w [97]
 have hb:=lr (bV [97]).1
 have h3:=oV w (s:= [97]) (by simp) (by decide) 1 (by omega) (by omega)
 rw[Ht,IS]at h3
 have h9:(bV [97]).2=0:=pP (by simp) (by decide)
 have HM:Hid (Calls Tryz.prog 9 #[.string ⟨#[97]⟩] w fun e w'=>e=.returned (.tuple #[.agg #[.string ⟨(aG (bV [97]).1).toArray⟩,.int .i64 (bV [97]).1.length],.int .i64 0])∧Below w.heap.size w w'):=aa (by
  have h:=h6
  unfold aW at h
  have e:bV (⟨#[97]⟩:ByteArray).data.toList=bV [97]:=rfl
  rw[e,h9]at h
  exact h)
 obtain⟨T,hT⟩:∃T,T=(⟨(aG (bV [97]).1).toArray⟩:ByteArray):=⟨_,rfl⟩
 obtain⟨n,hn⟩:∃n,n=(bV [97]).1.length:=⟨_,rfl⟩
 rw[← hT,←hn]at HM hb
 rw[← hT,←hn]at h3
 rw[← hn]at h1 h0
 have ha:([97]:List UInt8).length=1:=rfl
 rw[ha]at h0 h3
 have hh:Hid (∀ wx,Calls Tryz.prog 11 #[.string T,.int .i64 0,.int .i64 1] wx fun e w'=>e=.returned (.tuple #[.string ⟨#[97]⟩,.int .u32 429103979,.int .i64 n,.int .i64 0])∧Below wx.heap.size wx w'):=aa fun wx=>by
  have h:=R.take wx T 0 1 (by omega) (by omega) (by omega) (by omega) (by omega)
  rw[h3,if_pos (by omega)]at h
  exact h
 have hi:Hid (∀ wx,Calls Tryz.prog 11 #[.string ⟨#[0,0,0,0,0,0]⟩,.int .i64 0,.int .i64 1] wx fun e w'=>e=.returned (.tuple #[.string ⟨#[]⟩,.int .u32 0,.int .i64 0,.int .i64 120])∧Below wx.heap.size wx w'):=aa fun wx=>by
  have h:=R.take wx ⟨#[0,0,0,0,0,0]⟩ 0 1 (by decide) (by omega) (by omega) (by omega) (by omega)
  rw[vg]at h
  exact h
 have d1:decide ((137:Int)<(n:Int))=true:=aC (by omega)
 have d2:((n:Int)==(n:Int))=true:=beq_self_eq_true _
 have hj:n≤5000:=by omega
 clear h6 h1 h0 hb h3 h9 hT hn ha R
 go_enter Tryz.func8,Tryz.ntmps8
 go_wp2_with fail
 refine HM.out.mono ?_
 rintro e w1 ⟨rfl,h7⟩
 have h2:Below w1.heap.size w1 (w1.alloc (.cells #[.string T,.int .i64 n] 24)):=(Below.refl _ _).alloc (ah _) _
 have HK:=aa (ag w1 24 #[.string T,.int .i64 n])
 have hc:=aa (ao h7 h2)
 clear h2
 go_upto_region 2 with fail
 generalize w1.alloc (.cells #[.string T,.int .i64 n] 24)=w2 at*
 generalize w1.heap.size=g at*
 have q0:w2.cell? ⟨g,0,none⟩=some (.string T):=(ac HK.out 0).trans rfl
 clear h7
 go_wp2_with fail
 refine(hh.out w2).mono ?_
 rintro e w3 ⟨rfl,h4⟩
 have hg:=aa (aM h4 HK.out)
 have he:=aa (ao hc.out h4)
 clear h4 q0
 go_wp2_with fail
 refine(hi.out w3).mono ?_
 rintro e w4 ⟨rfl,h5⟩
 have h8:=aM h5 hg.out
 have hf:=aa (ao he.out h5)
 have q1:w4.cell? ⟨g,1,none⟩=some (.int .i64 n):=(ac h8 1).trans rfl
 clear h5 h8
 go_wp2_with fail
 go_ret
 exact⟨rfl,hf.out⟩
end
section
variable (R:cT 20000)
include R
theorem BV(w:World)(s:ByteArray)(hs:s.size≤9223372036854775807):Calls Tryz.prog 7 #[.string s] w fun e w'=>e=.returned (.bool true)∧Below w.heap.size w w':=by
 have h4:=aa (e9 R)
 by_cases h0:s.size=0
 ·have e:s=⟨#[]⟩:=by
   obtain⟨⟨l⟩⟩:=s
   have hl:l= []:=List.eq_nil_of_length_eq_zero (by
    have h1:(⟨⟨l⟩⟩:ByteArray).size=l.length:=rfl
    omega)
   rw[hl]
  subst e
  clear R h0 hs
  go_enter Tryz.func7,Tryz.ntmps7
  go_wp2_with fail
  refine(h4.out _).mono ?_
  rintro e w7 ⟨rfl,h3⟩
  have h5:=aa h3
  clear h3
  go_wp2_with fail
  go_ret
  exact⟨rfl,h5.out⟩
 have hj:=S05.eW s (by omega)
 by_cases hg:20000<s.size
 ·have d0:decide ((20000:Int)<(s.size:Int))=true:=aC (by omega)
  clear R
  go_enter Tryz.func7,Tryz.ntmps7
  go_wp2_with fail
  refine(h4.out _).mono ?_
  rintro e w7 ⟨rfl,h3⟩
  have h5:=aa h3
  clear h3
  go_wp2_with fail
  go_ret
  exact⟨rfl,h5.out⟩
 ·have d0:decide ((20000:Int)<(s.size:Int))=false:=au (by omega)
  have HC:=aa (R.make w s (by omega))
  have h7:=jZ w s.data.toList
  have h6:s.data.toList.length=s.size:=rfl
  have hb:(bV s.data.toList).2=0:=pP (fun h=>h0 (by rw[← h6,h];rfl)) (by omega)
  rw[h6]at h7
  generalize bV s.data.toList=ans at*
  obtain⟨bs,k⟩:=ans
  have hh:k=0:=hb
  subst hh
  have h8:Hid (Calls Tryz.prog 9 #[.string s] w fun e w'=>e=.returned (.tuple #[.agg #[.string ⟨(aG bs).toArray⟩,.int .i64 bs.length],.int .i64 0])∧Below w.heap.size w w'):=HC
  have hi:bs.length≤12*s.size+4000:=h7
  obtain⟨q,hq⟩:∃q,q=bs.length:=⟨_,rfl⟩
  rw[← hq]at h8 hi
  generalize hT:(ByteArray.mk (aG bs).toArray)=T at*
  have d1:decide ((q:Int)≤12*(s.size:Int)+4000)=true:=aC (by omega)
  clear R HC h7 h6 hq hT hb
  go_enter Tryz.func7,Tryz.ntmps7
  go_wp2_with fail
  refine h8.out.mono ?_
  rintro e w1 ⟨rfl,h9⟩
  have h2:Below w1.heap.size w1 (w1.alloc (.cells #[.string T,.int .i64 q] 24)):=(Below.refl _ _).alloc (ah _) _
  have hf:=aa (ag w1 24 #[.string T,.int .i64 q])
  have hc:=aa (ao h9 h2)
  clear h2 h9
  go_upto_region 4 with fail
  generalize w1.alloc (.cells #[.string T,.int .i64 q] 24)=w2 at*
  generalize w1.heap.size=g at*
  have q1:w2.cell? ⟨g,1,none⟩=some (.int .i64 q):=(ac hf.out 1).trans rfl
  go_wp2_with fail
  refine(h4.out _).mono ?_
  rintro e w5 ⟨rfl,ha⟩
  have he:=aa (ao hc.out ha)
  clear ha
  go_wp2_with fail
  go_ret
  exact⟨rfl,he.out⟩
end
end Go.Proofs.YthakcjehhlpjnaaGreat
