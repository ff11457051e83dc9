import Derived.Test.YtfhgikojdfblpaaGreatM00
set_option maxRecDepth 100000
namespace Go.Proofs.YtfhgikojdfblpaaGreat
open _root_.Go.Proofs.Tryz
structure Tr where
 w:Nat
 n:Nat
 ms:List Nat
def kW(s t:Tr):Prop:=s.w<t.w\/(s.w=t.w/\s.n<t.n)
theorem kW.asymm{s t:Tr}(h:kW s t)(k:kW t s):False:=by unfold kW at h k;omega
theorem kW.le{s t:Tr}(h:kW s t):s.w<=t.w:=by unfold kW at h;omega
def fT(ms:List Nat)(len:Nat->Nat):Nat->Nat:=fun i=>if i∈ms then len i+1 else len i
def iU(a b:Tr)(k:Nat):Tr:=⟨a.w+b.w,k,a.ms++b.ms⟩
inductive xC:List Tr->Nat->(Nat->Nat)->(Nat->Nat)->Prop
 | one (t:Tr) (k:Nat) (len:Nat->Nat):xC [t] k len len
 | step {act:List Tr} {a b:Tr} {r:List Tr} {k:Nat} {len L:Nat→Nat} (hp:act.Perm (a :: b :: r)) (ha:∀t∈b :: r,kW a t) (hb:∀t∈r,kW b t)
    (h:xC (iU a b k::r) (k+1) (fT (a.ms++b.ms) len) L):xC act k len L
theorem Jz{act:List Tr}{k:Nat}{len L:Nat->Nat}(h:xC act k len L):∀{act2:List Tr} {L2:Nat->Nat},act.Perm act2->xC act2 k len L2->L=L2:=by
 induction h with
 | one t k len=>
  intro act2 L2 hp h2;have:=List.singleton_perm.1 hp;subst this
  cases h2 with
  | one=>rfl
  | step h0 _ _ _=>have:=h0.length_eq;simp at this
 | @step act a b r k len L hp ha hb h ih=>
  intro act2 L2 h0 h2
  cases h2 with
  | one t=>have:=(hp.symm.trans h0).length_eq;simp at this
  | @step _ a2 b2 r2 _ _ _ hp3 ha2 hb2 h3=>
   have hq:(a::b::r).Perm (a2::b2::r2):=(hp.symm.trans h0).trans hp3;have h5:a=a2:=by
    have h1:a∈a2::b2::r2:=hq.mem_iff.1 Nh;have h2:a2∈a::b::r:=hq.mem_iff.2 Nh;rcases List.mem_cons.1 h1 with e|e;·exact e
    ·rcases List.mem_cons.1 h2 with e2|e2;·exact e2.symm
     ·exact absurd (ha a2 e2) (fun h=>h.asymm (ha2 a e))
   subst h5;have h4:=(List.perm_cons a).1 hq;have h6:b=b2:=by
    have h1:b∈b2::r2:=h4.mem_iff.1 Nh;have h2:b2∈b::r:=h4.mem_iff.2 Nh;rcases List.mem_cons.1 h1 with e|e;·exact e
    ·rcases List.mem_cons.1 h2 with e2|e2;·exact e2.symm
     ·exact absurd (hb b2 e2) (fun h=>h.asymm (hb2 b e))
   subst h6;have h7:=(List.perm_cons b).1 h4;exact ih ((List.perm_cons _).2 h7) h3
def mn(act:List Tr):Prop:=(act.flatMap Tr.ms).Nodup
theorem sW{act act2:List Tr}(h:act.Perm act2)(k:mn act):mn act2:=(h.flatMap_right Tr.ms).nodup_iff.1 k
theorem pA{a b:Tr}{r:List Tr}{k:Nat}(h:mn (a::b::r)):mn (iU a b k::r):=by unfold mn at*;simp only[Oa,iU,<-Ni]at*;exact h
theorem qH{a b t:Tr}{r:List Tr}(h:mn (a::b::r))(ht:t∈r){i:Nat}(hi:i∈t.ms):i∉a.ms++b.ms:=by unfold mn at h;simp only[Oa,<-Ni]at h;have h2:=(List.nodup_append.1 h).2.2;intro hc;exact h2 i hc i (List.mem_flatMap.2 ⟨t,ht,hi⟩) rfl
def iY(M:Nat)(ms:List Nat)(len:Nat->Nat):Nat:=(ms.map fun i=>2^(M-len i)).sum
def Whole(len:Nat->Nat)(t:Tr):Prop:=t.ms≠ []/\∀M,(∀ i∈t.ms,len i<=M)->iY M t.ms len=2^M
theorem uk(M:Nat)(ms:List Nat)(len len2:Nat->Nat)(h:∀i∈ms,len i=len2 i):iY M ms len=iY M ms len2:=by unfold iY;congr 1;exact Oe fun i hi=>by rw[h i hi]
theorem Df(M:Nat)(ms:List Nat)(len:Nat->Nat):iY (M+1) ms (fun i=>len i+1)=iY M ms len:=by unfold iY;congr 1;exact Oe fun i _=>by rw[Nat.add_sub_add_right]
theorem yg(M:Nat)(a b:List Nat)(len:Nat->Nat):iY M (a++b) len=iY M a len+iY M b len:=by unfold iY;rw[Nz,List.sum_append_nat]
theorem yQ{a b:Tr}{k:Nat}{len:Nat->Nat}(ha:Whole len a)(hb:Whole len b):Whole (fT (a.ms++b.ms) len) (iU a b k):=by
 refine⟨fun h=>ha.1 (List.append_eq_nil_iff.1 h).1,fun M hM=> ?_⟩;have h0:∀i∈a.ms++b.ms,len i+1<=M:=fun i hi=>by have:=hM i hi;unfold fT at this;rwa [Nf hi]at this
 obtain⟨x,hx⟩:=List.exists_mem_of_ne_nil _ ha.1;obtain⟨N,rfl⟩:∃N,M=N+1:=⟨M-1,by have:=h0 x (Pv _ hx);omega⟩;show iY (N+1) (a.ms++b.ms) _=_
 rw[uk (N+1) (a.ms++b.ms) (fT (a.ms++b.ms) len) (fun i=>len i+1) (fun i hi=>by unfold fT;rw[Nf hi]),Df,yg,
  ha.2 N (fun i hi=>by have:=h0 i (Pv _ hi);omega),hb.2 N (fun i hi=>by have:=h0 i (OX _ hi);omega),Ot]
 omega
theorem BX{a b t:Tr}{r:List Tr}{len:Nat->Nat}(h:mn (a::b::r))(ht:t∈r)(hw:Whole len t):Whole (fT (a.ms++b.ms) len) t:=by (have he:∀i∈t.ms,fT (a.ms++b.ms) len i=len i:=fun i hi=>by unfold fT;rw[Nd (qH h ht hi)]);refine⟨hw.1,fun M hM=> ?_⟩;rw[uk M t.ms _ len he];exact hw.2 M fun i hi=>by rw[<- he i hi];exact hM i hi
theorem Da{act:List Tr}{k:Nat}{len L:Nat->Nat}(h:xC act k len L):mn act->(∀ t∈act,Whole len t)->∀M,(∀ i∈act.flatMap Tr.ms,L i<=M)->iY M (act.flatMap Tr.ms) L=2^M:=by
 induction h with
 | one t k len=>intro _ hw M hM;have e: [t].flatMap Tr.ms=t.ms:=(by simp);rw[e]at hM |-;exact(hw t Nh).2 M hM
 | @step act a b r k len L hp ha hb h ih=>
  intro h2 hw M hM;have h1:(act.flatMap Tr.ms).Perm ((iU a b k::r).flatMap Tr.ms):=by refine(hp.flatMap_right Tr.ms).trans ?_;simp only[Oa,iU,Ni];exact PW _
  have h0:=sW hp h2;have hk:iY M (act.flatMap Tr.ms) L=iY M ((iU a b k::r).flatMap Tr.ms) L:=(h1.map _).sum_nat;rw[hk];refine ih (pA h0) ?_ M fun i hi=>hM i (h1.mem_iff.2 hi);intro t ht;rcases List.mem_cons.1 ht with rfl|ht;·exact yQ (hw a (hp.mem_iff.2 Nh)) (hw b (hp.mem_iff.2 (Nm _ Nh)))
  ·exact BX h0 ht (hw t (hp.mem_iff.2 (Nm _ (Nm _ ht))))
def fib:Nat->Nat
 | 0=>0
 | 1=>1
 | n+2=>fib n+fib (n+1)
def rz(act:List Tr):Nat:=(act.map Tr.w).sum
theorem rA{act act2:List Tr}(h:act.Perm act2):rz act=rz act2:=(h.map _).sum_nat
structure M6 (act:List Tr) (len:Nat->Nat) (m:Nat):Prop where
 own:∀t∈act,∀i∈t.ms,fib (len i+2)<=t.w
 top:∀t∈act,∀i∈t.ms,1<=len i->fib (len i+1)<=m
 low:∀t∈act,m<=t.w/\1<=t.w
theorem Jy{act:List Tr}{k:Nat}{len L:Nat->Nat}(h:xC act k len L):mn act->∀m,M6 act len m->∀i∈act.flatMap Tr.ms,fib (L i+2)<=rz act:=by
 induction h with
 | one t k len=>intro _ m hg i hi;have e: [t].flatMap Tr.ms=t.ms:=(by simp);rw[e]at hi;have e2:rz [t]=t.w:=(by simp[rz]);rw[e2];exact hg.own t Nh i hi
 | @step act a b r k len L hp ha hb h ih=>
  intro hc m hg i hi;have h4:=sW hp hc;have h7:a∈act:=hp.mem_iff.2 Nh;have h5:b∈act:=hp.mem_iff.2 (Nm _ Nh);have h8:∀t∈r,t∈act:=fun t ht=>hp.mem_iff.2 (Nm _ (Nm _ ht));have h9:=(ha b Nh).le;have he:(act.flatMap Tr.ms).Perm ((iU a b k::r).flatMap Tr.ms):=by refine(hp.flatMap_right Tr.ms).trans ?_;simp only[Oa,iU,Ni];exact PW _
  have hf:rz act=rz (iU a b k::r):=by rw[rA hp];simp only[rz,Ow,Pz,iU];omega
  rw[hf];refine ih (pA h4) b.w ⟨?_,?_,?_⟩ i (he.mem_iff.1 hi)
  ·intro t ht j hj;rcases List.mem_cons.1 ht with rfl|ht
   ·have h6:j∈a.ms++b.ms:=hj;have e:fT (a.ms++b.ms) len j=len j+1:=(by unfold fT;rw[Nf h6]);rw[e];show fib (len j+1)+fib (len j+2)<=a.w+b.w;rcases List.mem_append.1 h6 with h3|h3
    ·have h1:=hg.own a h7 j h3;have h2:fib (len j+1)<=b.w:=by
      rcases OL (len j)with h0|h0;·rw[h0];exact(hg.low b h5).2
      ·exact ND (hg.top a h7 j h3 h0) (hg.low b h5).1
     omega
    ·have h1:=hg.own b h5 j h3;have h2:fib (len j+1)<=a.w:=by
      rcases OL (len j)with h0|h0;·rw[h0];exact(hg.low a h7).2
      ·exact ND (hg.top b h5 j h3 h0) (hg.low a h7).1
     omega
   ·have e:fT (a.ms++b.ms) len j=len j:=(by unfold fT;rw[Nd (qH h4 ht hj)]);rw[e];exact hg.own t (h8 t ht) j hj
  ·intro t ht j hj h1;rcases List.mem_cons.1 ht with rfl|ht
   ·have h6:j∈a.ms++b.ms:=hj;have e:fT (a.ms++b.ms) len j=len j+1:=(by unfold fT;rw[Nf h6]);rw[e];rcases List.mem_append.1 h6 with h3|h3;·exact ND (hg.own a h7 j h3) h9
    ·exact hg.own b h5 j h3
   ·have e:fT (a.ms++b.ms) len j=len j:=(by unfold fT;rw[Nd (qH h4 ht hj)]);rw[e]at h1 |-;exact ND (hg.top t (h8 t ht) j hj h1) (hg.low b h5).1
  ·intro t ht;rcases List.mem_cons.1 ht with rfl|ht;·show b.w<=a.w+b.w/\1<=a.w+b.w;have:=(hg.low b h5).2;omega
   ·exact⟨(hb t ht).le,(hg.low t (h8 t ht)).2⟩
def kP(w:List Nat):List Tr:=(List.range w.length).map fun i=>⟨w.getD i 0,i, [i]⟩
theorem lu(w:List Nat):(kP w).flatMap Tr.ms=List.range w.length:=by unfold kP;rw[List.flatMap_map];simp
theorem pT(w:List Nat):mn (kP w):=by unfold mn;rw[lu];exact OD
theorem AH(w:List Nat):(kP w).map Tr.w=w:=by
 unfold kP;rw[Ou];apply Ob;intro k;by_cases h:k<w.length;·rw[Np,NJ h,Nc h,Ov];simp[Nc h]
 ·rw[Nw (by rw[Nu,NE];omega),Nw (by omega)]
def lH(w:List Nat)(L:Nat->Nat):Prop:=xC (kP w) w.length (fun _=>0) L
theorem ug{w:List Nat}{L L2:Nat->Nat}(h:lH w L)(k:lH w L2):L=L2:=Jz h (PW _) k
theorem C9{w:List Nat}{L:Nat->Nat}(h:lH w L)(M:Nat)(hM:∀i,i<w.length->L i<=M):((List.range w.length).map fun i=>2^(M-L i)).sum=2^M:=by
 have:=Da h (pT w) (fun t ht=>by
  obtain⟨i,_,rfl⟩:=List.mem_map.1 ht
  exact⟨by simp,fun N _=>by simp[iY]⟩) M (fun i hi=>by
   rw[lu]at hi
   exact hM i (List.mem_range.1 hi))
 rw[lu]at this;exact this
theorem Jx{w:List Nat}{L:Nat->Nat}(h:lH w L)(h1:∀x∈w,1<=x)(i:Nat)(hi:i<w.length):fib (L i+2)<=w.sum:=by
 have h2:∀j,j<w.length->1<=w.getD j 0:=fun j hj=>by rw[Na,Nc hj];exact h1 _ (NM hj)
 have:=Jy h (pT w) 0 ⟨fun t ht j _=>by
  obtain⟨q,hq,rfl⟩:=List.mem_map.1 ht
  exact h2 q (List.mem_range.1 hq),fun t ht j _ h0=>by omega,fun t ht=>by
  obtain⟨q,hq,rfl⟩:=List.mem_map.1 ht
  exact⟨Ng _,h2 q (List.mem_range.1 hq)⟩⟩ i (by rw[lu];exact List.mem_range.2 hi)
 rw[rz,AH]at this;exact this
theorem Ap:∀n,fib n<=fib (n+1)
 | 0=>by decide
 | 1=>by decide
 | n+2=>by have:=Ap (n+1);show fib (n+2)<=fib (n+1)+fib (n+2);omega
theorem Mx{m n:Nat}(h:m<=n):fib m<=fib n:=by
 induction h with
 | refl=>exact Nk _
 | step _ ih=>exact ND ih (Ap _)
theorem C8{w:List Nat}{L:Nat->Nat}(h:lH w L)(h1:∀x∈w,1<=x)(hs:w.sum<610)(i:Nat)(hi:i<w.length):L i<=12:=by
 rcases N1 12 (L i)with h2|h2;·exfalso;have h3:=Jx h h1 i hi;have h4:fib 15<=fib (L i+2):=Mx (by omega);have h5:fib 15=610:=(by decide);omega
 ·exact h2
def half(w:List Nat):List Nat:=w.map fun x=>x/2+1
def dL(w:List Nat):Nat->List Nat
 | 0=>w
 | t+1=>half (dL w t)
theorem rS(w:List Nat):(half w).length=w.length:=Nu _
theorem eV(w:List Nat):∀t,(dL w t).length=w.length
 | 0=>rfl
 | t+1=>by rw[dL,rS,eV w t]
theorem Jv(w:List Nat):∀x∈half w,1<=x:=fun x hx=>by
 obtain⟨y,_,rfl⟩:=List.mem_map.1 hx
 omega
theorem wM(w:List Nat)(h:∀x∈w,x<=2^30):∀t,t<=30->∀x∈dL w t,x<=2^(30-t)+2
 | 0,_=>fun x hx=>ND (h x hx) (Rx _ _)
 | t+1,ht=>fun x hx=>by obtain⟨y,hy,rfl⟩:=List.mem_map.1 hx;have:=wM w h t (by omega) y hy;rw[show 30-t=(30-(t+1))+1 by omega,Ot]at this;omega
theorem ud(w:List Nat)(h:∀x∈w,x<=2^30):∀t,∀x∈dL w (t+31),x<=2
 | 0=>fun x hx=>by obtain⟨y,hy,rfl⟩:=List.mem_map.1 hx;have:=wM w h 30 (ag _) y hy;simp at this;omega
 | t+1=>fun x hx=>by have h0:x∈half (dL w (t+31)):=(by rw[show t+1+31=(t+31)+1 by omega]at hx;exact hx);obtain⟨y,hy,rfl⟩:=List.mem_map.1 h0;have:=ud w h t y hy;omega
theorem vg(b:Nat):∀l:List Nat,(∀ x∈l,x<=b)->l.sum<=b*l.length
 | [],_=>by simp
 | x::l,h=>by have h1:=vg b l (fun y hy=>h y (Nm _ hy));have h2:=h x Nh;rw[Pz,Ns,Nat.mul_succ];omega
theorem rT{w:List Nat}(h:∀x∈w,x<=2^30)(hl:w.length<=258)(t:Nat)(ht:31<=t){L:Nat->Nat}(hL:lH (dL w t) L)(i:Nat)(hi:i<w.length):L i<=12:=by obtain⟨q,rfl⟩:∃q,t=q+31:=⟨t-31,by omega⟩;have h2:=ud w h q;have h3:=vg 2 (dL w (q+31)) h2;rw[eV]at h3;refine C8 hL ?_ (by omega) i (by rw[eV];exact hi);rw[show q+31=(q+30)+1 by omega];exact Jv _
inductive iG:List Nat->Nat->(Nat->Nat)->Prop
 | done {w:List Nat} {most:Nat} {L:Nat->Nat} (h:lH w L) (hm:∀i,i<w.length->L i<=most):iG w most L
 | again {w:List Nat} {most:Nat} {L L2:Nat->Nat} (h:lH w L) (hm:∃i,i<w.length/\most<L i) (k:iG (half w) most L2):iG w most L2
theorem Gs{w:List Nat}{most:Nat}{L:Nat->Nat}(h:iG w most L):∀{L2:Nat->Nat},iG w most L2->L=L2:=by
 induction h with
 | done h hm=>
  intro L2 h2
  cases h2 with
  | done k _=>exact ug h k
  | again k hk _=>obtain⟨i,hi,h0⟩:=hk;have:=ug h k;subst this;have:=hm i hi;omega
 | again h hm k ih=>
  intro L2 h2
  cases h2 with
  | done k2 hk=>obtain⟨i,hi,h0⟩:=hm;have:=ug h k2;subst this;have:=hk i hi;omega
  | again k2 _ k3=>exact ih k3
theorem ut{w:List Nat}{most:Nat}{L:Nat->Nat}(h:iG w most L):(∀ i,i<w.length->L i<=most)/\∀M,most<=M->((List.range w.length).map fun i=>2^(M-L i)).sum=2^M:=by
 induction h with
 | done h hm=>exact⟨hm,fun M hM=>C9 h M fun i hi=>ND (hm i hi) hM⟩
 | again h hm k ih=>rw[rS]at ih;exact ih
theorem oL{w:List Nat}{most:Nat}{L:Nat->Nat}:∀t,(∀ q,q<t->∃L1,lH (dL w q) L1/\∃i,i<w.length/\most<L1 i)->iG (dL w t) most L->iG w most L
 | 0,_,h=>h
 | t+1,hq,h=>by obtain⟨L1,h1,i,hi,h2⟩:=hq t (PP t);exact oL t (fun q h3=>hq q (by omega)) (.again h1 ⟨i,by rw[eV];exact hi,h2⟩ h)
def eD(w:List Nat)(i:Nat):Nat:=(List.range w.length).countP fun j=>decide (w.getD i 0<w.getD j 0\/(w.getD j 0=w.getD i 0/\j<i))
theorem wt{l:List Nat}{p q:Nat->Bool}(h:∀x∈l,p x=true->q x=true){y:Nat}(hy:y∈l)(hq:q y=true)(hp:p y=false):l.countP p<l.countP q:=by
 induction l with
 | nil=>exact absurd hy aw
 | cons x l ih=>
  rw[Qe,Qe];rcases List.mem_cons.1 hy with rfl|hy;·rw[hq,hp];have:=List.countP_mono_left (l:=l) (p:=p) (q:=q) fun x hx=>h x (Nm _ hx);simp;omega
  ·have h1:=ih (fun x hx=>h x (Nm _ hx)) hy;have h2:=h x Nh;by_cases e:p x=true;·rw[e,h2 e];simp;omega
   ·have e2:p x=false:=(by simpa using e);rw[e2];have h4:(if false=true then 1 else 0)=0:=Nd (by simp);rw[h4];split <;>omega
theorem iK(w:List Nat){i j:Nat}(hi:i<w.length)(h:w.getD j 0<w.getD i 0\/(w.getD i 0=w.getD j 0/\i<j)):eD w i<eD w j:=by
 unfold eD;refine wt (fun x _ hx=> ?_) (List.mem_range.2 hi) (y:=i) ?_ ?_;·have hx:=Rn hx;exact bE
 ·exact bE
 ·exact aR
theorem Jr(w:List Nat){i:Nat}(hi:i<w.length):eD w i<w.length:=by have h:=wt (l:=List.range w.length) (p:=fun j=>decide (w.getD i 0<w.getD j 0\/(w.getD j 0=w.getD i 0/\j<i))) (q:=fun _=>true) (fun _ _ _=>rfl) (List.mem_range.2 hi) rfl (aR);have e:(List.range w.length).countP (fun _=>true)=w.length:=(by rw[List.countP_eq_length.2 (fun _ _=>rfl),NE]);rw[e]at h;exact h
theorem AW:∀(l m:List Nat),l.Nodup->(∀ x∈l,x∈m)->l.length<=m.length
 | [],_,_,_=>Ng _
 | x::l,m,h,hm=>by have hx:=hm x Nh;rw[Rd]at h;have h1:=AW l (m.erase x) h.2 fun y hy=>(List.mem_erase_of_ne (fun e=>by subst e;exact h.1 hy)).2 (hm y (Nm _ hy));rw[List.length_erase_of_mem hx]at h1;have h2:=PD hx;rw[Ns];omega
theorem og(l:List Nat)(n:Nat)(h:l.Nodup)(h0:∀x∈l,x<n)(h2:l.length=n):l.Perm (List.range n):=by
 refine(Pm h OD).2 fun x=> ?_;rw[Qu];constructor;·exact h0 x
 ·intro hx;by_cases e:x∈l;·exact e
  ·exfalso;have h1:=AW l ((List.range n).erase x) h fun y hy=>(List.mem_erase_of_ne (fun e2=>by subst e2;exact e hy)).2 (List.mem_range.2 (h0 y hy));rw[List.length_erase_of_mem (List.mem_range.2 hx),NE]at h1;omega
theorem tV(w:List Nat):((List.range w.length).map (eD w)).Perm (List.range w.length):=by
 have h1:((List.range w.length).map (eD w)).Nodup:=by
  rw[QU,PE];refine OG ?_ OD;intro a b ha hb h0 e;have ha:=List.mem_range.1 ha;have hb:=List.mem_range.1 hb;rcases OI (w.getD a 0) (w.getD b 0)with h|h|h;·have:=iK w (i:=b) (j:=a) hb (.inl h);omega
  ·rcases Nat.lt_or_gt_of_ne h0 with h2|h2;·have:=iK w (i:=a) (j:=b) ha (.inr ⟨h,h2⟩);omega
   ·have:=iK w (i:=b) (j:=a) hb (.inr ⟨h.symm,h2⟩);omega
  ·have:=iK w (i:=a) (j:=b) ha (.inl h);omega
 exact og _ _ h1 (fun x hx=>by
  obtain⟨i,hi,rfl⟩:=List.mem_map.1 hx
  exact Jr w (List.mem_range.1 hi)) (by rw[Nu,NE])
def bj(k c:Nat)(w:List Nat)(i:Nat):Nat:=if c<=eD w i then k+1 else k
theorem LW(x y c:Nat):∀n,c<=n->((List.range n).map fun i=>if c<=i then y else x).sum=c*x+(n-c)*y:=by
 intro n
 induction n with
 | zero=>intro h;have:c=0:=(by omega);subst this;simp
 | succ n ih=>
  intro h;rw[Oh,Nz,List.sum_append_nat];by_cases e:c<=n;·rw[ih e];simp only[Ow,QC,Pz,List.sum_nil,Nf e];rw[show n+1-c=(n-c)+1 by omega,PU];omega
  ·have ec:c=n+1:=(by omega);have e2:((List.range n).map fun i=>if c<=i then y else x)=(List.range n).map fun _=>x:=(by refine Oe fun i hi=> ?_;have:=List.mem_range.1 hi;rw[Nd]);rw[e2];simp only[Ow,QC,Pz,List.sum_nil,Nd e];rw[ec,Oz,Nat.zero_mul,PU,Rk];have:((List.range n).map fun _=>x).sum=n*x:=(by rw[PI,NE,List.sum_replicate_nat]);omega
theorem CZ(w:List Nat)(k:Nat)(h1:2^k<=w.length)(h2:w.length<2^(k+1))(M:Nat)(hM:k+1<=M):((List.range w.length).map fun i=>2^(M-bj k (2^(k+1)-w.length) w i)).sum=2^M:=by have hc:2^(k+1)-w.length<=w.length:=(by rw[Ot];omega);generalize hcc:2^(k+1)-w.length=c at*;(have e1:((List.range w.length).map fun i=>2^(M-bj k c w i))=((List.range w.length).map (eD w)).map fun f=>if c<=f then 2^(M-(k+1))else 2^(M-k):=by rw[Ou];refine Oe fun i _=> ?_;simp only[Function.comp,bj];split <;>rfl);rw[e1,((tV w).map _).sum_nat,LW _ _ c _ hc];have e2:(2:Nat)^(M-k)=2*2^(M-(k+1)):=(by rw[show M-k=(M-(k+1))+1 by omega,Ot];omega);have e3:(2:Nat)^M=2^(k+1)*2^(M-(k+1)):=(by rw[<- Pw,show k+1+(M-(k+1))=M by omega]);rw[e2,e3,<-OY,<-PU];congr 1;omega
inductive Up (ov:Nat->Nat):Nat->Nat->Nat->Prop
 | here (i:Nat):Up ov i i 0
 | next {i j d:Nat} (h:Up ov i j d) (h0:ov j≠0):Up ov i (ov j) (d+1)
theorem Up.keep{ov ov2:Nat->Nat}{i j d:Nat}(h:Up ov i j d)(hk:∀x,ov x≠0->ov2 x=ov x):Up ov2 i j d:=by
 induction h with
 | here=>exact .here _
 | next h h0 ih=>rename_i j0 d0;have:=hk j0 h0;rw[<- this];exact .next ih (by rw[this];exact h0)
theorem Up.of_eq{ov:Nat->Nat}{i j p d:Nat}(h:Up ov i j d)(hp:ov j=p)(h0:p≠0):Up ov i p (d+1):=by subst hp;exact .next h h0
theorem Up.one{ov:Nat->Nat}{i j d:Nat}(h:Up ov i j d):∀{j2:Nat},Up ov i j2 d->j=j2:=by
 induction h with
 | here=>intro j2 k;cases k;rfl
 | next h h0 ih=>
  intro j2 k
  cases k with
  | next k k0=>rw[ih k]
theorem Up.root{ov:Nat->Nat}{i j d:Nat}(h:Up ov i j d)(hj:ov j=0):∀{j2 d2:Nat},Up ov i j2 d2->d2<=d:=by
 intro j2 d2 k
 induction k with
 | here=>exact Ng _
 | next k k0 ih=>
  rename_i j3 d3;rcases N1 d3 d with h1|h1;·exact h1
  ·exfalso;have e:d3=d:=(by omega);subst e;rw[h.one k]at hj;exact k0 hj
theorem Up.ends{ov:Nat->Nat}{i j d j2 d2:Nat}(h:Up ov i j d)(hj:ov j=0)(k:Up ov i j2 d2)(h0:ov j2=0):d=d2:=
 Nat.le_antisymm (k.root h0 h) (h.root hj k)
structure kr (n:Nat) (w:List Nat) (k:Nat) (ws ov:Nat->Nat) (act:List Tr) (len:Nat->Nat):Prop where
 ge:n<=k
 pos:0<n
 nodup:(act.map Tr.n).Nodup
 root:∀t∈act,t.n<k/\ov t.n=0/\t.w=ws t.n/\∀i∈t.ms,Up ov i t.n (len i)
 all:∀j,j<k->ov j=0->∃t∈act,t.n=j
 par:∀j,ov j≠0->j<ov j/\ov j<k
 ms:(act.flatMap Tr.ms).Perm (List.range n)
 count:act.length+k=2*n
 run:∀L,xC act k len L->lH w L
 sum:rz act=w.sum
theorem rP(w:List Nat)(h:0<w.length):kr w.length w w.length (fun j=>w.getD j 0) (fun _=>0) (kP w) (fun _=>0) where
 ge:=Nk _
 pos:=h
 nodup:=by
  unfold kP
  rw[Ou]
  have:(Tr.n ∘ fun i=>(⟨w.getD i 0,i, [i]⟩:Tr))=id:=rfl
  rw[this,QV]
  exact OD
 root:=by
  intro t ht
  obtain⟨i,hi,rfl⟩:=List.mem_map.1 ht
  refine⟨List.mem_range.1 hi,rfl,rfl,fun j hj=> ?_⟩
  have:j=i:=List.mem_singleton.1 hj
  subst this
  exact .here _
 all:=by
  intro j hj _
  exact⟨⟨w.getD j 0,j, [j]⟩,List.mem_map.2 ⟨j,List.mem_range.2 hj,rfl⟩,rfl⟩
 par:=fun j h0=>absurd rfl h0
 ms:=by rw[lu]
 count:=by
  unfold kP
  rw[Nu,NE]
  omega
 run:=fun L h=>h
 sum:=by
  unfold rz
  rw[AH]
def mp(k:Nat)(ws ov:Nat->Nat)(a:Nat):Prop:=a<k/\ov a=0/\∀j,j<k->ov j=0->j≠a->ws a<ws j\/(ws a=ws j/\a<j)
theorem ua{n k:Nat}{w:List Nat}{ws ov ov1 ov2:Nat->Nat}{act:List Tr}{len:Nat->Nat}(h:kr n w k ws ov act len){a b:Nat}
 (ha:mp k ws ov a) (h1:ov1=fun j=>if j=a then k else ov j) (hb:mp k ws ov1 b) (h2:ov2=fun j=>if j=b then k else if j=a then k else ov j):
 ∃act2 len2,kr n w (k+1) (fun j=>if j=k then ws a+ws b else ws j) ov2 act2 len2:=by
 have hk:k≠0:=by have:=h.pos;have:=h.ge;omega
 obtain⟨ta,hD,hh⟩:=h.all a ha.1 ha.2.1;have he:b≠a:=by intro e;have:=hb.2.1;rw[h1]at this;simp[e]at this;exact hk this
 have hz:ov b=0:=by have:=hb.2.1;rw[h1]at this;simpa [he]using this
 obtain⟨tb,hs,h9⟩:=h.all b hb.1 hz;have hG:ov k=0:=by
  by_cases e:ov k=0;·exact e
  ·have:=h.par k e;omega
 have split:∀{l:List Tr} {x:Tr},x∈l->∃r,l.Perm (x::r):=by intro l x hx;obtain⟨s,u,rfl⟩:=RT hx;exact⟨s++u,List.perm_middle⟩
 obtain⟨r1,hC⟩:=split hD;have hu:tb∈r1:=by
  rcases List.mem_cons.1 (hC.mem_iff.1 hs)with e|e;·exfalso;rw[e,hh]at h9;exact he h9.symm
  ·exact e
 obtain⟨r,hr⟩:=split hu;have hp:act.Perm (ta::tb::r):=hC.trans (hr.cons ta);have hy:=(hp.map Tr.n).nodup_iff.1 h.nodup;rw[Ow,Ow,Rd,Rd]at hy;obtain⟨hn,ho,hq⟩:=hy;have hl:∀t∈r,t∈act/\t.n≠a/\t.n≠b:=by
  intro t ht;refine⟨hp.mem_iff.2 (Nm _ (Nm _ ht)),fun e=> ?_,fun e=> ?_⟩;·exact hn (by rw[hh,<-e];exact Nm _ (List.mem_map_of_mem ht))
  ·exact ho (by rw[h9,<-e];exact List.mem_map_of_mem ht)
 have h7:=h.root ta hD;have h8:=h.root tb hs;rw[hh]at h7;rw[h9]at h8;have hA:∀t∈tb::r,kW ta t:=by
  intro t ht;have h3:t∈act/\t.n≠a:=by
   rcases List.mem_cons.1 ht with rfl|ht;·exact⟨hs,by rw[h9];exact he⟩
   ·exact⟨(hl t ht).1,(hl t ht).2.1⟩
  have h4:=h.root t h3.1;have h5:=ha.2.2 t.n h4.1 h4.2.1 h3.2;unfold kW;rw[h7.2.2.1,h4.2.2.1,hh];exact h5
 have hB:∀t∈r,kW tb t:=by intro t ht;have h3:=hl t ht;have h4:=h.root t h3.1;have h5:=hb.2.2 t.n h4.1 (by rw[h1];simp[h3.2.1,h4.2.1]) h3.2.2;unfold kW;rw[h8.2.2.1,h4.2.2.1,h9];exact h5
 have hc:∀x,ov x≠0->ov2 x=ov x:=by intro x hx;have e1:x≠a:=fun e=>hx (by rw[e];exact ha.2.1);have e2:x≠b:=fun e=>hx (by rw[e];exact hz);rw[h2];simp[e1,e2]
 have hw:=hp.flatMap_right Tr.ms;have h6:((ta::tb::r).flatMap Tr.ms).Nodup:=hw.nodup_iff.1 (h.ms.nodup_iff.2 OD);rw[Oa,Oa,<-Ni,List.nodup_append]at h6;refine⟨iU ta tb k::r,fT (ta.ms++tb.ms) len,?_⟩;constructor;case ge=>have:=h.ge;omega
 case pos=>exact h.pos
 case nodup=>rw[Ow,Rd];refine⟨fun hk2=> ?_,hq⟩;obtain⟨t,ht,e⟩:=List.mem_map.1 hk2;have h4:=(h.root t (hl t ht).1).1;rw[e]at h4;exact absurd h4 (Rc _)
 case root=>
  intro t ht;rcases List.mem_cons.1 ht with rfl|ht
  ·refine⟨PP k,?_,?_,?_⟩;·show ov2 k=0;(have e1:k≠a:=fun e=>by have:=ha.1;omega);(have e2:k≠b:=fun e=>by have:=hb.1;omega);rw[h2];simp[e1,e2,hG]
   ·(show ta.w+tb.w=if k=k then ws a+ws b else ws k);rw[Nf rfl,h7.2.2.1,h8.2.2.1]
   ·intro i hi;have hv:i∈ta.ms++tb.ms:=hi;show Up ov2 i k (fT (ta.ms++tb.ms) len i);unfold fT;rw[Nf hv];rcases List.mem_append.1 hv with hi|hi;·exact((h7.2.2.2 i hi).keep hc).of_eq (by rw[h2];simp[he.symm]) hk
    ·exact((h8.2.2.2 i hi).keep hc).of_eq (by rw[h2];simp) hk
  ·have h3:=hl t ht;have h4:=h.root t h3.1;refine⟨by omega,?_,?_,?_⟩;·rw[h2];simp[h3.2.1,h3.2.2,h4.2.1]
   ·(show t.w=if t.n=k then ws a+ws b else ws t.n);rw[Nd];exact h4.2.2.1
   ·intro i hi;have hF:i∉ta.ms++tb.ms:=fun hm=>h6.2.2 i hm i (List.mem_flatMap.2 ⟨t,ht,hi⟩) rfl;unfold fT;rw[Nd hF];exact(h4.2.2.2 i hi).keep hc
 case all=>
  intro j hj h0;by_cases e:j=k;·exact⟨_,Nh,e.symm⟩
  ·have hf:j≠a:=fun e2=>hk (by rw[h2,e2]at h0;simpa [he.symm]using h0);have hg:j≠b:=fun e2=>hk (by rw[h2,e2]at h0;simpa using h0);have hE:ov j=0:=(by rw[h2]at h0;simpa [hf,hg]using h0);obtain⟨t,ht,e3⟩:=h.all j (by omega) hE;rcases List.mem_cons.1 (hp.mem_iff.1 ht)with e4|e4;·exfalso;rw[e4,hh]at e3;exact hf e3.symm
   ·rcases List.mem_cons.1 e4 with e5|e5;·exfalso;rw[e5,h9]at e3;exact hg e3.symm
    ·exact⟨t,Nm _ e5,e3⟩
 case par=>
  intro j h0;by_cases hf:j=a;·have:ov2 j=k:=(by rw[h2,hf];simp[he.symm]);rw[this,hf];exact⟨ha.1,PP k⟩
  ·by_cases hg:j=b;·have:ov2 j=k:=(by rw[h2,hg];simp);rw[this,hg];exact⟨hb.1,PP k⟩
   ·have:ov2 j=ov j:=(by rw[h2];simp[hf,hg]);rw[this]at h0 |-;have:=h.par j h0;omega
 case ms=>rw[Oa];have h3:=hw.symm.trans h.ms;rw[Oa,Oa,<-Ni]at h3;exact h3
 case count=>have h3:=hp.length_eq;have h4:=h.count;rw[Ns,Ns]at h3;rw[Ns];omega
 case run=>intro L hL;exact h.run L (.step hp hA hB hL)
 case sum=>have h3:=rA hp;rw[h.sum]at h3;rw[h3];unfold rz;rw[Ow,Ow,Ow,Pz,Pz,Pz];show ta.w+tb.w+_=_;omega
theorem wK{n k:Nat}{w:List Nat}{ws ov:Nat->Nat}{act:List Tr}{len:Nat->Nat}(h:kr n w k ws ov act len)(hk:k+1=2*n):
 lH w len/\∀i,i<n->∃r,Up ov i r (len i)/\ov r=0:=by
 have hc:=h.count
 match act,hc,h with
 | [],hc,h=>simp at hc;omega
 | [t],_,h=>refine⟨h.run len (.one t k len),fun i hi=> ?_⟩;have hm:i∈ [t].flatMap Tr.ms:=h.ms.mem_iff.2 (List.mem_range.2 hi);have h0:i∈t.ms:=(by simpa using hm);have h4:=h.root t Nh;exact⟨t.n,h4.2.2.2 i h0,h4.2.1⟩
 | t::u::r,hc,h=>simp at hc;omega
theorem qX{n k:Nat}{w:List Nat}{ws ov:Nat->Nat}{act:List Tr}{len:Nat->Nat}(h:kr n w k ws ov act len)(hk:k+1<2*n):
 ∃a b,a<k/\b<k/\a≠b/\ov a=0/\ov b=0:=by
 have hc:=h.count
 match act,hc,h with
 | [],hc,h=>simp at hc;omega
 | [t],hc,h=>simp at hc;omega
 | t::u::r,hc,h=>have h1:=h.root t Nh;have h2:=h.root u (Nm _ Nh);have h0:=h.nodup;rw[Ow,Rd]at h0;refine⟨t.n,u.n,h1.1,h2.1,fun e=>h0.1 ?_,h1.2.1,h2.2.1⟩;rw[e];exact Nh
theorem rQ{n k:Nat}{w:List Nat}{ws ov:Nat->Nat}{act:List Tr}{len:Nat->Nat}(h:kr n w k ws ov act len){a b:Nat}(ha:a<k)(hb:b<k)(h8:a≠b)(h7:ov a=0)(h9:ov b=0):ws a+ws b<=w.sum:=by
 obtain⟨ta,h5,h4⟩:=h.all a ha h7;obtain⟨tb,h6,h0⟩:=h.all b hb h9;obtain⟨s,u,he⟩:=RT h5;have hp:act.Perm (ta::(s++u)):=by rw[he];exact List.perm_middle
 have h2:tb∈s++u:=by
  rcases List.mem_cons.1 (hp.mem_iff.1 h6)with e|e;·exfalso;rw[e,h4]at h0;exact h8 h0
  ·exact e
 obtain⟨s2,u2,h1⟩:=RT h2;have hc:(s++u).Perm (tb::(s2++u2)):=by rw[h1];exact List.perm_middle
 have h3:=rA (hp.trans (hc.cons ta));rw[h.sum]at h3;rw[h3];unfold rz;rw[Ow,Ow,Pz,Pz,(h.root ta h5).2.2.1,(h.root tb h6).2.2.1,h4,h0];omega
