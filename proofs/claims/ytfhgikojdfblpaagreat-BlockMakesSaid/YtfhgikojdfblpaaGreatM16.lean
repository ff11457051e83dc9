import Derived.Test.YtfhgikojdfblpaaGreatM14
set_option maxHeartbeats 3200000
set_option maxRecDepth 100000
namespace Go.Proofs.YtfhgikojdfblpaaGreat
open _root_.Go.Proofs.Tryz
def eu(l:List Nat)(k:Nat):List Nat:=l.getD k 0::(l.take k++l.drop (k+1))
def aX:List Nat->Nat->Nat
 | [],_=>0
 | y::l,x=>if y=x then 0 else aX l x+1
theorem fh:∀(l:List Nat) (x:Nat),x∈l->aX l x<l.length/\l.getD (aX l x) 0=x
 | [],x,h=>by cases h
 | y::l,x,h=>by
  by_cases e:y=x;·subst e;simp[aX]
  ·have hx:x∈l:=by
    rcases List.mem_cons.1 h with h|h;·exact absurd h.symm e
    ·exact h
   have ih:=fh l x hx;rw[aX,Nd e,Ns];exact⟨by omega,ih.2⟩
theorem gn{l:List Nat}{k:Nat}(hk:k<l.length):(eu l k).length=l.length:=by unfold eu;rw[Ns,Nb,NB,Ny];omega
def Low(T:Nat)(l:List Nat):Prop:=T<=l.length/\∀x,x<T->aX l x<T/\x∈l
theorem uK:∀(l:List Nat) (T x:Nat),x∈l.take T->aX l x<T
 | [],T,x,h=>by simp at h
 | y::l,0,x,h=>by simp at h
 | y::l,T+1,x,h=>by
  by_cases e:y=x;·rw[aX,Nf e];omega
  ·rw[Qt]at h;rcases List.mem_cons.1 h with h|h;·exact absurd h.symm e
   ·rw[aX,Nd e];have:=uK l T x h;omega
theorem vm:∀(l:List Nat) (T x:Nat),x∈l->aX l x<T->x∈l.take T
 | [],T,x,h,_=>by cases h
 | y::l,0,x,_,h=>by omega
 | y::l,T+1,x,h,hp=>by
  rw[Qt];by_cases e:y=x;·rw[e];exact Nh ..
  ·rcases List.mem_cons.1 h with h|h;·exact absurd h.symm e
   ·rw[aX,Nd e]at hp;exact Nm _ (vm l T x h (by omega))
theorem Low.move{T:Nat}{l:List Nat}(h:Low T l){x:Nat}(hx:x<T):Low T (eu l (aX l x)):=by
 obtain⟨h1,h2⟩:=h;have hp:=fh l x (h2 x hx).2;have h5:=(h2 x hx).1;refine⟨by rw[gn hp.1];exact h1,fun y hy=> ?_⟩;have h0:y∈(eu l (aX l x)).take T:=by
  unfold eu;rw[hp.2];obtain⟨S,rfl⟩:∃S,T=S+1:=⟨T-1,by omega⟩;rw[Qt];by_cases e:y=x;·rw[e];exact Nh ..
  ·refine Nm _ ?_;have h4:=vm l (S+1) y (h2 y hy).2 (h2 y hy).1;rw[List.take_append,NB,OJ (by omega),List.take_take,PQ (by omega)];have e2:l.take (S+1)=l.take (aX l x)++(x::(l.drop (aX l x+1)).take (S-aX l x)):=(by have h3:S+1=aX l x+(1+(S-aX l x)):=(by omega);(conv=>lhs;rw[h3,List.take_add]);congr 1;rw[NN hp.1,RN 1,Qt];congr 1;have:=hp.2;rw[Na,Nc hp.1]at this;exact this);rw[e2]at h4;rcases List.mem_append.1 h4 with h3|h3;·exact Pv _ h3
   ·rcases List.mem_cons.1 h3 with h3|h3;·exact absurd h3 e
    ·exact OX _ h3
 exact⟨uK _ _ _ h0,OC h0⟩
theorem yk{T:Nat}(h:T<=6):Low T [0,1,2,3,4,5]:=by refine⟨h,fun x hx=> ?_⟩;have:x=0\/x=1\/x=2\/x=3\/x=4\/x=5:=(by omega);rcases this with rfl|rfl|rfl|rfl|rfl|rfl <;>exact⟨by simp[aX];try omega,by simp⟩
def aI:List Nat->List Nat->List Nat
 | _, []=> []
 | o,x::r=>List.replicate (aX o x) 1++0::aI (eu o (aX o x)) r
inductive Pl where
 | hit (n:Nat)
 | short
 | bad
def eE:List Nat->Nat->Nat->Pl
 | [],_,_=>.short
 | b::bs,n,most=>if b=0 then .hit n else if n+1=most then .bad else eE bs (n+1) most
def aS(bits:List Nat)(T:Nat):Nat->List Nat->Nat->List Nat->List Nat×Nat×Nat
 | 0,_,p,out=>(out,p,0)
 | k+1,o,p,out=>match eE (bits.drop p) 0 T with
   | .hit n=>aS bits T k (eu o n) (p+n+1) (out++ [o.getD n 0])
   | .short=>([],0,10)
   | .bad=>([],0,110)
theorem oQ:∀(k n most:Nat) (rest:List Nat),n+k<most->eE (List.replicate k 1++0::rest) n most=.hit (n+k)
 | 0,n,most,rest,h=>by rw[P6,Ok,eE,Nf rfl];rfl
 | k+1,n,most,rest,h=>by rw[Pb,Oq,eE,Nd,Nd,oQ k (n+1) most rest (by omega)];congr 1;omega
theorem uH(T:Nat):∀(picks o pre rest out:List Nat),Low T o->(∀ x∈picks,x<T)->
 aS (pre++aI o picks++rest) T picks.length o pre.length out=(out++picks,pre.length+(aI o picks).length,0)
 | [],o,pre,rest,out,_,_=>by simp[aS,aI]
 | x::picks,o,pre,rest,out,ho,hx=>by have h1:=hx x (Nh ..);have hp:=ho.2 x h1;have hl:=fh o x hp.2;obtain⟨k,hk⟩:∃k,k=aX o x:=⟨_,rfl⟩;have e:pre++aI o (x::picks)++rest=(pre++(List.replicate k 1++ [0]))++aI (eu o k) picks++rest:=(by rw[aI,<-hk];simp);have hd:(pre++aI o (x::picks)++rest).drop pre.length=List.replicate k 1++0::(aI (eu o k) picks++rest):=(by rw[e];simp);rw[Ns,aS,hd,oQ k 0 T _ (by omega)];show aS _ T picks.length (eu o (0+k)) (pre.length+(0+k)+1) (out++ [o.getD (0+k) 0])=_;rw[N8,e];have h0:pre.length+k+1=(pre++(List.replicate k 1++ [0])).length:=(by simp only[Nb,NA,Ns,Ox];omega);rw[h0,uH T picks (eu o k) _ rest _ (by rw[hk];exact ho.move h1) (fun y hy=>hx y (Nm _ hy)),hk,hl.2,<-hk];rw[aI,<-hk];simp only[Nb,NA,Ns,Ox,Ni,Oq,Ok,Ps,true_and,and_true];omega
open Go.RowKit
def bQ(m:Int):Nat:=if 2400<=m then 6 else if 1200<=m then 5 else if 600<=m then 4 else if 200<=m then 3 else 2
def bJ(m:Int):Nat×Nat:=if m<1 then(0,2)else(bQ m,0)
theorem Bz(w:World)(m:Int):Calls prog 157 #[.int .i64 m] w fun e w'=>e=.returned (.tuple #[.int .i64 (bJ m).1,.int .i64 (bJ m).2])/\w'=w:=by
 by_cases h0:m<1;·have e:bJ m=(0,2):=Nf h0;rw[e];go_enter func157,ntmps157;go_wp2_with fail;go_ret2;exact⟨rfl,rfl⟩
 ·have e:bJ m=(bQ m,0):=Nd h0;rw[e];by_cases h1:2400<=m;·rw[show bQ m=6 from Nf h1];go_enter func157,ntmps157;go_wp2_with fail;go_ret2;exact⟨rfl,rfl⟩
  ·by_cases h2:1200<=m;·rw[show bQ m=5 by unfold bQ;rw[Nd h1,Nf h2]];go_enter func157,ntmps157;go_wp2_with fail;go_ret2;exact⟨rfl,rfl⟩
   ·by_cases h3:600<=m;·rw[show bQ m=4 by unfold bQ;rw[Nd h1,Nd h2,Nf h3]];go_enter func157,ntmps157;go_wp2_with fail;go_ret2;exact⟨rfl,rfl⟩
    ·by_cases h4:200<=m;·rw[show bQ m=3 by unfold bQ;rw[Nd h1,Nd h2,Nd h3,Nf h4]];go_enter func157,ntmps157;go_wp2_with fail;go_ret2;exact⟨rfl,rfl⟩
     ·rw[show bQ m=2 by unfold bQ;rw[Nd h1,Nd h2,Nd h3,Nd h4]];go_enter func157,ntmps157;go_wp2_with fail;go_ret2;exact⟨rfl,rfl⟩
def aH(m:Nat):Nat:=(m+49)/50
theorem kI(w:World)(m:Nat)(hm:m<=10000000):Calls prog 120 #[.int .i64 m] w fun e w'=>e=.returned (.int .i64 (aH m))/\w'=w:=by
 obtain⟨G,hG⟩:∃G,G=aH m:=⟨_,rfl⟩;rw[<- hG];have h1:50*G<=m+49:=by rw[hG];unfold aH;omega
 have h2:m<=50*G:=by rw[hG];unfold aH;omega
 clear hG;go_enter func120,ntmps120;go_wp2_with fail;go_loopw [3] (fun nv wx=>∃q:Nat,q<=G/\nv=.int .i64 q/\wx=w) (fun nv _=>G-(intOf nv).toNat)
 case atStart=>exact⟨0,Ng _,rfl,rfl⟩
 case round=>
  obtain⟨q,hq,rfl,rfl⟩:=hrel;by_cases e:q<G
  ·have d0:decide ((50:Int)*(q:Int)<(m:Int))=true:=bE;go_wp2_with fail;go_roundw;case rel=>exact⟨q+1,by omega,by go_num,trivial⟩
   case measure=>simp[intOf];omega
  ·obtain rfl:q=G:=(by omega);have d0:decide ((50:Int)*(q:Int)<(m:Int))=false:=aR;go_wp2_with fail;go_ret;exact⟨rfl,rfl⟩
theorem pP{L:List Nat}{p:Nat}(h:p<L.length):L.take (p+1)=L.take p++ [L.getD p 0]:=by rw[NF h,Na,Nc h];rfl
def fL(L:List Nat)(k i:Nat):List Nat:=L.getD k 0::if i<=k then L.take i else L.take k++(L.take i).drop (k+1)
theorem xO{L:List Nat}{k:Nat}(hk:k<L.length):fL L k (k+1)=fL L k k:=by unfold fL;rw[Nd,Nf (ag _),N9 (by rw[NB];omega),NU]
theorem xN{L:List Nat}{k i:Nat}(hi:i<L.length)(h:i≠k):fL L k (i+1)=fL L k i++ [L.getD i 0]:=by
 unfold fL;by_cases e:i+1<=k;·rw[Nf e,Nf,pP hi];rfl
 ·rw[Nd e,Nd,pP hi,PT (by rw[NB];omega)];simp
theorem zx{L:List Nat}{k:Nat}(hk:k<L.length):fL L k L.length=eu L k:=by unfold fL eu;rw[Nd,Q0]
theorem BA(w:World)(A:Option Addr)(n c:Nat)(L:List Nat)(k:Nat)(hL:aB w A n L)(hn:n<=1000000)(hk:k<n):Calls prog 118 #[.slice A n c,.int .i64 k] w fun e w'=>∃v,e=.returned v/\w'.ownsRow w.heap.size 3 1 v n ((eu L k).map iv)/\Below w.heap.size w w':=by
 obtain⟨i3,h3,hv,hw,hz⟩:=N4 Tryz.info3;have hf:=hL.1;obtain⟨b,off,rfl,hc⟩:=hL.2 (by omega);have c0:=hc k hk;have hr:=No w _ c0;have HC:=aa hc;have h7:=aa hf;obtain⟨x,hx⟩:∃x,x=L.getD k 0:=⟨_,rfl⟩;rw[<- hx]at c0;have HX:=aa hx;have h1:(w.alloc (.cells #[.int .i64 x] 3)).ownsRow w.heap.size 3 1 (.slice (some ⟨w.heap.size,0,none⟩) 1 1) 1 ([x].map iv):=⟨rfl,.inr ⟨w.heap.size,1,#[.int .i64 x],rfl,Nk _,PC w _,Nk _,by unfold maxLen;omega,rfl,rfl⟩⟩;have hl:=aa h1;clear hL hf hc hx h1;go_enter func118,ntmps118;go_wp2_with fail;clear c0;go_loopw [5,6] (fun out iv' wx=>∃(i:Nat) (o:List Nat),i<=n/\iv'=.int .i64 i/\o.length<=i+1/\Hid (o=fL L k i)/\wx.ownsRow w.heap.size 3 1 out o.length (o.map iv)/\Below w.heap.size w wx) (fun _ iv' _=>n-(intOf iv').toNat)
 case atStart=>exact⟨0, [x],Ng _,rfl,Nk _,aa (by unfold fL;rw[Nf (Ng _),HX.out];rfl),hl.out,(Nj _ _).alloc (ag _) _⟩
 case round=>
  obtain⟨i,o,hi,rfl,ht,ho,h5,hb⟩:=hrel;have HO:=aa h5;have HB:=aa hb;have hA:=hb.size;obtain⟨A0,c0',rfl,hg,hs,_⟩:=ai h5;unfold maxLen at hs;clear h5 hb;by_cases e:i<n
  ·have q1:=(HB.out.cell (p:=⟨b,off+i,none⟩) hr).trans (HC.out i e);obtain⟨y,hy⟩:∃y,y=L.getD i 0:=⟨_,rfl⟩;rw[<- hy]at q1;by_cases ek:i=k
   ·have d1:((i:Int) != (k:Int))=false:=(by rw[ek];simp);have ha:fL L k (i+1)=fL L k i:=(by rw[ek];exact xO (by rw[h7.out];exact hk));rw[<- ho.out]at ha;have hp:=aa ha;clear ha hy ek;go_wp2_with fail;go_roundw;case rel=>exact⟨i+1,o,by omega,by go_num,by omega,aa hp.out.symm,HO.out,HB.out⟩
    case measure=>simp[intOf];omega
   ·have d1:((i:Int) != (k:Int))=true:=(by rw[Pe];omega);have h9:=xN (L:=L) (k:=k) (i:=i) (by rw[h7.out];exact e) ek;rw[<- hy,<-ho.out]at h9;have hj:=aa h9;obtain⟨N,hN⟩:∃N,N=o.length:=⟨_,rfl⟩;obtain⟨X,hX⟩:∃X,X=o.map iv:=⟨_,rfl⟩;rw[<- hN,<-hX]at HO;have HN:=aa hN;have hq:=aa hX;rw[<- hN]at ht hg |-;clear h9 hy hN hX;(go_wp2_with (at_builtin;refine N5 _ rfl _ _ 37 rfl w.heap.size 3 i3 (.int .i64 0) 1 8 underlying37 h3 hv hw hz rfl (by decide) _ _ _ rfl (HO.out.alloc _) ⟨wr.heap.size,0,none⟩ 1 1 [.int .i64 y] rfl rfl ?c1 ?c2 ?c3 ?c4 ?c5 ?_));case c1=>exact bV _ _ _
    case c2=>intro u hu;simp at hu;subst hu;rfl
    case c3=>unfold maxLen;omega
    case c4=>omega
    case c5=>simp;omega
    intro v4 w4 h2 h0 _;have he:Below w.heap.size w w4:=(HB.out.alloc hA _).grown h0 (by simp;omega) (fun k hk=>(HO.out.lt k hk).1);have hm:=aa h2;have hh:=aa he;clear h2 h0 he;go_wp2_with fail;go_roundw;case rel=>refine⟨i+1,o++ [y],by omega,by go_num,by rw[Nb,<-HN.out];show N+1<=_;omega,aa hj.out.symm,?_,hh.out⟩;rw[Nb,<-HN.out,Nz,<-hq.out];exact hm.out
    case measure=>simp[intOf];omega
  ·obtain rfl:i=n:=(by omega);have h8:=zx (L:=L) (k:=k) (by rw[h7.out];exact hk);rw[h7.out,<-ho.out]at h8;have h4:o.length=i:=(by rw[h8,gn (by rw[h7.out];exact hk),h7.out]);have h6:=HO.out;rw[h4,h8]at h6;have HR:=aa h6;rw[h4]at hg |-;clear h8 h4 h6;go_wp2_with fail;go_ret;exact⟨_,rfl,HR.out,HB.out⟩
def eY(L:List Int)(n:Int):Prop:=3<=n/\n<=258/\1<=L.length/\L.length<=1638350/\∀x∈L,0<=x/\x<n
instance (L:List Int) (n:Int):Decidable (eY L n):=inferInstanceAs (Decidable (_/\_))
def aV(T:List (List Int))(P:List Int):Prop:=
 2<=T.length/\T.length<=6/\1<=P.length/\P.length<=32767/\(∀ t∈T,t.length=(T.getD 0 []).length/\bK t)/\(∀ x∈P,0<=x/\x<(T.length:Int))/\3<=(T.getD 0 []).length
instance (T:List (List Int)) (P:List Int):Decidable (aV T P):=inferInstanceAs (Decidable (_/\_))
def fs(c g:List Nat):Nat:=(g.map fun x=>c.getD x 0).sum
theorem wL(c g:List Nat)(x:Nat):fs c (g++ [x])=fs c g+c.getD x 0:=by unfold fs;rw[Nz,List.sum_append];simp
def lz(C:List (List Nat))(g:List Nat):Nat->Nat×Nat
 | 0=>(0,0)
 | t+1=>if t=0\/fs (C.getD t []) g<(lz C g t).2 then(t,fs (C.getD t []) g)else lz C g t
def Iu(C:List (List Nat))(g:List Nat)(t b:Nat):Prop:=b<t/\(∀ j,j<t->fs (C.getD b []) g<=fs (C.getD j []) g)/\∀j,j<b->fs (C.getD b []) g<fs (C.getD j []) g
theorem Bg(C:List (List Nat))(g:List Nat):∀t,Iu C g (t+1) (lz C g (t+1)).1/\(lz C g (t+1)).2=fs (C.getD (lz C g (t+1)).1 []) g
 | 0=>by rw[lz,Nf (.inl rfl)];exact⟨⟨by omega,fun j hj=>by rw[show j=0 by omega];exact Nk _,fun j hj=>by omega⟩,rfl⟩
 | t+1=>by
  obtain⟨⟨h1,h2,h3⟩,h4⟩:=Bg C g t;rw[lz];by_cases e:fs (C.getD (t+1) []) g<(lz C g (t+1)).2
  ·rw[Nf (.inr e)];refine⟨⟨by omega,fun j hj=> ?_,fun j hj=> ?_⟩,rfl⟩
   ·by_cases ej:j=t+1;·rw[ej];exact Nk _
    ·have:=h2 j (by omega);show fs (C.getD (t+1) []) g<=_;omega
   ·have h0:j<t+1:=hj;have:=h2 j h0;show fs (C.getD (t+1) []) g<_;omega
  ·rw[Nd];refine⟨⟨by omega,fun j hj=> ?_,h3⟩,h4⟩;by_cases ej:j=t+1;·rw[ej];omega
   ·exact h2 j (by omega)
def eU(C:List (List Nat))(g:List Nat):Nat:=(lz C g C.length).1
theorem Bf(C:List (List Nat))(g:List Nat)(h:0<C.length):Iu C g C.length (eU C g):=by obtain⟨t,ht⟩:∃t,C.length=t+1:=⟨C.length-1,by omega⟩;unfold eU;rw[ht];exact(Bg C g t).1
def bI(L:List Nat)(k:Nat):List Nat:=(L.drop (50*k)).take 50
def eK(L P:List Nat)(t s q:Nat):Nat:=(List.range q).countP fun i=>decide (P.getD (i/50) 0=t/\L.getD i 0=s)
theorem mO(L P:List Nat)(t s q:Nat):eK L P t s (q+1)=eK L P t s q+if P.getD (q/50) 0=t/\L.getD q 0=s then 1 else 0:=by unfold eK;rw[Oh,QE,QM];simp only[PF]
theorem ie(L P:List Nat)(t s q:Nat):eK L P t s q<=q:=by unfold eK;exact ND PJ (Oi NE)
def em(L P:List Nat)(t s:Nat):Nat:=eK L P t s L.length
def aM(L P:List Nat)(t n:Nat):List Nat:=(List.range n).map (em L P t)
def yn(W:List Nat):List Nat:=W.map fun x=>max x 1
theorem ly(W:List Nat):gK (W.map fun(x:Nat)=>(x:Int))=yn W:=by
 unfold gK yn;apply Ob;intro i;by_cases h:i<W.length;·rw[Np,NJ (by simpa using h),Np,Nc h];simp only[Ov,rg];rw[Na,Np,Nc h];rfl
 ·rw[Nw (by simp;omega),Nw (by simp;omega)]
noncomputable def Mf (W:List Nat) (most:Nat):Nat->Nat:=Classical.epsilon fun len=>iG W most len
theorem ur{W:List Nat}{most:Nat}{len:Nat->Nat}(h:iG W most len):Mf W most=len:=Gs (Classical.epsilon_spec (p:=fun len=>iG W most len) ⟨len,h⟩) h
noncomputable def dH (W:List Nat):List Nat:=(List.range W.length).map (Mf (yn W) 17)
def mr(W:List Nat):List Nat:=(List.range W.length).map (bj (Nat.log2 W.length) (2^(Nat.log2 W.length+1)-W.length) (yn W))
theorem Ez{n k:Nat}(h1:2^k<=n)(h2:n<2^(k+1)):k=Nat.log2 n:=by have hn:n≠0:=(by have:0<2^k:=OE k;omega);have h3:Nat.log2 n<k+1:=(Nat.log2_lt hn).2 h2;(have h4:¬Nat.log2 n<k:=fun h=>by have:=(Nat.log2_lt hn).1 h;omega);omega
def Kz(n T:Nat):List (List Nat):=(List.range T).map fun t=>(List.range n).map fun s=>if s*T/n=t then 1 else 15
def jV(L:List Nat)(C:List (List Nat)):List Nat:=(List.range (aH L.length)).map fun k=>eU C (bI L k)
noncomputable def yG (L P:List Nat) (n T:Nat):List (List Nat):=(List.range T).map fun t=>dH (aM L P t n)
noncomputable def bF (L:List Nat) (n T:Nat):Nat->List (List Nat)×List Nat
 | 0=>(Kz n T,List.replicate (aH L.length) 0)
 | r+1=>(yG L (jV L (bF L n T r).1) n T,jV L (bF L n T r).1)
def gQ(T:List (List Nat))(P:List Nat):List Nat:=ah T.length 3++ah P.length 15++aI [0,1,2,3,4,5] P++T.flatMap bc
def dI(T:List (List Nat))(P L:List Nat)(q:Nat):List Nat:=(List.range q).flatMap fun i=>cV (T.getD (P.getD (i/50) 0) []) (L.getD i 0)
theorem ky(T:List (List Nat))(P L:List Nat)(q:Nat):dI T P L (q+1)=dI T P L q++cV (T.getD (P.getD (q/50) 0) []) (L.getD q 0):=by unfold dI;rw[Oh,OF];simp
theorem qr(w:World)(A:Option Addr)(n c:Nat)(L:List Int)(m:Int)(hL:ZIn w A n L)(hn:n<=maxLen):
 Calls prog 156 #[.slice A n c,.int .i64 m] w fun e w'=>e=.returned (.bool (decide (eY L m)))/\w'=w:=by
 unfold maxLen at hn;have he:=hL.1;have HL:=aa hL;have h8:=aa he;have h9:Hid (∀ x∈L,(x<0\/m<=x)->decide (eY L m)=false):=aa fun x hx h=>Nl fun hm=>by have:=hm.2.2.2.2 x hx;omega
 have h5:Hid (¬ (3<=m/\m<=258/\1<=n/\n<=1638350)->decide (eY L m)=false):=aa fun h=>Nl fun hm=>h ⟨hm.1,hm.2.1,by have:=hm.2.2.1;omega,by have:=hm.2.2.2.1;omega⟩;have h6:Hid ((∀ x∈L,0<=x/\x<m)->3<=m->m<=258->1<=n->n<=1638350->decide (eY L m)=true):=aa fun h h1 h2 h3 h4=>Nn ⟨h1,h2,by omega,by omega,h⟩;clear hL he;generalize decide (eY L m)=ans at*;go_enter func156,ntmps156;go_wp2_with fail;go_loopw [5] (fun i wx=>∃q:Nat,q<=n/\i=.int .i64 q/\Hid (∀ x∈L.take q,0<=x/\x<m)/\wx=w) (fun i _=>n-(intOf i).toNat)
 case atStart=>exact⟨0,Ng _,rfl,by simp[Hid],rfl⟩
 case round=>
  obtain⟨q,hq,rfl,hv,rfl⟩:=hrel;by_cases e:q<n
  ·have hi:(0:Int)<=(q:Int):=(by omega);have hj:(q:Int)<(n:Int):=(by omega);obtain⟨b,off,rfl,hc⟩:=HL.out.2 (by omega);have hh:=hc q e;have ha:=cK L q (by rw[h8.out];exact e);have h7:=dK L q (by rw[h8.out];exact e);obtain⟨x,hx⟩:∃x,x=L.getD q 0:=⟨_,rfl⟩;rw[<- hx]at hh ha h7;have hf:=aa ha;have HM:=aa h7;clear hc hx ha h7;by_cases e1:x<0;·have h0:=h9.out x HM.out (.inl e1);subst h0;go_wp2_with fail;go_ret;exact⟨rfl,rfl⟩
   ·by_cases e2:m<=x;·have h0:=h9.out x HM.out (.inr e2);subst h0;go_wp2_with fail;go_ret;exact⟨rfl,rfl⟩
    ·have hg:Hid (∀ y∈L.take (q+1),0<=y/\y<m):=aa (by
      rw[hf.out]
      intro y hy
      rcases List.mem_append.1 hy with hy|hy
      ·exact hv.out y hy
      ·rw[List.mem_singleton.1 hy]
       omega)
     go_wp2_with fail;go_roundw;case rel=>exact⟨q+1,by omega,by go_num,hg,trivial⟩
     case measure=>simp[intOf];omega
  ·obtain rfl:q=n:=(by omega);have hb:=hv.out;rw[Nr (Oi h8.out)]at hb;have HV:=aa hb;clear hb hv h9;by_cases h1:3<=m
   ·by_cases h2:m<=258
    ·by_cases h3:1<=q
     ·have d3:decide ((1:Int)<=(q:Int))=true:=bE;by_cases h4:q<=1638350;·have d4:decide ((q:Int)<=1638350)=true:=bE;have h0:=h6.out HV.out h1 h2 h3 h4;subst h0;clear h6 h5 HV h4;go_wp2_with fail;go_ret;exact⟨rfl,rfl⟩
      ·have d4:decide ((q:Int)<=1638350)=false:=aR;have h0:=h5.out (fun h=>h4 h.2.2.2);subst h0;clear h6 h5 HV h4;go_wp2_with fail;go_ret;exact⟨rfl,rfl⟩
     ·have d3:decide ((1:Int)<=(q:Int))=false:=aR;have h0:=h5.out (fun h=>h3 h.2.2.1);subst h0;go_wp2_with fail;go_ret;exact⟨rfl,rfl⟩
    ·have h0:=h5.out (fun h=>h2 h.2.1);subst h0;go_wp2_with fail;go_ret;exact⟨rfl,rfl⟩
   ·have h0:=h5.out (fun h=>h1 h.1);subst h0;go_wp2_with fail;go_ret;exact⟨rfl,rfl⟩
theorem jc(L:List Nat)(k:Nat):(bI L k).length=min 50 (L.length-50*k):=by unfold bI;rw[NB,Ny]
theorem G4(w:World)(A:Option Addr)(n c:Nat)(L:List Nat)(k:Nat)(hL:aB w A n L)(hb:n<=c)(hn:n<=2000000)(hk:50*k<n):
 Calls prog 159 #[.slice A n c,.int .i64 k] w fun e w'=>∃A2 c2,e=.returned (.slice A2 (bI L k).length c2)/\aB w A2 (bI L k).length (bI L k)/\(bI L k).length<=c2/\w'=w:=by
 have h0:=hL.1;obtain⟨m,hm⟩:∃m,m=(bI L k).length:=⟨_,rfl⟩;have h4:m=min 50 (n-50*k):=by rw[hm,jc,h0]
 obtain⟨b,off,rfl,_⟩:=hL.2 (by omega);obtain⟨lo,h1⟩:∃lo,lo=50*k:=⟨_,rfl⟩;have hc:(50:Int)*(k:Int)=(lo:Int):=by omega
 have hcut:=aB.cut (k:=m) (a:=lo) hL (by omega);have hp:(L.drop lo).take m=bI L k:=by
  unfold bI;rw[<- h1];by_cases e:m=50;·rw[e]
  ·rw[Nr (by rw[Ny];omega),Nr (by rw[Ny];omega)]
 rw[hp,Ov,OT]at hcut;rw[<- hm];have HC:=aa hcut;by_cases e:n<lo+50;·have d1:decide ((n:Int)<(lo:Int)+50)=true:=bE;have h8:(n:Int)-(lo:Int)=(m:Int):=(by omega);have h9:n-lo=m:=(by omega);have h2:(0:Int)<=(lo:Int):=(by omega);have h7:(lo:Int)<=(n:Int):=(by omega);have ha:(n:Int)<=(c:Int):=(by omega);clear hL hcut hp hm h4 h1 h0;go_enter func159,ntmps159;go_wp2_with fail;go_ret;exact⟨_,_,rfl,HC.out,by omega,rfl⟩
 ·obtain⟨hi,h5⟩:∃hi,hi=lo+50:=⟨_,rfl⟩;have he:(lo:Int)+50=(hi:Int):=(by omega);have d1:decide ((n:Int)<(hi:Int))=false:=aR;have h8:(hi:Int)-(lo:Int)=(m:Int):=(by omega);have h9:hi-lo=m:=(by omega);have h2:(0:Int)<=(lo:Int):=(by omega);have h3:(lo:Int)<=(hi:Int):=(by omega);have h6:(hi:Int)<=(c:Int):=(by omega);clear hL hcut hp hm h4 h1 h0 h5;go_enter func159,ntmps159;go_wp2_with fail;go_ret;exact⟨_,_,rfl,HC.out,by omega,rfl⟩
theorem AQ(C:Nat->List Nat)(T t:Nat)(h:t<T):((List.range T).map C).getD t []=C t:=by rw[Na,Np,NJ h];rfl
theorem Ev(c g:List Nat)(M:Nat)(h:∀x∈g,c.getD x 0<=M):fs c g<=M*g.length:=by
 unfold fs
 have:=vg M (g.map fun x=>c.getD x 0) (fun y hy=>by
  obtain⟨x,hx,rfl⟩:=List.mem_map.1 hy
  exact h x hx)
 rw[Nu]at this;exact this
theorem G5(w:World)(g T n:Nat)(C:Nat->List Nat)(hT:vv w g T C)(h1:1<=T)(hB:T<=6)(hn:n<=258)(hC:∀t,t<T->(C t).length=n/\∀x∈C t,x<=1000)
 (A:Option Addr) (m c:Nat) (G:List Nat) (hG:aB w A m G) (hm:m<=50) (he:∀x∈G,x<n):
 Calls prog 158 #[.slice (some ⟨g,0,none⟩) T T,.slice A m c] w fun e w'=>e=.returned (.int .i64 (eU ((List.range T).map C) G:Nat))/\∃d,w'=w.drewN d:=by
 have hl:=hG.1;obtain⟨p,hp⟩:∃p:Nat->Nat×Nat,p=lz ((List.range T).map C) G:=⟨_,rfl⟩;have h7:eU ((List.range T).map C) G=(p T).1:=by unfold eU;rw[hp];simp
 rw[h7];have h2:Hid (∀ t,t<T->p (t+1)=if t=0\/fs (C t) G<(p t).2 then(t,fs (C t) G)else p t):=aa fun t ht=>by rw[hp,lz,AQ C T t ht]
 have HZ:Hid (p 0=(0,0)):=aa (by rw[hp];rfl)
 have HB:Hid (∀ t,t<=T->(p t).2<=50000):=aa (by
  intro t ht
  induction t with
  | zero=>rw[hp];exact Ng _
  | succ t ih=>
    rw[h2.out t (by omega)]
    have h3:=Ev (C t) G 1000 (fun x hx=>(hC t (by omega)).2 _ (by
     rw[Na,Nc (by rw[(hC t (by omega)).1];exact he x hx)]
     exact NM _))
    split
    ·show fs (C t) G<=50000
     omega
    ·exact ih (by omega))
 have HT:=aa hT;have HG:=aa hG;have HC:=aa hC;have hr:=aa he;have hb:=aa hl;clear hT hG hC he hl hp h7;go_enter func158,ntmps158;go_wp2_with fail;go_loopw [5,6,7,8,9] (fun bv lv tv s8 s9 wx=>∃(t b l:Nat),t<=T/\tv=.int .i64 t/\bv=.int .i64 b/\lv=.int .i64 l/\Hid (p t=(b,l))/\∃d,wx=w.drewN d) (fun _ _ tv _ _ _=>T-(intOf tv).toNat)
 case atStart=>exact⟨0,0,0,Ng _,rfl,rfl,rfl,HZ.out,0,rfl⟩
 case round=>
  rename World=>w1;obtain⟨t,b,l,ht,rfl,rfl,rfl,ho,hd⟩:=hrel;have HD:=aa hd;by_cases e:t<T
  ·have hI:(0:Int)<=(t:Int):=(by omega);have hJ:(t:Int)<(T:Int):=(by omega);clear hd;go_wp2_with fail;(go_loopw [8,9] (fun sv iv' wx=>∃(i s:Nat),i<=m/\iv'=.int .i64 i/\sv=.int .i64 s/\Hid (s=fs (C t) (G.take i))/\s<=1000*i/\∃d,wx=w.drewN d) (fun _ iv' _=>m-(intOf iv').toNat));case atStart=>exact⟨0,0,Ng _,rfl,rfl,rfl,Ng _,HD.out⟩
   case round=>
    rename World=>w2;obtain⟨i,s,hi,rfl,rfl,hs,hF,h5⟩:=hrel;have h9:=aa h5;by_cases e2:i<m
    ·have hD:(0:Int)<=(i:Int):=(by omega);have hE:(i:Int)<(m:Int):=(by omega);obtain⟨A1,k1,hf,hg,hv⟩:=HT.out t e;obtain⟨gb,go,rfl,hj⟩:=HG.out.2 (by omega);have hx:=hj i e2
     have hA:G.getD i 0<n:=hr.out _ (by
      rw[Na,Nc (by rw[hb.out];exact e2)]
      exact NM _)
     have hq:fs (C t) (G.take (i+1))=fs (C t) (G.take i)+(C t).getD (G.getD i 0) 0:=(by rw[pP (by rw[hb.out];exact e2),wL]);generalize G.getD i 0=x at*;have hc:=HC.out t e;obtain⟨cb,co,rfl,hh⟩:=hg.2 (by omega);have hy:=hh x (by omega)
     have hM:(C t).getD x 0<=1000:=hc.2 _ (by
      rw[Na,Nc (by rw[hc.1];exact hA)]
      exact NM _)
     generalize (C t).getD x 0=y at*;obtain⟨k,hk⟩:∃k,k=(C t).length:=⟨_,rfl⟩;rw[<- hk]at hf;have q0:w2.cell? ⟨g,t,none⟩=some (.slice (some ⟨cb,co,none⟩) k k1):=(by obtain⟨d,rfl⟩:=h5;exact hf);have q1:w2.cell? ⟨gb,go+i,none⟩=some (.int .i64 x):=(by obtain⟨d,rfl⟩:=h5;exact hx);have q2:w2.cell? ⟨cb,co+x,none⟩=some (.int .i64 y):=(by obtain⟨d,rfl⟩:=h5;exact hy);obtain⟨s2,h6⟩:∃s2:Nat,s2=s+y:=⟨_,rfl⟩;have hH:(s:Int)+(y:Int)=(s2:Int):=(by omega);have h8:s2<=1000*(i+1):=(by omega);have HS2:Hid (s2=fs (C t) (G.take (i+1))):=aa (by rw[hq,h6,hs.out]);have hK:(0:Int)<=(x:Int):=(by omega);have hL:(x:Int)<(k:Int):=(by omega);have hu:=aa h8;have hz:s2<=60000:=(by omega);clear hf hg hv hj hx hq hh hy h6 h5 hk hc h8;go_upto_region 10 with fail;go_quiet (fail);go_wp2_with fail;go_roundw;case rel=>obtain⟨d,hw⟩:=h9.out;exact⟨i+1,s2,by omega,by go_num,rfl,HS2,hu.out,d+nq,by rw[hw];simp⟩
     case measure=>simp[intOf];omega
    ·obtain rfl:i=m:=(by omega);have h6:=hs.out;rw[Nr (Oi hb.out)]at h6;have ha:=h2.out t e;rw[ho.out,<-h6]at ha;dsimp only at ha;have h4:=aa ha;clear hs h6 ha h5;by_cases h0:t=0
     ·have d0:((t:Int)==0)=true:=(by rw[h0];rfl);have HP:Hid (p (t+1)=(t,s)):=aa (by rw[h4.out,Nf (.inl h0)]);clear h0 h4;go_wp2_with fail;go_roundw;case rel=>exact⟨t+1,t,s,by omega,by go_num,rfl,rfl,HP,h9.out⟩
      case measure=>simp[intOf];omega
     ·have d0:((t:Int)==0)=false:=(by rw[NC];omega);by_cases h3:s<l
      ·have HP:Hid (p (t+1)=(t,s)):=aa (by rw[h4.out,Nf (.inr h3)]);clear h4;go_wp2_with fail;go_roundw;case rel=>exact⟨t+1,t,s,by omega,by go_num,rfl,rfl,HP,h9.out⟩
       case measure=>simp[intOf];omega
      ·have HP:Hid (p (t+1)=(b,l)):=aa (by rw[h4.out,Nd]);clear h4;go_wp2_with fail;go_roundw;case rel=>exact⟨t+1,b,l,by omega,by go_num,rfl,rfl,HP,h9.out⟩
       case measure=>simp[intOf];omega
  ·obtain rfl:t=T:=(by omega);clear hd;go_wp2_with fail;go_ret;exact⟨by rw[ho.out];rfl,HD.out⟩
theorem se(w:World)(A:Option Addr)(m c:Nat)(L:List Nat)(hL:aB w A m L)(hm:m<=2000000)(B:Option Addr)(g d:Nat)(P:List Nat)(hP:aB w B g P)(hg:m<=50*g)
 (t n:Nat) (hn:n<=258) (h8:∀x∈L,x<n):
 Calls prog 161 #[.slice A m c,.slice B g d,.int .i64 t,.int .i64 n] w fun e w'=>e=.returned (.slice (some ⟨w.heap.size,0,none⟩) n n)/\az w' w.heap.size w.heap.size n n (em L P t)/\Below w.heap.size w w':=by
 have ha:=hL.1;have ho:=bu w n (by omega);have HM:=aa (bf w w.heap.size n (ag _) (by omega));have h5:=aa ((Nj w.heap.size w).alloc (ag _) (.cells (madeCells #[.int .i64 0] n) 3));have HL:=aa hL;have HP:=aa hP;have hh:=aa h8;have h7:=aa ha;clear hL hP h8 ha;go_enter func161,ntmps161;go_wp2_with fail;go_loopw [10] (fun iv' wx=>∃i:Nat,i<=m/\iv'=.int .i64 i/\az wx w.heap.size w.heap.size n n (fun s=>eK L P t s i)/\Below w.heap.size w wx) (fun iv' _=>m-(intOf iv').toNat)
 case atStart=>exact⟨0,Ng _,rfl,HM.out,h5.out⟩
 case round=>
  clear HM h5 ho;obtain⟨i,hi,rfl,hf,hb⟩:=hrel;by_cases e:i<m
  ·have hq:(0:Int)<=(i:Int):=(by omega);have hr:(i:Int)<(m:Int):=(by omega);obtain⟨lb,lo,rfl,h3⟩:=HL.out.2 (by omega);obtain⟨pb,po,rfl,h4⟩:=HP.out.2 (by omega);obtain⟨k,hk⟩:∃k,k=i/50:=⟨_,rfl⟩;have hu:(i:Int)/50=(k:Int):=(by omega);have h9:k<g:=(by omega);have ht:(0:Int)<=(k:Int):=(by omega);have hj:(k:Int)<(g:Int):=(by omega);have c1:=(hb.cell (p:=⟨pb,po+k,none⟩) (No w _ (h4 k h9))).trans (h4 k h9);have c2:=(hb.cell (p:=⟨lb,lo+i,none⟩) (No w _ (h3 i e))).trans (h3 i e);have h1:=fun s=>mO L P t s i
   have he:L.getD i 0<n:=hh.out _ (by
    rw[Na,Nc (by rw[h7.out];exact e)]
    exact NM _)
   rw[<- hk]at h1;obtain⟨x,hx⟩:∃x,x=L.getD i 0:=⟨_,rfl⟩;obtain⟨y,hy⟩:∃y,y=P.getD k 0:=⟨_,rfl⟩;rw[<- hx]at c2 h1 he;rw[<- hy]at c1 h1;have h6:=aa h1;by_cases e2:y=t
   ·subst e2;have d2:((y:Int)==(y:Int))=true:=O9 _;have c3:=hf.cell x he;have f3:=hf.frozen x;have hl:=ie L P y x i;obtain⟨v,hv⟩:∃v,v=eK L P y x i:=⟨_,rfl⟩;rw[<- hv]at c3 hl;obtain⟨v1,hc⟩:∃v1,v1=v+1:=⟨_,rfl⟩;have hw:(v:Int)+1=(v1:Int):=(by omega);have hs:=hf.set x v1;have h0:(fun s=>if s=x then v1 else eK L P y s i)=fun s=>eK L P y s (i+1):=by
     funext s;rw[h6.out s];by_cases es:s=x;·rw[Nf es,Nf ⟨rfl,es.symm⟩,es,<-hv,hc]
     ·rw[Nd es,Nd (fun h=>es h.2.symm),NY]
    rw[h0]at hs;have HS:=aa hs;have h2:=aa (hb.setCell (p:=⟨w.heap.size,x,none⟩) (ag _) (.int .i64 (v1:Nat)));have hz:(0:Int)<=(x:Int):=(by omega);have hp:(x:Int)<(n:Int):=(by omega);clear hf hb h3 h4 h1 hx hy hv hc hs h0 hk;go_wp2_with fail;go_roundw;case rel=>exact⟨i+1,by omega,by go_num,HS.out,h2.out⟩
    case measure=>simp[intOf];omega
   ·have d2:((y:Int)==(t:Int))=false:=(by rw[NC];omega);have h0:(fun s=>eK L P t s i)=fun s=>eK L P t s (i+1):=(by funext s;rw[h6.out s,Nd (fun h=>e2 h.1),NY]);rw[h0]at hf;have HS:=aa hf;have h2:=aa hb;clear hf hb h3 h4 h1 hx hy h0 hk;go_wp2_with fail;go_roundw;case rel=>exact⟨i+1,by omega,by go_num,HS.out,h2.out⟩
    case measure=>simp[intOf];omega
  ·obtain rfl:i=m:=(by omega);have h0:(fun s=>eK L P t s i)=em L P t:=(by funext s;unfold em;rw[h7.out]);rw[h0]at hf;have HS:=aa hf;have h2:=aa hb;clear hf hb h0;go_wp2_with fail;go_ret;exact⟨rfl,HS.out,h2.out⟩
def vw(w:World)(A:Option Addr)(n:Nat)(T:List (List Int)):Prop:=
 T.length=n/\(0<n->∃b off,A=some ⟨b,off,none⟩/\∀i,i<n->∃A2 c2,w.cell? ⟨b,off+i,none⟩=some (.slice A2 (T.getD i []).length c2)/\ZIn w A2 (T.getD i []).length (T.getD i [])/\(T.getD i []).length<=c2/\(T.getD i []).length<=maxLen)
theorem vw.below{w w':World}{A:Option Addr}{n:Nat}{T:List (List Int)}(h:vw w A n T)(hb:Below w.heap.size w w'):vw w' A n T:=by refine⟨h.1,fun hn=> ?_⟩;obtain⟨b,off,rfl,hc⟩:=h.2 hn;refine⟨b,off,rfl,fun i hi=> ?_⟩;obtain⟨A2,c2,h1,h2,h3,h4⟩:=hc i hi;exact⟨A2,c2,(hb.cell (p:=⟨b,off+i,none⟩) (No w _ h1)).trans h1,h2.below hb,h3,h4⟩
def aJ(w:World)(v:Value)(T:List (List Int))(P:List Int):Prop:=
 ∃A n c B m d,v=.agg #[.slice A n c,.slice B m d]/\vw w A n T/\n<=c/\n<=maxLen/\ZIn w B m P/\m<=d/\m<=maxLen
theorem aJ.below{w w':World}{v:Value}{T:List (List Int)}{P:List Int}(h:aJ w v T P)(hb:Below w.heap.size w w'):aJ w' v T P:=by obtain⟨A,n,c,B,m,d,h0,h1,h2,h3,h4,h5⟩:=h;exact⟨A,n,c,B,m,d,h0,h1.below hb,h2,h3,h4.below hb,h5⟩
def bP(w:World)(ans:List (List Int)×List Int×Nat)(e:Ending)(w':World):Prop:=
 ∃v,e=.returned (.tuple #[v,.int .i64 ans.2.2])/\aJ w' v ans.1 ans.2.1/\Below w.heap.size w w'
theorem GO(w:World):aJ w (.agg #[.slice none 0 0,.slice none 0 0]) [] []:=
 ⟨none,0,0,none,0,0,rfl,⟨rfl,fun h=>absurd h (Rc _)⟩,Nk _,by unfold maxLen;omega,⟨rfl,fun h=>absurd h (Rc _)⟩,Nk _,by unfold maxLen;omega⟩
def zL(l:List Nat):List Int:=l.map fun(x:Nat)=>(x:Int)
def gu(L:List Int):List Nat:=L.map Int.toNat
noncomputable def aG (L:List Int) (m:Int):List (List Int)×List Int×Nat:=
 if eY L m then(((bF (gu L) m.toNat (bQ L.length) 4).1.map zL),zL (bF (gu L) m.toNat (bQ L.length) 4).2,0)else([], [],2)
structure yT (w w2 wx:World) (B g n t s:Nat) (F:Nat->Value) (x:List Nat):Prop where
 row:∃A cap,wx.ownsRow w2.heap.size 3 1 (.slice A s cap) s (x.map iv)/\wx.ownsRow B 37 1 (.slice (some ⟨g,0,none⟩) n n) n ((List.range n).map fun j=>if j=t then .slice A s cap else F j)
 keep:∀k,k<w2.heap.size->k≠g->wx.heap[k]? =w2.heap[k]?
 below:Below w.heap.size w wx
 size:w2.heap.size<=wx.heap.size
theorem C4{w w2 wx:World}{B g n t s:Nat}{F:Nat->Value}{x:List Nat}(hB:w.heap.size<=B)(hm:w.heap.size<=w2.heap.size)(h:yT w w2 wx B g n t s F x)(ht:t<n)(hs:s<=1000)(c:Nat):
 ∃A cap A3 cap3 w3,wx.cell? ⟨g,t,none⟩=some (.slice A s cap)/\(Builtin.append_ #[37,37] 37 #[.slice A s cap,.slice (some ⟨wx.heap.size,0,none⟩) 1 1]).run prog (wx.alloc (.cells #[.int .i64 c] 3))=.ok (.slice A3 (s+1) cap3) w3/\
  (∃ u,w3.cell? ⟨g,t,none⟩=some u)/\w3.frozen? ⟨g,t,none⟩=false/\yT w w2 (w3.setCell ⟨g,t,none⟩ (.slice A3 (s+1:Nat) cap3)) B g n t (s+1) F (x++ [c]):=by
 obtain⟨A,cap,h1,h2⟩:=h.row;obtain⟨i3,h3,hf,hh,hi⟩:=N4 Tryz.info3
 obtain⟨v2,w3,hr,ho,hg,_,hl⟩:=P1 (P:=prog) (wx.alloc (.cells #[.int .i64 c] 3)) w2.heap.size 37 37 3 i3 (.int .i64 0) 1 8 underlying37 h3 hf hh hi rfl (by decide) _ _ _ (h1.alloc _) ⟨wx.heap.size,0,none⟩ 1 1 [iv c] rfl (bV wx (iv c) 3)
  (fun u hu=>by rw[List.mem_singleton.1 hu];rfl) (by unfold maxLen;omega) (by omega) (by have:=h.size;simp;omega)
 obtain⟨A3,cap3,rfl,_,_,_⟩:=ai ho;have hc:=NS h2 g rfl;have he:(Value.slice A s cap).ownBlock≠some g:=by intro e;obtain⟨c1,f1,e1⟩:=Lib.ownsRow_kind h1 g e;obtain⟨c2,f2,e2⟩:=Lib.ownsRow_kind h2 g rfl;rw[e2]at e1;simp at e1
 have h5:w3.ownsRow B 37 1 (.slice (some ⟨g,0,none⟩) n n) n ((List.range n).map fun j=>if j=t then .slice A s cap else F j):=OU (h2.alloc _) hg (.inr (fun e=>he e.symm));have h4:=Oy h2 t (by omega);have h0:=Oy h5 t (by omega);rw[Np,NJ ht]at h4 h0;simp only[Ov,if_true]at h4 h0;have h8:=Qo h5 t (.slice A3 (s+1:Nat) cap3);have h7:((List.range n).map fun j=>if j=t then(.slice A s cap)else F j).set t (.slice A3 (s+1:Nat) cap3)=(List.range n).map fun j=>if j=t then(.slice A3 (s+1:Nat) cap3)else F j:=by
  apply Ob;intro j;rw[QQ];by_cases e:t=j;·subst e;simp[ht]
  ·have e':¬j=t:=fun k=>e k.symm;rw[Nd e,Np,Np];by_cases hj:j<n;·rw[NJ hj];simp[e']
   ·rw[Nw (by rw[NE];omega)];rfl
 rw[h7]at h8;have h6:(w3.setCell ⟨g,t,none⟩ (.slice A3 (s+1:Nat) cap3)).ownsRow w2.heap.size 3 1 (.slice A3 (s+1) cap3) (s+1) ((x++ [c]).map iv):=by have ha:=ho;rw[show x.map iv++ [iv c]=(x++ [c]).map iv by simp]at ha;refine ha.kept h8.2 (.inr fun e=> ?_);obtain⟨c1,f1,e1⟩:=Lib.ownsRow_kind ho g e;obtain⟨c2,f2,e2⟩:=Lib.ownsRow_kind h5 g rfl;rw[e2]at e1;simp at e1
 have hz:=h.size;have hb:(wx.alloc (.cells #[.int .i64 c] 3)).heap.size<=w3.heap.size:=hg.size;refine⟨A,cap,A3,cap3,w3,h4,hr,⟨_,h0⟩,QD h5 t,⟨⟨A3,cap3,h6,h8.1⟩,?_,?_,?_⟩⟩
 ·intro k hk h9;rw[OK w3 ⟨g,t,none⟩ _ k h9]
  rw[hg.block k (by simp;omega) (by
   intro e
   have:=(NS h1 k e.symm).1
   omega)]
  exact(O8 wx _ k (by omega)).trans (h.keep k hk h9)
 ·exact((h.below.alloc h.below.size _).grown hg (by have:=h.below.size;simp;omega) (fun k hk=>by
   have:=(NS h1 k hk).1
   omega)).setCell (p:=⟨g,t,none⟩) (by have:=hc.1;show w.heap.size<=g;omega) _
 ·simp at hb;show w2.heap.size<=(w3.setCell _ _).heap.size;simp;omega
structure Cc (w:World) (B g n:Nat) (C:Nat->List Nat) (F:Nat->Value):Prop where
 own:w.ownsRow B 37 1 (.slice (some ⟨g,0,none⟩) n n) n ((List.range n).map F)
 rows:∀j,j<n->(∃ A k,F j=.slice A (C j).length k/\(C j).length<=k)/\w.ownsRow B 3 1 (F j) (C j).length ((C j).map iv)/\∀b,(F j).ownBlock=some b->b<w.heap.size/\b≠g
theorem Ax{w w2:World}{B g n t:Nat}{C:Nat->List Nat}{F:Nat->Value}(h:Cc w2 B g n C F)(ht:F t=.slice none 0 0)(hb:Below w.heap.size w w2):yT w w2 w2 B g n t 0 F []:=by
 refine⟨⟨none,0,Nt _ _ _ _,?_⟩,fun _ _ _=>rfl,hb,Nk _⟩;have e:(fun j=>if j=t then Value.slice none 0 0 else F j)=F:=by
  funext j;by_cases e:j=t;·rw[Nf e,e,ht]
  ·rw[Nd e]
 rw[e];exact h.own
theorem C5{w w2 wx:World}{B g n t s:Nat}{F:Nat->Value}{C:Nat->List Nat}{x:List Nat}(hB:B<=w2.heap.size)(hF:Cc w2 B g n C F)(h:yT w w2 wx B g n t s F x)(hx:x.length=s):
 ∃v,Cc wx B g n (fun j=>if j=t then x else C j) fun j=>if j=t then v else F j:=by
 obtain⟨A,cap,h1,h2⟩:=h.row;refine⟨.slice A s cap,h2,fun j hj=> ?_⟩;obtain⟨A3,c3,e3,h0,_⟩:=ai h1;simp only[Ol]at e3;obtain⟨rfl,_,rfl⟩:=e3;by_cases e:j=t
 ·refine⟨⟨A,cap,?_,?_⟩,?_,?_⟩;·simp only[Nf e,hx]
  ·simp only[Nf e];omega
  ·simp only[Nf e,hx];exact World.ownsRow.mono h1 hB
  ·simp only[Nf e];intro b hb;refine⟨(NS h1 b hb).2,fun eb=> ?_⟩;obtain⟨c1,f1,e1⟩:=Lib.ownsRow_kind h1 b hb;obtain⟨c2,f2,e2⟩:=Lib.ownsRow_kind h2 g rfl;rw[eb,e2]at e1;simp at e1
 ·obtain⟨⟨A2,k2,a,b⟩,c,d⟩:=hF.rows j hj;refine⟨⟨A2,k2,?_,?_⟩,?_,?_⟩;·simp only[Nd e];exact a
  ·simp only[Nd e];exact b
  ·simp only[Nd e];refine⟨c.1,?_⟩;rcases c.2 with h3|⟨g3,cap3,cur,hv,hg,hh,rest⟩;·exact .inl h3
   ·have h5:=d g3 (by rw[hv];rfl);exact .inr ⟨g3,cap3,cur,hv,hg,(h.keep g3 h5.1 h5.2).trans hh,rest⟩
  ·simp only[Nd e];intro b hb;have:=d b hb;have hz:=h.size;exact⟨by omega,this.2⟩
theorem pU(w:World)(n:Nat)(hn:n<=1000):(Instr.makeSlice 41 (.int .i64 n) (.int .i64 n)).run prog w=.ok (.slice (some ⟨w.heap.size,0,none⟩) n n) (w.alloc (.cells (madeCells #[.slice none 0 0] n) 37)):=by obtain⟨i2,h2,h0⟩:=Option.map_eq_some_iff.1 qZ;simp only[Ps]at h0;obtain⟨h1,h3,h4⟩:=h0;have h:=Qv (P:=prog) w 41 37 i2 (.slice none 0 0) underlying41 h2 h1 .i64 .i64 (n:Int) (n:Int) (by omega) (by omega) (by rw[h4];omega) (by omega);rw[h3,Nv,Oc]at h;exact h
theorem vh(w:World)(B n:Nat)(hB:B<=w.heap.size)(hn:n<=1000):Cc (w.alloc (.cells (madeCells #[.slice none 0 0] n) 37)) B w.heap.size n (fun _=> []) fun _=>.slice none 0 0:=by refine⟨⟨by simp,.inr ⟨w.heap.size,n,_,rfl,hB,PC w _,Nk _,by unfold maxLen;omega,by rw[Ro,Oc],?_⟩⟩,fun j _=>⟨⟨none,0,rfl,Nk _⟩,Nt _ _ _ _,fun b hb=>by simp[Value.ownBlock]at hb⟩⟩;rw[PX,Oc,Nr (by simp),PI,NE]
def eO(m T t s:Nat):Nat:=if s*T/m=t then 1 else 15
def iH(w:World)(B g n:Nat)(C:Nat->List Nat)(b:Nat):Prop:=∃F:Nat->Value,w.ownsRow B 37 1 (.slice (some ⟨g,0,none⟩) n n) n ((List.range n).map F)/\
 ∀j,j<n->∃A k,F j=.slice A (C j).length k/\(C j).length<=k/\w.ownsRow B 3 1 (F j) (C j).length ((C j).map iv)/\(F j).ownBlock≠some b
theorem iH.tabW{w:World}{B g n b:Nat}{C:Nat->List Nat}(h:iH w B g n C b):dC w B g n C:=by obtain⟨F,h1,h2⟩:=h;refine⟨F,h1,fun j hj=> ?_⟩;obtain⟨A,k,x,y,z,_⟩:=h2 j hj;exact⟨A,k,x,y,z⟩
theorem Cc.tabX{w:World}{B g n:Nat}{C:Nat->List Nat}{F:Nat->Value}(h:Cc w B g n C F){b:Nat}(hb:w.heap.size<=b):iH w B g n C b:=by refine⟨F,h.own,fun j hj=> ?_⟩;obtain⟨⟨A,k,x,y⟩,c,d⟩:=h.rows j hj;refine⟨A,k,x,y,c,fun e=> ?_⟩;have:=(d b e).1;omega
theorem iH.same{w:World}{B g n b:Nat}{C D:Nat->List Nat}(h:iH w B g n C b)(hs:∀j,j<n->C j=D j):iH w B g n D b:=by obtain⟨F,h1,h2⟩:=h;refine⟨F,h1,fun j hj=> ?_⟩;rw[<- hs j hj];exact h2 j hj
theorem iH.step{w w':World}{B B' g n b:Nat}{C:Nat->List Nat}(h:iH w B g n C b)(hs:ak B' [] [] w w'):iH w' B g n C b:=by obtain⟨F,h1,h2⟩:=h;refine⟨F,hs.row h1 (fun _ _=>aw) aw,fun j hj=> ?_⟩;obtain⟨A,k,x,y,z,u⟩:=h2 j hj;exact⟨A,k,x,y,hs.row z (fun _ _=>aw) aw,u⟩
theorem iH.other{w:World}{B g n b B2 m c:Nat}{f C}(h:iH w B g n C b)(hb:az w B2 b c m f)(i:Nat)(v:Value):iH (w.setCell ⟨b,i,none⟩ v) B g n C b:=by
 obtain⟨F,h1,h2⟩:=h;have h0:b≠g:=by intro e;obtain⟨c1,f1,e1⟩:=Lib.ownsRow_kind hb b rfl;obtain⟨c2,f2,e2⟩:=Lib.ownsRow_kind h1 g rfl;rw[e,e2]at e1;simp at e1
 have hs:ak 0 [b] [] w (w.setCell ⟨b,i,none⟩ v):=(ak.refl 0 [b] [] w).set (p:=⟨b,i,none⟩) (Ng _) (by simp) v;refine⟨F,hs.row h1 (fun k hk=> ?_) aw,fun j hj=> ?_⟩;·simp[Value.ownBlock]at hk;simp;omega
 ·obtain⟨A,k,x,y,z,u⟩:=h2 j hj;refine⟨A,k,x,y,hs.row z (fun k2 hk2=> ?_) aw,u⟩;rw[Og];intro e;exact u (by rw[hk2,e])
theorem iH.set{w:World}{B g n b:Nat}{C:Nat->List Nat}(h:iH w B g n C b)(i:Nat){A:Option Addr}{k:Nat}{L:List Nat}(hL:w.ownsRow B 3 1 (.slice A L.length k) L.length (L.map iv))(hk:L.length<=k)(hb:(Value.slice A L.length k).ownBlock≠some b):
 iH (w.setCell ⟨g,i,none⟩ (.slice A L.length k)) B g n (fun j=>if j=i then L else C j) b:=by
 obtain⟨F,h1,h2⟩:=h;have h3:=Qo h1 i (.slice A L.length k);have h0:((List.range n).map F).set i (.slice A L.length k)=(List.range n).map fun j=>if j=i then(.slice A L.length k)else F j:=by
  apply Ob;intro j;rw[QQ];by_cases e:i=j
  ·subst e;by_cases hj:i<n;·simp[hj]
   ·simp[hj]
  ·have e':¬j=i:=fun k=>e k.symm;rw[Nd e,Np,Np];by_cases hj:j<n;·rw[NJ hj];simp[e']
   ·rw[Nw (by rw[NE];omega)];rfl
 rw[h0]at h3;have keep:∀(v:Value) (m:Nat) (xs:List Value),w.ownsRow B 3 1 v m xs->(w.setCell ⟨g,i,none⟩ (.slice A L.length k)).ownsRow B 3 1 v m xs:=by intro v m xs hv;refine hv.kept h3.2 (.inr fun e=> ?_);obtain⟨c1,f1,e1⟩:=Lib.ownsRow_kind hv g e;obtain⟨c2,f2,e2⟩:=Lib.ownsRow_kind h1 g rfl;rw[e1]at e2;simp at e2
 refine⟨_,h3.1,fun j hj=> ?_⟩;by_cases e:j=i
 ·refine⟨A,k,?_,?_,?_,?_⟩;·simp only[Nf e]
  ·simp only[Nf e];exact hk
  ·simp only[Nf e];exact keep _ _ _ hL
  ·simp only[Nf e];exact hb
 ·obtain⟨A2,k2,x,y,z,u⟩:=h2 j hj;refine⟨A2,k2,?_,?_,?_,?_⟩;·simp only[Nd e];exact x
  ·simp only[Nd e];exact y
  ·simp only[Nd e];exact keep _ _ _ z
  ·simp only[Nd e];exact u
theorem az.keep{w:World}{B B2 g n b c m:Nat}{C:Nat->List Nat}{f:Nat->Nat}(hb:az w B2 b c m f)(h:iH w B g n C b)(i:Nat)(v:Value):az (w.setCell ⟨g,i,none⟩ v) B2 b c m f:=by obtain⟨F,h1,_⟩:=h;refine hb.other (fun e=> ?_) i v;obtain⟨c1,f1,e1⟩:=Lib.ownsRow_kind hb b rfl;obtain⟨c2,f2,e2⟩:=Lib.ownsRow_kind h1 g rfl;rw[<- e,e2]at e1;simp at e1
