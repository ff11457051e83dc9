import Derived.Test.YtepokmggbfoakaaGreatDoorT09
set_option maxHeartbeats 6400000
set_option maxRecDepth 100000
namespace Go.Proofs.YtepokmggbfoakaaGreatDoor
open _root_.Go.Proofs.Tryz
def eu(l:List Nat)(k:Nat):List Nat:=l.getD k 0::(l.take k++l.drop (k+1))
def aS:List Nat->Nat->Nat
 | [],_=>0
 | y::l,x=>if y=x then 0 else aS l x+1
theorem fH:∀(l:List Nat) (x:Nat),x∈l->aS l x<l.length/\l.getD (aS l x) 0=x
 | [],x,h=>by cases h
 | y::l,x,h=>by
  by_cases e:y=x;·subst e;simp[aS]
  ·have hx:x∈l:=by
    rcases List.mem_cons.1 h with h|h;·exact absurd h.symm e
    ·exact h
   have ih:=fH l x hx;rw[aS,Nf e,Nv];exact⟨by omega,ih.2⟩
theorem gv{l:List Nat}{k:Nat}(hk:k<l.length):(eu l k).length=l.length:=by unfold eu;rw[Nv,Nc,Nz,Nq];omega
def Low(T:Nat)(l:List Nat):Prop:=T<=l.length/\∀x,x<T->aS l x<T/\x∈l
theorem uA:∀(l:List Nat) (T x:Nat),x∈l.take T->aS l x<T
 | [],T,x,h=>by simp at h
 | y::l,0,x,h=>by simp at h
 | y::l,T+1,x,h=>by
  by_cases e:y=x;·rw[aS,Ng e];omega
  ·rw[Ph]at h;rcases List.mem_cons.1 h with h|h;·exact absurd h.symm e
   ·rw[aS,Nf e];have:=uA l T x h;omega
theorem uX:∀(l:List Nat) (T x:Nat),x∈l->aS l x<T->x∈l.take T
 | [],T,x,h,_=>by cases h
 | y::l,0,x,_,h=>by omega
 | y::l,T+1,x,h,hp=>by
  rw[Ph];by_cases e:y=x;·rw[e];exact Nl ..
  ·rcases List.mem_cons.1 h with h|h;·exact absurd h.symm e
   ·rw[aS,Nf e]at hp;exact Nu _ (uX l T x h (by omega))
theorem Low.move{T:Nat}{l:List Nat}(h:Low T l){x:Nat}(hx:x<T):Low T (eu l (aS l x)):=by
 obtain⟨h1,h2⟩:=h;have hp:=fH l x (h2 x hx).2;have h5:=(h2 x hx).1;refine⟨by rw[gv hp.1];exact h1,fun y hy=> ?_⟩;have h0:y∈(eu l (aS l x)).take T:=by
  unfold eu;rw[hp.2];obtain⟨S,rfl⟩:∃S,T=S+1:=⟨T-1,by omega⟩;rw[Ph];by_cases e:y=x;·rw[e];exact Nl ..
  ·refine Nu _ ?_;have h4:=uX l (S+1) y (h2 y hy).2 (h2 y hy).1;rw[List.take_append,Nz,Oh (by omega),Rs,PD (by omega)];have e2:l.take (S+1)=l.take (aS l x)++(x::(l.drop (aS l x+1)).take (S-aS l x)):=(by have h3:S+1=aS l x+(1+(S-aS l x)):=(by omega);(conv=>lhs;rw[h3,List.take_add]);congr 1;rw[NP hp.1,R0 1,Ph];congr 1;have:=hp.2;rw[Nb,Nd hp.1]at this;exact this);rw[e2]at h4;rcases List.mem_append.1 h4 with h3|h3;·exact Pz _ h3
   ·rcases List.mem_cons.1 h3 with h3|h3;·exact absurd h3 e
    ·exact Qr _ h3
 exact⟨uA _ _ _ h0,Po h0⟩
theorem Es{T:Nat}(h:T<=6):Low T [0,1,2,3,4,5]:=by refine⟨h,fun x hx=> ?_⟩;have:x=0\/x=1\/x=2\/x=3\/x=4\/x=5:=(by omega);rcases this with rfl|rfl|rfl|rfl|rfl|rfl <;>exact⟨by simp[aS];try omega,by simp⟩
def aJ:List Nat->List Nat->List Nat
 | _, []=> []
 | o,x::r=>List.replicate (aS o x) 1++0::aJ (eu o (aS o x)) r
inductive Pl where
 | hit (n:Nat)
 | short
 | bad
def bO:List Nat->Nat->Nat->Pl
 | [],_,_=>.short
 | b::bs,n,most=>if b=0 then .hit n else if n+1=most then .bad else bO bs (n+1) most
def ax(bits:List Nat)(T:Nat):Nat->List Nat->Nat->List Nat->List Nat×Nat×Nat
 | 0,_,p,out=>(out,p,0)
 | k+1,o,p,out=>match bO (bits.drop p) 0 T with
   | .hit n=>ax bits T k (eu o n) (p+n+1) (out++ [o.getD n 0])
   | .short=>([],0,10)
   | .bad=>([],0,110)
theorem n5:∀(k n most:Nat) (rest:List Nat),n+k<most->bO (List.replicate k 1++0::rest) n most=.hit (n+k)
 | 0,n,most,rest,h=>by rw[PN,NX,bO,Ng rfl];rfl
 | k+1,n,most,rest,h=>by rw[Pg,Od,bO,Nf (by omega),Nf (by omega),n5 k (n+1) most rest (by omega)];congr 1;omega
theorem uv(T:Nat):∀(picks o pre rest out:List Nat),Low T o->(∀ x∈picks,x<T)->
 ax (pre++aJ o picks++rest) T picks.length o pre.length out=(out++picks,pre.length+(aJ o picks).length,0)
 | [],o,pre,rest,out,_,_=>by simp[ax,aJ]
 | x::picks,o,pre,rest,out,ho,hx=>by have h1:=hx x (Nl ..);have hp:=ho.2 x h1;have hl:=fH o x hp.2;obtain⟨k,hk⟩:∃k,k=aS o x:=⟨_,rfl⟩;have e:pre++aJ o (x::picks)++rest=(pre++(List.replicate k 1++ [0]))++aJ (eu o k) picks++rest:=(by rw[aJ,<-hk];simp);have hd:(pre++aJ o (x::picks)++rest).drop pre.length=List.replicate k 1++0::(aJ (eu o k) picks++rest):=(by rw[e];simp);rw[Nv,ax,hd,n5 k 0 T _ (by omega)];show ax _ T picks.length (eu o (0+k)) (pre.length+(0+k)+1) (out++ [o.getD (0+k) 0])=_;rw[N8,e];have h0:pre.length+k+1=(pre++(List.replicate k 1++ [0])).length:=(by simp only[Nc,NE,Nv,N5];omega);rw[h0,uv T picks (eu o k) _ rest _ (by rw[hk];exact ho.move h1) (fun y hy=>hx y (Nu _ hy)),hk,hl.2,<-hk];rw[aJ,<-hk];simp only[Nc,NE,Nv,N5,Ni,Od,NX,Pv,true_and,and_true];omega
open Go.RowKit
def dD(m:Int):Nat:=if 2400<=m then 6 else if 1200<=m then 5 else if 600<=m then 4 else if 200<=m then 3 else 2
def cD(m:Int):Nat×Nat:=if m<1 then(0,2)else(dD m,0)
def aR(m:Nat):Nat:=(m+49)/50
theorem tH{L:List Nat}{p:Nat}(h:p<L.length):L.take (p+1)=L.take p++ [L.getD p 0]:=by rw[NI h,Nb,Nd h];rfl
def fM(L:List Nat)(k i:Nat):List Nat:=L.getD k 0::if i<=k then L.take i else L.take k++(L.take i).drop (k+1)
theorem xE{L:List Nat}{k:Nat}(hk:k<L.length):fM L k (k+1)=fM L k k:=by unfold fM;rw[Nf (by omega),Ng (ah _),NW (by rw[Nz];omega),NR]
theorem xD{L:List Nat}{k i:Nat}(hi:i<L.length)(h:i≠k):fM L k (i+1)=fM L k i++ [L.getD i 0]:=by
 unfold fM;by_cases e:i+1<=k;·rw[Ng e,Ng (by omega),tH hi];rfl
 ·rw[Nf e,Nf (by omega),tH hi,OA (by rw[Nz];omega)];simp
theorem y9{L:List Nat}{k:Nat}(hk:k<L.length):fM L k L.length=eu L k:=by unfold fM eu;rw[Nf (by omega),Qm]
theorem Bb(w:World)(A:Option Addr)(n c:Nat)(L:List Nat)(k:Nat)(hL:aw w A n L)(hn:n<=1000000)(hk:k<n):Calls prog 121 #[.slice A n c,.int .i64 k] w fun e w'=>∃v,e=.returned v/\w'.ownsRow w.heap.size 3 1 v n ((eu L k).map iv)/\Below w.heap.size w w':=by
 obtain⟨i3,h3,hv,hw,hz⟩:=NY Tryz.info3;have hf:=hL.1;obtain⟨b,off,rfl,hc⟩:=hL.2 (by omega);have c0:=hc k hk;have hr:=Nr w _ c0;have HC:=aa hc;have h7:=aa hf;obtain⟨x,hx⟩:∃x,x=L.getD k 0:=⟨_,rfl⟩;rw[<- hx]at c0;have HX:=aa hx;have h1:(w.alloc (.cells #[.int .i64 x] 3)).ownsRow w.heap.size 3 1 (.slice (some ⟨w.heap.size,0,none⟩) 1 1) 1 ([x].map iv):=⟨rfl,.inr ⟨w.heap.size,1,#[.int .i64 x],rfl,Nm _,P4 w _,Nm _,by unfold maxLen;omega,rfl,rfl⟩⟩;have hl:=aa h1;clear hL hf hc hx h1;go_enter func121,ntmps121;go_wp2_with fail;clear c0;go_loopw [5,6] (fun out iv' wx=>∃(i:Nat) (o:List Nat),i<=n/\iv'=.int .i64 i/\o.length<=i+1/\Hid (o=fM L k i)/\wx.ownsRow w.heap.size 3 1 out o.length (o.map iv)/\Below w.heap.size w wx) (fun _ iv' _=>n-(intOf iv').toNat)
 case atStart=>exact⟨0, [x],Nh _,rfl,Nm _,aa (by unfold fM;rw[Ng (Nh _),HX.out];rfl),hl.out,(Nj _ _).alloc (ah _) _⟩
 case round=>
  obtain⟨i,o,hi,rfl,ht,ho,h5,hb⟩:=hrel;have HO:=aa h5;have HB:=aa hb;have hA:=hb.size;obtain⟨A0,c0',rfl,hg,hs,_⟩:=ak h5;unfold maxLen at hs;clear h5 hb;by_cases e:i<n
  ·have q1:=(HB.out.cell (p:=⟨b,off+i,none⟩) hr).trans (HC.out i e);obtain⟨y,hy⟩:∃y,y=L.getD i 0:=⟨_,rfl⟩;rw[<- hy]at q1;by_cases ek:i=k
   ·have d1:((i:Int) != (k:Int))=false:=(by rw[ek];simp);have ha:fM L k (i+1)=fM L k i:=(by rw[ek];exact xE (by rw[h7.out];exact hk));rw[<- ho.out]at ha;have hp:=aa ha;clear ha hy ek;go_wp2_with fail;go_roundw;case rel=>exact⟨i+1,o,by omega,by go_num,by omega,aa hp.out.symm,HO.out,HB.out⟩
    case measure=>simp[intOf];omega
   ·have d1:((i:Int) != (k:Int))=true:=(by rw[OP];omega);have h9:=xD (L:=L) (k:=k) (i:=i) (by rw[h7.out];exact e) ek;rw[<- hy,<-ho.out]at h9;have hj:=aa h9;obtain⟨N,hN⟩:∃N,N=o.length:=⟨_,rfl⟩;obtain⟨X,hX⟩:∃X,X=o.map iv:=⟨_,rfl⟩;rw[<- hN,<-hX]at HO;have HN:=aa hN;have hq:=aa hX;rw[<- hN]at ht hg |-;clear h9 hy hN hX;(go_wp2_with (at_builtin;refine Ob _ rfl _ _ 57 rfl w.heap.size 3 i3 (.int .i64 0) 1 8 underlying57 h3 hv hw hz rfl (by decide) _ _ _ rfl (HO.out.alloc _) ⟨wr.heap.size,0,none⟩ 1 1 [.int .i64 y] rfl rfl ?c1 ?c2 ?c3 ?c4 ?c5 ?_));case c1=>exact bn _ _ _
    case c2=>intro u hu;simp at hu;subst hu;rfl
    case c3=>unfold maxLen;omega
    case c4=>omega
    case c5=>simp;omega
    intro v4 w4 h2 h0 _;have he:Below w.heap.size w w4:=(HB.out.alloc hA _).grown h0 (by simp;omega) (fun k hk=>(HO.out.lt k hk).1);have hm:=aa h2;have hh:=aa he;clear h2 h0 he;go_wp2_with fail;go_roundw;case rel=>refine⟨i+1,o++ [y],by omega,by go_num,by rw[Nc,<-HN.out];show N+1<=_;omega,aa hj.out.symm,?_,hh.out⟩;rw[Nc,<-HN.out,NF,<-hq.out];exact hm.out
    case measure=>simp[intOf];omega
  ·obtain rfl:i=n:=(by omega);have h8:=y9 (L:=L) (k:=k) (by rw[h7.out];exact hk);rw[h7.out,<-ho.out]at h8;have h4:o.length=i:=(by rw[h8,gv (by rw[h7.out];exact hk),h7.out]);have h6:=HO.out;rw[h4,h8]at h6;have HR:=aa h6;rw[h4]at hg |-;clear h8 h4 h6;go_wp2_with fail;go_ret;exact⟨_,rfl,HR.out,HB.out⟩
def iJ(L:List Int)(n:Int):Prop:=3<=n/\n<=258/\1<=L.length/\L.length<=1638350/\∀x∈L,0<=x/\x<n
instance (L:List Int) (n:Int):Decidable (iJ L n):=inferInstanceAs (Decidable (_/\_))
def aP(T:List (List Int))(P:List Int):Prop:=
 2<=T.length/\T.length<=6/\1<=P.length/\P.length<=32767/\(∀ t∈T,t.length=(T.getD 0 []).length/\a6 t)/\(∀ x∈P,0<=x/\x<(T.length:Int))/\3<=(T.getD 0 []).length
instance (T:List (List Int)) (P:List Int):Decidable (aP T P):=inferInstanceAs (Decidable (_/\_))
def hU(c g:List Nat):Nat:=(g.map fun x=>c.getD x 0).sum
theorem Gd(c g:List Nat)(x:Nat):hU c (g++ [x])=hU c g+c.getD x 0:=by unfold hU;rw[NF,List.sum_append];simp
def mJ(C:List (List Nat))(g:List Nat):Nat->Nat×Nat
 | 0=>(0,0)
 | t+1=>if t=0\/hU (C.getD t []) g<(mJ C g t).2 then(t,hU (C.getD t []) g)else mJ C g t
def Ip(C:List (List Nat))(g:List Nat)(t b:Nat):Prop:=b<t/\(∀ j,j<t->hU (C.getD b []) g<=hU (C.getD j []) g)/\∀j,j<b->hU (C.getD b []) g<hU (C.getD j []) g
theorem AJ(C:List (List Nat))(g:List Nat):∀t,Ip C g (t+1) (mJ C g (t+1)).1/\(mJ C g (t+1)).2=hU (C.getD (mJ C g (t+1)).1 []) g
 | 0=>by rw[mJ,Ng (.inl rfl)];exact⟨⟨by omega,fun j hj=>by rw[show j=0 by omega];exact Nm _,fun j hj=>by omega⟩,rfl⟩
 | t+1=>by
  obtain⟨⟨h1,h2,h3⟩,h4⟩:=AJ C g t;rw[mJ];by_cases e:hU (C.getD (t+1) []) g<(mJ C g (t+1)).2
  ·rw[Ng (.inr e)];refine⟨⟨by omega,fun j hj=> ?_,fun j hj=> ?_⟩,rfl⟩
   ·by_cases ej:j=t+1;·rw[ej];exact Nm _
    ·have:=h2 j (by omega);show hU (C.getD (t+1) []) g<=_;omega
   ·have h0:j<t+1:=hj;have:=h2 j h0;show hU (C.getD (t+1) []) g<_;omega
  ·rw[Nf (by omega)];refine⟨⟨by omega,fun j hj=> ?_,h3⟩,h4⟩;by_cases ej:j=t+1;·rw[ej];omega
   ·exact h2 j (by omega)
def k6(C:List (List Nat))(g:List Nat):Nat:=(mJ C g C.length).1
theorem AI(C:List (List Nat))(g:List Nat)(h:0<C.length):Ip C g C.length (k6 C g):=by obtain⟨t,ht⟩:∃t,C.length=t+1:=⟨C.length-1,by omega⟩;unfold k6;rw[ht];exact(AJ C g t).1
def dc(L:List Nat)(k:Nat):List Nat:=(L.drop (50*k)).take 50
def iM(L P:List Nat)(t s q:Nat):Nat:=(List.range q).countP fun i=>decide (P.getD (i/50) 0=t/\L.getD i 0=s)
theorem ra(L P:List Nat)(t s q:Nat):iM L P t s (q+1)=iM L P t s q+if P.getD (q/50) 0=t/\L.getD q 0=s then 1 else 0:=by unfold iM;rw[Oi,Rj,RB];simp only[Qa]
theorem m7(L P:List Nat)(t s q:Nat):iM L P t s q<=q:=by unfold iM;exact NH Qt (Ox NK)
def kr(L P:List Nat)(t s:Nat):Nat:=iM L P t s L.length
def bD(L P:List Nat)(t n:Nat):List Nat:=(List.range n).map (kr L P t)
def AE(W:List Nat):List Nat:=W.map fun x=>max x 1
theorem qu(W:List Nat):jO (W.map fun(x:Nat)=>(x:Int))=AE W:=by
 unfold jO AE;apply Oa;intro i;by_cases h:i<W.length;·rw[Np,NN (by simpa using h),Np,Nd h];simp only[Oy,um];rw[Nb,Np,Nd h];rfl
 ·rw[Ny (by simp;omega),Ny (by simp;omega)]
noncomputable def Mf (W:List Nat) (most:Nat):Nat->Nat:=Classical.epsilon fun len=>iu W most len
theorem Av{W:List Nat}{most:Nat}{len:Nat->Nat}(h:iu W most len):Mf W most=len:=Gu (Classical.epsilon_spec (p:=fun len=>iu W most len) ⟨len,h⟩) h
noncomputable def iE (W:List Nat):List Nat:=(List.range W.length).map (Mf (AE W) 17)
def oV(W:List Nat):List Nat:=(List.range W.length).map (bZ (Nat.log2 W.length) (2^(Nat.log2 W.length+1)-W.length) (AE W))
theorem Lz{n k:Nat}(h1:2^k<=n)(h2:n<2^(k+1)):k=Nat.log2 n:=by have hn:n≠0:=(by have:0<2^k:=OT k;omega);have h3:Nat.log2 n<k+1:=(Nat.log2_lt hn).2 h2;(have h4:¬Nat.log2 n<k:=fun h=>by have:=(Nat.log2_lt hn).1 h;omega);omega
def Kr(n T:Nat):List (List Nat):=(List.range T).map fun t=>(List.range n).map fun s=>if s*T/n=t then 1 else 15
def lF(L:List Nat)(C:List (List Nat)):List Nat:=(List.range (aR L.length)).map fun k=>k6 C (dc L k)
noncomputable def yB (L P:List Nat) (n T:Nat):List (List Nat):=(List.range T).map fun t=>iE (bD L P t n)
noncomputable def cI (L:List Nat) (n T:Nat):Nat->List (List Nat)×List Nat
 | 0=>(Kr n T,List.replicate (aR L.length) 0)
 | r+1=>(yB L (lF L (cI L n T r).1) n T,lF L (cI L n T r).1)
def iG(T:List (List Nat))(P:List Nat):List Nat:=ag T.length 3++ag P.length 15++aJ [0,1,2,3,4,5] P++T.flatMap bc
def dG(T:List (List Nat))(P L:List Nat)(q:Nat):List Nat:=(List.range q).flatMap fun i=>bC (T.getD (P.getD (i/50) 0) []) (L.getD i 0)
theorem mq(T:List (List Nat))(P L:List Nat)(q:Nat):dG T P L (q+1)=dG T P L q++bC (T.getD (P.getD (q/50) 0) []) (L.getD q 0):=by unfold dG;rw[Oi,OO];simp
theorem pd(L:List Nat)(k:Nat):(dc L k).length=min 50 (L.length-50*k):=by unfold dc;rw[Nz,Nq]
theorem JH(C:Nat->List Nat)(T t:Nat)(h:t<T):((List.range T).map C).getD t []=C t:=by rw[Nb,Np,NN h];rfl
theorem Lt(c g:List Nat)(M:Nat)(h:∀x∈g,c.getD x 0<=M):hU c g<=M*g.length:=by
 unfold hU
 have:=uR M (g.map fun x=>c.getD x 0) (fun y hy=>by
  obtain⟨x,hx,rfl⟩:=List.mem_map.1 hy
  exact h x hx)
 rw[NC]at this;exact this
def vf(w:World)(A:Option Addr)(n:Nat)(T:List (List Int)):Prop:=
 T.length=n/\(0<n->∃b off,A=some ⟨b,off,none⟩/\∀i,i<n->∃A2 c2,w.cell? ⟨b,off+i,none⟩=some (.slice A2 (T.getD i []).length c2)/\ZIn w A2 (T.getD i []).length (T.getD i [])/\(T.getD i []).length<=c2/\(T.getD i []).length<=maxLen)
theorem vf.below{w w':World}{A:Option Addr}{n:Nat}{T:List (List Int)}(h:vf w A n T)(hb:Below w.heap.size w w'):vf w' A n T:=by refine⟨h.1,fun hn=> ?_⟩;obtain⟨b,off,rfl,hc⟩:=h.2 hn;refine⟨b,off,rfl,fun i hi=> ?_⟩;obtain⟨A2,c2,h1,h2,h3,h4⟩:=hc i hi;exact⟨A2,c2,(hb.cell (p:=⟨b,off+i,none⟩) (Nr w _ h1)).trans h1,h2.below hb,h3,h4⟩
def aQ(w:World)(v:Value)(T:List (List Int))(P:List Int):Prop:=
 ∃A n c B m d,v=.agg #[.slice A n c,.slice B m d]/\vf w A n T/\n<=c/\n<=maxLen/\ZIn w B m P/\m<=d/\m<=maxLen
theorem aQ.below{w w':World}{v:Value}{T:List (List Int)}{P:List Int}(h:aQ w v T P)(hb:Below w.heap.size w w'):aQ w' v T P:=by obtain⟨A,n,c,B,m,d,h0,h1,h2,h3,h4,h5⟩:=h;exact⟨A,n,c,B,m,d,h0,h1.below hb,h2,h3,h4.below hb,h5⟩
def eK(w:World)(ans:List (List Int)×List Int×Nat)(e:Ending)(w':World):Prop:=
 ∃v,e=.returned (.tuple #[v,.int .i64 ans.2.2])/\aQ w' v ans.1 ans.2.1/\Below w.heap.size w w'
theorem qy(w:World):aQ w (.agg #[.slice none 0 0,.slice none 0 0]) [] []:=
 ⟨none,0,0,none,0,0,rfl,⟨rfl,fun h=>absurd h (Rd _)⟩,Nm _,by unfold maxLen;omega,⟨rfl,fun h=>absurd h (Rd _)⟩,Nm _,by unfold maxLen;omega⟩
def zL(l:List Nat):List Int:=l.map fun(x:Nat)=>(x:Int)
def iP(L:List Int):List Nat:=L.map Int.toNat
noncomputable def a9 (L:List Int) (m:Int):List (List Int)×List Int×Nat:=
 if iJ L m then(((cI (iP L) m.toNat (dD L.length) 4).1.map zL),zL (cI (iP L) m.toNat (dD L.length) 4).2,0)else([], [],2)
structure M8 (w:World) (B g n:Nat) (C:Nat->List Nat) (F:Nat->Value):Prop where
 own:w.ownsRow B 57 1 (.slice (some ⟨g,0,none⟩) n n) n ((List.range n).map F)
 rows:∀j,j<n->(∃ A k,F j=.slice A (C j).length k/\(C j).length<=k)/\w.ownsRow B 3 1 (F j) (C j).length ((C j).map iv)/\∀b,(F j).ownBlock=some b->b<w.heap.size/\b≠g
theorem ud(w:World)(n:Nat)(hn:n<=1000):(Instr.makeSlice 88 (.int .i64 n) (.int .i64 n)).run prog w=.ok (.slice (some ⟨w.heap.size,0,none⟩) n n) (w.alloc (.cells (madeCells #[.slice none 0 0] n) 57)):=by obtain⟨i2,h2,h0⟩:=Option.map_eq_some_iff.1 CT;simp only[Pv]at h0;obtain⟨h1,h3,h4⟩:=h0;have h:=QZ (P:=prog) w 88 57 i2 (.slice none 0 0) underlying88 h2 h1 .i64 .i64 (n:Int) (n:Int) (by omega) (by omega) (by rw[h4];omega) (by omega);rw[h3,Nn,Of]at h;exact h
theorem Bo(w:World)(B n:Nat)(hB:B<=w.heap.size)(hn:n<=1000):M8 (w.alloc (.cells (madeCells #[.slice none 0 0] n) 57)) B w.heap.size n (fun _=> []) fun _=>.slice none 0 0:=by refine⟨⟨by simp,.inr ⟨w.heap.size,n,_,rfl,hB,P4 w _,Nm _,by unfold maxLen;omega,by rw[Rr,Of],?_⟩⟩,fun j _=>⟨⟨none,0,rfl,Nm _⟩,Ns _ _ _ _,fun b hb=>by simp[Value.ownBlock]at hb⟩⟩;rw[Qy,Of,Nt (by simp),QL,NK]
def qH(m T t s:Nat):Nat:=if s*T/m=t then 1 else 15
def pM(w:World)(B g n:Nat)(C:Nat->List Nat)(b:Nat):Prop:=∃F:Nat->Value,w.ownsRow B 57 1 (.slice (some ⟨g,0,none⟩) n n) n ((List.range n).map F)/\
 ∀j,j<n->∃A k,F j=.slice A (C j).length k/\(C j).length<=k/\w.ownsRow B 3 1 (F j) (C j).length ((C j).map iv)/\(F j).ownBlock≠some b
theorem pM.tabW{w:World}{B g n b:Nat}{C:Nat->List Nat}(h:pM w B g n C b):dp w B g n C:=by obtain⟨F,h1,h2⟩:=h;refine⟨F,h1,fun j hj=> ?_⟩;obtain⟨A,k,x,y,z,_⟩:=h2 j hj;exact⟨A,k,x,y,z⟩
theorem pM.same{w:World}{B g n b:Nat}{C D:Nat->List Nat}(h:pM w B g n C b)(hs:∀j,j<n->C j=D j):pM w B g n D b:=by obtain⟨F,h1,h2⟩:=h;refine⟨F,h1,fun j hj=> ?_⟩;rw[<- hs j hj];exact h2 j hj
theorem pM.step{w w':World}{B B' g n b:Nat}{C:Nat->List Nat}(h:pM w B g n C b)(hs:al B' [] [] w w'):pM w' B g n C b:=by obtain⟨F,h1,h2⟩:=h;refine⟨F,hs.row h1 (fun _ _=>ar) ar,fun j hj=> ?_⟩;obtain⟨A,k,x,y,z,u⟩:=h2 j hj;exact⟨A,k,x,y,hs.row z (fun _ _=>ar) ar,u⟩
theorem pM.set{w:World}{B g n b:Nat}{C:Nat->List Nat}(h:pM w B g n C b)(i:Nat){A:Option Addr}{k:Nat}{L:List Nat}(hL:w.ownsRow B 3 1 (.slice A L.length k) L.length (L.map iv))(hk:L.length<=k)(hb:(Value.slice A L.length k).ownBlock≠some b):
 pM (w.setCell ⟨g,i,none⟩ (.slice A L.length k)) B g n (fun j=>if j=i then L else C j) b:=by
 obtain⟨F,h1,h2⟩:=h;have h3:=QY h1 i (.slice A L.length k);have h0:((List.range n).map F).set i (.slice A L.length k)=(List.range n).map fun j=>if j=i then(.slice A L.length k)else F j:=by
  apply Oa;intro j;rw[Ru];by_cases e:i=j
  ·subst e;by_cases hj:i<n;·simp[hj]
   ·simp[hj]
  ·have e':¬j=i:=fun k=>e k.symm;rw[Nf e,Np,Np];by_cases hj:j<n;·rw[NN hj];simp[e']
   ·rw[Ny (by rw[NK];omega)];rfl
 rw[h0]at h3;have keep:∀(v:Value) (m:Nat) (xs:List Value),w.ownsRow B 3 1 v m xs->(w.setCell ⟨g,i,none⟩ (.slice A L.length k)).ownsRow B 3 1 v m xs:=by intro v m xs hv;refine hv.kept h3.2 (.inr fun e=> ?_);obtain⟨c1,f1,e1⟩:=Lib.ownsRow_kind hv g e;obtain⟨c2,f2,e2⟩:=Lib.ownsRow_kind h1 g rfl;rw[e1]at e2;simp at e2
 refine⟨_,h3.1,fun j hj=> ?_⟩;by_cases e:j=i
 ·refine⟨A,k,?_,?_,?_,?_⟩;·simp only[Ng e]
  ·simp only[Ng e];exact hk
  ·simp only[Ng e];exact keep _ _ _ hL
  ·simp only[Ng e];exact hb
 ·obtain⟨A2,k2,x,y,z,u⟩:=h2 j hj;refine⟨A2,k2,?_,?_,?_,?_⟩;·simp only[Nf e];exact x
  ·simp only[Nf e];exact y
  ·simp only[Nf e];exact keep _ _ _ z
  ·simp only[Nf e];exact u
theorem rN(m:Int):2<=dD m/\dD m<=6:=by unfold dD;(repeat' split);all_goals omega
def lx(l:List Nat)(m:Nat):List Nat:=oV (bD l (List.replicate (aR l.length) 0) 0 m)
def bi(L:List Int)(m:Int):List (List Int)×List Int×Nat:=
 if iJ L m then([zL (lx (iP L) m.toNat),zL (lx (iP L) m.toNat)],zL (List.replicate (aR L.length) 0),0)else([], [],2)
theorem KA{w:World}{g:Nat}{A1 A2:Option Addr}{m c1 c2:Nat}{x y:List Nat}(hg:Blk w g 57 #[.slice A1 m c1,.slice A2 m c2])(hx:aw w A1 m x)(h1:m<=c1)(hy:aw w A2 m y)(h2:m<=c2)(hm:m<=maxLen):
 vf w (some ⟨g,0,none⟩) 2 [zL x,zL y]:=by
 refine⟨rfl,fun _=>⟨g,0,rfl,fun i hi=> ?_⟩⟩;have h0:(zL x).length=m:=by unfold zL;rw[NC,hx.1]
 have h3:(zL y).length=m:=by unfold zL;rw[NC,hy.1]
 rw[N8]
 match i,hi with
 | 0,_=>
  refine⟨A1,c1,?_,?_,?_,?_⟩;·show w.cell? ⟨g,0,none⟩=some (.slice A1 (zL x).length c1);rw[h0];exact(ac hg 0).trans rfl
  ·show ZIn w A1 (zL x).length (zL x);rw[h0];exact dK hx
  ·show(zL x).length<=c1;omega
  ·show(zL x).length<=maxLen;omega
 | 1,_=>
  refine⟨A2,c2,?_,?_,?_,?_⟩;·show w.cell? ⟨g,1,none⟩=some (.slice A2 (zL y).length c2);rw[h3];exact(ac hg 1).trans rfl
  ·show ZIn w A2 (zL y).length (zL y);rw[h3];exact dK hy
  ·show(zL y).length<=c2;omega
  ·show(zL y).length<=maxLen;omega
theorem iZ{T:List (List Int)}{q:Nat}(h:q<T.length):T.getD q []∈T:=by rw[Nb,Nd h];exact NL h
theorem AX(w:World)(v:Value)(T:List (List Int))(P:List Int)(h:aQ w v T P):
 Calls prog 120 #[v] w fun e w'=>e=.returned (.bool (decide (aP T P)))/\Below w.heap.size w w':=by
 obtain⟨A,n,c,B,m,d,rfl,hT,hS,hn,hP,hR,hm⟩:=h;have hO:=hT.1;have hE:=hP.1;unfold maxLen at hn hm;obtain⟨n0,hi⟩:∃n0,n0=(T.getD 0 []).length:=⟨_,rfl⟩;have hs:Hid (n<2->decide (aP T P)=false):=aa fun h=>Nk fun k=>by have:=k.1;omega
 have hu:Hid (6<n->decide (aP T P)=false):=aa fun h=>Nk fun k=>by have:=k.2.1;omega
 have hw:Hid (m<1->decide (aP T P)=false):=aa fun h=>Nk fun k=>by have:=k.2.2.1;omega
 have hA:Hid (32767<m->decide (aP T P)=false):=aa fun h=>Nk fun k=>by have:=k.2.2.2.1;omega
 have hC:Hid (∀ q,q<n->((T.getD q []).length≠n0\/¬a6 (T.getD q []))->decide (aP T P)=false):=aa fun q hq h=>Nk fun k=>by
  have:=k.2.2.2.2.1 (T.getD q []) (iZ (by omega));rw[<- hi]at this;rcases h with h|h;·exact h this.1
  ·exact h this.2
 have hB:Hid (∀ x∈P,(x<0\/(n:Int)<=x)->decide (aP T P)=false):=aa fun x hx h=>Nk fun k=>by have:=k.2.2.2.2.2.1 x hx;omega
 have hI:Hid (n0<3->decide (aP T P)=false):=aa fun h=>Nk fun k=>by have:=k.2.2.2.2.2.2;omega
 have hf:Hid (2<=n->n<=6->1<=m->m<=32767->(∀ q,q<n->(T.getD q []).length=n0/\a6 (T.getD q []))->(∀ x∈P,0<=x/\x<(n:Int))->3<=n0->decide (aP T P)=true):=aa fun h1 h2 h3 h4 h5 h6 h7=>
  No ⟨by omega,by omega,by omega,by omega,fun t ht=>by
   obtain⟨q,hq,rfl⟩:=List.mem_iff_getElem.1 ht
   have:=h5 q (by omega)
   rw[Nb,Nd hq]at this
   rw[<- hi]
   exact this,fun x hx=>by have:=h6 x hx;omega,by omega⟩
 generalize decide (aP T P)=ans at*;have q0:(w.alloc (.cells #[.slice A n c,.slice B m d] 90)).cell? ⟨w.heap.size,0,none⟩=some (.slice A n c):=(ac (aj w _ _) 0).trans rfl;have q1:(w.alloc (.cells #[.slice A n c,.slice B m d] 90)).cell? ⟨w.heap.size,1,none⟩=some (.slice B m d):=(ac (aj w _ _) 1).trans rfl;have HB:Hid (Below w.heap.size w (w.alloc (.cells #[.slice A n c,.slice B m d] 90))):=aa ((Nj _ _).alloc (ah _) _);have HT:=aa (hT.below HB.out);have HP:=aa (hP.below HB.out);have hH:=aa hi;have hl:=aa hE;clear hT hP hO hE hi;go_enter func120,ntmps120;by_cases e1:n<2;·have h0:=hs.out e1;have d1:decide ((n:Int)<2)=true:=aX (by omega);subst h0;go_wp2_with fail;go_ret;exact⟨rfl,HB.out⟩
 have d1:decide ((n:Int)<2)=false:=aD (by omega);by_cases e2:6<n;·have h0:=hu.out e2;have d2:decide ((6:Int)<(n:Int))=true:=aX (by omega);subst h0;go_wp2_with fail;go_ret;exact⟨rfl,HB.out⟩
 have d2:decide ((6:Int)<(n:Int))=false:=aD (by omega);by_cases e3:m<1;·have h0:=hw.out e3;have d3:decide ((m:Int)<1)=true:=aX (by omega);subst h0;go_wp2_with fail;go_ret;exact⟨rfl,HB.out⟩
 have d3:decide ((m:Int)<1)=false:=aD (by omega);by_cases e4:32767<m;·have h0:=hA.out e4;have d4:decide ((32767:Int)<(m:Int))=true:=aX (by omega);subst h0;clear e4;go_wp2_with fail;go_ret;exact⟨rfl,HB.out⟩
 have d4:decide ((32767:Int)<(m:Int))=false:=aD (by omega);have h8:Hid ((∀ q,q<n->(T.getD q []).length=n0/\a6 (T.getD q []))->(∀ x∈P,0<=x/\x<(n:Int))->3<=n0->ans=true):=aa (hf.out (by omega) (by omega) (by omega) (by omega));have hV:m<=100000:=by omega
 have hW:n<=6:=by omega
 have hX:2<=n:=by omega
 clear e1 e2 e3 e4 hs hu hw hA hf hn hm hS hR;obtain⟨b,off,rfl,hc⟩:=HT.out.2 (by omega);obtain⟨A0,c0,ho,_⟩:=hc 0 (by omega);rw[<- hH.out]at ho;have hD:=ho;rw[Og]at hD;have hY:(0:Int)<(n:Int):=by omega
 clear hc;go_wp2_with fail;clear ho hD;generalize w.alloc (.cells #[.slice (some ⟨b,off,none⟩) n c,.slice B m d] 90)=w1 at*;go_loopw [4] (fun i wx=>∃q:Nat,q<=n/\i=.int .i64 q/\Hid (∀ j,j<q->(T.getD j []).length=n0/\a6 (T.getD j []))/\w1=wx) (fun i _=>n-(intOf i).toNat)
 case atStart=>exact⟨0,Nh _,rfl,by intro j hj;omega,rfl⟩
 case round=>
  obtain⟨q,hq,rfl,hv,rfl⟩:=hrel;by_cases e:q<n
  ·have dq:decide ((q:Int)<(n:Int))=true:=aX (by omega);have hZ:(0:Int)<=(q:Int):=(by omega);have H0:(q:Int)<(n:Int):=(by omega);obtain⟨b',off',hF,hc⟩:=HT.out.2 (by omega);simp only[On,Qi,and_true]at hF;obtain⟨rfl,rfl⟩:=hF;obtain⟨A2,c2,h1,h2,h3,h4⟩:=hc q e;obtain⟨L,hL⟩:∃L,L=T.getD q []:=⟨_,rfl⟩;rw[<- hL]at h1 h2 h3 h4;obtain⟨k,hk⟩:∃k,k=L.length:=⟨_,rfl⟩;rw[<- hk]at h1 h2 h3 h4;have hh:=aa (vV _ A2 k c2 L h2 h4);have he:Hid ((k≠n0\/¬a6 L)->ans=false):=aa fun h=>hC.out q e (by rw[<- hL,<-hk];exact h);have ha:Hid (k=n0->a6 L->∀j,j<q+1->(T.getD j []).length=n0/\a6 (T.getD j [])):=aa fun a b j hj=>by
    rcases NZ j q with hG|hG;·exact hv.out j hG
    ·obtain rfl:j=q:=(by omega);rw[<- hL,<-hk];exact⟨a,b⟩
   clear hc hL hk h2 h3 h4;by_cases ek:k=n0
   ·have d1:((k:Int) != (n0:Int))=false:=(by rw[ek];simp);by_cases el:a6 L
    ·rw[Ng el]at hh;have hM:=aa (ha.out ek el);clear ek el he ha;go_wp2_with fail;refine hh.out.mono ?_;rintro e w' ⟨rfl,rfl⟩;go_wp2_with fail;go_roundw;case rel=>exact⟨q+1,by omega,by go_num,hM,trivial⟩
     case measure=>simp[intOf];omega
    ·rw[Nf el]at hh;have h0:=he.out (.inr el);subst h0;clear ek el he ha;go_wp2_with fail;refine hh.out.mono ?_;rintro e w' ⟨rfl,rfl⟩;go_wp2_with fail;go_ret;exact⟨rfl,HB.out⟩
   ·have d1:((k:Int) != (n0:Int))=true:=(by rw[OP];omega);have h0:=he.out (.inl ek);subst h0;clear ek he ha;go_wp2_with fail;go_ret;exact⟨rfl,HB.out⟩
  ·obtain rfl:q=n:=(by omega);have dq:decide ((q:Int)<(q:Int))=false:=aD (by omega);have HV:=aa (h8.out hv.out);clear hv hC h8;go_wp2_with fail;(go_loopw [5] (fun i wx=>∃z:Nat,z<=m/\i=.int .i64 z/\Hid (∀ x∈P.take z,0<=x/\x<(q:Int))/\Below w1.heap.size w1 wx) (fun i _=>m-(intOf i).toNat));case atStart=>exact⟨0,Nh _,rfl,by simp[Hid],Nj _ _⟩
   case round=>
    obtain⟨z,hz,rfl,hv,hg⟩:=hrel;have hb:=aa hg;have p0:=(hg.cell (Nr w1 _ q0)).trans q0;have p1:=(hg.cell (Nr w1 _ q1)).trans q1;have hJ:=aa (HP.out.below hg);clear hg;by_cases e:z<m
    ·have H1:(0:Int)<=(z:Int):=(by omega);have H2:(z:Int)<(m:Int):=(by omega);obtain⟨b',off',rfl,hc⟩:=hJ.out.2 (by omega);have hQ:=hc z e;have hp:=dY P z (by rw[hl.out];exact e);have h9:=eF P z (by rw[hl.out];exact e);obtain⟨x,hx⟩:∃x,x=P.getD z 0:=⟨_,rfl⟩;rw[<- hx]at hQ hp h9;have hK:=aa hp;have HM:=aa h9;clear hc hx hp h9;by_cases e1:x<0;·have d1:decide (x<0)=true:=No e1;have h0:=hB.out x HM.out (.inl e1);subst h0;go_wp2_with fail;go_quiet (fail);go_wp2_with fail;go_ret;exact⟨rfl,HB.out.trans (ay (hb.out.mono HB.out.size) _)⟩
     ·have d1:decide (x<0)=false:=Nk e1;by_cases e2:(q:Int)<=x;·have d2:decide ((q:Int)<=x)=true:=No e2;have h0:=hB.out x HM.out (.inr e2);subst h0;go_wp2_with fail;go_quiet (fail);go_wp2_with fail;go_ret;exact⟨rfl,HB.out.trans (ay (hb.out.mono HB.out.size) _)⟩
      ·have d2:decide ((q:Int)<=x)=false:=Nk e2
       have ha:Hid (∀ y∈P.take (z+1),0<=y/\y<(q:Int)):=aa (by
        rw[hK.out]
        intro y hy
        rcases List.mem_append.1 hy with hy|hy
        ·exact hv.out y hy
        ·rw[List.mem_singleton.1 hy]
         omega)
       go_wp2_with fail;go_quiet (fail);go_wp2_with fail;go_roundw;case rel=>exact⟨z+1,by omega,by go_num,ha,ay hb.out _⟩
       case measure=>simp[intOf];omega
    ·obtain rfl:z=m:=(by omega);have hr:=hv.out;rw[Nt (Ox hl.out)]at hr;have hN:=aa (HV.out hr);clear hv hr HV;by_cases e3:3<=n0;·have d3:decide ((3:Int)<=(n0:Int))=true:=aX (by omega);have h0:=hN.out e3;subst h0;go_wp2_with fail;go_ret;exact⟨rfl,ap HB.out hb.out⟩
     ·have d3:decide ((3:Int)<=(n0:Int))=false:=aD (by omega);have h0:=hI.out (by omega);subst h0;go_wp2_with fail;go_ret;exact⟨rfl,ap HB.out hb.out⟩
theorem ux(o:List Nat)(x:Nat)(r:List Nat):aJ o (x::r)=List.replicate (aS o x) 1++0::aJ (eu o (aS o x)) r:=rfl
theorem ef{B k n:Nat}{e:TypeId}{v:Value}{xs:List Value}{w w':World}(h:w.ownsRow B e k v n xs)(hb:Below w.heap.size w w'):w'.ownsRow B e k v n xs:=
 Pb (row:=none) h ⟨hb.os,hb.tape,hb.output,hb.size,fun j hj _=>hb.block j hj⟩ (by cases hv:v.ownBlock <;>simp)
structure iK (w0 w:World) (v:Value) (X:List Nat) (g c:Nat) (o:List Nat):Prop where
 out:w.ownsRow w0.heap.size 3 1 v X.length (X.map iv)
 ord:w.ownsRow w0.heap.size 3 1 (.slice (some ⟨g,0,none⟩) 6 c) 6 (o.map iv)
 ne:v.ownBlock≠some g
 below:Below w0.heap.size w0 w
theorem iK.len{w0 w:World}{v:Value}{X:List Nat}{g c:Nat}{o:List Nat}(h:iK w0 w v X g c o):o.length=6:=by have:=h.ord.1;simpa using this
theorem iK.cell{w0 w:World}{v:Value}{X:List Nat}{g c:Nat}{o:List Nat}(h:iK w0 w v X g c o)(j:Nat)(hj:j<6):w.cell? ⟨g,j,none⟩=some (.int .i64 (o.getD j 0:Nat)):=by have hl:=h.len;rw[OR h.ord j (by omega),Np,Nd (by omega),Nb,Nd (by omega)];rfl
theorem iK.push{w0 w:World}{A:Option Addr}{N cap:Nat}{X:List Nat}{g c:Nat}{o:List Nat}(h:iK w0 w (.slice A N cap) X g c o)(x:Nat)(hN:X.length=N)(hX:N<=1000000):
 ∃A2 cap2 w2,(Builtin.append_ #[57,57] 57 #[.slice A N cap,.slice (some ⟨w.heap.size,0,none⟩) 1 1]).run prog (w.alloc (.cells #[.int .i64 x] 3))=.ok (.slice A2 (N+1) cap2) w2/\
  iK w0 w2 (.slice A2 (N+1) cap2) (X++ [x]) g c o:=by
 obtain⟨i3,h3,h4,h5,h6⟩:=NY Tryz.info3;subst hN;have h1:=h.below.size
 obtain⟨v2,w2,hr,ho,hg,_,h0⟩:=Qz (P:=prog) (w.alloc (.cells #[.int .i64 x] 3)) w0.heap.size 57 57 3 i3 (.int .i64 0) 1 8 underlying57 h3 h4 h5 h6 rfl (by decide) _ _ _ (h.out.alloc _) ⟨w.heap.size,0,none⟩ 1 1 [iv x] rfl (bn w (iv x) 3)
  (fun u hu=>by rw[List.mem_singleton.1 hu];rfl) (by unfold maxLen;omega) (by omega) (by simp;omega)
 obtain⟨A2,cap2,rfl,_,_,_⟩:=ak ho;have h7:=OD h.ord g rfl;refine⟨A2,cap2,w2,hr,?_,Pb (h.ord.alloc _) hg (.inr fun e=>h.ne e.symm),?_,?_⟩;·have h2:=ho;rw[show X.map iv++ [iv x]=(X++ [x]).map iv by simp]at h2;rw[Nc];exact h2
 ·rcases h0 with e|e;·rw[e];exact h.ne
  ·rw[e];intro e2;have:=Om e2;simp at this;omega
 ·exact(h.below.alloc h1 _).grown hg (by simp;omega) (fun k hk=>(h.out.lt k hk).1)
theorem iK.turn{w0 w w2:World}{v v2:Value}{X:List Nat}{g c:Nat}{o o2:List Nat}(h:iK w0 w v X g c o)(hb:Below w.heap.size w w2)(hr:w2.ownsRow w.heap.size 3 1 v2 6 (o2.map iv)):
 ∃g2 c2,v2=.slice (some ⟨g2,0,none⟩) 6 c2/\iK w0 w2 v X g2 c2 o2:=by obtain⟨A2,c2,rfl,_,_,hA⟩:=ak hr;obtain⟨g2,rfl⟩:=hA (by omega);refine⟨g2,c2,rfl,ef h.out hb,World.ownsRow.mono hr h.below.size,?_,ap h.below hb⟩;intro e;have h1:=(OD h.out g2 e).2;have h2:=(OD hr g2 rfl).1;omega
def fC(T:List (List Int))(P:List Int):List Nat×Nat:=if aP T P then(iG (T.map nl) (nl P),0)else([],110)
theorem kW{L:List Int}(h:a6 L):DOk L:=⟨h.1,h.2.1,h.2.2.1⟩
theorem GD(w:World)(B:Nat)(hB:B<=w.heap.size):(w.alloc (.cells #[.int .i64 0,.int .i64 1,.int .i64 2,.int .i64 3,.int .i64 4,.int .i64 5] 3)).ownsRow B 3 1 (.slice (some ⟨w.heap.size,0,none⟩) 6 6) 6 (([0,1,2,3,4,5]:List Nat).map iv):=
 ⟨rfl,.inr ⟨w.heap.size,6,_,rfl,hB,P4 w _,Nm _,by unfold maxLen;omega,rfl,rfl⟩⟩
theorem lp:∀(P o:List Nat),am (aJ o P)
 | [],o=>fun b hb=>by simp[aJ]at hb
 | x::P,o=>fun b hb=>by
  rw[ux]at hb;rcases List.mem_append.1 hb with h|h;·rw[QD h];omega
  ·rcases List.mem_cons.1 h with h|h;·omega
   ·exact lp P _ b h
theorem mP(T:Nat)(hT:T<=6):∀(P o:List Nat),Low T o->(∀ x∈P,x<T)->(aJ o P).length<=6*P.length
 | [],o,_,_=>by simp[aJ]
 | x::P,o,h,hx=>by have h1:=(h.2 x (hx x (Nl ..))).1;have h2:=mP T hT P _ (h.move (hx x (Nl ..))) fun y hy=>hx y (Nu _ hy);rw[ux,Nc,NE,Nv,Nv];omega
theorem mQ:∀(T:List (List Int)),(∀ t∈T,DOk t)->((T.map nl).flatMap bc).length<=11000*T.length
 | [],_=>by simp
 | t::T,h=>by have h1:=mQ T fun x hx=>h x (Nu _ hx);have h2:=DG t;rw[show j8 t=(bc (nl t),0)from Ng (h t (Nl ..))]at h2;dsimp only at h2;rw[OB,N9,Nc,Nv];omega
theorem sP(T:List (List Int))(P:List Int):am (fC T P).1:=by
 unfold fC;split;·refine am.append (am.append (am.append (aB _ _) (aB _ _)) (lp _ _)) fun b hb=> ?_;obtain⟨l,_,hl⟩:=List.mem_flatMap.1 hb;exact vQ l b hl
 ·intro b hb;cases hb
theorem jW(T:List (List Int))(P:List Int):(fC T P).1.length<=300000:=by
 unfold fC;split;·rename_i hM;have h1:=mQ T fun t ht=>kW (hM.2.2.2.2.1 t ht).2;(have h2:=mP T.length hM.2.1 (nl P) _ (Es hM.2.1) fun x hx=>by obtain⟨y,hy,rfl⟩:=List.mem_map.1 hx;have:=hM.2.2.2.2.2.1 y hy;omega);have h3:=hM.2.1;have h4:=hM.2.2.2.1;rw[bL]at h2;show(iG (T.map nl) (nl P)).length<=300000;unfold iG;rw[Nc,Nc,Nc,af,af];omega
 ·exact Nh _
def uw(a:Nat):Pl->Nat×Nat×Nat
 | .hit n=>(n,a+n+1,0)
 | .short=>(0,0,10)
 | .bad=>(0,0,110)
theorem tW:∀(l:List Nat) (n T k:Nat),bO l n T=.hit k->n<T->n<=k/\k<n+l.length/\k<T
 | [],n,T,k,h,_=>by simp[bO]at h
 | b::l,n,T,k,h,hn=>by
  rw[bO]at h;by_cases e:b=0;·rw[Ng e]at h;have:=Pl.hit.inj h;rw[Nv];omega
  ·rw[Nf e]at h;by_cases e2:n+1=T;·rw[Ng e2]at h;cases h
   ·rw[Nf e2]at h;have:=tW l (n+1) T k h (by omega);rw[Nv];omega
theorem Dx(w:World)(A:Option Addr)(m c:Nat)(bits:List Nat)(a0 T:Nat)(hb:aw w A m bits)(hm:m<=1000000)(ha:a0<=m)(_:T<=6):
 Calls prog 184 #[.slice A m c,.int .i64 a0,.int .i64 T] w fun e w'=>e=.returned (.tuple #[.int .i64 (uw a0 (bO (bits.drop a0) 0 T)).1,.int .i64 (uw a0 (bO (bits.drop a0) 0 T)).2.1,.int .i64 (uw a0 (bO (bits.drop a0) 0 T)).2.2])/\w'=w:=by
 have HB:=aa hb;have h3:=aa hb.1;obtain⟨R,hR⟩:∃R,R=bO (bits.drop a0) 0 T:=⟨_,rfl⟩;rw[<- hR];have HR:=aa hR;clear hb hR;go_enter func184,ntmps184;go_wp2_with fail;go_loopw [9] (fun nv wx=>∃j:Nat,a0+j<=m/\nv=.int .i64 j/\Hid (R=bO (bits.drop (a0+j)) j T)/\w=wx) (fun nv _=>m-(intOf nv).toNat)
 case atStart=>exact⟨0,by omega,rfl,aa HR.out,rfl⟩
 case round=>
  obtain⟨j,hj,rfl,hv,rfl⟩:=hrel;obtain⟨z,hz⟩:∃z,z=a0+j:=⟨_,rfl⟩;have h7:(a0:Int)+(j:Int)=(z:Int):=by omega
  have h0:=hv.out;rw[<- hz]at h0;by_cases e:z<m
  ·have h5:(0:Int)<=(z:Int):=(by omega);have h6:(z:Int)<(m:Int):=(by omega);obtain⟨b,off,rfl,hc⟩:=HB.out.2 (by omega);have h4:=hc z e;rw[mv (L:=bits) (p:=z) (by rw[h3.out];exact e),bO]at h0;obtain⟨x,hx⟩:∃x,x=bits.getD z 0:=⟨_,rfl⟩;rw[<- hx]at h4 h0;have HZ:=aa hz;clear hc hx hv HR hz;by_cases e0:x=0;·have d1:((x:Int)==0)=true:=(by rw[e0];rfl);rw[Ng e0]at h0;subst h0;have h1:uw a0 (.hit j)=(j,z+1,0):=(by rw[HZ.out];rfl);have h2:=aa h1;clear e0 h1;go_wp2_with fail;go_ret3;exact⟨by rw[h2.out];rfl,rfl⟩
   ·have d1:((x:Int)==0)=false:=(by rw[NA];omega);rw[Nf e0]at h0;by_cases e1:j+1=T;·have d2:((j:Int)+1==(T:Int))=true:=(by rw[O0];omega);rw[Ng e1]at h0;subst h0;clear e0 e1;go_wp2_with fail;go_ret3;exact⟨rfl,rfl⟩
    ·have d2:((j:Int)+1==(T:Int))=false:=(by rw[NA];omega);rw[Nf e1]at h0;have HV:=aa h0;clear e0 e1 h0;go_wp2_with fail;go_roundw;case rel=>exact⟨j+1,by have:=HZ.out;omega,by go_num,aa (by rw[HV.out,HZ.out];rfl),trivial⟩
     case measure=>simp[intOf];omega
  ·rw[NW (by rw[h3.out];omega),bO]at h0;subst h0;clear hv HR hz;go_wp2_with fail;go_ret3;exact⟨rfl,rfl⟩
theorem dW{bits:List Nat}{T k n p:Nat}{o out:List Nat}(h:bO (bits.drop p) 0 T=.hit n):ax bits T (k+1) o p out=ax bits T k (eu o n) (p+n+1) (out++ [o.getD n 0]):=by rw[ax,h]
theorem dL{bits:List Nat}{T k p:Nat}{o out:List Nat}(h:bO (bits.drop p) 0 T=.short):ax bits T (k+1) o p out=([],0,10):=by rw[ax,h]
theorem eS{bits:List Nat}{T k p:Nat}{o out:List Nat}(h:bO (bits.drop p) 0 T=.bad):ax bits T (k+1) o p out=([],0,110):=by rw[ax,h]
theorem AY(w:World)(A:Option Addr)(m c:Nat)(bits:List Nat)(a0 T many:Nat)(hb:aw w A m bits)(hm:m<=1000000)(ha:a0<=m)(hA:1<=T)(hT:T<=6)(hl:many<=40000):
 Calls prog 134 #[.slice A m c,.int .i64 a0,.int .i64 T,.int .i64 many] w (aL w (ax bits T many [0,1,2,3,4,5] a0 [])):=by
 have hr:=aa fun(wx:World) (h:Below w.heap.size w wx)=>bN hb h;have ht:=aa hb.1;obtain⟨R,hR⟩:∃R,R=ax bits T many [0,1,2,3,4,5] a0 []:=⟨_,rfl⟩;rw[<- hR];have HR:=aa hR;have hg:Hid (∀ v (a:List Nat×Nat×Nat) w',R=a->w'.ownsRow w.heap.size 3 1 v a.1.length (a.1.map iv)->Below w.heap.size w w'->aL w R (.returned (.tuple #[v,.int .i64 a.2.1,.int .i64 a.2.2])) w'):=aa fun v a w' h h1 h2=>by rw[h];exact⟨v,rfl,h1,h2⟩
 have h3:iK w (w.alloc (.cells #[.int .i64 0,.int .i64 1,.int .i64 2,.int .i64 3,.int .i64 4,.int .i64 5] 3)) (.slice none 0 0) [] w.heap.size 6 [0,1,2,3,4,5]:=
  ⟨Ns _ _ _ _,GD w _ (ah _),(fun e=>by cases e),(Nj _ _).alloc (ah _) _⟩
 have h4:=aa h3;generalize aL w R=PO at*;clear hb hR h3;go_enter func134,ntmps134;go_wp2_with fail;generalize w.alloc (.cells #[.int .i64 0,.int .i64 1,.int .i64 2,.int .i64 3,.int .i64 4,.int .i64 5] 3)=w1 at*;go_loopw [1,11,12,13,14,15,16] (fun av rv ov iv' s14 s15 s16 wx=>∃(q p:Nat) (X o:List Nat) (g c:Nat),q<=many/\iv'=.int .i64 q/\av=.int .i64 p/\p<=m/\rv=.slice (some ⟨g,0,none⟩) 6 c/\iK w wx ov X g c o/\Hid (R=ax bits T (many-q) o p X)/\X.length<=q) (fun _ _ _ iv' _ _ _ _=>many-(intOf iv').toNat)
 case atStart=>exact⟨0,a0, [],_,_,_,Nh _,rfl,rfl,ha,rfl,h4.out,aa HR.out,Nm _⟩
 case round=>
  clear h4 HR;obtain⟨q,p,X,o,g,c2,hq,rfl,rfl,hp,rfl,h3,hX,hw⟩:=hrel;have h4:=aa h3;obtain⟨A7,c7,rfl,_,_,_⟩:=ak h3.out;obtain⟨N,hN⟩:∃N,N=X.length:=⟨_,rfl⟩;have HN:=aa hN;rw[<- hN]at h4 hw |-;by_cases e:q<many
  ·obtain⟨k1,hi⟩:∃k1,k1=many-(q+1):=⟨_,rfl⟩;have h0:=hX.out;rw[show many-q=k1+1 by omega]at h0;have he:=aa (Dx wr A m c bits p T (hr.out _ h3.below) hm hp hT);obtain⟨Y,hY⟩:∃Y,Y=bO (bits.drop p) 0 T:=⟨_,rfl⟩;rw[<- hY]at he;have hs:=aa hi;clear hX hi hN
   cases Y with
   | short=>rw[dL hY.symm]at h0;have h5:=aa (hg.out (.slice none 0 0) _ wr h0 (Ns _ _ _ _) h3.below);clear h0 hY h3 h4;go_wp2_with fail;refine he.out.mono ?_;rintro e w5 ⟨rfl,rfl⟩;dsimp only[uw];go_wp2_with fail;first|exact h5.out|(go_ret3;exact h5.out)
   | bad=>rw[eS hY.symm]at h0;have h5:=aa (hg.out (.slice none 0 0) _ wr h0 (Ns _ _ _ _) h3.below);clear h0 hY h3 h4;go_wp2_with fail;refine he.out.mono ?_;rintro e w5 ⟨rfl,rfl⟩;dsimp only[uw];go_wp2_with fail;first|exact h5.out|(go_ret3;exact h5.out)
   | hit k=>
    rw[dW hY.symm]at h0;have hk:=tW _ _ _ _ hY.symm (by omega);rw[Nq,ht.out]at hk;have hj:k<6:=(by omega);have hn:p+k+1<=m:=(by omega);have hh:=aa h0;have qo:=h3.cell k hj;obtain⟨y,hy⟩:∃y,y=o.getD k 0:=⟨_,rfl⟩;rw[<- hy]at qo hh;have hB:(0:Int)<=(k:Int):=(by omega);have hx:(k:Int)<6:=(by omega);obtain⟨A9,c9,w9,ho,h7⟩:=h4.out.push y HN.out.symm (by omega);have hf:=aa h7;have hu:=aa ho;have hv:=aa (Bb w9 (some ⟨g,0,none⟩) 6 c2 o k (aN h7.ord) (by omega) hj);clear h0 hY hy h3 ho h7 hk;go_wp2_with fail;refine he.out.mono ?_;rintro e w5 ⟨rfl,rfl⟩;dsimp only[uw];obtain⟨z,hz⟩:∃z,z=p+k+1:=⟨_,rfl⟩;rw[<- hz]at hh hn |-;clear hz;(go_wp2_with (at_builtin;refine Lib.wpList_append_run _ rfl (.tmp 34) (.tmp 39) 57 57 rfl (.slice A7 N c7) (.slice (some ⟨w5.heap.size,0,none⟩) 1 1) rfl rfl _ _ hu.out ?_));refine hv.out.mono ?_;rintro e w10 ⟨v10,rfl,hc,h9⟩;obtain⟨g10,c10,rfl,h6⟩:=hf.out.turn h9 hc;have h8:=aa h6;clear hc h9 h6;go_wp2_with fail;go_roundw;case rel=>
     refine⟨q+1,z,X++ [y],eu o k,g10,c10,by omega,by go_num,rfl,hn,rfl,h8.out,?_,?_⟩;·rw[<- hs.out];exact hh
     ·rw[Nc,<-HN.out];show N+1<=_;omega
    case measure=>simp[intOf];omega
  ·obtain rfl:q=many:=(by omega);have h0:=hX.out;rw[Ow,ax]at h0;have h5:=aa (hg.out (.slice A7 N c7) _ wr h0 (by show wr.ownsRow w.heap.size 3 1 (.slice A7 N c7) X.length (X.map iv);exact h4.out.out) h3.below);clear hX h0 hN h3 h4;go_wp2_with fail;first|exact h5.out|(go_ret3;exact h5.out)
theorem MB:(prog.info? 88).map (fun i=>(i.zero,i.size,i.bytes))=some (some (.slice none 0 0),1,24):=by kernel_rfl
theorem j4{w:World}{B B' k k' n n':Nat}{e e':TypeId}{v v':Value}{xs xs':List Value}(h:w.ownsRow B e k v n xs)(h':w.ownsRow B' e' k' v' n' xs')(he:e≠e'):v.ownBlock=none\/v.ownBlock≠v'.ownBlock:=by
 cases hv:v.ownBlock with
 | none=>exact .inl rfl
 | some b=>refine .inr fun hb=> ?_;obtain⟨c1,f1,e1⟩:=Lib.ownsRow_kind h b hv;obtain⟨c2,f2,e2⟩:=Lib.ownsRow_kind h' b hb.symm;rw[e2]at e1;simp at e1;exact he e1.2.1.symm
theorem dp.mono{w:World}{B B' g n:Nat}{C:Nat->List Nat}(h:dp w B g n C)(hB:B'<=B):dp w B' g n C:=by obtain⟨F,h1,h2⟩:=h;refine⟨F,World.ownsRow.mono h1 hB,fun j hj=> ?_⟩;obtain⟨A,k,a,b,c⟩:=h2 j hj;exact⟨A,k,a,b,World.ownsRow.mono c hB⟩
theorem dp.low_kept{w w2:World}{B g n:Nat}{C:Nat->List Nat}(h:dp w B g n C)(hb:Below w.heap.size w w2):dp w2 B g n C:=by obtain⟨F,h1,h2⟩:=h;refine⟨F,ef h1 hb,fun j hj=> ?_⟩;obtain⟨A,k,a,b,c⟩:=h2 j hj;exact⟨A,k,a,b,ef c hb⟩
theorem dp.grown_row{w w2:World}{B B' g n m:Nat}{C:Nat->List Nat}{v:Value}{xs:List Value}(h:dp w B g n C)(hv:w.ownsRow B' 88 1 v m xs)(hg:w.grownBy w2 v.ownBlock):dp w2 B g n C:=by obtain⟨F,h1,h2⟩:=h;refine⟨F,Pb h1 hg (j4 h1 hv (by decide)),fun j hj=> ?_⟩;obtain⟨A,k,a,b,c⟩:=h2 j hj;exact⟨A,k,a,b,Pb c hg (j4 c hv (by decide))⟩
theorem dp.alloc'{w:World}{B g n:Nat}{C:Nat->List Nat}(h:dp w B g n C)(o:Obj):dp (w.alloc o) B g n C:=by obtain⟨F,h1,h2⟩:=h;refine⟨F,h1.alloc _,fun j hj=> ?_⟩;obtain⟨A,k,a,b,c⟩:=h2 j hj;exact⟨A,k,a,b,c.alloc _⟩
structure xw (w0 w:World) (v:Value) (q n:Nat) (G:Nat->Nat) (C:Nat->Nat->List Nat):Prop where
 row:w.ownsRow w0.heap.size 88 1 v q ((List.range q).map fun t=>.slice (some ⟨G t,0,none⟩) n n)
 tab:∀t,t<q->dp w w0.heap.size (G t) n (C t)
 below:Below w0.heap.size w0 w
theorem xw.nil(w0 w:World)(n:Nat)(G:Nat->Nat)(C:Nat->Nat->List Nat)(h:Below w0.heap.size w0 w):xw w0 w (.slice none 0 0) 0 n G C:=
 ⟨Ns _ _ _ _,fun _ ht=>absurd ht (Px _),h⟩
theorem xw.push{w0 w w1:World}{A:Option Addr}{q cap n:Nat}{G:Nat->Nat}{C:Nat->Nat->List Nat}(h:xw w0 w (.slice A q cap) q n G C){g:Nat}{D:Nat->List Nat}(ht:dp w1 w.heap.size g n D)(hb:Below w.heap.size w w1)(hq:q<=1000)(hD:C q=D):
 ∃A2 cap2 w2,(Builtin.append_ #[163,163] 163 #[.slice A q cap,.slice (some ⟨w1.heap.size,0,none⟩) 1 1]).run prog (w1.alloc (.cells #[.slice (some ⟨g,0,none⟩) n n] 88))=.ok (.slice A2 (q+1) cap2) w2/\
  xw w0 w2 (.slice A2 (q+1) cap2) (q+1) n (fun t=>if t=q then g else G t) C:=by
 obtain⟨i2,h2,h6⟩:=Option.map_eq_some_iff.1 MB;simp only[Pv]at h6;obtain⟨h9,ha,hc⟩:=h6;have h7:=h.below.size;have h4:=h.below.trans (hb.mono h7);have h0:=ef h.row hb;have h5:=h4.size
 obtain⟨v2,w2,hr,ho,hg,_,_⟩:=Qz (P:=prog) (w1.alloc (.cells #[.slice (some ⟨g,0,none⟩) n n] 88)) w0.heap.size 163 163 88 i2 (.slice none 0 0) 1 24 underlying163 h2 h9 ha hc rfl (by decide) _ _ _ (h0.alloc _) ⟨w1.heap.size,0,none⟩ 1 1 [.slice (some ⟨g,0,none⟩) n n] rfl (Q7 w1 _ _)
  (fun u hu=>by rw[List.mem_singleton.1 hu];rfl) (by unfold maxLen;omega) (by omega) (by simp;omega)
 obtain⟨A2,cap2,rfl,_,_,_⟩:=ak ho;refine⟨A2,cap2,w2,hr,?_,fun t h8=> ?_,?_⟩
 ·have h3:=ho
  rw[show ((List.range q).map fun t=>Value.slice (some ⟨G t,0,none⟩) n n)++ [.slice (some ⟨g,0,none⟩) n n]=(List.range (q+1)).map fun t=>.slice (some ⟨if t=q then g else G t,0,none⟩) n n by
   rw[Oi,NF,Rk,Ng rfl]
   congr 1
   apply Oc
   intro t h8
   have:=List.mem_range.1 h8
   rw[Nf (by omega)]]at h3
  exact h3
 ·have h1:=h0.alloc (.cells #[.slice (some ⟨g,0,none⟩) n n] 88);by_cases e:t=q;·subst e;simp only[if_true];rw[hD];exact(((ht.mono h7).alloc' _).grown_row h1 hg)
  ·simp only[Nf e];exact((((h.tab t (by omega)).low_kept hb).alloc' _).grown_row h1 hg)
 ·exact(h4.alloc h5 _).grown hg (by simp;omega) (fun k hk=>(h0.lt k hk).1)
def MU(w:World)(v:Value)(q n:Nat)(C:Nat->Nat->List Nat):Prop:=
 ∃b c,v=.slice (some ⟨b,0,none⟩) q c/\∀t,t<q->∃g,w.cell? ⟨b,t,none⟩=some (.slice (some ⟨g,0,none⟩) n n)/\sG w g n (C t)
theorem xw.read{w0 w:World}{v:Value}{q n:Nat}{G:Nat->Nat}{C:Nat->Nat->List Nat}(h:xw w0 w v q n G C)(hq:0<q):MU w v q n C:=by obtain⟨A,c,rfl,_,_,hA⟩:=ak h.row;obtain⟨b,rfl⟩:=hA hq;refine⟨b,c,rfl,fun t ht=>⟨G t,?_,(h.tab t ht).read⟩⟩;rw[OR h.row t (by omega),Np,NN ht];rfl
def Il(T:List (List Int))(P L:List Int):Prop:=aP T P/\aR L.length<=P.length
instance (T:List (List Int)) (P L:List Int):Decidable (Il T P L):=inferInstanceAs (Decidable (_/\_))
def bX(T:List (List Int))(P L:List Int):List Nat×Nat:=
 if Il T P L then(if ∀x∈L,0<=x/\x<((T.getD 0 []).length:Int)then(dG (T.map nl) (nl P) (nl L) L.length,0)else([],60))else([],110)
theorem zy(T:List (List Nat))(P L:List Nat)(q:Nat):am (dG T P L q):=fun b hb=>by
 unfold dG at hb
 obtain⟨i,_,hi⟩:=List.mem_flatMap.1 hb
 exact aB _ _ b hi
theorem oI(T:List (List Nat))(P L:List Nat)(h:∀t∈T,∀x∈t,x<=20):∀q,(dG T P L q).length<=20*q
 | 0=>Nm _
 | q+1=>by
  have h1:=oI T P L h q;have h2:((T.getD (P.getD (q/50) 0) []).getD (L.getD q 0) 0)<=20:=by
   rcases NZ (P.getD (q/50) 0) T.length with h3|h3
   ·have h4:T.getD (P.getD (q/50) 0) []∈T:=(by rw[Nb,Nd h3];exact NL h3);rcases NZ (L.getD q 0) (T.getD (P.getD (q/50) 0) []).length with h5|h5;·exact h _ h4 _ (o6 h5)
    ·have h6:(T.getD (P.getD (q/50) 0) [])[L.getD q 0]? =none:=Ny h5;rw[Nb (l:=T.getD (P.getD (q/50) 0) []),h6];exact Nh _
   ·have h6:T[P.getD (q/50) 0]? =none:=Ny h3;rw[Nb (l:=T),h6];exact Nh _
  rw[mq,Nc,cU];omega
theorem qZ(T:List (List Int))(P L:List Int):am (bX T P L).1:=by
 unfold bX;split
 ·split;·exact zy _ _ _ _
  ·intro b hb;cases hb
 ·intro b hb;cases hb
theorem iU(T:List (List Int))(P L:List Int)(hL:L.length<=2000000):(bX T P L).1.length<=40000000:=by
 unfold bX;split
 ·rename_i hM;split
  ·have:=oI (T.map nl) (nl P) (nl L) (fun t ht x hx=>by
    obtain⟨t2,h0,rfl⟩:=List.mem_map.1 ht
    exact(Ev (kW (hM.1.2.2.2.2.1 t2 h0).2) x hx).2) L.length
   show(dG (T.map nl) (nl P) (nl L) L.length).length<=40000000;omega
  ·exact Nh _
 ·exact Nh _
theorem zx(T:List (List Int))(P L:List Int):(bX T P L).2<=110:=by
 unfold bX;split
 ·split;·exact Nh _
  ·show 60<=110;omega
 ·exact Nm _
def fK(T:List (List Int))(P L:List Int):Nat×Nat:=if(bX T P L).2=0 then((fC T P).1.length+(bX T P L).1.length,0)else(0,(bX T P L).2)
theorem BX{P:Program}{f:FuncId}{args:Array Value}{w:World}{R:Ending->World->Prop}(h:Calls P f args w R):∃e w',R e w':=by obtain⟨e,w',_,hR,_⟩:=h [];exact⟨e,w',hR⟩
theorem Ma(w:World)(L:List Int):ZIn (w.alloc (.cells (L.map fun(x:Int)=>Value.int .i64 x).toArray 3)) (some ⟨w.heap.size,0,none⟩) L.length L:=by refine⟨rfl,fun _=>⟨w.heap.size,0,rfl,fun i hi=> ?_⟩⟩;rw[N8,ac (aj w 3 _)];simp[hi]
theorem fB(l:List Nat):(zL l).length=l.length:=NC _
theorem j5(W:List Nat):(AE W).length=W.length:=NC _
def oq(l:List Nat)(n:Nat):Prop:=l.length=n/\a6 (zL l)/\bB (zL l)=1048576
theorem tL{n:Nat}{len:Nat->Nat}(h2:2<=n)(hn:n<=258)(hl:∀i,i<n->len i<=20)(hs:((List.range n).map fun i=>2^(20-len i)).sum=2^20):oq ((List.range n).map len) n:=by have h:=JB h2 hn hl hs;exact⟨by simp,h.1,h.2⟩
theorem wH(w:World)(W:List Nat)(h2:2<=W.length)(hn:W.length<=258)(hx:∀x∈W,x<=1073741824):oq (iE W) W.length:=by
 have hM:jk (zL W):=⟨by rw[fB];exact h2,by rw[fB];exact hn,fun x hx'=>by
  obtain⟨y,hy,rfl⟩:=List.mem_map.1 hx'
  have:=hx y hy
  exact⟨by omega,by omega⟩⟩
 obtain⟨e,w',hR⟩:=BX (JG (w.alloc (.cells ((zL W).map fun(x:Int)=>Value.int .i64 x).toArray 3)) (some ⟨w.heap.size,0,none⟩) (zL W).length (zL W).length (zL W) 17 (Ma w (zL W)) hM (by omega) (by omega));rcases hR with⟨h1,_⟩|⟨_,_,_,v,len,hm,_⟩
 ·rcases h1 with h|h|h;·exact absurd hM h
  ·omega
  ·omega
 ·have e1:jO (zL W)=AE W:=qu W;rw[e1]at hm;have h0:iu (AE W) 17 len:=hm;have hg:=C3 h0;rw[j5]at hg;have h:=tL h2 hn (fun i hi=>by have:=hg.1 i hi;omega) (hg.2 20 (by omega));unfold iE;rw[Av h0];exact h
theorem F0(W:List Nat)(h2:2<=W.length)(hn:W.length<=258):oq (oV W) W.length:=by
 obtain⟨k,hk⟩:∃k,k=Nat.log2 W.length:=⟨_,rfl⟩;have h1:2^k<=W.length:=by rw[hk];exact Nat.log2_self_le (by omega)
 have h3:W.length<2^(k+1):=by rw[hk];exact Nat.lt_log2_self
 have h0:k<=8:=by
  rcases NZ 8 k with h|h;·have h4:2^9<=2^k:=Oj (by decide) h;omega
  ·exact h
 have hs:=CB (AE W) k (by rw[j5];exact h1) (by rw[j5];exact h3) 20 (by omega);rw[j5]at hs;have h:=tL h2 hn (fun i _=>by unfold bZ;split <;>omega) hs;unfold oV;rw[<- hk];exact h
theorem ep(L P:List Nat)(t n:Nat):(bD L P t n).length=n:=by simp[bD]
theorem Cm(L P:List Nat)(t n:Nat):∀x∈bD L P t n,x<=L.length:=by intro x hx;obtain⟨s,_,rfl⟩:=List.mem_map.1 hx;exact m7 L P t s L.length
theorem fp(L:List Nat)(n T:Nat):∀r,(cI L n T r).1.length=T
 | 0=>by simp[cI,Kr]
 | r+1=>by simp[cI,yB]
def eX(T:List (List Int))(P L:List Int)(m:Int):Prop:=aP T P/\P.length=aR L.length/\∀t∈T,(t.length:Int)=m/\a6 t/\bB t=1048576
theorem Ad{n:Nat}(h:1<=n)(h2:n<=1638350):1<=aR n/\aR n<=32767:=by unfold aR;omega
theorem En{T:List (List Int)}{P L:List Int}{m:Int}(hM:iJ L m)(h2:2<=T.length)(h6:T.length<=6)(hP:P.length=aR L.length)(hx:∀x∈P,0<=x/\x<(T.length:Int))(ht:∀t∈T,(t.length:Int)=m/\a6 t/\bB t=1048576):eX T P L m:=by have hg:=Ad hM.2.2.1 hM.2.2.2.1;have h0:(T.getD 0 [])∈T:=iZ (by omega);have hm:=(ht _ h0).1;have h3:=hM.1;exact⟨⟨h2,h6,by omega,by omega,fun t h=>⟨by have:=(ht t h).1;omega,(ht t h).2.1⟩,hx,by omega⟩,hP,ht⟩
theorem EO{l:List Nat}{m:Int}{n:Nat}(h:oq l n)(hm:(n:Int)=m):((zL l).length:Int)=m/\a6 (zL l)/\bB (zL l)=1048576:=⟨by rw[fB,h.1];exact hm,h.2.1,h.2.2⟩
theorem rq(L:List Int):(iP L).length=L.length:=NC _
theorem rg(w:World){L:List Int}{m:Int}(hM:iJ L m):eX (a9 L m).1 (a9 L m).2.1 L m:=by
 have hT:=rN L.length;have hm:((m.toNat:Nat):Int)=m:=Qc (by have:=hM.1;omega);have h3:=hM.1;have h0:=hM.2.1;have h2:=hM.2.2.2.1;rw[a9,Ng hM];refine En hM ?_ ?_ ?_ ?_ ?_;·rw[NC,fp];exact hT.1
 ·rw[NC,fp];exact hT.2
 ·rw[fB];show(lF (iP L) _).length=_;simp[lF,rq]
 ·intro x hx;obtain⟨y,hy,rfl⟩:=List.mem_map.1 hx;have h4:y∈lF (iP L) (cI (iP L) m.toNat (dD L.length) 3).1:=hy;obtain⟨k,_,rfl⟩:=List.mem_map.1 h4;have:=(AI (cI (iP L) m.toNat (dD L.length) 3).1 (dc (iP L) k) (by rw[fp];omega)).1;rw[fp]at this;rw[NC,fp];exact⟨by omega,by omega⟩
 ·intro t ht;obtain⟨l,hl,rfl⟩:=List.mem_map.1 ht;have h1:l∈yB (iP L) (lF (iP L) (cI (iP L) m.toNat (dD L.length) 3).1) m.toNat (dD L.length):=hl;obtain⟨t,_,rfl⟩:=List.mem_map.1 h1
  have h:=wH w (bD (iP L) (lF (iP L) (cI (iP L) m.toNat (dD L.length) 3).1) t m.toNat) (by rw[ep];omega) (by rw[ep];omega) (fun x hx=>by
   have:=Cm _ _ _ _ x hx
   rw[rq]at this
   omega)
  rw[ep]at h;exact EO h hm
theorem qg{L:List Int}{m:Int}(hM:iJ L m):eX (bi L m).1 (bi L m).2.1 L m:=by
 have hm:((m.toNat:Nat):Int)=m:=Qc (by have:=hM.1;omega);have h3:=hM.1;have h0:=hM.2.1;have hf:oq (lx (iP L) m.toNat) m.toNat:=by have h:=F0 (bD (iP L) (List.replicate (aR (iP L).length) 0) 0 m.toNat) (by rw[ep];omega) (by rw[ep];omega);rw[ep]at h;exact h
 rw[bi,Ng hM];refine En hM (Nm 2) (by show 2<=6;omega) ?_ ?_ ?_;·rw[fB,NE]
 ·intro x hx;obtain⟨y,hy,rfl⟩:=List.mem_map.1 hx;rw[(List.mem_replicate.1 hy).2];exact⟨by omega,by show((0:Nat):Int)<2;omega⟩
 ·intro t ht;have e:t=zL (lx (iP L) m.toNat):=by
   rcases List.mem_cons.1 ht with h|h;·exact h
   ·exact List.mem_singleton.1 h
  rw[e];exact EO hf hm
theorem lz{T:List (List Int)}{P L:List Int}{m:Int}(h:eX T P L m)(hM:iJ L m):bX T P L=(dG (T.map nl) (nl P) (nl L) L.length,0):=by
 have hT:=h.1.1;have h0:(T.getD 0 [])∈T:=iZ (by omega);have hm:=(h.2.2 _ h0).1
 rw[bX,Ng ⟨h.1,by rw[h.2.1];exact Nm _⟩,Ng (fun x hx=>by
  have:=hM.2.2.2.2 x hx
  exact⟨this.1,by omega⟩)]
theorem aQ.past{w w':World}{v:Value}{T:List (List Int)}{P:List Int}(h:aQ w v T P)(hT:∀t∈T,0<t.length){g:Nat}{u:TypeId}(hg:Blk w g u #[.slice none 0 0,.slice none 0 0])
 (hk:∀k,k≠g->w'.heap[k]? =w.heap[k]?):aQ w' v T P:=by
 have ha:∀b o,b≠g->w'.cell? ⟨b,o,none⟩=w.cell? ⟨b,o,none⟩:=by intro b o hb;simp only[World.cell?,hk b hb]
 have he:∀o x,w.cell? ⟨g,o,none⟩=some x->x=.slice none 0 0:=by
  intro o x hx;rw[ac hg o]at hx;rcases o with _|_|o;·simpa using hx.symm
  ·simpa using hx.symm
  ·simp at hx
 have hz:∀(A:Option Addr) (n:Nat) (L:List Int),ZIn w A n L->ZIn w' A n L:=by intro A n L hz;refine⟨hz.1,fun hn=> ?_⟩;obtain⟨b,off,rfl,hc⟩:=hz.2 hn;have hf:b≠g:=(by rintro rfl;have:=he _ _ (hc 0 hn);cases this);exact⟨b,off,rfl,fun i hi=>(ha b _ hf).trans (hc i hi)⟩
 obtain⟨A,n,c,B,m,d,h0,h1,h2,h3,h4,h5,h6⟩:=h;refine⟨A,n,c,B,m,d,h0,⟨h1.1,fun hn=> ?_⟩,h2,h3,hz _ _ _ h4,h5,h6⟩;obtain⟨b,off,rfl,hc⟩:=h1.2 hn;have hf:b≠g:=by rintro rfl;obtain⟨A2,c2,k1,_⟩:=hc 0 hn;have h7:=he _ _ k1;have h8:T.getD 0 []∈T:=iZ (by rw[h1.1];exact hn);have h9:=hT _ h8;simp only[Ou]at h7;omega
 refine⟨b,off,rfl,fun i hi=> ?_⟩;obtain⟨A2,c2,k1,k2,k3,k4⟩:=hc i hi;exact⟨A2,c2,(ha b _ hf).trans k1,hz _ _ _ k2,k3,k4⟩
noncomputable def fN (L:List Int) (m:Int):List (List Int)×List Int×Nat:=
 if iJ L m then(if(fK (bi L m).1 (bi L m).2.1 L).1<(fK (a9 L m).1 (a9 L m).2.1 L).1 then bi L m else a9 L m)else([], [],2)
theorem wC{T:List (List Int)}{P L:List Int}{m:Int}(h:eX T P L m)(hM:iJ L m):∀t∈T,0<t.length:=fun t ht=>by
 have:=(h.2.2 t ht).1
 have:=hM.1
 omega
theorem lH(w:World)(g:Nat)(u v:Value):∀k,k≠g->((w.setCell ⟨g,0,none⟩ u).setCell ⟨g,1,none⟩ v).heap[k]? =w.heap[k]? :=by intro k hk;rw[OZ _ ⟨g,1,none⟩ v k hk,OZ _ ⟨g,0,none⟩ u k hk]
theorem nc(w:World)(A:Option Addr)(n c:Nat)(a k:Nat)(_hn:n<=1000000000000)(_ha:a<=n)(hk:k<=64)(_h:n<a+k):
 Calls prog 39 #[.slice A n c,.int .i64 a,.int .i64 k] w fun e w'=>e=.returned (.tuple #[.int .u64 0,.int .i64 10])/\w=w':=by go_enter func39,ntmps39;go_wp2;go_ret2;exact⟨rfl,rfl⟩
theorem yd(w:World)(A:Option Addr)(n c:Nat)(L:List Nat)(a k:Nat)(hi:aw w A n L)(hb:am L)(hc:n<=c)(hn:c<=maxLen)(hk:k<=64)(h0:a+k<=n):
 Calls prog 39 #[.slice A n c,.int .i64 a,.int .i64 k] w fun e w'=>e=.returned (.tuple #[.int .u64 (val ((L.drop a).take k)),.int .i64 0])/\w=w':=by
 unfold maxLen at hn;have h1:=hb.drop a;go_enter func39,ntmps39;go_wp2_with fail;·refine(lD w A k 0 ((L.drop a).take k) (hi.nil (by omega) h0) (h1.take k) hk).mono ?_;rintro e w' ⟨rfl,rfl⟩;go_wp2_with fail;go_ret2;exact⟨rfl,rfl⟩
 ·refine(lD w (Option.map (fun x=>x.add a) A) k (c-a) ((L.drop a).take k) (hi.cut h0) (h1.take k) hk).mono ?_;rintro e w' ⟨rfl,rfl⟩;go_wp2_with fail;go_ret2;exact⟨rfl,rfl⟩
theorem nY{w:World}{B e n p:Nat}{v:Value}{xs:List Value}{u:TypeId}{ds:Array Value}(h:w.ownsRow B e 1 v n xs)(k:Blk w p u ds)(h0:e≠u):∀j,v.ownBlock=some j->j∉ [p]:=by intro j hj hm;rw[Ok]at hm;subst hm;obtain⟨c1,f1,e1⟩:=Lib.ownsRow_kind h j hj;unfold Blk at k;rw[e1]at k;simp only[On,RR]at k;exact h0 k.2.1
structure kI (w0 w:World) (v:Value) (q:Nat) (F:Nat->Value) (C:Nat->List Nat):Prop where
 row:w.ownsRow w0.heap.size 57 1 v q ((List.range q).map F)
 each:∀t,t<q->(∃ A k,F t=.slice A (C t).length k/\(C t).length<=k)/\w.ownsRow w0.heap.size 3 1 (F t) (C t).length ((C t).map iv)
 below:Below w0.heap.size w0 w
theorem kI.nil(w0 w:World)(F:Nat->Value)(C:Nat->List Nat)(h:Below w0.heap.size w0 w):kI w0 w (.slice none 0 0) 0 F C:=
 ⟨Ns _ _ _ _,fun _ ht=>absurd ht (Px _),h⟩
theorem kI.store{w0 w:World}{v:Value}{q:Nat}{F:Nat->Value}{C:Nat->List Nat}(h:kI w0 w v q F C){g:Nat}{u:TypeId}{ds:Array Value}(hg:Blk w g u ds)(h1:(57:TypeId)≠u)(h2:(3:TypeId)≠u)(h0:w0.heap.size<=g)(i:Nat)(x:Value):kI w0 (w.setCell ⟨g,i,none⟩ x) v q F C:=by have hs:al w0.heap.size [g] [] w (w.setCell ⟨g,i,none⟩ x):=(al.refl _ _ _ w).set (p:=⟨g,i,none⟩) h0 (by simp) x;exact⟨hs.row h.row (nY h.row hg h1) ar,fun t ht=>⟨(h.each t ht).1,hs.row (h.each t ht).2 (nY (h.each t ht).2 hg h2) ar⟩,h.below.setCell (p:=⟨g,i,none⟩) h0 x⟩
theorem kI.push{w0 w w1:World}{A:Option Addr}{q cap:Nat}{F:Nat->Value}{C:Nat->List Nat}(h:kI w0 w (.slice A q cap) q F C){A1:Option Addr}{n k1:Nat}(ht:w1.ownsRow w.heap.size 3 1 (.slice A1 n k1) n ((C q).map iv))(hb:Below w.heap.size w w1)(hq:q<=1000)(hD:(C q).length=n):
 ∃A2 cap2 w2,(Builtin.append_ #[88,88] 88 #[.slice A q cap,.slice (some ⟨w1.heap.size,0,none⟩) 1 1]).run prog (w1.alloc (.cells #[.slice A1 n k1] 57))=.ok (.slice A2 (q+1) cap2) w2/\
  kI w0 w2 (.slice A2 (q+1) cap2) (q+1) (fun t=>if t=q then .slice A1 n k1 else F t) C/\∀(g:Nat) (u:TypeId) (ds:Array Value),Blk w1 g u ds->(57:TypeId)≠u->Blk w2 g u ds:=by
 obtain⟨i2,h2,ha⟩:=Option.map_eq_some_iff.1 CT;simp only[Pv]at ha;obtain⟨hi,hl,hm⟩:=ha;have hc:=h.below.size;have h6:=h.below.trans (hb.mono hc);have h0:=ef h.row hb;have h9:=h6.size;obtain⟨_,_,hf,h7,_,_⟩:=ak ht;simp only[Ou]at hf;obtain⟨rfl,_,rfl⟩:=hf
 obtain⟨v2,w2,hr,ho,hg,_,_⟩:=Qz (P:=prog) (w1.alloc (.cells #[.slice A1 n k1] 57)) w0.heap.size 88 88 57 i2 (.slice none 0 0) 1 24 underlying88 h2 hi hl hm rfl (by decide) _ _ _ (h0.alloc _) ⟨w1.heap.size,0,none⟩ 1 1 [.slice A1 n k1] rfl (Q7 w1 _ _)
  (fun u hu=>by rw[List.mem_singleton.1 hu];rfl) (by unfold maxLen;omega) (by omega) (by simp;omega)
 obtain⟨A2,cap2,rfl,_,_,_⟩:=ak ho;have h1:=h0.alloc (.cells #[.slice A1 n k1] 57);refine⟨A2,cap2,w2,hr,⟨?_,fun t he=> ?_,?_⟩,fun g u ds hgb hne=> ?_⟩
 ·have h3:=ho
  rw[show ((List.range q).map F)++ [.slice A1 n k1]=(List.range (q+1)).map fun t=>if t=q then .slice A1 n k1 else F t by
   rw[Oi,NF,Rk,Ng rfl]
   congr 1
   apply Oc
   intro t he
   have:=List.mem_range.1 he
   rw[Nf (by omega)]]at h3
  exact h3
 ·by_cases e:t=q;·subst e;simp only[if_true];have h5:=(World.ownsRow.mono ht hc).alloc (.cells #[.slice A1 n k1] 57);rw[hD];exact⟨⟨A1,k1,rfl,h7⟩,Pb h5 hg (j4 h5 h1 (by decide))⟩
  ·simp only[Nf e];have h5:=(ef (h.each t (by omega)).2 hb).alloc (.cells #[.slice A1 n k1] 57);exact⟨(h.each t (by omega)).1,Pb h5 hg (j4 h5 h1 (by decide))⟩
 ·exact(h6.alloc h9 _).grown hg (by simp;omega) (fun k hk=>(h0.lt k hk).1)
 ·have hh:g<w1.heap.size:=(Array.getElem?_eq_some_iff.1 hgb).1;have h4:Blk (w1.alloc (.cells #[.slice A1 n k1] 57)) g u ds:=(by unfold Blk;rw[heap_alloc_old _ _ hh];exact hgb);have h8:∀j,(Value.slice A q cap).ownBlock=some j->j≠g:=fun j hj e=>nY h1 h4 hne j hj (by rw[e];simp);unfold Blk at h4 |-;rw[hg.block g (by simp;omega) (fun e=>h8 g e.symm rfl)];exact h4
theorem kI.tabZ{w0 w:World}{A:Option Addr}{q c:Nat}{F:Nat->Value}{C:Nat->List Nat}(h:kI w0 w (.slice A q c) q F C)(hm:∀t,t<q->(C t).length<=1000):vf w A q ((List.range q).map fun t=>zL (C t)):=by
 refine⟨by simp,fun hq=> ?_⟩;obtain⟨A',c',hv,_,_,hA⟩:=ak h.row;simp only[Ou]at hv;obtain⟨rfl,_,rfl⟩:=hv;obtain⟨b,rfl⟩:=hA hq;refine⟨b,0,rfl,fun i hi=> ?_⟩;obtain⟨⟨A2,k2,e1,e2⟩,e3⟩:=h.each i hi;have h0:((List.range q).map fun t=>zL (C t)).getD i []=zL (C i):=by rw[Nb,Np,NN hi];rfl
 rw[h0,fB];refine⟨A2,k2,?_,?_,e2,?_⟩;·rw[N8,OR h.row i (by omega),Np,NN hi,<-e1];rfl
 ·rw[e1]at e3;have:=dK (aN e3);exact this
 ·have:=hm i hi;unfold maxLen;omega
def dF(bits:List Nat)(n:Nat):Nat->Nat->List (List Nat)->List (List Nat)×Nat×Nat
 | 0,p,acc=>(acc,p,0)
 | t+1,p,acc=>if(ao bits p n).2.2=0 then(if a6 (zL (ao bits p n).1)then dF bits n t (ao bits p n).2.1 (acc++ [(ao bits p n).1])else([],0,80))else([],0,(ao bits p n).2.2)
def rP(bits:List Nat)(n a T K:Nat):List (List Int)×List Int×Nat×Nat:=
 if(ax bits T K [0,1,2,3,4,5] (a+18) []).2.2=0 then
  (if(dF bits n T (ax bits T K [0,1,2,3,4,5] (a+18) []).2.1 []).2.2=0 then
    (((dF bits n T (ax bits T K [0,1,2,3,4,5] (a+18) []).2.1 []).1.map zL),zL (ax bits T K [0,1,2,3,4,5] (a+18) []).1,(dF bits n T (ax bits T K [0,1,2,3,4,5] (a+18) []).2.1 []).2.1,0)
  else([], [],0,(dF bits n T (ax bits T K [0,1,2,3,4,5] (a+18) []).2.1 []).2.2))
 else([], [],0,(ax bits T K [0,1,2,3,4,5] (a+18) []).2.2)
def jI(bits:List Nat)(n a:Nat):List (List Int)×List Int×Nat×Nat:=
 if bits.length<a+3 then([], [],0,10)
 else if val ((bits.drop a).take 3)<2\/6<val ((bits.drop a).take 3)then([], [],0,110)
 else if bits.length<a+18 then([], [],0,10)
 else if val ((bits.drop (a+3)).take 15)=0 then([], [],0,110)
 else rP bits n a (val ((bits.drop a).take 3)) (val ((bits.drop (a+3)).take 15))
def dC(bits:List Nat)(at' n:Int):List (List Int)×List Int×Nat×Nat:=
 if at'<0\/(bits.length:Int)<at'\/n<3\/258<n then([], [],0,2)else jI bits n.toNat at'.toNat
def lW(w:World)(ans:List (List Int)×List Int×Nat×Nat)(e:Ending)(w':World):Prop:=
 ∃v,e=.returned (.tuple #[v,.int .i64 ans.2.2.1,.int .i64 ans.2.2.2])/\aQ w' v ans.1 ans.2.1/\Below w.heap.size w w'
theorem fR(bits:List Nat)(T:Nat)(hT:0<T):∀(k:Nat) (o:List Nat) (p:Nat) (out:List Nat),p<=bits.length->(ax bits T k o p out).2.1<=bits.length/\(ax bits T k o p out).2.2<=110
 | 0,_,_,_,h=>⟨h,Nh _⟩
 | k+1,o,p,out,h=>by
  cases hp:bO (bits.drop p) 0 T with
  | hit n=>have hl:=(tW (bits.drop p) 0 T n hp hT).2.1;rw[Nq]at hl;rw[dW hp];exact fR bits T hT k _ _ _ (by omega)
  | short=>rw[dL hp];exact⟨Nh _,by show 10<=110;omega⟩
  | bad=>rw[eS hp];exact⟨Nh _,Nm _⟩
theorem Br:∀(bs:List Nat) (now n p:Nat) (out:List Nat),(bu bs now n p out).2.1<=p+bs.length/\(bu bs now n p out).2.2<=80:=by
 intro bs
 induction h:bs.length using Nat.strongRecOn generalizing bs with
 | _ m ih=>
  intro now n p out;subst h;rcases n with _|n;·rw[eG];exact⟨QF _ _,Nh _⟩
  ·by_cases hb:now<1\/20<now;·rw[f6 _ _ _ _ _ hb];exact⟨Nh _,Nm _⟩
   ·rcases bs with _|⟨b,bs⟩;·rw[ik _ _ _ _ hb];exact⟨Nh _,by show 10<=80;omega⟩
    ·by_cases h0:b=0;·subst h0;rw[ft _ _ _ _ _ hb];have:=ih bs.length (by simp) bs rfl now n (p+1) (out++ [now]);rw[Nv];exact⟨by omega,this.2⟩
     ·rcases bs with _|⟨d,bs⟩;·rw[ji _ _ _ _ _ hb h0];exact⟨Nh _,by show 10<=80;omega⟩
      ·rw[eH _ _ _ _ _ _ _ hb h0];have:=ih bs.length (by simp only[Nv];omega) bs rfl (if d=0 then now+1 else now-1) (n+1) (p+2) out;rw[Nv,Nv];exact⟨by omega,this.2⟩
theorem kD(bits:List Nat)(at' n:Int):(ao bits at' n).2.1<=bits.length/\(ao bits at' n).2.2<=80:=by
 unfold ao;split;·exact⟨Nh _,by show 2<=80;omega⟩
 ·split;·exact⟨Nh _,by show 10<=80;omega⟩
  ·have:=Br (bits.drop (at'.toNat+5)) (val ((bits.drop at'.toNat).take 5)) n.toNat (at'.toNat+5) [];rw[Nq]at this;exact⟨by omega,this.2⟩
theorem kI.same{w0 w:World}{v:Value}{q:Nat}{F:Nat->Value}{C D:Nat->List Nat}(h:kI w0 w v q F C)(hs:∀t,t<q->C t=D t):kI w0 w v q F D:=
 ⟨h.row,fun t ht=>by rw[<- hs t ht];exact h.each t ht,h.below⟩
theorem lP{bits:List Nat}{n t p:Nat}{acc:List (List Nat)}:dF bits n (t+1) p acc=if(ao bits p n).2.2=0 then(if a6 (zL (ao bits p n).1)then dF bits n t (ao bits p n).2.1 (acc++ [(ao bits p n).1])else([],0,80))else([],0,(ao bits p n).2.2):=rfl
theorem Dz(w:World)(A:Option Addr)(m c:Nat)(bits:List Nat)(a0 n:Nat)(hb:aw w A m bits)(HL:m<=c)(hm:m<=1000000)(hc:c<=maxLen)(p1:am bits)(ha:a0<=m)(r6:3<=n)(hn:n<=258):
 Calls prog 79 #[.slice A m c,.int .i64 a0,.int .i64 n] w (lW w (jI bits n a0)):=by
 have HI:=hb.1;obtain⟨w1,H1⟩:∃w1,w1=w.alloc (.cells #[.slice none 0 0,.slice none 0 0] 90):=⟨_,rfl⟩;have HH:Below w.heap.size w w1:=bQ H1;have p7:Blk w1 w.heap.size 90 #[.slice none 0 0,.slice none 0 0]:=eJ H1;have h7:Hid (∀ (wx:World) (k:Nat),jI bits n a0=([], [],0,k)->Blk wx w.heap.size 90 #[.slice none 0 0,.slice none 0 0]->Below w.heap.size w wx->lW w (jI bits n a0) (.returned (.tuple #[.agg #[.slice none 0 0,.slice none 0 0],.int .i64 0,.int .i64 k])) ((wx.setCell ⟨w.heap.size,0,none⟩ (.slice none 0 0)).setCell ⟨w.heap.size,1,none⟩ (.slice none 0 0))):=aa fun wx k h1 _ h3=>by rw[h1];exact⟨_,rfl,qy _,(h3.setCell (p:=⟨w.heap.size,0,none⟩) (ah _) _).setCell (p:=⟨w.heap.size,1,none⟩) (ah _) _⟩
 have q5:Hid (∀ (wx:World) (v:Value) (T:List (List Int)) (P:List Int) (pl:Nat),jI bits n a0=(T,P,pl,0)->aQ wx v T P->Below w.heap.size w wx->lW w (jI bits n a0) (.returned (.tuple #[v,.int .i64 pl,.int .i64 0])) wx):=aa fun wx v T P pl h1 h2 h3=>⟨v,by rw[h1];rfl,by rw[h1];exact h2,h3⟩;have hY:=aa (bN hb HH)
 have hN:jI bits n a0=if m<a0+3 then([], [],0,10)
  else if val ((bits.drop a0).take 3)<2\/6<val ((bits.drop a0).take 3)then([], [],0,110)
  else if m<a0+18 then([], [],0,10)
  else if val ((bits.drop (a0+3)).take 15)=0 then([], [],0,110)
  else rP bits n a0 (val ((bits.drop a0).take 3)) (val ((bits.drop (a0+3)).take 15)):=by rw[<- HI];rfl
 generalize lW w (jI bits n a0)=PO at*;generalize jI bits n a0=ans at*;have h4:=aa p7;have hF:=aa HH;have hH:=aa p1;have hI:=aa HI;have hp:=aa hN;have d0:decide ((a0:Int)<0)=false:=aD (by omega);have d2:decide ((n:Int)<3)=false:=aD (by omega);have d3:decide ((258:Int)<(n:Int))=false:=aD (by omega);unfold maxLen at hc;clear hb HI p1 HH p7 hN;go_enter func79,ntmps79;go_upto_region 3 with fail;rw[<- H1];clear H1;by_cases e1:m<a0+3;·have HN:=aa (nc w1 A m c a0 3 (by omega) ha (by omega) e1);have h0:=hp.out;rw[Ng e1]at h0;have HA:=aa h0;clear h0 hp;go_wp2_with fail;refine HN.out.mono ?_;rintro e w2 ⟨rfl,rfl⟩;have h8:=aa (h7.out w1 10 HA.out h4.out hF.out);have q0:=(ac h4.out 0).trans rfl;have q1:=(ac h4.out 1).trans rfl;have f0:=ae h4.out 0;have f1:=ae h4.out 1;go_wp2_with fail;refine ND (v:=.tuple #[.agg #[.slice none 0 0,.slice none 0 0],.int .i64 0,.int .i64 10]) ?_ rfl h8.out;simp[results,results79,go_sem,q0,q1]
 ·have HN:=aa (yd w1 A m c bits a0 3 hY.out hH.out HL (by unfold maxLen;omega) (by omega) (by omega));have qb:val ((bits.drop a0).take 3)<2^3:=by have h:=fu _ ((hH.out.drop a0).take 3);rw[Nz,Nq,hI.out,Oh (by omega)]at h;exact h
  have h0:=hp.out;rw[Nf e1]at h0;obtain⟨T,hT⟩:∃T,T=val ((bits.drop a0).take 3):=⟨_,rfl⟩;rw[<- hT]at HN qb h0;have h9:=aa h0;clear h0 hp hT;by_cases e2:T<2\/6<T
  ·have h0:=h9.out;rw[Ng e2]at h0;have HA:=aa h0;clear h0 h9;by_cases e3:T<2;·have d5:decide ((T:Int)<2)=true:=aX (by omega);clear e2;go_wp2_with fail;refine HN.out.mono ?_;rintro e w2 ⟨rfl,rfl⟩;have h8:=aa (h7.out w1 110 HA.out h4.out hF.out);have q0:=(ac h4.out 0).trans rfl;have q1:=(ac h4.out 1).trans rfl;have f0:=ae h4.out 0;have f1:=ae h4.out 1;go_wp2_with fail;refine ND (v:=.tuple #[.agg #[.slice none 0 0,.slice none 0 0],.int .i64 0,.int .i64 110]) ?_ rfl h8.out;simp[results,results79,go_sem,q0,q1]
   ·have d5:decide ((T:Int)<2)=false:=aD (by omega);have d6:decide ((6:Int)<(T:Int))=true:=aX (by omega);clear e2;go_wp2_with fail;refine HN.out.mono ?_;rintro e w2 ⟨rfl,rfl⟩;have h8:=aa (h7.out w1 110 HA.out h4.out hF.out);have q0:=(ac h4.out 0).trans rfl;have q1:=(ac h4.out 1).trans rfl;have f0:=ae h4.out 0;have f1:=ae h4.out 1;go_wp2_with fail;refine ND (v:=.tuple #[.agg #[.slice none 0 0,.slice none 0 0],.int .i64 0,.int .i64 110]) ?_ rfl h8.out;simp[results,results79,go_sem,q0,q1]
  ·have h0:=h9.out;rw[Nf e2]at h0;have he:=aa h0;have d5:decide ((T:Int)<2)=false:=aD (by omega);have d6:decide ((6:Int)<(T:Int))=false:=aD (by omega);obtain⟨p3,HP⟩:∃p3,p3=a0+3:=⟨_,rfl⟩;have qv:(a0:Int)+3=(p3:Int):=(by omega);have r1:2<=T:=(by omega);have qa:T<=6:=(by omega);clear h0 h9 e2;by_cases e4:m<a0+18;·have hJ:=aa (nc w1 A m c p3 15 (by omega) (by omega) (by omega) (by omega));have h0:=he.out;rw[Ng e4]at h0;have HA:=aa h0;clear h0 he HP;go_wp2_with fail;refine HN.out.mono ?_;rintro e w2 ⟨rfl,rfl⟩;go_wp2_with fail;refine hJ.out.mono ?_;rintro e w2 ⟨rfl,rfl⟩;have h8:=aa (h7.out w1 10 HA.out h4.out hF.out);have q0:=(ac h4.out 0).trans rfl;have q1:=(ac h4.out 1).trans rfl;have f0:=ae h4.out 0;have f1:=ae h4.out 1;go_wp2_with fail;refine ND (v:=.tuple #[.agg #[.slice none 0 0,.slice none 0 0],.int .i64 0,.int .i64 10]) ?_ rfl h8.out;simp[results,results79,go_sem,q0,q1]
   ·have hJ:=aa (yd w1 A m c bits p3 15 hY.out hH.out HL (by unfold maxLen;omega) (by omega) (by omega));have HC:val ((bits.drop p3).take 15)<2^15:=(by have h:=fu _ ((hH.out.drop p3).take 15);rw[Nz,Nq,hI.out,Oh (by omega)]at h;exact h);have h0:=he.out;rw[Nf e4,<-HP]at h0;obtain⟨K,hK⟩:∃K,K=val ((bits.drop p3).take 15):=⟨_,rfl⟩;rw[<- hK]at hJ HC h0;have q9:K<32768:=(by simpa using HC);have hf:=aa h0;clear h0 he HP hK HC;by_cases e5:K=0;·have h0:=hf.out;rw[Ng e5]at h0;have HA:=aa h0;have d7:((K:Int)==0)=true:=(by rw[e5];rfl);clear h0 hf;go_wp2_with fail;refine HN.out.mono ?_;rintro e w2 ⟨rfl,rfl⟩;go_wp2_with fail;refine hJ.out.mono ?_;rintro e w2 ⟨rfl,rfl⟩;have h8:=aa (h7.out w1 110 HA.out h4.out hF.out);have q0:=(ac h4.out 0).trans rfl;have q1:=(ac h4.out 1).trans rfl;have f0:=ae h4.out 0;have f1:=ae h4.out 1;go_wp2_with fail;refine ND (v:=.tuple #[.agg #[.slice none 0 0,.slice none 0 0],.int .i64 0,.int .i64 110]) ?_ rfl h8.out;simp[results,results79,go_sem,q0,q1]
    ·have h0:=hf.out;rw[Nf e5]at h0;have d7:((K:Int)==0)=false:=(by rw[NA];omega);obtain⟨p18,hV⟩:∃p18,p18=a0+18:=⟨_,rfl⟩;have pf:(a0:Int)+18=(p18:Int):=(by omega);have HX:=aa (AY w1 A m c bits p18 T K hY.out hm (by omega) (by omega) qa (by omega));have hE:=fR bits T (by omega) K [0,1,2,3,4,5] p18 [] (by rw[hI.out];omega);rw[hI.out]at hE;unfold rP at h0;rw[<- hV]at h0;generalize ax bits T K [0,1,2,3,4,5] p18 []=pk at*;obtain⟨out,p0,ck⟩:=pk;dsimp only at h0 hE;obtain⟨qq,r2⟩:=hE;have hh:=aa h0;clear h0 hf hV;go_wp2_with fail;refine HN.out.mono ?_;rintro e w2 ⟨rfl,rfl⟩;go_wp2_with fail;refine hJ.out.mono ?_;rintro e w2 ⟨rfl,rfl⟩;go_wp2_with fail;refine HX.out.mono ?_;rintro e w3 ⟨v3,rfl,H0,hZ⟩;obtain⟨A3,c3,rfl,hD,HM,_⟩:=ak H0;dsimp only at H0 hD HM |-;have hw:=aa (aO hZ h4.out);have HR:=aa (ap hF.out hZ);have pv:=aa (bN hY.out hZ);have HW:=aa (dK (aN H0));obtain⟨N3,HD⟩:∃N3,N3=out.length:=⟨_,rfl⟩;rw[<- HD]at HW hD |-;have q4:=aa HD;clear H0 hZ HD HX;by_cases e6:ck=0
     ·subst e6;have h0:=hh.out;rw[Ng rfl]at h0;have hj:=aa h0;clear h0 hh;have hC:Below w3.heap.size w3 (w3.alloc (.cells #[.slice none 0 0,.slice A3 N3 c3] 90)):=(Nj _ _).alloc (ah _) _;have po:=aa (aj w3 90 #[.slice none 0 0,.slice A3 N3 c3]);have q2:=aa (aO hC hw.out);have ql:w.heap.size<w3.heap.size:=(Array.getElem?_eq_some_iff.1 hw.out).1;have H2:=aa hC;clear hC;go_upto_region 17 with fail;generalize w3.alloc (.cells #[.slice none 0 0,.slice A3 N3 c3] 90)=w4 at*;go_wp2_with fail;(go_loopw [1,14] (fun av tv wx=>∃(t p:Nat) (acc:List (List Nat)) (F:Nat->Value) (v:Value),t<=T/\tv=.int .i64 t/\av=.int .i64 p/\p<=m/\acc.length=t/\Hid (dF bits n T p0 []=dF bits n (T-t) p acc)/\Hid (∀ x∈acc,a6 (zL x))/\kI w3 wx v t F (fun i=>acc.getD i [])/\Blk wx w3.heap.size 90 #[v,.slice A3 N3 c3]/\Blk wx w.heap.size 90 #[.slice none 0 0,.slice none 0 0]) (fun _ tv _=>T-(intOf tv).toNat));case atStart=>exact⟨0,p0, [],fun _=>.slice none 0 0,.slice none 0 0,Nh _,rfl,rfl,qq,rfl,aa rfl,aa (fun x hx=>absurd hx ar),kI.nil w3 w4 _ _ H2.out,po.out,q2.out⟩
      case round=>
       obtain⟨t,p,acc,F,v,ht,rfl,rfl,r0,hA,hq,hB,h6,hg,hk⟩:=hrel;obtain⟨A5,c5,rfl,qo,qm,_⟩:=ak h6.row;have H4:=aa h6;have HG:=aa hg;have hG:=aa hk;have HT:=aa (ap HR.out h6.below);have hv:=aa hA;unfold maxLen at qm;by_cases e7:t<T
       ·have HY:=aa (qD wr A m c bits p n (bN pv.out h6.below) HL hm hH.out r0 (by omega) hn);have hr:=hq.out;rw[show T-t=(T-t-1)+1 by omega,lP]at hr;have hE:=kD bits p n;rw[hI.out]at hE;generalize ao bits p n=ta at*;obtain⟨x,p2,cx⟩:=ta;dsimp only at hr hE;obtain⟨qs,r3⟩:=hE;have hl:=aa hr;clear hr hq h6 hg hk hA;go_wp2_with fail;refine HY.out.mono ?_;rintro e w6 ⟨v6,rfl,hS,hM⟩;obtain⟨A6,c6,rfl,hR,_,_⟩:=ak hS;dsimp only at hS hR |-;have H8:=aa hS;have HZ:=aa (dK (aN hS));have H5:=aa hM;have HU:=aa (aO hM HG.out);have h5:=aa (aO hM hG.out);have HS:=aa (ap HT.out hM);obtain⟨N6,HE⟩:∃N6,N6=x.length:=⟨_,rfl⟩;rw[<- HE]at H8 HZ hR |-;have HV:=aa HE;clear hS hM HE HY;by_cases e8:cx=0
        ·subst e8;have hr:=hl.out;rw[Ng rfl]at hr;have HF:N6<=maxLen:=(by have h:=ak H8.out;obtain⟨_,_,h1,h2,h3,_⟩:=h;omega);have hX:=aa (vV w6 A6 N6 c6 (zL x) HZ.out HF);by_cases e9:a6 (zL x)
         ·rw[Ng e9]at hX hr;have hL:=aa hr;have hu:x.length<=258:=(by have h:=e9.2.1;rw[fB]at h;exact h);have p5:N6<=258:=(by rw[HV.out];exact hu);have pn:=aa e9;have p4:∀i,i<t->(fun i=>acc.getD i []) i=(fun i=>(acc++ [x]).getD i []) i:=(by intro i hi;show acc.getD i []=(acc++ [x]).getD i [];rw[Nb,Nb,NT (by rw[hv.out];exact hi)]);have HB:(acc++ [x]).getD t []=x:=(by rw[Nb,NU (by rw[hv.out];exact Nm _),hv.out,Ow];rfl);obtain⟨A7,c7,w7,pj,pb,HJ⟩:=(H4.out.same p4).push (C:=fun i=>(acc++ [x]).getD i []) (A1:=A6) (n:=N6) (k1:=c6) (by rw[HB];exact H8.out) H5.out (by omega) (by rw[HB,HV.out]);have hO:=HJ _ _ _ HU.out (by decide);have hP:=HJ _ _ _ h5.out (by decide);have HK:w3.heap.size<=w3.heap.size:=Nm _;have q8:=aa pj;have q3:=aa (pb.store hO (by decide) (by decide) HK 0 (.slice A7 (t+1:Nat) c7));have p6:=au hO 0 (.slice A7 (t+1:Nat) c7);have ps:Hid (Blk (w7.setCell ⟨w3.heap.size,0,none⟩ (.slice A7 (t+1:Nat) c7)) w3.heap.size 90 #[.slice A7 (t+1:Nat) c7,.slice A3 N3 c3]):=aa (by simpa using p6)
          have H3:Hid (Blk (w7.setCell ⟨w3.heap.size,0,none⟩ (.slice A7 (t+1:Nat) c7)) w.heap.size 90 #[.slice none 0 0,.slice none 0 0]):=aa (by
           show(World.setCell _ _ _).heap[_]? =_
           rw[OZ _ ⟨w3.heap.size,0,none⟩ _ _ (show w.heap.size≠w3.heap.size by omega)]
           exact hP)
          have q0:=(ac HU.out 0).trans rfl;have q7:=(ac hO 0).trans rfl;have f7:=ae hO 0;clear hr e9 p4 HB pj pb HJ hO hP p6 hu hl;go_wp2_with fail;refine hX.out.mono ?_;rintro e w9 ⟨rfl,rfl⟩;(go_wp2_with (at_builtin;refine Lib.wpList_append_run _ rfl (.tmp 109) (.tmp 111) 88 88 rfl (.slice A5 t c5) (.slice (some ⟨w9.heap.size,0,none⟩) 1 1) rfl rfl _ _ q8.out ?_));go_roundw;case rel=>
           refine⟨t+1,p2,acc++ [x],_,_,by omega,by go_num,rfl,qs,by rw[Nc,hv.out];rfl,aa (by rw[hL.out,show T-(t+1)=T-t-1 by omega]),aa (fun y hy=> ?_),q3.out,ps.out,H3.out⟩;rcases List.mem_append.1 hy with hy|hy;·exact hB.out y hy
           ·rw[List.mem_singleton.1 hy];exact pn.out
          case measure=>simp[intOf];omega
         ·rw[Nf e9]at hX hr;have HA:Hid (ans=([], [],0,80)):=aa (by rw[hj.out,hr];rfl);have d10:((80:Int) != 0)=true:=rfl;clear hr e9 hl;go_wp2_with fail;refine hX.out.mono ?_;rintro e w9 ⟨rfl,rfl⟩;have h8:=aa (h7.out w9 80 HA.out h5.out HS.out);have q0:=(ac h5.out 0).trans rfl;have q1:=(ac h5.out 1).trans rfl;have f0:=ae h5.out 0;have f1:=ae h5.out 1;go_wp2_with fail;refine ND (v:=.tuple #[.agg #[.slice none 0 0,.slice none 0 0],.int .i64 0,.int .i64 80]) ?_ rfl h8.out;simp[results,results79,go_sem,q0,q1]
        ·have d8:((cx:Int) != 0)=true:=(by rw[OP];omega);have hr:=hl.out;rw[Nf e8]at hr
         have HA:Hid (ans=([], [],0,cx)):=aa (by
          rw[hj.out,hr]
          exact Nf e8)
         clear hr hl;have h8:=aa (h7.out w6 cx HA.out h5.out HS.out);have q0:=(ac h5.out 0).trans rfl;have q1:=(ac h5.out 1).trans rfl;have f0:=ae h5.out 0;have f1:=ae h5.out 1;go_wp2_with fail;refine ND (v:=.tuple #[.agg #[.slice none 0 0,.slice none 0 0],.int .i64 0,.int .i64 cx]) ?_ rfl h8.out;simp[results,results79,go_sem,q0,q1]
       ·obtain rfl:t=T:=(by omega);have hr:=hq.out;rw[Ow]at hr;have pg:dF bits n t p0 []=(acc,p,0):=hr;have HA:Hid (ans=(acc.map zL,zL out,p,0)):=aa (by rw[hj.out,pg];rfl);have ho:∀i,i<t->(acc.getD i []).length<=1000:=(by intro i hi;have HO:acc.getD i []∈acc:=(by rw[Nb,Nd (by rw[hv.out];exact hi)];exact NL ..);have h:=(hB.out _ HO).2.1;rw[fB]at h;omega);have HQ:=H4.out.tabZ ho;have hQ:((List.range t).map fun i=>zL (acc.getD i []))=acc.map zL:=by
         apply Oa;intro i;rw[Np,Np];by_cases hi:i<t;·rw[NN hi];show some (zL (acc.getD i []))=_;rw[Nb,Nd (by rw[hv.out];exact hi)];rfl
         ·rw[Ny (by rw[NK];omega),Ny (by rw[hv.out];omega)];rfl
        rw[hQ]at HQ
        have hW:aQ wr (.agg #[.slice A5 t c5,.slice A3 N3 c3]) (acc.map zL) (zL out):=⟨A5,t,c5,A3,N3,c3,rfl,HQ,qo,by unfold maxLen;omega,HW.out.below H4.out.below,hD,by
         have h:=q4.out
         omega⟩
        have hs:=hW.past (w':=(wr.setCell ⟨w.heap.size,0,none⟩ (.slice A5 t c5)).setCell ⟨w.heap.size,1,none⟩ (.slice A3 N3 c3)) (fun y hy=>by
         obtain⟨z,hz,rfl⟩:=List.mem_map.1 hy
         have:=(hB.out z hz).1
         omega) hG.out (lH _ _ _ _)
        have h8:=aa (q5.out _ _ _ _ p HA.out hs ((HT.out.setCell (p:=⟨w.heap.size,0,none⟩) (ah _) _).setCell (p:=⟨w.heap.size,1,none⟩) (ah _) _));have q0:=(ac hG.out 0).trans rfl;have q1:=(ac hG.out 1).trans rfl;have f0:=ae hG.out 0;have f1:=ae hG.out 1;have s0:=(ac HG.out 0).trans rfl;have s1:=(ac HG.out 1).trans rfl;clear hr pg hq h6 hg hk ho HQ hQ hW hs hA;go_wp2_with fail;refine ND (v:=.tuple #[.agg #[.slice A5 t c5,.slice A3 N3 c3],.int .i64 p,.int .i64 0]) ?_ rfl h8.out;simp[results,results79,go_sem,q0,q1]
     ·have d8:((ck:Int) != 0)=true:=(by rw[OP];omega);have h0:=hh.out;rw[Nf e6]at h0;have HA:=aa h0;clear h0 hh;have h8:=aa (h7.out w3 ck HA.out hw.out HR.out);have q0:=(ac hw.out 0).trans rfl;have q1:=(ac hw.out 1).trans rfl;have f0:=ae hw.out 0;have f1:=ae hw.out 1;go_wp2_with fail;refine ND (v:=.tuple #[.agg #[.slice none 0 0,.slice none 0 0],.int .i64 0,.int .i64 ck]) ?_ rfl h8.out;simp[results,results79,go_sem,q0,q1]
theorem DA(w:World)(A:Option Addr)(m c:Nat)(at' n:Int)(_hm:m<=1000000)(h:at'<0\/(m:Int)<at'\/n<3\/258<n):
 Calls prog 79 #[.slice A m c,.int .i64 at',.int .i64 n] w (lW w ([], [],0,2)):=by
 obtain⟨w1,h0⟩:∃w1,w1=w.alloc (.cells #[.slice none 0 0,.slice none 0 0] 90):=⟨_,rfl⟩;have h6:Below w.heap.size w w1:=bQ h0;have h4:Blk w1 w.heap.size 90 #[.slice none 0 0,.slice none 0 0]:=eJ h0;have h5:Hid (lW w ([], [],0,2) (.returned (.tuple #[.agg #[.slice none 0 0,.slice none 0 0],.int .i64 0,.int .i64 2])) w1):=aa ⟨_,rfl,qy _,h6⟩;have q0:=(ac h4 0).trans rfl;have q1:=(ac h4 1).trans rfl;have f0:=ae h4 0;have f1:=ae h4 1;generalize lW w ([], [],0,2)=PO at*;rw[h0]at q0 q1 f0 f1;clear h6 h4;by_cases h1:at'<0;·clear h;go_enter func79,ntmps79;go_wp2_with fail;rw[<- h0];rw[<- h0]at q0 q1 f0 f1;refine ND (v:=.tuple #[.agg #[.slice none 0 0,.slice none 0 0],.int .i64 0,.int .i64 2]) ?_ rfl h5.out;simp[results,results79,go_sem,q0,q1]
 ·by_cases h2:(m:Int)<at';·clear h;go_enter func79,ntmps79;go_wp2_with fail;rw[<- h0];rw[<- h0]at q0 q1 f0 f1;refine ND (v:=.tuple #[.agg #[.slice none 0 0,.slice none 0 0],.int .i64 0,.int .i64 2]) ?_ rfl h5.out;simp[results,results79,go_sem,q0,q1]
  ·by_cases h3:n<3;·clear h;go_enter func79,ntmps79;go_wp2_with fail;rw[<- h0];rw[<- h0]at q0 q1 f0 f1;refine ND (v:=.tuple #[.agg #[.slice none 0 0,.slice none 0 0],.int .i64 0,.int .i64 2]) ?_ rfl h5.out;simp[results,results79,go_sem,q0,q1]
   ·have d3:decide (258<n)=true:=aX (by omega);clear h;go_enter func79,ntmps79;go_wp2_with fail;rw[<- h0];rw[<- h0]at q0 q1 f0 f1;refine ND (v:=.tuple #[.agg #[.slice none 0 0,.slice none 0 0],.int .i64 0,.int .i64 2]) ?_ rfl h5.out;simp[results,results79,go_sem,q0,q1]
theorem Dy(w:World)(A:Option Addr)(m c:Nat)(bits:List Nat)(at' n:Int)(hb:aw w A m bits)(h1:m<=c)(hm:m<=1000000)(hc:c<=maxLen)(h0:am bits):
 Calls prog 79 #[.slice A m c,.int .i64 at',.int .i64 n] w (lW w (dC bits at' n)):=by
 by_cases h:at'<0\/(m:Int)<at'\/n<3\/258<n;·rw[dC,Ng (by rw[hb.1];exact h)];exact DA w A m c at' n hm h
 ·rw[dC,Nf (by rw[hb.1];exact h)];obtain⟨a0,rfl⟩:∃a0:Nat,at'=a0:=⟨at'.toNat,by omega⟩;obtain⟨n0,rfl⟩:∃n0:Nat,n=n0:=⟨n.toNat,by omega⟩;exact Dz w A m c bits a0 n0 hb h1 hm hc h0 (by omega) (by omega) (by omega)
def iW(T:List (List Nat))(P bits:List Nat)(n0:Nat):Nat->Nat->Nat->List Nat->List Nat×Nat×Nat
 | 0,_,_,_=>([],0,110)
 | k+1,i,a,out=>match fm (T.getD (P.getD (i / 50) 0) []) (bits.drop a)with
   | .hit x=>if x+1=n0 then(out++ [x],a+(T.getD (P.getD (i/50) 0) []).getD x 0,0)else iW T P bits n0 k (i+1) (a+(T.getD (P.getD (i/50) 0) []).getD x 0) (out++ [x])
   | .short=>([],0,10)
   | .code=>([],0,90)
theorem jf(T:List (List Nat))(P bits:List Nat)(n0 k i a:Nat)(out:List Nat):iW T P bits n0 (k+1) i a out=match fm (T.getD (P.getD (i/50) 0) []) (bits.drop a)with
 | .hit x=>if x+1=n0 then(out++ [x],a+(T.getD (P.getD (i/50) 0) []).getD x 0,0)else iW T P bits n0 k (i+1) (a+(T.getD (P.getD (i/50) 0) []).getD x 0) (out++ [x])
 | .short=>([],0,10)
 | .code=>([],0,90):=rfl
def dV(T:List (List Int))(P:List Int)(bits:List Nat)(at':Int):List Nat×Nat×Nat:=
 if aP T P then(if at'<0\/(bits.length:Int)<at' then([],0,2)else iW (T.map nl) (nl P) bits (T.getD 0 []).length (50*P.length) 0 at'.toNat [])else([],0,110)
theorem GV(w:World)(v:Value)(T:List (List Int))(P:List Int)(h:aQ w v T P)(A':Option Addr)(m' c':Nat)(bits:List Nat)(at':Int)(hb:bits.length=m')(_hm':m'<=1000000)(h3:¬(aP T P/\0<=at'/\at'<=(m':Int))):
 Calls prog 80 #[v,.slice A' m' c',.int .i64 at'] w (aL w (dV T P bits at')):=by
 obtain⟨A,n,c,B,m,d,rfl,hc⟩:∃A n c B m d,v=.agg #[.slice A n c,.slice B m d]/\aQ w (.agg #[.slice A n c,.slice B m d]) T P:=by obtain⟨A,n,c,B,m,d,hv,h7,he,hf,hg,hh,hi⟩:=id h;exact⟨A,n,c,B,m,d,hv,by rw[<- hv];exact h⟩
 clear h;obtain⟨w1,h4⟩:∃w1,w1=w.alloc (.cells #[.slice A n c,.slice B m d] 90):=⟨_,rfl⟩;have h7:Blk w1 w.heap.size 90 #[.slice A n c,.slice B m d]:=eJ h4;have h9:Below w.heap.size w w1:=bQ h4;have q0:=(ac h7 0).trans rfl;have q1:=(ac h7 1).trans rfl;have h2:=aa (AX w1 _ T P (hc.below h9));have ha:=aa h9;rw[h4]at q0 q1;by_cases hM:aP T P
 ·have h8:Hid (∀ w',Below w.heap.size w w'->aL w (dV T P bits at') (.returned (.tuple #[.slice none 0 0,.int .i64 0,.int .i64 2])) w'):=aa fun w' h=>by rw[show dV T P bits at'=([],0,2) by rw[dV,Ng hM,Ng (by rw[hb];rcases R1 (at'<0)with k|k;exact .inl k;exact .inr (by rcases R1 ((m':Int)<at')with k2|k2;exact k2;exact absurd ⟨hM,by omega,by omega⟩ h3))]];exact⟨_,rfl,Ns _ _ _ _,h⟩
  generalize aL w (dV T P bits at')=PO at*;rw[show decide (aP T P)=true from No hM]at h2;have h6:at'<0\/(m':Int)<at':=by
   rcases R1 (at'<0)with k|k;·exact .inl k
   ·rcases R1 ((m':Int)<at')with k2|k2;·exact .inr k2
    ·exact absurd ⟨hM,by omega,by omega⟩ h3
  clear h9 h7 hc hM h3 hb;by_cases h1:at'<0;·have d0:decide (at'<0)=true:=No h1;clear h6;go_enter func80,ntmps80;go_wp2_with fail;rw[<- h4];clear h4 q0 q1;refine h2.out.mono ?_;rintro e w2 ⟨rfl,h5⟩;have h0:=aa (h8.out _ (ap ha.out h5));clear h5;go_wp2_with fail;first|exact h0.out|(go_ret3;exact h0.out)
  ·have d0:decide (at'<0)=false:=Nk h1;have d1:decide ((m':Int)<at')=true:=aX (by omega);clear h6;go_enter func80,ntmps80;go_wp2_with fail;rw[<- h4];clear h4 q0 q1;refine h2.out.mono ?_;rintro e w2 ⟨rfl,h5⟩;have h0:=aa (h8.out _ (ap ha.out h5));clear h5;go_wp2_with fail;first|exact h0.out|(go_ret3;exact h0.out)
 ·(have h8:Hid (∀ w',Below w.heap.size w w'->aL w (dV T P bits at') (.returned (.tuple #[.slice none 0 0,.int .i64 0,.int .i64 110])) w'):=aa fun w' h=>by rw[show dV T P bits at'=([],0,110)from Nf hM];exact⟨_,rfl,Ns _ _ _ _,h⟩);generalize aL w (dV T P bits at')=PO at*;rw[show decide (aP T P)=false from Nk hM]at h2;clear h9 h7 hc hM h3 hb;go_enter func80,ntmps80;go_wp2_with fail;rw[<- h4];clear h4 q0 q1;refine h2.out.mono ?_;rintro e w2 ⟨rfl,h5⟩;have h0:=aa (h8.out _ (ap ha.out h5));clear h5;go_wp2_with fail;first|exact h0.out|(go_ret3;exact h0.out)
theorem GW(w:World)(v:Value)(T:List (List Int))(P:List Int)(h:aQ w v T P)(A':Option Addr)(m' c':Nat)(bits:List Nat)(a0:Nat)(H2:aw w A' m' bits)(HO:m'<=c')(s0:m'<=1000000)(pf:c'<=maxLen)(p6:am bits)(rb:a0<=m')(hM:aP T P):
 Calls prog 80 #[v,.slice A' m' c',.int .i64 a0] w (aL w (dV T P bits a0)):=by
 have q4:=h;obtain⟨A,n,c,B,m,d,rfl,hT,s8,hn,hP,s3,hm⟩:=h;have HK:=hT.1;have HJ:=hP.1;obtain⟨w1,hW⟩:∃w1,w1=w.alloc (.cells #[.slice A n c,.slice B m d] 90):=⟨_,rfl⟩;have H4:Blk w1 w.heap.size 90 #[.slice A n c,.slice B m d]:=eJ hW;have hD:Below w.heap.size w w1:=bQ hW;have H8:w.heap.size<w1.heap.size:=az H4;have q0:w1.cell? ⟨w.heap.size,0,none⟩=some (.slice A n c):=(ac H4 0).trans rfl;have q1:w1.cell? ⟨w.heap.size,1,none⟩=some (.slice B m d):=(ac H4 1).trans rfl;have HQ:Hid (∀ wx,Below w1.heap.size w1 wx->wx.cell? ⟨w.heap.size,0,none⟩=some (.slice A n c)/\wx.cell? ⟨w.heap.size,1,none⟩=some (.slice B m d)):=aa fun wx h=>⟨(h.cell (p:=⟨w.heap.size,0,none⟩) H8).trans q0,(h.cell (p:=⟨w.heap.size,1,none⟩) H8).trans q1⟩;have hA:=aa (AX w1 _ T P (q4.below hD));rw[show decide (aP T P)=true from No hM]at hA;obtain⟨n0,hO⟩:∃n0,n0=(T.getD 0 []).length:=⟨_,rfl⟩;obtain⟨pn,H3⟩:∃pn,pn=nl P:=⟨_,rfl⟩;have s4:=hM;obtain⟨s6,s7,s1,s2,hI,H0,HP⟩:=s4;rw[HK]at s6 s7 H0;rw[HJ]at s1 s2;rw[<- hO]at hI HP;have hQ:=(hI _ (iZ (T:=T) (q:=0) (by omega))).2;have HR:n0<=258:=by rw[hO];exact hQ.2.1
 have hE:aw w1 B m pn:=by rw[H3];exact fg (hP.below hD) fun x hx=>(H0 x hx).1
 have hR:∀x∈pn,x<n:=by intro x hx;rw[H3]at hx;obtain⟨y,hy,rfl⟩:=List.mem_map.1 hx;have:=H0 y hy;omega
 have h8:dV T P bits a0=iW (T.map nl) pn bits n0 (50*m) 0 a0 []:=by rw[dV,Ng hM,Nf (by rw[H2.1];omega),<-hO,<-H3,HJ,Nn]
 have hY:Hid (∀ (v:Value) (a:List Nat×Nat×Nat) w',dV T P bits a0=a->w'.ownsRow w1.heap.size 3 1 v a.1.length (a.1.map iv)->Below w1.heap.size w1 w'->aL w (dV T P bits a0) (.returned (.tuple #[v,.int .i64 a.2.1,.int .i64 a.2.2])) w'):=aa fun v a w' h1 h2 h3=>by rw[h1];exact⟨v,rfl,World.ownsRow.mono h2 (NV H8),hD.trans (h3.mono (NV H8))⟩
 have HT:=aa (hT.below hD);have qb:=aa (bN H2 hD);have HC:=aa H2.1;have q7:=aa p6;have qo:=aa hE;have r0:=aa hR;have r7:=aa hI;have r3:=aa HK;have r1:Hid (pn.length=m):=aa hE.1;have qv:=aa hO;have HZ:Hid (∀ t,t<n->eW ((T.map nl).getD t [])/\((T.map nl).getD t []).length=n0/\(T.map nl).getD t []=nl (T.getD t [])):=aa fun t ht=>by have h1:=hI _ (iZ (T:=T) (q:=t) (by omega));have h2:(T.map nl).getD t []=nl (T.getD t []):=(by rw[Nb,Np,Nb,Nd (by omega)];rfl);rw[h2,bL];exact⟨fO h1.2,h1.1,rfl⟩
 generalize aL w (dV T P bits a0)=PO at*;generalize dV T P bits a0=ans at*;have hF:=aa h8;have d0:decide ((a0:Int)<0)=false:=aD (by omega);have dn:decide (m'<a0)=false:=aD (by omega);have qm:=aa pf;obtain⟨i3,h3,sm,HW,sn⟩:=NY Tryz.info3;rw[hW]at q0 q1;clear hT hP H2 HK HJ hE q4 hR hI H0 H3 h8 hM s8 hn s3 hm H4 hD hQ hO p6 pf;go_enter func80,ntmps80;go_wp2_with fail;rw[<- hW];clear hW q0 q1;refine hA.out.mono ?_;rintro e w2 ⟨rfl,p7⟩;have HY:=aa p7;clear p7 hA;go_wp2_with fail;clear d0 dn;go_loopw [9,10] (fun tv iv' wx=>∃(t:Nat) (G:Nat->Nat),t<=n/\iv'=.int .i64 t/\xw w1 wx tv t n0 G fun j=>bC ((T.map nl).getD j [])) (fun _ iv' _=>n-(intOf iv').toNat)
 case atStart=>exact⟨0,fun _=>0,Nh _,rfl,xw.nil _ _ _ _ _ HY.out⟩
 case round=>
  clear HY;obtain⟨t,G,ht,rfl,hz⟩:=hrel;have p5:=aa hz;obtain⟨p0,p1⟩:=HQ.out _ hz.below;obtain⟨A5,c5,rfl,_,_,_⟩:=ak hz.row;by_cases et:t<n
  ·have sl:(0:Int)<=(t:Int):=(by omega);have t2:(t:Int)<(n:Int):=(by omega);obtain⟨b,off,rfl,hc⟩:=(HT.out.below hz.below).2 (by omega);obtain⟨A2,c2,h1,h2,HH,h4⟩:=hc t et;have hi:=HZ.out t et;have H5:=r7.out _ (iZ (T:=T) (q:=t) (by rw[r3.out];exact et));obtain⟨K,hK⟩:∃K,K=T.getD t []:=⟨_,rfl⟩;rw[<- hK]at h1 h2 HH h4 hi H5;rw[H5.1]at h1 h2 HH h4;have r6:=aa (Hr _ A2 n0 c2 K h2 H5.2);have HD:Hid (bC ((T.map nl).getD t [])=bC (nl K)):=aa (by rw[hi.2.2]);clear hz hc h2 HH h4 hi H5 hK;go_wp2_with fail;refine r6.out.mono ?_;rintro e w5 ⟨g,rfl,hg,pb⟩;obtain⟨A6,c6,w6,q5,hV⟩:=p5.out.push hg pb (by omega) HD.out;have r2:=aa q5;have HG:=aa hV;clear hg pb q5 hV;(go_wp2_with (at_builtin;refine Lib.wpList_append_run _ rfl (.tmp 34) (.tmp 41) 163 163 rfl (.slice A5 t c5) (.slice (some ⟨w5.heap.size,0,none⟩) 1 1) rfl rfl _ _ r2.out ?_));go_roundw;case rel=>exact⟨t+1,_,by omega,by go_num,HG.out⟩
   case measure=>simp[intOf];omega
  ·obtain rfl:t=n:=(by omega);rename World=>w6;obtain⟨bv,cv,hv,ha⟩:=hz.read (by omega);simp only[Ou]at hv;obtain⟨rfl,_,rfl⟩:=hv;have HB:=aa hz.below;(have ql:Hid (∀ wx,Below w6.heap.size w6 wx->∀j,j<t->∃g,wx.cell? ⟨bv,j,none⟩=some (.slice (some ⟨g,0,none⟩) n0 n0)/\sG wx g n0 (bC ((T.map nl).getD j []))):=aa fun wx hb j hj=>by obtain⟨g,h1,h2⟩:=ha j hj;exact⟨g,(hb.cell (p:=⟨bv,j,none⟩) (Nr w6 _ h1)).trans h1,h2.below hb⟩);obtain⟨M,HI⟩:∃M,M=50*m:=⟨_,rfl⟩;have ss:(50:Int)*(m:Int)=(M:Int):=(by omega);have st:M<=1638350:=(by omega);have qs:=aa HI;have h8:=hF.out;rw[<- HI]at h8;have hG:=aa h8;clear hz p5 ha HI h8 hF;go_wp2_with fail;(go_loopw [2,11,12] (fun av ov iv' wx=>∃(q a:Nat) (o:List Nat),q<=M/\iv'=.int .i64 q/\av=.int .i64 a/\a<=m'/\o.length<=a/\Hid (ans=iW (T.map nl) pn bits n0 (M-q) q a o)/\wx.ownsRow w6.heap.size 3 1 ov o.length (o.map iv)/\Below w6.heap.size w6 wx) (fun _ _ iv' _=>M-(intOf iv').toNat));case atStart=>exact⟨0,a0, [],Nh _,rfl,rfl,rb,Nh _,hG,Ns _ _ _ _,Nj _ _⟩
   case round=>
    clear p0 p1;rename World=>wy;obtain⟨q,a,o,hq,rfl,rfl,rs,s9,hs,hh,hJ⟩:=hrel;have hr:=ap HB.out hJ;obtain⟨p0,p1⟩:=HQ.out _ hr;have sr:=hJ.size;obtain⟨A8,c8,rfl,_,_,_⟩:=ak hh;obtain⟨N,hN⟩:∃N,N=o.length:=⟨_,rfl⟩;rw[<- hN]at hh s9 |-;have hB:=aa hh;have HE:=aa hJ;have h6:=aa hr;have HN:=aa hN;by_cases e:q<M
    ·have d0:decide ((q:Int)<(M:Int))=true:=aX (by omega);have sb:(0:Int)<=(q:Int):=(by omega);obtain⟨k,hk⟩:∃k,k=q/50:=⟨_,rfl⟩;have ps:(q:Int)/50=(k:Int):=(by omega);have rM:(q:Int).tdiv 50=(k:Int):=(by rw[Q3 sb];exact ps);have po:IntKind.i64.wrap (k:Int)=(k:Int):=(by rw[Oe];omega);have rO:IntKind.i64.wrap ((q:Int).tdiv 50)=(k:Int):=(by rw[rM,po]);have rR:IntKind.i64.wrap ((q:Int)/50)=(k:Int):=(by rw[ps,po]);have pl:k<m:=(by have:=qs.out;omega);have sx:(0:Int)<=(k:Int):=(by omega);have rx:(k:Int)<(m:Int):=(by omega);obtain⟨bp,op,rfl,pj⟩:=(bN qo.out h6.out).2 (by omega);have hL:=pj k pl;have HU:=r0.out _ (o6 (L:=pn) (j:=k) (by rw[r1.out];exact pl));have h0:=hs.out;rw[show M-q=(M-q-1)+1 by omega,jf,<-hk]at h0;obtain⟨pk,q3⟩:∃pk,pk=pn.getD k 0:=⟨_,rfl⟩;rw[<- q3]at hL HU h0;have t1:(0:Int)<=(pk:Int):=(by omega);have sa:(pk:Int)<(t:Int):=(by omega);obtain⟨g,rv,HV⟩:=ql.out _ HE.out pk HU;have hi:=HZ.out pk HU;obtain⟨l,hl⟩:∃l,l=(T.map nl).getD pk []:=⟨_,rfl⟩;rw[<- hl]at HV hi h0;have ho:=aa (uj wy g n0 l HV hi.1 hi.2.1 HR A' m' c' bits (bN qb.out h6.out) HO s0 qm.out q7.out a rs);have HF:=aa hi.1;have qq:=aa hi.2.1;obtain⟨X,hX⟩:∃X,X=o.map iv:=⟨_,rfl⟩;rw[<- hX]at hB;have HX:=aa hX;clear hk pj q3 HV hi hl hh hJ hr hN hX hs
     cases hx:fm l (bits.drop a)with
     | hit x=>
      rw[hx]at ho h0;have HM:=o8 20 1 (show fk l (bits.drop a) 20 1=.hit x from hx);have hE:=HM.2.1;have HS:=HF.out.one hE;have pv:a+l.getD x 0<=m':=(by have:=HM.1;rw[Nq,HC.out]at this;omega);rw[qq.out]at hE;obtain⟨a2,H1⟩:∃a2,a2=a+l.getD x 0:=⟨_,rfl⟩
      have h7:Hid (Calls prog 137 #[.slice (some ⟨g,0,none⟩) n0 n0,.slice A' m' c',.int .i64 a] wy fun e w'=>e=.returned (.tuple #[.int .i64 (x:Nat),.int .i64 (a2:Nat),.int .i64 0])/\∃d,w'=wy.drewN d):=aa (by
       have h:=ho.out
       rw[show rt l a (.hit x)=(x,a2,0) by rw[H1];rfl]at h
       exact h)
      (have hS:ans=if x+1=n0 then(o++ [x],a2,0)else iW (T.map nl) pn bits n0 (M-q-1) (q+1) a2 (o++ [x]):=by rw[h0,H1]);rw[<- H1]at pv;have sv:a<a2:=(by omega);have hZ:=aa hS;obtain⟨n1,q2⟩:∃n1,n1=n0-1:=⟨_,rfl⟩;have s5:(n0:Int)-1=(n1:Int):=(by omega);have p2:=aa q2;clear h0 hS hx HM HS H1 ho q2;go_wp2_with fail;refine h7.out.mono ?_;rintro e w7 ⟨rfl,dd,rfl⟩;have p3:Hid ((wy.drewN dd).ownsRow w6.heap.size 3 1 (.slice A8 N c8) N X):=hB;have q9:=aa (ay HE.out dd);have so:w6.heap.size<=(wy.drewN dd).heap.size:=sr;clear p0 p1 hL rv hB HE h6 h7;generalize wy.drewN dd=w8 at*;(go_wp2_with (at_builtin;refine Ob _ rfl _ _ 57 rfl w6.heap.size 3 i3 (.int .i64 0) 1 8 underlying57 h3 sm HW sn rfl (by decide) _ _ _ rfl (p3.out.alloc _) ⟨w8.heap.size,0,none⟩ 1 1 [.int .i64 x] rfl rfl ?c1 ?c2 ?c3 ?c4 ?c5 ?_));case c1=>exact bn _ _ _
      case c2=>intro u hu;simp at hu;subst hu;rfl
      case c3=>unfold maxLen;omega
      case c4=>omega
      case c5=>simp;omega
      intro v9 w9 hf he _;have HL:Below w6.heap.size w6 w9:=(q9.out.alloc so _).grown he (by simp;omega) (fun k hk=>(p3.out.lt k hk).1);obtain⟨A9,c9,rfl,t0,sT,_⟩:=ak hf;have p4:=aa hf;have qa:=aa HL;have hp:=ap HB.out HL;have HA:=aa hp;obtain⟨p0,p1⟩:=HQ.out _ hp;obtain⟨b0,o0,rfl,pg⟩:=(HT.out.below hp).2 (by omega);obtain⟨A0,c0,hH,_⟩:=pg 0 (by omega);rw[<- qv.out]at hH;have r8:=hH;rw[Og]at r8;have sl:(0:Int)<(t:Int):=(by omega);clear hf he HL hp pg;by_cases ex:x+1=n0
      ·have d4:((x:Int)==(n1:Int))=true:=(by have:=p2.out;rw[O0];omega);have h5:=hZ.out;rw[Ng ex]at h5
       have h9:=aa (hY.out (.slice A9 (N+1) c9) (o++ [x],a2,0) w9 h5 (by
        rw[Nc,<-HN.out,NF,<-HX.out]
        exact World.ownsRow.mono p4.out HB.out.size) HA.out)
       clear h5 hZ ex;go_wp2_with fail;first|exact h9.out|(go_ret3;exact h9.out)
      ·have d4:((x:Int)==(n1:Int))=false:=(by have:=p2.out;rw[NA];omega);have h5:=hZ.out;rw[Nf ex]at h5;have q8:=aa h5;clear h5 hZ ex;go_wp2_with fail;go_roundw;case rel=>
        refine⟨q+1,a2,o++ [x],by omega,by go_num,rfl,pv,by rw[Nc,<-HN.out];show N+1<=a2;omega,aa ?_,?_,qa.out⟩;·rw[show M-(q+1)=M-q-1 by omega];exact q8.out
        ·rw[Nc,<-HN.out,NF,<-HX.out];exact p4.out
       case measure=>simp[intOf];omega
     | short=>rw[hx]at ho h0;have h9:=aa fun d=>hY.out (.slice none 0 0) _ (wy.drewN d) h0 (Ns _ _ _ _) (ay h6.out d);have h7:Hid (Calls prog 137 #[.slice (some ⟨g,0,none⟩) n0 n0,.slice A' m' c',.int .i64 a] wy fun e w'=>e=.returned (.tuple #[.int .i64 0,.int .i64 0,.int .i64 10])/\∃d,w'=wy.drewN d):=ho;clear h0 hx ho;go_wp2_with fail;refine h7.out.mono ?_;rintro e w7 ⟨rfl,dd,rfl⟩;go_wp2_with fail;first|exact h9.out _|(go_ret3;exact h9.out _)
     | code=>rw[hx]at ho h0;have h9:=aa fun d=>hY.out (.slice none 0 0) _ (wy.drewN d) h0 (Ns _ _ _ _) (ay h6.out d);have h7:Hid (Calls prog 137 #[.slice (some ⟨g,0,none⟩) n0 n0,.slice A' m' c',.int .i64 a] wy fun e w'=>e=.returned (.tuple #[.int .i64 0,.int .i64 0,.int .i64 90])/\∃d,w'=wy.drewN d):=ho;clear h0 hx ho;go_wp2_with fail;refine h7.out.mono ?_;rintro e w7 ⟨rfl,dd,rfl⟩;go_wp2_with fail;first|exact h9.out _|(go_ret3;exact h9.out _)
    ·have d0:decide ((q:Int)<(M:Int))=false:=aD (by omega);have hC:=hs.out;rw[show M-q=0 by omega]at hC;have hw:ans=([],0,110):=hC;have h9:=aa (hY.out (.slice none 0 0) _ wy hw (Ns _ _ _ _) h6.out);clear hC hw hs hh hJ hN hr;go_wp2_with fail;first|exact h9.out|(go_ret3;exact h9.out)
theorem GU(w:World)(v:Value)(T:List (List Int))(P:List Int)(h:aQ w v T P)(A':Option Addr)(m' c':Nat)(bits:List Nat)(at':Int)(h1:aw w A' m' bits)(h0:m'<=c')(h2:m'<=1000000)(h4:c'<=maxLen)(h3:am bits):
 Calls prog 80 #[v,.slice A' m' c',.int .i64 at'] w (aL w (dV T P bits at')):=by
 by_cases hM:aP T P/\0<=at'/\at'<=(m':Int);·obtain⟨a0,rfl⟩:∃a0:Nat,at'=a0:=⟨at'.toNat,by omega⟩;exact GW w v T P h A' m' c' bits a0 h1 h0 h2 h4 h3 (by omega) hM.1
 ·exact GV w v T P h A' m' c' bits at' h1.1 h2 hM
