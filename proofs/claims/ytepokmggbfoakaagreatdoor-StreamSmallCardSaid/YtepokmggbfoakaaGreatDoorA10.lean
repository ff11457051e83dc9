import Derived.Test.YtepokmggbfoakaaGreatDoorA09
set_option maxHeartbeats 6400000
set_option maxRecDepth 100000
namespace Go.Proofs.YtepokmggbfoakaaGreatDoor
def eT(l:List Nat)(k:Nat):List Nat:=l.getD k 0 :: (l.take k++l.drop (k+1))
def aR:List Nat→Nat→Nat
 | [],_=>0
 | y :: l,x=>if y=x then 0 else aR l x+1
theorem fq:∀(l:List Nat) (x:Nat),x∈l→aR l x<l.length∧l.getD (aR l x) 0=x
 | [],x,h=>by cases h
 | y :: l,x,h=>by
  by_cases e:y=x;·subst e;simp[aR]
  ·have hx:x∈l:=by
    rcases List.mem_cons.1 h with h | h;·exact absurd h.symm e
    ·exact h
   have ih:=fq l x hx;rw[aR,LW e,Mb];exact⟨by omega,ih.2⟩
theorem iR{l:List Nat}{k:Nat}(hk:k<l.length):(eT l k).length=l.length:=by unfold eT;rw[Mb,LR,Mj,Mc];omega
def Low(T:Nat)(l:List Nat):Prop:=T≤l.length∧∀x,x<T→aR l x<T∧x∈l
theorem tZ:∀(l:List Nat) (T x:Nat),x∈l.take T→aR l x<T
 | [],T,x,h=>by simp at h
 | y :: l,0,x,h=>by simp at h
 | y :: l,T+1,x,h=>by
  by_cases e:y=x;·rw[aR,LX e];omega
  ·rw[NK]at h;rcases List.mem_cons.1 h with h | h;·exact absurd h.symm e
   ·rw[aR,LW e];have:=tZ l T x h;omega
theorem uu:∀(l:List Nat) (T x:Nat),x∈l→aR l x<T→x∈l.take T
 | [],T,x,h,_=>by cases h
 | y :: l,0,x,_,h=>by omega
 | y :: l,T+1,x,h,hp=>by
  rw[NK];by_cases e:y=x;·rw[e];exact L4 ..
  ·rcases List.mem_cons.1 h with h | h;·exact absurd h.symm e
   ·rw[aR,LW e]at hp;exact Ma _ (uu l T x h (by omega))
theorem Low.move{T:Nat}{l:List Nat}(h:Low T l){x:Nat}(hx:x<T):Low T (eT l (aR l x)):=by
 obtain⟨h1,h2⟩:=h;have hp:=fq l x (h2 x hx).2;have h5:=(h2 x hx).1;refine⟨by rw[iR hp.1];exact h1,fun y hy=> ?_⟩;have h0:y∈(eT l (aR l x)).take T:=by
  unfold eT;rw[hp.2];obtain⟨S,rfl⟩:∃S,T=S+1:=⟨T - 1,by omega⟩;rw[NK];by_cases e:y=x;·rw[e];exact L4 ..
  ·refine Ma _ ?_;have h4:=uu l (S+1) y (h2 y hy).2 (h2 y hy).1;rw[List.take_append,Mj,MN (by omega),PX,N9 (by omega)];have e2:l.take (S+1)=l.take (aR l x)++(x :: (l.drop (aR l x+1)).take (S - aR l x)):=(by have h3:S+1=aR l x+(1+(S - aR l x)):=(by omega);(conv=>lhs;rw[h3,List.take_add]);congr 1;rw[MA hp.1,Qx 1,NK];congr 1;have:=hp.2;rw[LU,LV hp.1]at this;exact this);rw[e2]at h4;rcases List.mem_append.1 h4 with h3 | h3;·exact N4 _ h3
   ·rcases List.mem_cons.1 h3 with h3 | h3;·exact absurd h3 e
    ·exact OK _ h3
 exact⟨tZ _ _ _ h0,NO h0⟩
theorem DE{T:Nat}(h:T≤6):Low T [0,1,2,3,4,5]:=by refine⟨h,fun x hx=> ?_⟩;have:x=0∨x=1∨x=2∨x=3∨x=4∨x=5:=(by omega);rcases this with rfl | rfl | rfl | rfl | rfl | rfl <;>exact⟨by simp[aR];try omega,by simp⟩
def aH:List Nat→List Nat→List Nat
 | _, []=> []
 | o,x :: r=>List.replicate (aR o x) 1++0 :: aH (eT o (aR o x)) r
inductive Pl where
 | hit (n:Nat)
 | short
 | bad
def cN:List Nat→Nat→Nat→Pl
 | [],_,_=>.short
 | b :: bs,n,most=>if b=0 then .hit n else if n+1=most then .bad else cN bs (n+1) most
def aC(bits:List Nat)(T:Nat):Nat→List Nat→Nat→List Nat→List Nat×Nat×Nat
 | 0,_,p,out=>(out,p,0)
 | k+1,o,p,out=>match cN (bits.drop p) 0 T with
   | .hit n=>aC bits T k (eT o n) (p+n+1) (out++ [o.getD n 0])
   | .short=>([],0,10)
   | .bad=>([],0,110)
theorem nM:∀(k n most:Nat) (rest:List Nat),n+k<most→cN (List.replicate k 1++0 :: rest) n most=.hit (n+k)
 | 0,n,most,rest,h=>by rw[OY,Mz,cN,LX rfl];rfl
 | k+1,n,most,rest,h=>by rw[NJ,MI,cN,LW (by omega),LW (by omega),nM k (n+1) most rest (by omega)];congr 1;omega
theorem tV(T:Nat):∀(picks o pre rest out:List Nat),Low T o→(∀ x∈picks,x<T)→
 aC (pre++aH o picks++rest) T picks.length o pre.length out=(out++picks,pre.length+(aH o picks).length,0)
 | [],o,pre,rest,out,_,_=>by simp[aC,aH]
 | x :: picks,o,pre,rest,out,ho,hx=>by have h1:=hx x (L4 ..);have hp:=ho.2 x h1;have hl:=fq o x hp.2;obtain⟨k,hk⟩:∃k,k=aR o x:=⟨_,rfl⟩;have e:pre++aH o (x :: picks)++rest=(pre++(List.replicate k 1++ [0]))++aH (eT o k) picks++rest:=(by rw[aH,←hk];simp);have hd:(pre++aH o (x :: picks)++rest).drop pre.length=List.replicate k 1++0 :: (aH (eT o k) picks++rest):=(by rw[e];simp);rw[Mb,aC,hd,nM k 0 T _ (by omega)];show aC _ T picks.length (eT o (0+k)) (pre.length+(0+k)+1) (out++ [o.getD (0+k) 0])=_;rw[MG,e];have h0:pre.length+k+1=(pre++(List.replicate k 1++ [0])).length:=(by simp only[LR,Mo,Mb,MH];omega);rw[h0,tV T picks (eT o k) _ rest _ (by rw[hk];exact ho.move h1) (fun y hy=>hx y (Ma _ hy)),hk,hl.2,←hk];rw[aH,←hk];simp only[LR,Mo,Mb,MH,LZ,MI,Mz,Oj,true_and,and_true];omega
open Go.RowKit
def dw(m:Int):Nat:=if 2400≤m then 6 else if 1200≤m then 5 else if 600≤m then 4 else if 200≤m then 3 else 2
def cn(m:Int):Nat×Nat:=if m<1 then(0,2)else(dw m,0)
def aQ(m:Nat):Nat:=(m+49) / 50
theorem Id{L:List Nat}{p:Nat}(h:p<L.length):L.take (p+1)=L.take p++ [L.getD p 0]:=by rw[Mn h,LU,LV h];rfl
def ix(L:List Int)(n:Int):Prop:=3≤n∧n≤258∧1≤L.length∧L.length≤1638350∧∀x∈L,0≤x∧x<n
instance (L:List Int) (n:Int):Decidable (ix L n):=inferInstanceAs (Decidable (_∧_))
def cJ(T:List (List Int))(P:List Int):Prop:=
 2≤T.length∧T.length≤6∧1≤P.length∧P.length≤32767∧(∀ t∈T,t.length=(T.getD 0 []).length∧bU t)∧(∀ x∈P,0≤x∧x<(T.length:Int))∧3≤(T.getD 0 []).length
instance (T:List (List Int)) (P:List Int):Decidable (cJ T P):=inferInstanceAs (Decidable (_∧_))
def gF(c g:List Nat):Nat:=(g.map fun x=>c.getD x 0).sum
theorem Fr(c g:List Nat)(x:Nat):gF c (g++ [x])=gF c g+c.getD x 0:=by unfold gF;rw[Mw,List.sum_append];simp
def mw(C:List (List Nat))(g:List Nat):Nat→Nat×Nat
 | 0=>(0,0)
 | t+1=>if t=0∨gF (C.getD t []) g<(mw C g t).2 then(t,gF (C.getD t []) g)else mw C g t
def GW(C:List (List Nat))(g:List Nat)(t b:Nat):Prop:=b<t∧(∀ j,j<t→gF (C.getD b []) g≤gF (C.getD j []) g)∧∀j,j<b→gF (C.getD b []) g<gF (C.getD j []) g
theorem Af(C:List (List Nat))(g:List Nat):∀t,GW C g (t+1) (mw C g (t+1)).1∧(mw C g (t+1)).2=gF (C.getD (mw C g (t+1)).1 []) g
 | 0=>by rw[mw,LX (.inl rfl)];exact⟨⟨by omega,fun j hj=>by rw[show j=0 by omega];exact L5 _,fun j hj=>by omega⟩,rfl⟩
 | t+1=>by
  obtain⟨⟨h1,h2,h3⟩,h4⟩:=Af C g t;rw[mw];by_cases e:gF (C.getD (t+1) []) g<(mw C g (t+1)).2
  ·rw[LX (.inr e)];refine⟨⟨by omega,fun j hj=> ?_,fun j hj=> ?_⟩,rfl⟩
   ·by_cases ej:j=t+1;·rw[ej];exact L5 _
    ·have:=h2 j (by omega);show gF (C.getD (t+1) []) g≤_;omega
   ·have h0:j<t+1:=hj;have:=h2 j h0;show gF (C.getD (t+1) []) g<_;omega
  ·rw[LW (by omega)];refine⟨⟨by omega,fun j hj=> ?_,h3⟩,h4⟩;by_cases ej:j=t+1;·rw[ej];omega
   ·exact h2 j (by omega)
def kT(C:List (List Nat))(g:List Nat):Nat:=(mw C g C.length).1
theorem Ae(C:List (List Nat))(g:List Nat)(h:0<C.length):GW C g C.length (kT C g):=by obtain⟨t,ht⟩:∃t,C.length=t+1:=⟨C.length - 1,by omega⟩;unfold kT;rw[ht];exact(Af C g t).1
def df(L:List Nat)(k:Nat):List Nat:=(L.drop (50*k)).take 50
def iA(L P:List Nat)(t s q:Nat):Nat:=(List.range q).countP fun i=>decide (P.getD (i / 50) 0=t∧L.getD i 0=s)
theorem qH(L P:List Nat)(t s q:Nat):iA L P t s (q+1)=iA L P t s q+if P.getD (q / 50) 0=t∧L.getD q 0=s then 1 else 0:=by unfold iA;rw[MQ,PP,P5];simp only[OR]
theorem mO(L P:List Nat)(t s q:Nat):iA L P t s q≤q:=by unfold iA;exact Mk OL (Nr Mt)
def j6(L P:List Nat)(t s:Nat):Nat:=iA L P t s L.length
def bn(L P:List Nat)(t n:Nat):List Nat:=(List.range n).map (j6 L P t)
def z9(W:List Nat):List Nat:=W.map fun x=>max x 1
theorem pZ(W:List Nat):jH (W.map fun(x:Nat)=>(x:Int))=z9 W:=by
 unfold jH z9;apply ML;intro i;by_cases h:i<W.length;·rw[Me,Mx (by simpa using h),Me,LV h];simp only[Nn,tK];rw[LU,Me,LV h];rfl
 ·rw[Mf (by simp;omega),Mf (by simp;omega)]
noncomputable def KX (W:List Nat) (most:Nat):Nat→Nat:=Classical.epsilon fun len=>ib W most len
theorem zV{W:List Nat}{most:Nat}{len:Nat→Nat}(h:ib W most len):KX W most=len:=FI (Classical.epsilon_spec (p:=fun len=>ib W most len) ⟨len,h⟩) h
noncomputable def il (W:List Nat):List Nat:=(List.range W.length).map (KX (z9 W) 17)
def oH(W:List Nat):List Nat:=(List.range W.length).map (bO (Nat.log2 W.length) (2 ^ (Nat.log2 W.length+1) - W.length) (z9 W))
theorem Kv{n k:Nat}(h1:2 ^ k≤n)(h2:n<2 ^ (k+1)):k=Nat.log2 n:=by have hn:n≠0:=(by have:0<2 ^ k:=Nm k;omega);have h3:Nat.log2 n<k+1:=(Nat.log2_lt hn).2 h2;(have h4:¬Nat.log2 n<k:=fun h=>by have:=(Nat.log2_lt hn).1 h;omega);omega
def Jq(n T:Nat):List (List Nat):=(List.range T).map fun t=>(List.range n).map fun s=>if s*T / n=t then 1 else 15
def lB(L:List Nat)(C:List (List Nat)):List Nat:=(List.range (aQ L.length)).map fun k=>kT C (df L k)
noncomputable def xS (L P:List Nat) (n T:Nat):List (List Nat):=(List.range T).map fun t=>il (bn L P t n)
noncomputable def cE (L:List Nat) (n T:Nat):Nat→List (List Nat)×List Nat
 | 0=>(Jq n T,List.replicate (aQ L.length) 0)
 | r+1=>(xS L (lB L (cE L n T r).1) n T,lB L (cE L n T r).1)
def iq(T:List (List Nat))(P:List Nat):List Nat:=aj T.length 3++aj P.length 15++aH [0,1,2,3,4,5] P++T.flatMap aZ
def dB(T:List (List Nat))(P L:List Nat)(q:Nat):List Nat:=(List.range q).flatMap fun i=>eO (T.getD (P.getD (i / 50) 0) []) (L.getD i 0)
theorem l8(T:List (List Nat))(P L:List Nat)(q:Nat):dB T P L (q+1)=dB T P L q++eO (T.getD (P.getD (q / 50) 0) []) (L.getD q 0):=by unfold dB;rw[MQ,M9];simp
theorem oU(L:List Nat)(k:Nat):(df L k).length=min 50 (L.length - 50*k):=by unfold df;rw[Mj,Mc]
theorem IJ(C:Nat→List Nat)(T t:Nat)(h:t<T):((List.range T).map C).getD t []=C t:=by rw[LU,Me,Mx h];rfl
theorem Ko(c g:List Nat)(M:Nat)(h:∀x∈g,c.getD x 0≤M):gF c g≤M*g.length:=by
 unfold gF
 have:=xQ M (g.map fun x=>c.getD x 0) (fun y hy=>by
  obtain⟨x,hx,rfl⟩:=List.mem_map.1 hy
  exact h x hx)
 rw[Mi]at this;exact this
def uF(w:World)(A:Option Addr)(n:Nat)(T:List (List Int)):Prop:=
 T.length=n∧(0<n→∃b off,A=some ⟨b,off,none⟩∧∀i,i<n→∃A2 c2,w.cell? ⟨b,off+i,none⟩=some (.slice A2 (T.getD i []).length c2)∧ZIn w A2 (T.getD i []).length (T.getD i [])∧(T.getD i []).length≤c2∧(T.getD i []).length≤maxLen)
theorem uF.below{w w':World}{A:Option Addr}{n:Nat}{T:List (List Int)}(h:uF w A n T)(hb:Below w.heap.size w w'):uF w' A n T:=by refine⟨h.1,fun hn=> ?_⟩;obtain⟨b,off,rfl,hc⟩:=h.2 hn;refine⟨b,off,rfl,fun i hi=> ?_⟩;obtain⟨A2,c2,h1,h2,h3,h4⟩:=hc i hi;exact⟨A2,c2,(hb.cell (p:=⟨b,off+i,none⟩) (Md w _ h1)).trans h1,h2.below hb,h3,h4⟩
def bc(w:World)(v:Value)(T:List (List Int))(P:List Int):Prop:=
 ∃A n c B m d,v=.agg #[.slice A n c,.slice B m d]∧uF w A n T∧n≤c∧n≤maxLen∧ZIn w B m P∧m≤d∧m≤maxLen
theorem bc.below{w w':World}{v:Value}{T:List (List Int)}{P:List Int}(h:bc w v T P)(hb:Below w.heap.size w w'):bc w' v T P:=by obtain⟨A,n,c,B,m,d,h0,h1,h2,h3,h4,h5⟩:=h;exact⟨A,n,c,B,m,d,h0,h1.below hb,h2,h3,h4.below hb,h5⟩
def ek(w:World)(ans:List (List Int)×List Int×Nat)(e:Ending)(w':World):Prop:=
 ∃v,e=.returned (.tuple #[v,.int .i64 ans.2.2])∧bc w' v ans.1 ans.2.1∧Below w.heap.size w w'
theorem FX(w:World):bc w (.agg #[.slice none 0 0,.slice none 0 0]) [] []:=
 ⟨none,0,0,none,0,0,rfl,⟨rfl,fun h=>absurd h (PC _)⟩,L5 _,by unfold maxLen;omega,⟨rfl,fun h=>absurd h (PC _)⟩,L5 _,by unfold maxLen;omega⟩
def zL(l:List Nat):List Int:=l.map fun(x:Nat)=>(x:Int)
def iC(L:List Int):List Nat:=L.map Int.toNat
noncomputable def aY (L:List Int) (m:Int):List (List Int)×List Int×Nat:=
 if ix L m then(((cE (iC L) m.toNat (dw L.length) 4).1.map zL),zL (cE (iC L) m.toNat (dw L.length) 4).2,0)else([], [],2)
structure LP (w:World) (B g n:Nat) (C:Nat→List Nat) (F:Nat→Value):Prop where
 own:w.ownsRow B 57 1 (.slice (some ⟨g,0,none⟩) n n) n ((List.range n).map F)
 rows:∀j,j<n→(∃ A k,F j=.slice A (C j).length k∧(C j).length≤k)∧w.ownsRow B 3 1 (F j) (C j).length ((C j).map iv)∧∀b,(F j).ownBlock=some b→b<w.heap.size∧b≠g
theorem tA(w:World)(n:Nat)(hn:n≤1000):(Instr.makeSlice 88 (.int .i64 n) (.int .i64 n)).run Tryz.prog w=.ok (.slice (some ⟨w.heap.size,0,none⟩) n n) (w.alloc (.cells (madeCells #[.slice none 0 0] n) 57)):=by obtain⟨i2,h2,h0⟩:=Option.map_eq_some_iff.1 IA;simp only[Oj]at h0;obtain⟨h1,h3,h4⟩:=h0;have h:=PD (P:=Tryz.prog) w 88 57 i2 (.slice none 0 0) Tryz.underlying88 h2 h1 .i64 .i64 (n:Int) (n:Int) (by omega) (by omega) (by rw[h4];omega) (by omega);rw[h3,L9,MR]at h;exact h
theorem AF(w:World)(B n:Nat)(hB:B≤w.heap.size)(hn:n≤1000):LP (w.alloc (.cells (madeCells #[.slice none 0 0] n) 57)) B w.heap.size n (fun _=> []) fun _=>.slice none 0 0:=by refine⟨⟨by simp,.inr ⟨w.heap.size,n,_,rfl,hB,Pn w _,L5 _,by unfold maxLen;omega,by rw[QC,MR],?_⟩⟩,fun j _=>⟨⟨none,0,rfl,L5 _⟩,Ml _ _ _ _,fun b hb=>by simp[Value.ownBlock]at hb⟩⟩;rw[Qh,MR,Mh (by simp),PH,Mt]
def qi(m T t s:Nat):Nat:=if s*T / m=t then 1 else 15
def px(w:World)(B g n:Nat)(C:Nat→List Nat)(b:Nat):Prop:=∃F:Nat→Value,w.ownsRow B 57 1 (.slice (some ⟨g,0,none⟩) n n) n ((List.range n).map F)∧
 ∀j,j<n→∃A k,F j=.slice A (C j).length k∧(C j).length≤k∧w.ownsRow B 3 1 (F j) (C j).length ((C j).map iv)∧(F j).ownBlock≠some b
theorem px.tabW{w:World}{B g n b:Nat}{C:Nat→List Nat}(h:px w B g n C b):iz w B g n C:=by obtain⟨F,h1,h2⟩:=h;refine⟨F,h1,fun j hj=> ?_⟩;obtain⟨A,k,x,y,z,_⟩:=h2 j hj;exact⟨A,k,x,y,z⟩
theorem px.same{w:World}{B g n b:Nat}{C D:Nat→List Nat}(h:px w B g n C b)(hs:∀j,j<n→C j=D j):px w B g n D b:=by obtain⟨F,h1,h2⟩:=h;refine⟨F,h1,fun j hj=> ?_⟩;rw[← hs j hj];exact h2 j hj
theorem px.step{w w':World}{B B' g n b:Nat}{C:Nat→List Nat}(h:px w B g n C b)(hs:ak B' [] [] w w'):px w' B g n C b:=by obtain⟨F,h1,h2⟩:=h;refine⟨F,hs.row h1 (fun _ _=>ay) ay,fun j hj=> ?_⟩;obtain⟨A,k,x,y,z,u⟩:=h2 j hj;exact⟨A,k,x,y,hs.row z (fun _ _=>ay) ay,u⟩
theorem px.set{w:World}{B g n b:Nat}{C:Nat→List Nat}(h:px w B g n C b)(i:Nat){A:Option Addr}{k:Nat}{L:List Nat}(hL:w.ownsRow B 3 1 (.slice A L.length k) L.length (L.map iv))(hk:L.length≤k)(hb:(Value.slice A L.length k).ownBlock≠some b):
 px (w.setCell ⟨g,i,none⟩ (.slice A L.length k)) B g n (fun j=>if j=i then L else C j) b:=by
 obtain⟨F,h1,h2⟩:=h;have h3:=Qg h1 i (.slice A L.length k);have h0:((List.range n).map F).set i (.slice A L.length k)=(List.range n).map fun j=>if j=i then(.slice A L.length k)else F j:=by
  apply ML;intro j;rw[List.getElem?_set];by_cases e:i=j
  ·subst e;by_cases hj:i<n;·simp[hj]
   ·simp[hj]
  ·have e':¬j=i:=fun k=>e k.symm;rw[LW e,Me,Me];by_cases hj:j<n;·rw[Mx hj];simp[e']
   ·rw[Mf (by rw[Mt];omega)];rfl
 rw[h0]at h3;have keep:∀(v:Value) (m:Nat) (xs:List Value),w.ownsRow B 3 1 v m xs→(w.setCell ⟨g,i,none⟩ (.slice A L.length k)).ownsRow B 3 1 v m xs:=by intro v m xs hv;refine hv.kept h3.2 (.inr fun e=> ?_);obtain⟨c1,f1,e1⟩:=Lib.ownsRow_kind hv g e;obtain⟨c2,f2,e2⟩:=Lib.ownsRow_kind h1 g rfl;rw[e1]at e2;simp at e2
 refine⟨_,h3.1,fun j hj=> ?_⟩;by_cases e:j=i
 ·refine⟨A,k,?_,?_,?_,?_⟩;·simp only[LX e]
  ·simp only[LX e];exact hk
  ·simp only[LX e];exact keep _ _ _ hL
  ·simp only[LX e];exact hb
 ·obtain⟨A2,k2,x,y,z,u⟩:=h2 j hj;refine⟨A2,k2,?_,?_,?_,?_⟩;·simp only[LW e];exact x
  ·simp only[LW e];exact y
  ·simp only[LW e];exact keep _ _ _ z
  ·simp only[LW e];exact u
theorem rj(m:Int):2≤dw m∧dw m≤6:=by unfold dw;(repeat' split);all_goals omega
def lr(l:List Nat)(m:Nat):List Nat:=oH (bn l (List.replicate (aQ l.length) 0) 0 m)
def a9(L:List Int)(m:Int):List (List Int)×List Int×Nat:=
 if ix L m then([zL (lr (iC L) m.toNat),zL (lr (iC L) m.toNat)],zL (List.replicate (aQ L.length) 0),0)else([], [],2)
theorem Jw{w:World}{g:Nat}{A1 A2:Option Addr}{m c1 c2:Nat}{x y:List Nat}(hg:Blk w g 57 #[.slice A1 m c1,.slice A2 m c2])(hx:aU w A1 m x)(h1:m≤c1)(hy:aU w A2 m y)(h2:m≤c2)(hm:m≤maxLen):
 uF w (some ⟨g,0,none⟩) 2 [zL x,zL y]:=by
 refine⟨rfl,fun _=>⟨g,0,rfl,fun i hi=> ?_⟩⟩;have h0:(zL x).length=m:=by unfold zL;rw[Mi,hx.1]
 have h3:(zL y).length=m:=by unfold zL;rw[Mi,hy.1]
 rw[MG]
 match i,hi with
 | 0,_=>
  refine⟨A1,c1,?_,?_,?_,?_⟩;·show w.cell? ⟨g,0,none⟩=some (.slice A1 (zL x).length c1);rw[h0];exact(ac hg 0).trans rfl
  ·show ZIn w A1 (zL x).length (zL x);rw[h0];exact eC hx
  ·show(zL x).length≤c1;omega
  ·show(zL x).length≤maxLen;omega
 | 1,_=>
  refine⟨A2,c2,?_,?_,?_,?_⟩;·show w.cell? ⟨g,1,none⟩=some (.slice A2 (zL y).length c2);rw[h3];exact(ac hg 1).trans rfl
  ·show ZIn w A2 (zL y).length (zL y);rw[h3];exact eC hy
  ·show(zL y).length≤c2;omega
  ·show(zL y).length≤maxLen;omega
theorem oL{T:List (List Int)}{q:Nat}(h:q<T.length):T.getD q []∈T:=by rw[LU,LV h];exact Mu h
theorem tW(o:List Nat)(x:Nat)(r:List Nat):aH o (x :: r)=List.replicate (aR o x) 1++0 :: aH (eT o (aR o x)) r:=rfl
theorem gi{B k n:Nat}{e:TypeId}{v:Value}{xs:List Value}{w w':World}(h:w.ownsRow B e k v n xs)(hb:Below w.heap.size w w'):w'.ownsRow B e k v n xs:=
 Oh (row:=none) h ⟨hb.os,hb.tape,hb.output,hb.size,fun j hj _=>hb.block j hj⟩ (by cases hv:v.ownBlock <;>simp)
def fe(T:List (List Int))(P:List Int):List Nat×Nat:=if cJ T P then(iq (T.map nl) (nl P),0)else([],110)
theorem kO{L:List Int}(h:bU L):DOk L:=⟨h.1,h.2.1,h.2.2.1⟩
theorem lj:∀(P o:List Nat),au (aH o P)
 | [],o=>fun b hb=>by simp[aH]at hb
 | x :: P,o=>fun b hb=>by
  rw[tW]at hb;rcases List.mem_append.1 hb with h | h;·rw[PE h];omega
  ·rcases List.mem_cons.1 h with h | h;·omega
   ·exact lj P _ b h
theorem mC(T:Nat)(hT:T≤6):∀(P o:List Nat),Low T o→(∀ x∈P,x<T)→(aH o P).length≤6*P.length
 | [],o,_,_=>by simp[aH]
 | x :: P,o,h,hx=>by have h1:=(h.2 x (hx x (L4 ..))).1;have h2:=mC T hT P _ (h.move (hx x (L4 ..))) fun y hy=>hx y (Ma _ hy);rw[tW,LR,Mo,Mb,Mb];omega
theorem mD:∀(T:List (List Int)),(∀ t∈T,DOk t)→((T.map nl).flatMap aZ).length≤11000*T.length
 | [],_=>by simp
 | t :: T,h=>by have h1:=mD T fun x hx=>h x (Ma _ hx);have h2:=CW t;rw[show jV t=(aZ (nl t),0)from LX (h t (L4 ..))]at h2;dsimp only at h2;rw[M8,MD,LR,Mb];omega
theorem sg(T:List (List Int))(P:List Int):au (fe T P).1:=by
 unfold fe;split;·refine au.append (au.append (au.append (aD _ _) (aD _ _)) (lj _ _)) fun b hb=> ?_;obtain⟨l,_,hl⟩:=List.mem_flatMap.1 hb;exact vj l b hl
 ·intro b hb;cases hb
theorem jM(T:List (List Int))(P:List Int):(fe T P).1.length≤300000:=by
 unfold fe;split;·rename_i hM;have h1:=mD T fun t ht=>kO (hM.2.2.2.2.1 t ht).2;(have h2:=mC T.length hM.2.1 (nl P) _ (DE hM.2.1) fun x hx=>by obtain⟨y,hy,rfl⟩:=List.mem_map.1 hx;have:=hM.2.2.2.2.2.1 y hy;omega);have h3:=hM.2.1;have h4:=hM.2.2.2.1;rw[bV]at h2;show(iq (T.map nl) (nl P)).length≤300000;unfold iq;rw[LR,LR,LR,af,af];omega
 ·exact LY _
theorem xp:∀(l:List Nat) (n T k:Nat),cN l n T=.hit k→n<T→n≤k∧k<n+l.length∧k<T
 | [],n,T,k,h,_=>by simp[cN]at h
 | b :: l,n,T,k,h,hn=>by
  rw[cN]at h;by_cases e:b=0;·rw[LX e]at h;have:=Pl.hit.inj h;rw[Mb];omega
  ·rw[LW e]at h;by_cases e2:n+1=T;·rw[LX e2]at h;cases h
   ·rw[LW e2]at h;have:=xp l (n+1) T k h (by omega);rw[Mb];omega
theorem eB{bits:List Nat}{T k n p:Nat}{o out:List Nat}(h:cN (bits.drop p) 0 T=.hit n):aC bits T (k+1) o p out=aC bits T k (eT o n) (p+n+1) (out++ [o.getD n 0]):=by rw[aC,h]
theorem ew{bits:List Nat}{T k p:Nat}{o out:List Nat}(h:cN (bits.drop p) 0 T=.short):aC bits T (k+1) o p out=([],0,10):=by rw[aC,h]
theorem fu{bits:List Nat}{T k p:Nat}{o out:List Nat}(h:cN (bits.drop p) 0 T=.bad):aC bits T (k+1) o p out=([],0,110):=by rw[aC,h]
theorem qV{w:World}{B B' k k' n n':Nat}{e e':TypeId}{v v':Value}{xs xs':List Value}(h:w.ownsRow B e k v n xs)(h':w.ownsRow B' e' k' v' n' xs')(he:e≠e'):v.ownBlock=none∨v.ownBlock≠v'.ownBlock:=by
 cases hv:v.ownBlock with
 | none=>exact .inl rfl
 | some b=>refine .inr fun hb=> ?_;obtain⟨c1,f1,e1⟩:=Lib.ownsRow_kind h b hv;obtain⟨c2,f2,e2⟩:=Lib.ownsRow_kind h' b hb.symm;rw[e2]at e1;simp at e1;exact he e1.2.1.symm
theorem iz.mono{w:World}{B B' g n:Nat}{C:Nat→List Nat}(h:iz w B g n C)(hB:B'≤B):iz w B' g n C:=by obtain⟨F,h1,h2⟩:=h;refine⟨F,World.ownsRow.mono h1 hB,fun j hj=> ?_⟩;obtain⟨A,k,a,b,c⟩:=h2 j hj;exact⟨A,k,a,b,World.ownsRow.mono c hB⟩
def GU(T:List (List Int))(P L:List Int):Prop:=cJ T P∧aQ L.length≤P.length
instance (T:List (List Int)) (P L:List Int):Decidable (GU T P L):=inferInstanceAs (Decidable (_∧_))
def bI(T:List (List Int))(P L:List Int):List Nat×Nat:=
 if GU T P L then(if ∀x∈L,0≤x∧x<((T.getD 0 []).length:Int)then(dB (T.map nl) (nl P) (nl L) L.length,0)else([],60))else([],110)
theorem yR(T:List (List Nat))(P L:List Nat)(q:Nat):au (dB T P L q):=fun b hb=>by
 unfold dB at hb
 obtain⟨i,_,hi⟩:=List.mem_flatMap.1 hb
 exact aD _ _ b hi
theorem ot(T:List (List Nat))(P L:List Nat)(h:∀t∈T,∀x∈t,x≤20):∀q,(dB T P L q).length≤20*q
 | 0=>L5 _
 | q+1=>by
  have h1:=ot T P L h q;have h2:((T.getD (P.getD (q / 50) 0) []).getD (L.getD q 0) 0)≤20:=by
   rcases MF (P.getD (q / 50) 0) T.length with h3 | h3
   ·have h4:T.getD (P.getD (q / 50) 0) []∈T:=(by rw[LU,LV h3];exact Mu h3);rcases MF (L.getD q 0) (T.getD (P.getD (q / 50) 0) []).length with h5 | h5;·exact h _ h4 _ (rJ h5)
    ·have h6:(T.getD (P.getD (q / 50) 0) [])[L.getD q 0]? =none:=Mf h5;rw[LU (l:=T.getD (P.getD (q / 50) 0) []),h6];exact LY _
   ·have h6:T[P.getD (q / 50) 0]? =none:=Mf h3;rw[LU (l:=T),h6];exact LY _
  rw[l8,LR,iL];omega
theorem qF(T:List (List Int))(P L:List Int):au (bI T P L).1:=by
 unfold bI;split
 ·split;·exact yR _ _ _ _
  ·intro b hb;cases hb
 ·intro b hb;cases hb
theorem iM(T:List (List Int))(P L:List Int)(hL:L.length≤2000000):(bI T P L).1.length≤40000000:=by
 unfold bI;split
 ·rename_i hM;split
  ·have:=ot (T.map nl) (nl P) (nl L) (fun t ht x hx=>by
    obtain⟨t2,h0,rfl⟩:=List.mem_map.1 ht
    exact(DH (kO (hM.1.2.2.2.2.1 t2 h0).2) x hx).2) L.length
   show(dB (T.map nl) (nl P) (nl L) L.length).length≤40000000;omega
  ·exact LY _
 ·exact LY _
theorem yQ(T:List (List Int))(P L:List Int):(bI T P L).2≤110:=by
 unfold bI;split
 ·split;·exact LY _
  ·show 60≤110;omega
 ·exact L5 _
def ft(T:List (List Int))(P L:List Int):Nat×Nat:=if(bI T P L).2=0 then((fe T P).1.length+(bI T P L).1.length,0)else(0,(bI T P L).2)
theorem Bm{P:Program}{f:FuncId}{args:Array Value}{w:World}{R:Ending→World→Prop}(h:Calls P f args w R):∃e w',R e w':=by obtain⟨e,w',_,hR,_⟩:=h [];exact⟨e,w',hR⟩
theorem KU(w:World)(L:List Int):ZIn (w.alloc (.cells (L.map fun(x:Int)=>Value.int .i64 x).toArray 3)) (some ⟨w.heap.size,0,none⟩) L.length L:=by refine⟨rfl,fun _=>⟨w.heap.size,0,rfl,fun i hi=> ?_⟩⟩;rw[MG,ac (ah w 3 _)];simp[hi]
theorem gV(l:List Nat):(zL l).length=l.length:=Mi _
theorem jS(W:List Nat):(z9 W).length=W.length:=Mi _
def n5(l:List Nat)(n:Nat):Prop:=l.length=n∧bU (zL l)∧dC (zL l)=1048576
theorem sW{n:Nat}{len:Nat→Nat}(h2:2≤n)(hn:n≤258)(hl:∀i,i<n→len i≤20)(hs:((List.range n).map fun i=>2 ^ (20 - len i)).sum=2 ^ 20):n5 ((List.range n).map len) n:=by have h:=IF h2 hn hl hs;exact⟨by simp,h.1,h.2⟩
theorem vM(w:World)(W:List Nat)(h2:2≤W.length)(hn:W.length≤258)(hx:∀x∈W,x≤1073741824):n5 (il W) W.length:=by
 have hM:jh (zL W):=⟨by rw[gV];exact h2,by rw[gV];exact hn,fun x hx'=>by
  obtain⟨y,hy,rfl⟩:=List.mem_map.1 hx'
  have:=hx y hy
  exact⟨by omega,by omega⟩⟩
 obtain⟨e,w',hR⟩:=Bm (II (w.alloc (.cells ((zL W).map fun(x:Int)=>Value.int .i64 x).toArray 3)) (some ⟨w.heap.size,0,none⟩) (zL W).length (zL W).length (zL W) 17 (KU w (zL W)) hM (by omega) (by omega));rcases hR with⟨h1,_⟩ | ⟨_,_,_,v,len,hm,_⟩
 ·rcases h1 with h | h | h;·exact absurd hM h
  ·omega
  ·omega
 ·have e1:jH (zL W)=z9 W:=pZ W;rw[e1]at hm;have h0:ib (z9 W) 17 len:=hm;have hg:=Cr h0;rw[jS]at hg;have h:=sW h2 hn (fun i hi=>by have:=hg.1 i hi;omega) (hg.2 20 (by omega));unfold il;rw[zV h0];exact h
theorem Fh(W:List Nat)(h2:2≤W.length)(hn:W.length≤258):n5 (oH W) W.length:=by
 obtain⟨k,hk⟩:∃k,k=Nat.log2 W.length:=⟨_,rfl⟩;have h1:2 ^ k≤W.length:=by rw[hk];exact Nat.log2_self_le (by omega)
 have h3:W.length<2 ^ (k+1):=by rw[hk];exact Nat.lt_log2_self
 have h0:k≤8:=by
  rcases MF 8 k with h | h;·have h4:2 ^ 9≤2 ^ k:=MW (by decide) h;omega
  ·exact h
 have hs:=BY (z9 W) k (by rw[jS];exact h1) (by rw[jS];exact h3) 20 (by omega);rw[jS]at hs;have h:=sW h2 hn (fun i _=>by unfold bO;split <;>omega) hs;unfold oH;rw[← hk];exact h
theorem dS(L P:List Nat)(t n:Nat):(bn L P t n).length=n:=by simp[bn]
theorem BI(L P:List Nat)(t n:Nat):∀x∈bn L P t n,x≤L.length:=by intro x hx;obtain⟨s,_,rfl⟩:=List.mem_map.1 hx;exact mO L P t s L.length
theorem eW(L:List Nat)(n T:Nat):∀r,(cE L n T r).1.length=T
 | 0=>by simp[cE,Jq]
 | r+1=>by simp[cE,xS]
def eI(T:List (List Int))(P L:List Int)(m:Int):Prop:=cJ T P∧P.length=aQ L.length∧∀t∈T,(t.length:Int)=m∧bU t∧dC t=1048576
theorem zC{n:Nat}(h:1≤n)(h2:n≤1638350):1≤aQ n∧aQ n≤32767:=by unfold aQ;omega
theorem Dz{T:List (List Int)}{P L:List Int}{m:Int}(hM:ix L m)(h2:2≤T.length)(h6:T.length≤6)(hP:P.length=aQ L.length)(hx:∀x∈P,0≤x∧x<(T.length:Int))(ht:∀t∈T,(t.length:Int)=m∧bU t∧dC t=1048576):eI T P L m:=by have hg:=zC hM.2.2.1 hM.2.2.2.1;have h0:(T.getD 0 [])∈T:=oL (by omega);have hm:=(ht _ h0).1;have h3:=hM.1;exact⟨⟨h2,h6,by omega,by omega,fun t h=>⟨by have:=(ht t h).1;omega,(ht t h).2.1⟩,hx,by omega⟩,hP,ht⟩
theorem D0{l:List Nat}{m:Int}{n:Nat}(h:n5 l n)(hm:(n:Int)=m):((zL l).length:Int)=m∧bU (zL l)∧dC (zL l)=1048576:=⟨by rw[gV,h.1];exact hm,h.2.1,h.2.2⟩
theorem qX(L:List Int):(iC L).length=L.length:=Mi _
theorem qM(w:World){L:List Int}{m:Int}(hM:ix L m):eI (aY L m).1 (aY L m).2.1 L m:=by
 have hT:=rj L.length;have hm:((m.toNat:Nat):Int)=m:=OX (by have:=hM.1;omega);have h3:=hM.1;have h0:=hM.2.1;have h2:=hM.2.2.2.1;rw[aY,LX hM];refine Dz hM ?_ ?_ ?_ ?_ ?_;·rw[Mi,eW];exact hT.1
 ·rw[Mi,eW];exact hT.2
 ·rw[gV];show(lB (iC L) _).length=_;simp[lB,qX]
 ·intro x hx;obtain⟨y,hy,rfl⟩:=List.mem_map.1 hx;have h4:y∈lB (iC L) (cE (iC L) m.toNat (dw L.length) 3).1:=hy;obtain⟨k,_,rfl⟩:=List.mem_map.1 h4;have:=(Ae (cE (iC L) m.toNat (dw L.length) 3).1 (df (iC L) k) (by rw[eW];omega)).1;rw[eW]at this;rw[Mi,eW];exact⟨by omega,by omega⟩
 ·intro t ht;obtain⟨l,hl,rfl⟩:=List.mem_map.1 ht;have h1:l∈xS (iC L) (lB (iC L) (cE (iC L) m.toNat (dw L.length) 3).1) m.toNat (dw L.length):=hl;obtain⟨t,_,rfl⟩:=List.mem_map.1 h1
  have h:=vM w (bn (iC L) (lB (iC L) (cE (iC L) m.toNat (dw L.length) 3).1) t m.toNat) (by rw[dS];omega) (by rw[dS];omega) (fun x hx=>by
   have:=BI _ _ _ _ x hx
   rw[qX]at this
   omega)
  rw[dS]at h;exact D0 h hm
theorem pS{L:List Int}{m:Int}(hM:ix L m):eI (a9 L m).1 (a9 L m).2.1 L m:=by
 have hm:((m.toNat:Nat):Int)=m:=OX (by have:=hM.1;omega);have h3:=hM.1;have h0:=hM.2.1;have hf:n5 (lr (iC L) m.toNat) m.toNat:=by have h:=Fh (bn (iC L) (List.replicate (aQ (iC L).length) 0) 0 m.toNat) (by rw[dS];omega) (by rw[dS];omega);rw[dS]at h;exact h
 rw[a9,LX hM];refine Dz hM (L5 2) (by show 2≤6;omega) ?_ ?_ ?_;·rw[gV,Mo]
 ·intro x hx;obtain⟨y,hy,rfl⟩:=List.mem_map.1 hx;rw[(List.mem_replicate.1 hy).2];exact⟨by omega,by show((0:Nat):Int)<2;omega⟩
 ·intro t ht;have e:t=zL (lr (iC L) m.toNat):=by
   rcases List.mem_cons.1 ht with h | h;·exact h
   ·exact List.mem_singleton.1 h
  rw[e];exact D0 hf hm
theorem lw{T:List (List Int)}{P L:List Int}{m:Int}(h:eI T P L m)(hM:ix L m):bI T P L=(dB (T.map nl) (nl P) (nl L) L.length,0):=by
 have hT:=h.1.1;have h0:(T.getD 0 [])∈T:=oL (by omega);have hm:=(h.2.2 _ h0).1
 rw[bI,LX ⟨h.1,by rw[h.2.1];exact L5 _⟩,LX (fun x hx=>by
  have:=hM.2.2.2.2 x hx
  exact⟨this.1,by omega⟩)]
theorem bc.past{w w':World}{v:Value}{T:List (List Int)}{P:List Int}(h:bc w v T P)(hT:∀t∈T,0<t.length){g:Nat}{u:TypeId}(hg:Blk w g u #[.slice none 0 0,.slice none 0 0])
 (hk:∀k,k≠g→w'.heap[k]? =w.heap[k]?):bc w' v T P:=by
 have ha:∀b o,b≠g→w'.cell? ⟨b,o,none⟩=w.cell? ⟨b,o,none⟩:=by intro b o hb;simp only[World.cell?,hk b hb]
 have he:∀o x,w.cell? ⟨g,o,none⟩=some x→x=.slice none 0 0:=by
  intro o x hx;rw[ac hg o]at hx;rcases o with _ | _ | o;·simpa using hx.symm
  ·simpa using hx.symm
  ·simp at hx
 have hz:∀(A:Option Addr) (n:Nat) (L:List Int),ZIn w A n L→ZIn w' A n L:=by intro A n L hz;refine⟨hz.1,fun hn=> ?_⟩;obtain⟨b,off,rfl,hc⟩:=hz.2 hn;have hf:b≠g:=(by rintro rfl;have:=he _ _ (hc 0 hn);cases this);exact⟨b,off,rfl,fun i hi=>(ha b _ hf).trans (hc i hi)⟩
 obtain⟨A,n,c,B,m,d,h0,h1,h2,h3,h4,h5,h6⟩:=h;refine⟨A,n,c,B,m,d,h0,⟨h1.1,fun hn=> ?_⟩,h2,h3,hz _ _ _ h4,h5,h6⟩;obtain⟨b,off,rfl,hc⟩:=h1.2 hn;have hf:b≠g:=by rintro rfl;obtain⟨A2,c2,k1,_⟩:=hc 0 hn;have h7:=he _ _ k1;have h8:T.getD 0 []∈T:=oL (by rw[h1.1];exact hn);have h9:=hT _ h8;simp only[Ns]at h7;omega
 refine⟨b,off,rfl,fun i hi=> ?_⟩;obtain⟨A2,c2,k1,k2,k3,k4⟩:=hc i hi;exact⟨A2,c2,(ha b _ hf).trans k1,hz _ _ _ k2,k3,k4⟩
noncomputable def fy (L:List Int) (m:Int):List (List Int)×List Int×Nat:=
 if ix L m then(if(ft (a9 L m).1 (a9 L m).2.1 L).1<(ft (aY L m).1 (aY L m).2.1 L).1 then a9 L m else aY L m)else([], [],2)
theorem vF{T:List (List Int)}{P L:List Int}{m:Int}(h:eI T P L m)(hM:ix L m):∀t∈T,0<t.length:=fun t ht=>by
 have:=(h.2.2 t ht).1
 have:=hM.1
 omega
theorem pa(w:World)(g:Nat)(u v:Value):∀k,k≠g→((w.setCell ⟨g,0,none⟩ u).setCell ⟨g,1,none⟩ v).heap[k]? =w.heap[k]? :=by intro k hk;rw[NE _ ⟨g,1,none⟩ v k hk,NE _ ⟨g,0,none⟩ u k hk]
theorem nJ{w:World}{B e n p:Nat}{v:Value}{xs:List Value}{u:TypeId}{ds:Array Value}(h:w.ownsRow B e 1 v n xs)(k:Blk w p u ds)(h0:e≠u):∀j,v.ownBlock=some j→j∉ [p]:=by intro j hj hm;rw[MK]at hm;subst hm;obtain⟨c1,f1,e1⟩:=Lib.ownsRow_kind h j hj;unfold Blk at k;rw[e1]at k;simp only[MS,Qm]at k;exact h0 k.2.1
structure lU (w0 w:World) (v:Value) (q:Nat) (F:Nat→Value) (C:Nat→List Nat):Prop where
 row:w.ownsRow w0.heap.size 57 1 v q ((List.range q).map F)
 each:∀t,t<q→(∃ A k,F t=.slice A (C t).length k∧(C t).length≤k)∧w.ownsRow w0.heap.size 3 1 (F t) (C t).length ((C t).map iv)
 below:Below w0.heap.size w0 w
theorem lU.nil(w0 w:World)(F:Nat→Value)(C:Nat→List Nat)(h:Below w0.heap.size w0 w):lU w0 w (.slice none 0 0) 0 F C:=
 ⟨Ml _ _ _ _,fun _ ht=>absurd ht (NY _),h⟩
theorem lU.store{w0 w:World}{v:Value}{q:Nat}{F:Nat→Value}{C:Nat→List Nat}(h:lU w0 w v q F C){g:Nat}{u:TypeId}{ds:Array Value}(hg:Blk w g u ds)(h1:(57:TypeId)≠u)(h2:(3:TypeId)≠u)(h0:w0.heap.size≤g)(i:Nat)(x:Value):lU w0 (w.setCell ⟨g,i,none⟩ x) v q F C:=by have hs:ak w0.heap.size [g] [] w (w.setCell ⟨g,i,none⟩ x):=(ak.refl _ _ _ w).set (p:=⟨g,i,none⟩) h0 (by simp) x;exact⟨hs.row h.row (nJ h.row hg h1) ay,fun t ht=>⟨(h.each t ht).1,hs.row (h.each t ht).2 (nJ (h.each t ht).2 hg h2) ay⟩,h.below.setCell (p:=⟨g,i,none⟩) h0 x⟩
theorem lU.push{w0 w w1:World}{A:Option Addr}{q cap:Nat}{F:Nat→Value}{C:Nat→List Nat}(h:lU w0 w (.slice A q cap) q F C){A1:Option Addr}{n k1:Nat}(ht:w1.ownsRow w.heap.size 3 1 (.slice A1 n k1) n ((C q).map iv))(hb:Below w.heap.size w w1)(hq:q≤1000)(hD:(C q).length=n):
 ∃A2 cap2 w2,(Builtin.append_ #[88,88] 88 #[.slice A q cap,.slice (some ⟨w1.heap.size,0,none⟩) 1 1]).run Tryz.prog (w1.alloc (.cells #[.slice A1 n k1] 57))=.ok (.slice A2 (q+1) cap2) w2∧
  lU w0 w2 (.slice A2 (q+1) cap2) (q+1) (fun t=>if t=q then .slice A1 n k1 else F t) C∧∀(g:Nat) (u:TypeId) (ds:Array Value),Blk w1 g u ds→(57:TypeId)≠u→Blk w2 g u ds:=by
 obtain⟨i2,h2,ha⟩:=Option.map_eq_some_iff.1 IA;simp only[Oj]at ha;obtain⟨hi,hl,hm⟩:=ha;have hc:=h.below.size;have h6:=h.below.trans (hb.mono hc);have h0:=gi h.row hb;have h9:=h6.size;obtain⟨_,_,hf,h7,_,_⟩:=ao ht;simp only[Ns]at hf;obtain⟨rfl,_,rfl⟩:=hf
 obtain⟨v2,w2,hr,ho,hg,_,_⟩:=run_append_own_at (P:=Tryz.prog) (w1.alloc (.cells #[.slice A1 n k1] 57)) w0.heap.size 88 88 57 i2 (.slice none 0 0) 1 24 Tryz.underlying88 h2 hi hl hm rfl (by decide) _ _ _ (h0.alloc _) ⟨w1.heap.size,0,none⟩ 1 1 [.slice A1 n k1] rfl (cell_one_new w1 _ _)
  (fun u hu=>by rw[List.mem_singleton.1 hu];rfl) (by unfold maxLen;omega) (by omega) (by simp;omega)
 obtain⟨A2,cap2,rfl,_,_,_⟩:=ao ho;have h1:=h0.alloc (.cells #[.slice A1 n k1] 57);refine⟨A2,cap2,w2,hr,⟨?_,fun t he=> ?_,?_⟩,fun g u ds hgb hne=> ?_⟩
 ·have h3:=ho
  rw[show ((List.range q).map F)++ [.slice A1 n k1]=(List.range (q+1)).map fun t=>if t=q then .slice A1 n k1 else F t by
   rw[MQ,Mw,QE,LX rfl]
   congr 1
   apply MJ
   intro t he
   have:=List.mem_range.1 he
   rw[LW (by omega)]]at h3
  exact h3
 ·by_cases e:t=q;·subst e;simp only[if_true];have h5:=(World.ownsRow.mono ht hc).alloc (.cells #[.slice A1 n k1] 57);rw[hD];exact⟨⟨A1,k1,rfl,h7⟩,Oh h5 hg (qV h5 h1 (by decide))⟩
  ·simp only[LW e];have h5:=(gi (h.each t (by omega)).2 hb).alloc (.cells #[.slice A1 n k1] 57);exact⟨(h.each t (by omega)).1,Oh h5 hg (qV h5 h1 (by decide))⟩
 ·exact(h6.alloc h9 _).grown hg (by simp;omega) (fun k hk=>(h0.lt k hk).1)
 ·have hh:g<w1.heap.size:=(Array.getElem?_eq_some_iff.1 hgb).1;have h4:Blk (w1.alloc (.cells #[.slice A1 n k1] 57)) g u ds:=(by unfold Blk;rw[heap_alloc_old _ _ hh];exact hgb);have h8:∀j,(Value.slice A q cap).ownBlock=some j→j≠g:=fun j hj e=>nJ h1 h4 hne j hj (by rw[e];simp);unfold Blk at h4 ⊢;rw[hg.block g (by simp;omega) (fun e=>h8 g e.symm rfl)];exact h4
theorem lU.tabZ{w0 w:World}{A:Option Addr}{q c:Nat}{F:Nat→Value}{C:Nat→List Nat}(h:lU w0 w (.slice A q c) q F C)(hm:∀t,t<q→(C t).length≤1000):uF w A q ((List.range q).map fun t=>zL (C t)):=by
 refine⟨by simp,fun hq=> ?_⟩;obtain⟨A',c',hv,_,_,hA⟩:=ao h.row;simp only[Ns]at hv;obtain⟨rfl,_,rfl⟩:=hv;obtain⟨b,rfl⟩:=hA hq;refine⟨b,0,rfl,fun i hi=> ?_⟩;obtain⟨⟨A2,k2,e1,e2⟩,e3⟩:=h.each i hi;have h0:((List.range q).map fun t=>zL (C t)).getD i []=zL (C i):=by rw[LU,Me,Mx hi];rfl
 rw[h0,gV];refine⟨A2,k2,?_,?_,e2,?_⟩;·rw[MG,NC h.row i (by omega),Me,Mx hi,←e1];rfl
 ·rw[e1]at e3;have:=eC (ct e3);exact this
 ·have:=hm i hi;unfold maxLen;omega
def dV(bits:List Nat)(n:Nat):Nat→Nat→List (List Nat)→List (List Nat)×Nat×Nat
 | 0,p,acc=>(acc,p,0)
 | t+1,p,acc=>if(ax bits p n).2.2=0 then(if bU (zL (ax bits p n).1)then dV bits n t (ax bits p n).2.1 (acc++ [(ax bits p n).1])else([],0,80))else([],0,(ax bits p n).2.2)
def wh(bits:List Nat)(n a T K:Nat):List (List Int)×List Int×Nat×Nat:=
 if(aC bits T K [0,1,2,3,4,5] (a+18) []).2.2=0 then
  (if(dV bits n T (aC bits T K [0,1,2,3,4,5] (a+18) []).2.1 []).2.2=0 then
    (((dV bits n T (aC bits T K [0,1,2,3,4,5] (a+18) []).2.1 []).1.map zL),zL (aC bits T K [0,1,2,3,4,5] (a+18) []).1,(dV bits n T (aC bits T K [0,1,2,3,4,5] (a+18) []).2.1 []).2.1,0)
  else([], [],0,(dV bits n T (aC bits T K [0,1,2,3,4,5] (a+18) []).2.1 []).2.2))
 else([], [],0,(aC bits T K [0,1,2,3,4,5] (a+18) []).2.2)
def un(bits:List Nat)(n a:Nat):List (List Int)×List Int×Nat×Nat:=
 if bits.length<a+3 then([], [],0,10)
 else if val ((bits.drop a).take 3)<2∨6<val ((bits.drop a).take 3)then([], [],0,110)
 else if bits.length<a+18 then([], [],0,10)
 else if val ((bits.drop (a+3)).take 15)=0 then([], [],0,110)
 else wh bits n a (val ((bits.drop a).take 3)) (val ((bits.drop (a+3)).take 15))
def dU(bits:List Nat)(at' n:Int):List (List Int)×List Int×Nat×Nat:=
 if at'<0∨(bits.length:Int)<at'∨n<3∨258<n then([], [],0,2)else un bits n.toNat at'.toNat
def Dk(w:World)(ans:List (List Int)×List Int×Nat×Nat)(e:Ending)(w':World):Prop:=
 ∃v,e=.returned (.tuple #[v,.int .i64 ans.2.2.1,.int .i64 ans.2.2.2])∧bc w' v ans.1 ans.2.1∧Below w.heap.size w w'
theorem iD(bits:List Nat)(T:Nat)(hT:0<T):∀(k:Nat) (o:List Nat) (p:Nat) (out:List Nat),p≤bits.length→(aC bits T k o p out).2.1≤bits.length∧(aC bits T k o p out).2.2≤110
 | 0,_,_,_,h=>⟨h,LY _⟩
 | k+1,o,p,out,h=>by
  cases hp:cN (bits.drop p) 0 T with
  | hit n=>have hl:=(xp (bits.drop p) 0 T n hp hT).2.1;rw[Mc]at hl;rw[eB hp];exact iD bits T hT k _ _ _ (by omega)
  | short=>rw[ew hp];exact⟨LY _,by show 10≤110;omega⟩
  | bad=>rw[fu hp];exact⟨LY _,L5 _⟩
theorem AH:∀(bs:List Nat) (now n p:Nat) (out:List Nat),(bj bs now n p out).2.1≤p+bs.length∧(bj bs now n p out).2.2≤80:=by
 intro bs
 induction h:bs.length using Nat.strongRecOn generalizing bs with
 | _ m ih=>
  intro now n p out;subst h;rcases n with _ | n;·rw[eX];exact⟨O0 _ _,LY _⟩
  ·by_cases hb:now<1∨20<now;·rw[gQ _ _ _ _ _ hb];exact⟨LY _,L5 _⟩
   ·rcases bs with _ | ⟨b,bs⟩;·rw[jf _ _ _ _ hb];exact⟨LY _,by show 10≤80;omega⟩
    ·by_cases h0:b=0;·subst h0;rw[fJ _ _ _ _ _ hb];have:=ih bs.length (by simp) bs rfl now n (p+1) (out++ [now]);rw[Mb];exact⟨by omega,this.2⟩
     ·rcases bs with _ | ⟨d,bs⟩;·rw[kY _ _ _ _ _ hb h0];exact⟨LY _,by show 10≤80;omega⟩
      ·rw[eY _ _ _ _ _ _ _ hb h0];have:=ih bs.length (by simp only[Mb];omega) bs rfl (if d=0 then now+1 else now - 1) (n+1) (p+2) out;rw[Mb,Mb];exact⟨by omega,this.2⟩
theorem np(bits:List Nat)(at' n:Int):(ax bits at' n).2.1≤bits.length∧(ax bits at' n).2.2≤80:=by
 unfold ax;split;·exact⟨LY _,by show 2≤80;omega⟩
 ·split;·exact⟨LY _,by show 10≤80;omega⟩
  ·have:=AH (bits.drop (at'.toNat+5)) (val ((bits.drop at'.toNat).take 5)) n.toNat (at'.toNat+5) [];rw[Mc]at this;exact⟨by omega,this.2⟩
theorem lU.same{w0 w:World}{v:Value}{q:Nat}{F:Nat→Value}{C D:Nat→List Nat}(h:lU w0 w v q F C)(hs:∀t,t<q→C t=D t):lU w0 w v q F D:=
 ⟨h.row,fun t ht=>by rw[← hs t ht];exact h.each t ht,h.below⟩
theorem nT{bits:List Nat}{n t p:Nat}{acc:List (List Nat)}:dV bits n (t+1) p acc=if(ax bits p n).2.2=0 then(if bU (zL (ax bits p n).1)then dV bits n t (ax bits p n).2.1 (acc++ [(ax bits p n).1])else([],0,80))else([],0,(ax bits p n).2.2):=rfl
def j8(T:List (List Nat))(P bits:List Nat)(n0:Nat):Nat→Nat→Nat→List Nat→List Nat×Nat×Nat
 | 0,_,_,_=>([],0,110)
 | k+1,i,a,out=>match iI (T.getD (P.getD (i / 50) 0) []) (bits.drop a)with
   | .hit x=>if x+1=n0 then(out++ [x],a+(T.getD (P.getD (i / 50) 0) []).getD x 0,0)else j8 T P bits n0 k (i+1) (a+(T.getD (P.getD (i / 50) 0) []).getD x 0) (out++ [x])
   | .short=>([],0,10)
   | .code=>([],0,90)
theorem kL(T:List (List Nat))(P bits:List Nat)(n0 k i a:Nat)(out:List Nat):j8 T P bits n0 (k+1) i a out=match iI (T.getD (P.getD (i / 50) 0) []) (bits.drop a)with
 | .hit x=>if x+1=n0 then(out++ [x],a+(T.getD (P.getD (i / 50) 0) []).getD x 0,0)else j8 T P bits n0 k (i+1) (a+(T.getD (P.getD (i / 50) 0) []).getD x 0) (out++ [x])
 | .short=>([],0,10)
 | .code=>([],0,90):=rfl
def ij(T:List (List Int))(P:List Int)(bits:List Nat)(at':Int):List Nat×Nat×Nat:=
 if cJ T P then(if at'<0∨(bits.length:Int)<at' then([],0,2)else j8 (T.map nl) (nl P) bits (T.getD 0 []).length (50*P.length) 0 at'.toNat [])else([],0,110)
end Go.Proofs.YtepokmggbfoakaaGreatDoor
