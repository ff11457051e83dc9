import Derived.Test.YthakcjehhlpjnaaGreatA15
set_option maxHeartbeats 6400000
set_option maxRecDepth 100000
namespace Go.Proofs.YthakcjehhlpjnaaGreat
def d9(l:List Nat)(k:Nat):List Nat:=l.getD k 0 :: (l.take k++l.drop (k+1))
def aQ:List Nat→Nat→Nat
 | [],_=>0
 | y :: l,x=>if y=x then 0 else aQ l x+1
theorem eF:∀(l:List Nat) (x:Nat),x∈l→aQ l x<l.length∧l.getD (aQ l x) 0=x
 | [],x,h=>by cases h
 | y :: l,x,h=>by
   by_cases e:y=x
   ·subst e
    simp[aQ]
   ·have hx:x∈l:=by
     rcases List.mem_cons.1 h with h | h
     ·exact absurd h.symm e
     ·exact h
    have ih:=eF l x hx
    rw[aQ,if_neg e,List.length_cons]
    exact⟨by omega,ih.2⟩
theorem gK{l:List Nat}{k:Nat}(hk:k<l.length):(d9 l k).length=l.length:=by
 unfold d9
 rw[List.length_cons,List.length_append,List.length_take,List.length_drop]
 omega
def Low(T:Nat)(l:List Nat):Prop:=T≤l.length∧∀x,x<T→aQ l x<T∧x∈l
theorem qz:∀(l:List Nat) (T x:Nat),x∈l.take T→aQ l x<T
 | [],T,x,h=>by simp at h
 | y :: l,0,x,h=>by simp at h
 | y :: l,T+1,x,h=>by
   by_cases e:y=x
   ·rw[aQ,if_pos e]
    omega
   ·rw[List.take_succ_cons]at h
    rcases List.mem_cons.1 h with h | h
    ·exact absurd h.symm e
    ·rw[aQ,if_neg e]
     have:=qz l T x h
     omega
theorem qL:∀(l:List Nat) (T x:Nat),x∈l→aQ l x<T→x∈l.take T
 | [],T,x,h,_=>by cases h
 | y :: l,0,x,_,h=>by omega
 | y :: l,T+1,x,h,hp=>by
   rw[List.take_succ_cons]
   by_cases e:y=x
   ·rw[e]
    exact List.mem_cons_self ..
   ·rcases List.mem_cons.1 h with h | h
    ·exact absurd h.symm e
    ·rw[aQ,if_neg e]at hp
     exact List.mem_cons_of_mem _ (qL l T x h (by omega))
theorem Low.move{T:Nat}{l:List Nat}(h:Low T l){x:Nat}(hx:x<T):Low T (d9 l (aQ l x)):=by
 obtain⟨h1,h2⟩:=h
 have hp:=eF l x (h2 x hx).2
 have h5:=(h2 x hx).1
 refine⟨by rw[gK hp.1];exact h1,fun y hy=> ?_⟩
 have h0:y∈(d9 l (aQ l x)).take T:=by
  unfold d9
  rw[hp.2]
  obtain⟨S,rfl⟩:∃S,T=S+1:=⟨T - 1,by omega⟩
  rw[List.take_succ_cons]
  by_cases e:y=x
  ·rw[e]
   exact List.mem_cons_self ..
  ·refine List.mem_cons_of_mem _ ?_
   have h4:=qL l (S+1) y (h2 y hy).2 (h2 y hy).1
   rw[List.take_append,List.length_take,Nat.min_eq_left (by omega),List.take_take,Nat.min_eq_right (by omega)]
   have e2:l.take (S+1)=l.take (aQ l x)++(x :: (l.drop (aQ l x+1)).take (S - aQ l x)):=by
    have h3:S+1=aQ l x+(1+(S - aQ l x)):=by omega
    conv=>lhs;rw[h3,List.take_add]
    congr 1
    rw[List.drop_eq_getElem_cons hp.1,Nat.add_comm 1,List.take_succ_cons]
    congr 1
    have:=hp.2
    rw[List.getD_eq_getElem?_getD,List.getElem?_eq_getElem hp.1]at this
    exact this
   rw[e2]at h4
   rcases List.mem_append.1 h4 with h3 | h3
   ·exact List.mem_append_left _ h3
   ·rcases List.mem_cons.1 h3 with h3 | h3
    ·exact absurd h3 e
    ·exact List.mem_append_right _ h3
 exact⟨qz _ _ _ h0,List.mem_of_mem_take h0⟩
theorem AF{T:Nat}(h:T≤6):Low T [0,1,2,3,4,5]:=by
 refine⟨h,fun x hx=> ?_⟩
 have:x=0∨x=1∨x=2∨x=3∨x=4∨x=5:=by omega
 rcases this with rfl | rfl | rfl | rfl | rfl | rfl <;>exact⟨by simp[aQ];try omega,by simp⟩
def aH:List Nat→List Nat→List Nat
 | _, []=> []
 | o,x :: r=>List.replicate (aQ o x) 1++0 :: aH (d9 o (aQ o x)) r
inductive Pl where
 | hit (n:Nat)
 | short
 | bad
def dE:List Nat→Nat→Nat→Pl
 | [],_,_=>.short
 | b :: bs,n,most=>if b=0 then .hit n else if n+1=most then .bad else dE bs (n+1) most
def aF(bits:List Nat)(T:Nat):Nat→List Nat→Nat→List Nat→List Nat×Nat×Nat
 | 0,_,p,out=>(out,p,0)
 | k+1,o,p,out=>match dE (bits.drop p) 0 T with
   | .hit n=>aF bits T k (d9 o n) (p+n+1) (out++ [o.getD n 0])
   | .short=>([],0,10)
   | .bad=>([],0,110)
theorem mh:∀(k n most:Nat) (rest:List Nat),n+k<most→dE (List.replicate k 1++0 :: rest) n most=.hit (n+k)
 | 0,n,most,rest,h=>by
   rw[List.replicate_zero,List.nil_append,dE,if_pos rfl]
   rfl
 | k+1,n,most,rest,h=>by
   rw[List.replicate_succ,List.cons_append,dE,if_neg (by omega),if_neg (by omega),mh k (n+1) most rest (by omega)]
   congr 1
   omega
theorem qK(T:Nat):∀(picks o pre rest out:List Nat),Low T o→(∀ x∈picks,x<T)→
 aF (pre++aH o picks++rest) T picks.length o pre.length out=(out++picks,pre.length+(aH o picks).length,0)
 | [],o,pre,rest,out,_,_=>by simp[aF,aH]
 | x :: picks,o,pre,rest,out,ho,hx=>by
   have h1:=hx x (List.mem_cons_self ..)
   have hp:=ho.2 x h1
   have hl:=eF o x hp.2
   obtain⟨k,hk⟩:∃k,k=aQ o x:=⟨_,rfl⟩
   have e:pre++aH o (x :: picks)++rest=(pre++(List.replicate k 1++ [0]))++aH (d9 o k) picks++rest:=by
    rw[aH,←hk]
    simp
   have hd:(pre++aH o (x :: picks)++rest).drop pre.length=List.replicate k 1++0 :: (aH (d9 o k) picks++rest):=by
    rw[e]
    simp
   rw[List.length_cons,aF,hd,mh k 0 T _ (by omega)]
   show aF _ T picks.length (d9 o (0+k)) (pre.length+(0+k)+1) (out++ [o.getD (0+k) 0])=_
   rw[Nat.zero_add,e]
   have h0:pre.length+k+1=(pre++(List.replicate k 1++ [0])).length:=by
    simp only[List.length_append,List.length_replicate,List.length_cons,List.length_nil]
    omega
   rw[h0,qK T picks (d9 o k) _ rest _ (by rw[hk];exact ho.move h1) (fun y hy=>hx y (List.mem_cons_of_mem _ hy)),hk,hl.2,←hk]
   rw[aH,←hk]
   simp only[List.length_append,List.length_replicate,List.length_cons,List.length_nil,List.append_assoc,List.cons_append,List.nil_append,Prod.mk.injEq,true_and,and_true]
   omega
open Go.RowKit
def cN(m:Int):Nat:=if 2400≤m then 6 else if 1200≤m then 5 else if 600≤m then 4 else if 200≤m then 3 else 2
def bO(m:Int):Nat×Nat:=if m<1 then(0,2)else(cN m,0)
def aP(m:Nat):Nat:=(m+49) / 50
theorem ES{L:List Nat}{p:Nat}(h:p<L.length):L.take (p+1)=L.take p++ [L.getD p 0]:=by
 rw[List.take_succ_eq_append_getElem h,List.getD_eq_getElem?_getD,List.getElem?_eq_getElem h]
 rfl
def gz(L:List Int)(n:Int):Prop:=3≤n∧n≤258∧1≤L.length∧L.length≤1638350∧∀x∈L,0≤x∧x<n
instance (L:List Int) (n:Int):Decidable (gz L n):=inferInstanceAs (Decidable (_∧_))
def cB(T:List (List Int))(P:List Int):Prop:=
 2≤T.length∧T.length≤6∧1≤P.length∧P.length≤32767∧(∀ t∈T,t.length=(T.getD 0 []).length∧bL t)∧(∀ x∈P,0≤x∧x<(T.length:Int))∧3≤(T.getD 0 []).length
instance (T:List (List Int)) (P:List Int):Decidable (cB T P):=inferInstanceAs (Decidable (_∧_))
def fH(c g:List Nat):Nat:=(g.map fun x=>c.getD x 0).sum
theorem Dz(c g:List Nat)(x:Nat):fH c (g++ [x])=fH c g+c.getD x 0:=by
 unfold fH
 rw[List.map_append,List.sum_append]
 simp
def ly(C:List (List Nat))(g:List Nat):Nat→Nat×Nat
 | 0=>(0,0)
 | t+1=>if t=0∨fH (C.getD t []) g<(ly C g t).2 then(t,fH (C.getD t []) g)else ly C g t
def FH(C:List (List Nat))(g:List Nat)(t b:Nat):Prop:=b<t∧(∀ j,j<t→fH (C.getD b []) g≤fH (C.getD j []) g)∧∀j,j<b→fH (C.getD b []) g<fH (C.getD j []) g
theorem xc(C:List (List Nat))(g:List Nat):∀t,FH C g (t+1) (ly C g (t+1)).1∧(ly C g (t+1)).2=fH (C.getD (ly C g (t+1)).1 []) g
 | 0=>by
   rw[ly,if_pos (.inl rfl)]
   exact⟨⟨by omega,fun j hj=>by rw[show j=0 by omega];exact Nat.le_refl _,fun j hj=>by omega⟩,rfl⟩
 | t+1=>by
   obtain⟨⟨h1,h2,h3⟩,h4⟩:=xc C g t
   rw[ly]
   by_cases e:fH (C.getD (t+1) []) g<(ly C g (t+1)).2
   ·rw[if_pos (.inr e)]
    refine⟨⟨by omega,fun j hj=> ?_,fun j hj=> ?_⟩,rfl⟩
    ·by_cases ej:j=t+1
     ·rw[ej]
      exact Nat.le_refl _
     ·have:=h2 j (by omega)
      show fH (C.getD (t+1) []) g≤_
      omega
    ·have h0:j<t+1:=hj
     have:=h2 j h0
     show fH (C.getD (t+1) []) g<_
     omega
   ·rw[if_neg (by omega)]
    refine⟨⟨by omega,fun j hj=> ?_,h3⟩,h4⟩
    by_cases ej:j=t+1
    ·rw[ej]
     omega
    ·exact h2 j (by omega)
def jN(C:List (List Nat))(g:List Nat):Nat:=(ly C g C.length).1
theorem xE(C:List (List Nat))(g:List Nat)(h:0<C.length):FH C g C.length (jN C g):=by
 obtain⟨t,ht⟩:∃t,C.length=t+1:=⟨C.length - 1,by omega⟩
 unfold jN
 rw[ht]
 exact(xc C g t).1
def cE(L:List Nat)(k:Nat):List Nat:=(L.drop (50*k)).take 50
def gx(L P:List Nat)(t s q:Nat):Nat:=(List.range q).countP fun i=>decide (P.getD (i / 50) 0=t∧L.getD i 0=s)
theorem oU(L P:List Nat)(t s q:Nat):gx L P t s (q+1)=gx L P t s q+if P.getD (q / 50) 0=t∧L.getD q 0=s then 1 else 0:=by
 unfold gx
 rw[List.range_succ,List.countP_append,List.countP_singleton]
 simp only[decide_eq_true_eq]
theorem lG(L P:List Nat)(t s q:Nat):gx L P t s q≤q:=by
 unfold gx
 exact Nat.le_trans List.countP_le_length (Nat.le_of_eq List.length_range)
def jh(L P:List Nat)(t s:Nat):Nat:=gx L P t s L.length
def bf(L P:List Nat)(t n:Nat):List Nat:=(List.range n).map (jh L P t)
def wK(W:List Nat):List Nat:=W.map fun x=>max x 1
theorem nZ(W:List Nat):iS (W.map fun(x:Nat)=>(x:Int))=wK W:=by
 unfold iS wK
 apply List.ext_getElem?
 intro i
 by_cases h:i<W.length
 ·rw[List.getElem?_map,List.getElem?_range (by simpa using h),List.getElem?_map,List.getElem?_eq_getElem h]
  simp only[Option.map_some,qU]
  rw[List.getD_eq_getElem?_getD,List.getElem?_map,List.getElem?_eq_getElem h]
  rfl
 ·rw[List.getElem?_eq_none (by simp;omega),List.getElem?_eq_none (by simp;omega)]
noncomputable def Hr (W:List Nat) (most:Nat):Nat→Nat:=Classical.epsilon fun len=>gn W most len
theorem wO{W:List Nat}{most:Nat}{len:Nat→Nat}(h:gn W most len):Hr W most=len:=Dc (Classical.epsilon_spec (p:=fun len=>gn W most len) ⟨len,h⟩) h
noncomputable def f4 (W:List Nat):List Nat:=(List.range W.length).map (Hr (wK W) 17)
def mJ(W:List Nat):List Nat:=(List.range W.length).map (bE (Nat.log2 W.length) (2 ^ (Nat.log2 W.length+1) - W.length) (wK W))
theorem G7{n k:Nat}(h1:2 ^ k≤n)(h2:n<2 ^ (k+1)):k=Nat.log2 n:=by
 have hn:n≠0:=by
  have:0<2 ^ k:=Nat.two_pow_pos k
  omega
 have h3:Nat.log2 n<k+1:=(Nat.log2_lt hn).2 h2
 have h4:¬Nat.log2 n<k:=fun h=>by
  have:=(Nat.log2_lt hn).1 h
  omega
 omega
def Gi(n T:Nat):List (List Nat):=(List.range T).map fun t=>(List.range n).map fun s=>if s*T / n=t then 1 else 15
def kw(L:List Nat)(C:List (List Nat)):List Nat:=(List.range (aP L.length)).map fun k=>jN C (cE L k)
noncomputable def uH (L P:List Nat) (n T:Nat):List (List Nat):=(List.range T).map fun t=>f4 (bf L P t n)
noncomputable def bY (L:List Nat) (n T:Nat):Nat→List (List Nat)×List Nat
 | 0=>(Gi n T,List.replicate (aP L.length) 0)
 | r+1=>(uH L (kw L (bY L n T r).1) n T,kw L (bY L n T r).1)
def gg(T:List (List Nat))(P:List Nat):List Nat:=aj T.length 3++aj P.length 15++aH [0,1,2,3,4,5] P++T.flatMap aX
def cQ(T:List (List Nat))(P L:List Nat)(q:Nat):List Nat:=(List.range q).flatMap fun i=>dU (T.getD (P.getD (i / 50) 0) []) (L.getD i 0)
theorem k5(T:List (List Nat))(P L:List Nat)(q:Nat):cQ T P L (q+1)=cQ T P L q++dU (T.getD (P.getD (q / 50) 0) []) (L.getD q 0):=by
 unfold cQ
 rw[List.range_succ,List.flatMap_append]
 simp
theorem mO(L:List Nat)(k:Nat):(cE L k).length=min 50 (L.length - 50*k):=by
 unfold cE
 rw[List.length_take,List.length_drop]
theorem Ft(C:Nat→List Nat)(T t:Nat)(h:t<T):((List.range T).map C).getD t []=C t:=by
 rw[List.getD_eq_getElem?_getD,List.getElem?_map,List.getElem?_range h]
 rfl
theorem GE(c g:List Nat)(M:Nat)(h:∀x∈g,c.getD x 0≤M):fH c g≤M*g.length:=by
 unfold fH
 have:=uX M (g.map fun x=>c.getD x 0) (fun y hy=>by
  obtain⟨x,hx,rfl⟩:=List.mem_map.1 hy
  exact h x hx)
 rw[List.length_map]at this
 exact this
def sh(w:World)(A:Option Addr)(n:Nat)(T:List (List Int)):Prop:=
 T.length=n∧(0<n→∃b off,A=some ⟨b,off,none⟩∧∀i,i<n→∃A2 c2,w.cell? ⟨b,off+i,none⟩=some (.slice A2 (T.getD i []).length c2)∧ZIn w A2 (T.getD i []).length (T.getD i [])∧(T.getD i []).length≤c2∧(T.getD i []).length≤maxLen)
theorem sh.below{w w':World}{A:Option Addr}{n:Nat}{T:List (List Int)}(h:sh w A n T)(hb:Below w.heap.size w w'):sh w' A n T:=by
 refine⟨h.1,fun hn=> ?_⟩
 obtain⟨b,off,rfl,hc⟩:=h.2 hn
 refine⟨b,off,rfl,fun i hi=> ?_⟩
 obtain⟨A2,c2,h1,h2,h3,h4⟩:=hc i hi
 exact⟨A2,c2,(hb.cell (p:=⟨b,off+i,none⟩) (World.block_lt_of_cell? w _ h1)).trans h1,h2.below hb,h3,h4⟩
def aZ(w:World)(v:Value)(T:List (List Int))(P:List Int):Prop:=
 ∃A n c B m d,v=.agg #[.slice A n c,.slice B m d]∧sh w A n T∧n≤c∧n≤maxLen∧ZIn w B m P∧m≤d∧m≤maxLen
theorem aZ.below{w w':World}{v:Value}{T:List (List Int)}{P:List Int}(h:aZ w v T P)(hb:Below w.heap.size w w'):aZ w' v T P:=by
 obtain⟨A,n,c,B,m,d,h0,h1,h2,h3,h4,h5⟩:=h
 exact⟨A,n,c,B,m,d,h0,h1.below hb,h2,h3,h4.below hb,h5⟩
def dK(w:World)(ans:List (List Int)×List Int×Nat)(e:Ending)(w':World):Prop:=
 ∃v,e=.returned (.tuple #[v,.int .i64 ans.2.2])∧aZ w' v ans.1 ans.2.1∧Below w.heap.size w w'
theorem CB(w:World):aZ w (.agg #[.slice none 0 0,.slice none 0 0]) [] []:=
 ⟨none,0,0,none,0,0,rfl,⟨rfl,fun h=>absurd h (Nat.lt_irrefl _)⟩,Nat.le_refl _,by unfold maxLen;omega,⟨rfl,fun h=>absurd h (Nat.lt_irrefl _)⟩,Nat.le_refl _,by unfold maxLen;omega⟩
def zL(l:List Nat):List Int:=l.map fun(x:Nat)=>(x:Int)
def gr(L:List Int):List Nat:=L.map Int.toNat
noncomputable def aV (L:List Int) (m:Int):List (List Int)×List Int×Nat:=
 if gz L m then(((bY (gr L) m.toNat (cN L.length) 4).1.map zL),zL (bY (gr L) m.toNat (cN L.length) 4).2,0)else([], [],2)
structure IV (w:World) (B g n:Nat) (C:Nat→List Nat) (F:Nat→Value):Prop where
 own:w.ownsRow B 36 1 (.slice (some ⟨g,0,none⟩) n n) n ((List.range n).map F)
 rows:∀j,j<n→(∃ A k,F j=.slice A (C j).length k∧(C j).length≤k)∧w.ownsRow B 3 1 (F j) (C j).length ((C j).map iv)∧∀b,(F j).ownBlock=some b→b<w.heap.size∧b≠g
theorem rW(w:World)(n:Nat)(hn:n≤1000):(Instr.makeSlice 50 (.int .i64 n) (.int .i64 n)).run Tryz.prog w=.ok (.slice (some ⟨w.heap.size,0,none⟩) n n) (w.alloc (.cells (madeCells #[.slice none 0 0] n) 36)):=by
 obtain⟨i2,h2,h0⟩:=Option.map_eq_some_iff.1 Gl
 simp only[Prod.mk.injEq]at h0
 obtain⟨h1,h3,h4⟩:=h0
 have h:=run_make (P:=Tryz.prog) w 50 36 i2 (.slice none 0 0) Tryz.underlying50 h2 h1 .i64 .i64 (n:Int) (n:Int) (by omega) (by omega) (by rw[h4];omega) (by omega)
 rw[h3,Int.toNat_natCast,Nat.mul_one]at h
 exact h
theorem yc(w:World)(B n:Nat)(hB:B≤w.heap.size)(hn:n≤1000):IV (w.alloc (.cells (madeCells #[.slice none 0 0] n) 36)) B w.heap.size n (fun _=> []) fun _=>.slice none 0 0:=by
 refine⟨⟨by simp,.inr ⟨w.heap.size,n,_,rfl,hB,heap_alloc_new w _,Nat.le_refl _,by unfold maxLen;omega,by rw[size_madeCells,Nat.mul_one],?_⟩⟩,fun j _=>⟨⟨none,0,rfl,Nat.le_refl _⟩,World.ownsRow_nil _ _ _ _,fun b hb=>by simp[Value.ownBlock]at hb⟩⟩
 rw[toList_madeCells_one,Nat.mul_one,List.take_of_length_le (by simp),List.map_const',List.length_range]
def nR(m T t s:Nat):Nat:=if s*T / m=t then 1 else 15
def nQ(w:World)(B g n:Nat)(C:Nat→List Nat)(b:Nat):Prop:=∃F:Nat→Value,w.ownsRow B 36 1 (.slice (some ⟨g,0,none⟩) n n) n ((List.range n).map F)∧
 ∀j,j<n→∃A k,F j=.slice A (C j).length k∧(C j).length≤k∧w.ownsRow B 3 1 (F j) (C j).length ((C j).map iv)∧(F j).ownBlock≠some b
theorem nQ.tabW{w:World}{B g n b:Nat}{C:Nat→List Nat}(h:nQ w B g n C b):gw w B g n C:=by
 obtain⟨F,h1,h2⟩:=h
 refine⟨F,h1,fun j hj=> ?_⟩
 obtain⟨A,k,x,y,z,_⟩:=h2 j hj
 exact⟨A,k,x,y,z⟩
theorem nQ.same{w:World}{B g n b:Nat}{C D:Nat→List Nat}(h:nQ w B g n C b)(hs:∀j,j<n→C j=D j):nQ w B g n D b:=by
 obtain⟨F,h1,h2⟩:=h
 refine⟨F,h1,fun j hj=> ?_⟩
 rw[← hs j hj]
 exact h2 j hj
theorem nQ.step{w w':World}{B B' g n b:Nat}{C:Nat→List Nat}(h:nQ w B g n C b)(hs:ai B' [] [] w w'):nQ w' B g n C b:=by
 obtain⟨F,h1,h2⟩:=h
 refine⟨F,hs.row h1 (fun _ _=>az) az,fun j hj=> ?_⟩
 obtain⟨A,k,x,y,z,u⟩:=h2 j hj
 exact⟨A,k,x,y,hs.row z (fun _ _=>az) az,u⟩
theorem nQ.set{w:World}{B g n b:Nat}{C:Nat→List Nat}(h:nQ w B g n C b)(i:Nat){A:Option Addr}{k:Nat}{L:List Nat}(hL:w.ownsRow B 3 1 (.slice A L.length k) L.length (L.map iv))(hk:L.length≤k)(hb:(Value.slice A L.length k).ownBlock≠some b):
 nQ (w.setCell ⟨g,i,none⟩ (.slice A L.length k)) B g n (fun j=>if j=i then L else C j) b:=by
 obtain⟨F,h1,h2⟩:=h
 have h3:=World.ownsRow.stored h1 i (.slice A L.length k)
 have h0:((List.range n).map F).set i (.slice A L.length k)=(List.range n).map fun j=>if j=i then(.slice A L.length k)else F j:=by
  apply List.ext_getElem?
  intro j
  rw[List.getElem?_set]
  by_cases e:i=j
  ·subst e
   by_cases hj:i<n
   ·simp[hj]
   ·simp[hj]
  ·have e':¬j=i:=fun k=>e k.symm
   rw[if_neg e,List.getElem?_map,List.getElem?_map]
   by_cases hj:j<n
   ·rw[List.getElem?_range hj]
    simp[e']
   ·rw[List.getElem?_eq_none (by rw[List.length_range];omega)]
    rfl
 rw[h0]at h3
 have keep:∀(v:Value) (m:Nat) (xs:List Value),w.ownsRow B 3 1 v m xs→(w.setCell ⟨g,i,none⟩ (.slice A L.length k)).ownsRow B 3 1 v m xs:=by
  intro v m xs hv
  refine hv.kept h3.2 (.inr fun e=> ?_)
  obtain⟨c1,f1,e1⟩:=Lib.ownsRow_kind hv g e
  obtain⟨c2,f2,e2⟩:=Lib.ownsRow_kind h1 g rfl
  rw[e1]at e2
  simp at e2
 refine⟨_,h3.1,fun j hj=> ?_⟩
 by_cases e:j=i
 ·refine⟨A,k,?_,?_,?_,?_⟩
  ·simp only[if_pos e]
  ·simp only[if_pos e]
   exact hk
  ·simp only[if_pos e]
   exact keep _ _ _ hL
  ·simp only[if_pos e]
   exact hb
 ·obtain⟨A2,k2,x,y,z,u⟩:=h2 j hj
  refine⟨A2,k2,?_,?_,?_,?_⟩
  ·simp only[if_neg e]
   exact x
  ·simp only[if_neg e]
   exact y
  ·simp only[if_neg e]
   exact keep _ _ _ z
  ·simp only[if_neg e]
   exact u
theorem o6(m:Int):2≤cN m∧cN m≤6:=by
 unfold cN
 repeat' split
 all_goals omega
def j7(l:List Nat)(m:Nat):List Nat:=mJ (bf l (List.replicate (aP l.length) 0) 0 m)
def aY(L:List Int)(m:Int):List (List Int)×List Int×Nat:=
 if gz L m then([zL (j7 (gr L) m.toNat),zL (j7 (gr L) m.toNat)],zL (List.replicate (aP L.length) 0),0)else([], [],2)
theorem Gn{w:World}{g:Nat}{A1 A2:Option Addr}{m c1 c2:Nat}{x y:List Nat}(hg:Blk w g 36 #[.slice A1 m c1,.slice A2 m c2])(hx:aT w A1 m x)(h1:m≤c1)(hy:aT w A2 m y)(h2:m≤c2)(hm:m≤maxLen):
 sh w (some ⟨g,0,none⟩) 2 [zL x,zL y]:=by
 refine⟨rfl,fun _=>⟨g,0,rfl,fun i hi=> ?_⟩⟩
 have h0:(zL x).length=m:=by unfold zL;rw[List.length_map,hx.1]
 have h3:(zL y).length=m:=by unfold zL;rw[List.length_map,hy.1]
 rw[Nat.zero_add]
 match i,hi with
 | 0,_=>
   refine⟨A1,c1,?_,?_,?_,?_⟩
   ·show w.cell? ⟨g,0,none⟩=some (.slice A1 (zL x).length c1)
    rw[h0]
    exact(ac hg 0).trans rfl
   ·show ZIn w A1 (zL x).length (zL x)
    rw[h0]
    exact dP hx
   ·show(zL x).length≤c1
    omega
   ·show(zL x).length≤maxLen
    omega
 | 1,_=>
   refine⟨A2,c2,?_,?_,?_,?_⟩
   ·show w.cell? ⟨g,1,none⟩=some (.slice A2 (zL y).length c2)
    rw[h3]
    exact(ac hg 1).trans rfl
   ·show ZIn w A2 (zL y).length (zL y)
    rw[h3]
    exact dP hy
   ·show(zL y).length≤c2
    omega
   ·show(zL y).length≤maxLen
    omega
theorem mP{T:List (List Int)}{q:Nat}(h:q<T.length):T.getD q []∈T:=by
 rw[List.getD_eq_getElem?_getD,List.getElem?_eq_getElem h]
 exact List.getElem_mem h
theorem rf(o:List Nat)(x:Nat)(r:List Nat):aH o (x :: r)=List.replicate (aQ o x) 1++0 :: aH (d9 o (aQ o x)) r:=rfl
theorem pV{B k n:Nat}{e:TypeId}{v:Value}{xs:List Value}{w w':World}(h:w.ownsRow B e k v n xs)(hb:Below w.heap.size w w'):w'.ownsRow B e k v n xs:=
 World.ownsRow.kept (row:=none) h ⟨hb.os,hb.tape,hb.output,hb.size,fun j hj _=>hb.block j hj⟩ (by cases hv:v.ownBlock <;>simp)
def eh(T:List (List Int))(P:List Int):List Nat×Nat:=if cB T P then(gg (T.map nl) (nl P),0)else([],110)
theorem jz{L:List Int}(h:bL L):DOk L:=⟨h.1,h.2.1,h.2.2.1⟩
theorem jU:∀(P o:List Nat),aw (aH o P)
 | [],o=>fun b hb=>by simp[aH]at hb
 | x :: P,o=>fun b hb=>by
   rw[rf]at hb
   rcases List.mem_append.1 hb with h | h
   ·rw[List.eq_of_mem_replicate h]
    omega
   ·rcases List.mem_cons.1 h with h | h
    ·omega
    ·exact jU P _ b h
theorem k7(T:Nat)(hT:T≤6):∀(P o:List Nat),Low T o→(∀ x∈P,x<T)→(aH o P).length≤6*P.length
 | [],o,_,_=>by simp[aH]
 | x :: P,o,h,hx=>by
   have h1:=(h.2 x (hx x (List.mem_cons_self ..))).1
   have h2:=k7 T hT P _ (h.move (hx x (List.mem_cons_self ..))) fun y hy=>hx y (List.mem_cons_of_mem _ hy)
   rw[rf,List.length_append,List.length_replicate,List.length_cons,List.length_cons]
   omega
theorem kY:∀(T:List (List Int)),(∀ t∈T,DOk t)→((T.map nl).flatMap aX).length≤11000*T.length
 | [],_=>by simp
 | t :: T,h=>by
   have h1:=kY T fun x hx=>h x (List.mem_cons_of_mem _ hx)
   have h2:=ym t
   rw[show iX t=(aX (nl t),0)from if_pos (h t (List.mem_cons_self ..))]at h2
   dsimp only at h2
   rw[List.map_cons,List.flatMap_cons,List.length_append,List.length_cons]
   omega
theorem qk(T:List (List Int))(P:List Int):aw (eh T P).1:=by
 unfold eh
 split
 ·refine aw.append (aw.append (aw.append (aJ _ _) (aJ _ _)) (jU _ _)) fun b hb=> ?_
  obtain⟨l,_,hl⟩:=List.mem_flatMap.1 hb
  exact tu l b hl
 ·intro b hb
  cases hb
theorem iV(T:List (List Int))(P:List Int):(eh T P).1.length≤300000:=by
 unfold eh
 split
 ·rename_i hM
  have h1:=kY T fun t ht=>jz (hM.2.2.2.2.1 t ht).2
  have h2:=k7 T.length hM.2.1 (nl P) _ (AF hM.2.1) fun x hx=>by
   obtain⟨y,hy,rfl⟩:=List.mem_map.1 hx
   have:=hM.2.2.2.2.2.1 y hy
   omega
  have h3:=hM.2.1
  have h4:=hM.2.2.2.1
  rw[bI]at h2
  show(gg (T.map nl) (nl P)).length≤300000
  unfold gg
  rw[List.length_append,List.length_append,List.length_append,af,af]
  omega
 ·exact Nat.zero_le _
theorem zy:∀(l:List Nat) (n T k:Nat),dE l n T=.hit k→n<T→n≤k∧k<n+l.length∧k<T
 | [],n,T,k,h,_=>by simp[dE]at h
 | b :: l,n,T,k,h,hn=>by
   rw[dE]at h
   by_cases e:b=0
   ·rw[if_pos e]at h
    have:=Pl.hit.inj h
    rw[List.length_cons]
    omega
   ·rw[if_neg e]at h
    by_cases e2:n+1=T
    ·rw[if_pos e2]at h
     cases h
    ·rw[if_neg e2]at h
     have:=zy l (n+1) T k h (by omega)
     rw[List.length_cons]
     omega
theorem fY{bits:List Nat}{T k n p:Nat}{o out:List Nat}(h:dE (bits.drop p) 0 T=.hit n):aF bits T (k+1) o p out=aF bits T k (d9 o n) (p+n+1) (out++ [o.getD n 0]):=by
 rw[aF,h]
theorem eO{bits:List Nat}{T k p:Nat}{o out:List Nat}(h:dE (bits.drop p) 0 T=.short):aF bits T (k+1) o p out=([],0,10):=by
 rw[aF,h]
theorem fT{bits:List Nat}{T k p:Nat}{o out:List Nat}(h:dE (bits.drop p) 0 T=.bad):aF bits T (k+1) o p out=([],0,110):=by
 rw[aF,h]
theorem pz{w:World}{B B' k k' n n':Nat}{e e':TypeId}{v v':Value}{xs xs':List Value}(h:w.ownsRow B e k v n xs)(h':w.ownsRow B' e' k' v' n' xs')(he:e≠e'):v.ownBlock=none∨v.ownBlock≠v'.ownBlock:=by
 cases hv:v.ownBlock with
 | none=>exact .inl rfl
 | some b=>
   refine .inr fun hb=> ?_
   obtain⟨c1,f1,e1⟩:=Lib.ownsRow_kind h b hv
   obtain⟨c2,f2,e2⟩:=Lib.ownsRow_kind h' b hb.symm
   rw[e2]at e1
   simp at e1
   exact he e1.2.1.symm
theorem gw.mono{w:World}{B B' g n:Nat}{C:Nat→List Nat}(h:gw w B g n C)(hB:B'≤B):gw w B' g n C:=by
 obtain⟨F,h1,h2⟩:=h
 refine⟨F,World.ownsRow.mono h1 hB,fun j hj=> ?_⟩
 obtain⟨A,k,a,b,c⟩:=h2 j hj
 exact⟨A,k,a,b,World.ownsRow.mono c hB⟩
def EK(T:List (List Int))(P L:List Int):Prop:=cB T P∧aP L.length≤P.length
instance (T:List (List Int)) (P L:List Int):Decidable (EK T P L):=inferInstanceAs (Decidable (_∧_))
def bw(T:List (List Int))(P L:List Int):List Nat×Nat:=
 if EK T P L then(if ∀x∈L,0≤x∧x<((T.getD 0 []).length:Int)then(cQ (T.map nl) (nl P) (nl L) L.length,0)else([],60))else([],110)
theorem xp(T:List (List Nat))(P L:List Nat)(q:Nat):aw (cQ T P L q):=fun b hb=>by
 unfold cQ at hb
 obtain⟨i,_,hi⟩:=List.mem_flatMap.1 hb
 exact aJ _ _ b hi
theorem nB(T:List (List Nat))(P L:List Nat)(h:∀t∈T,∀x∈t,x≤20):∀q,(cQ T P L q).length≤20*q
 | 0=>Nat.le_refl _
 | q+1=>by
   have h1:=nB T P L h q
   have h2:((T.getD (P.getD (q / 50) 0) []).getD (L.getD q 0) 0)≤20:=by
    rcases Nat.lt_or_ge (P.getD (q / 50) 0) T.length with h3 | h3
    ·have h4:T.getD (P.getD (q / 50) 0) []∈T:=by
      rw[List.getD_eq_getElem?_getD,List.getElem?_eq_getElem h3]
      exact List.getElem_mem h3
     rcases Nat.lt_or_ge (L.getD q 0) (T.getD (P.getD (q / 50) 0) []).length with h5 | h5
     ·exact h _ h4 _ (pY h5)
     ·have h6:(T.getD (P.getD (q / 50) 0) [])[L.getD q 0]? =none:=List.getElem?_eq_none h5
      rw[List.getD_eq_getElem?_getD (l:=T.getD (P.getD (q / 50) 0) []),h6]
      exact Nat.zero_le _
    ·have h6:T[P.getD (q / 50) 0]? =none:=List.getElem?_eq_none h3
     rw[List.getD_eq_getElem?_getD (l:=T),h6]
     exact Nat.zero_le _
   rw[k5,List.length_append,gJ]
   omega
theorem pn(T:List (List Int))(P L:List Int):aw (bw T P L).1:=by
 unfold bw
 split
 ·split
  ·exact xp _ _ _ _
  ·intro b hb
   cases hb
 ·intro b hb
  cases hb
theorem gL(T:List (List Int))(P L:List Int)(hL:L.length≤2000000):(bw T P L).1.length≤40000000:=by
 unfold bw
 split
 ·rename_i hM
  split
  ·have:=nB (T.map nl) (nl P) (nl L) (fun t ht x hx=>by
    obtain⟨t2,h0,rfl⟩:=List.mem_map.1 ht
    exact(Au (jz (hM.1.2.2.2.2.1 t2 h0).2) x hx).2) L.length
   show(cQ (T.map nl) (nl P) (nl L) L.length).length≤40000000
   omega
  ·exact Nat.zero_le _
 ·exact Nat.zero_le _
theorem wW(T:List (List Int))(P L:List Int):(bw T P L).2≤110:=by
 unfold bw
 split
 ·split
  ·exact Nat.zero_le _
  ·show 60≤110
   omega
 ·exact Nat.le_refl _
def eE(T:List (List Int))(P L:List Int):Nat×Nat:=if(bw T P L).2=0 then((eh T P).1.length+(bw T P L).1.length,0)else(0,(bw T P L).2)
theorem ze{P:Program}{f:FuncId}{args:Array Value}{w:World}{R:Ending→World→Prop}(h:Calls P f args w R):∃e w',R e w':=by
 obtain⟨e,w',_,hR,_⟩:=h []
 exact⟨e,w',hR⟩
theorem GO(w:World)(L:List Int):ZIn (w.alloc (.cells (L.map fun(x:Int)=>Value.int .i64 x).toArray 3)) (some ⟨w.heap.size,0,none⟩) L.length L:=by
 refine⟨rfl,fun _=>⟨w.heap.size,0,rfl,fun i hi=> ?_⟩⟩
 rw[Nat.zero_add,ac (ag w 3 _)]
 simp[hi]
theorem fG(l:List Nat):(zL l).length=l.length:=List.length_map _
theorem i7(W:List Nat):(wK W).length=W.length:=List.length_map _
def mS(l:List Nat)(n:Nat):Prop:=l.length=n∧bL (zL l)∧cP (zL l)=1048576
theorem pZ{n:Nat}{len:Nat→Nat}(h2:2≤n)(hn:n≤258)(hl:∀i,i<n→len i≤20)(hs:((List.range n).map fun i=>2 ^ (20 - len i)).sum=2 ^ 20):mS ((List.range n).map len) n:=by
 have h:=Eo h2 hn hl hs
 exact⟨by simp,h.1,h.2⟩
theorem tk(w:World)(W:List Nat)(h2:2≤W.length)(hn:W.length≤258)(hx:∀x∈W,x≤1073741824):mS (f4 W) W.length:=by
 have hM:iG (zL W):=⟨by rw[fG];exact h2,by rw[fG];exact hn,fun x hx'=>by
  obtain⟨y,hy,rfl⟩:=List.mem_map.1 hx'
  have:=hx y hy
  exact⟨by omega,by omega⟩⟩
 obtain⟨e,w',hR⟩:=ze (FC (w.alloc (.cells ((zL W).map fun(x:Int)=>Value.int .i64 x).toArray 3)) (some ⟨w.heap.size,0,none⟩) (zL W).length (zL W).length (zL W) 17 (GO w (zL W)) hM (by omega) (by omega))
 rcases hR with⟨h1,_⟩ | ⟨_,_,_,v,len,hm,_⟩
 ·rcases h1 with h | h | h
  ·exact absurd hM h
  ·omega
  ·omega
 ·have e1:iS (zL W)=wK W:=nZ W
  rw[e1]at hm
  have h0:gn (wK W) 17 len:=hm
  have hg:=yU h0
  rw[i7]at hg
  have h:=pZ h2 hn (fun i hi=>by have:=hg.1 i hi;omega) (hg.2 20 (by omega))
  unfold f4
  rw[wO h0]
  exact h
theorem Bx(W:List Nat)(h2:2≤W.length)(hn:W.length≤258):mS (mJ W) W.length:=by
 obtain⟨k,hk⟩:∃k,k=Nat.log2 W.length:=⟨_,rfl⟩
 have h1:2 ^ k≤W.length:=by
  rw[hk]
  exact Nat.log2_self_le (by omega)
 have h3:W.length<2 ^ (k+1):=by
  rw[hk]
  exact Nat.lt_log2_self
 have h0:k≤8:=by
  rcases Nat.lt_or_ge 8 k with h | h
  ·have h4:2 ^ 9≤2 ^ k:=Nat.pow_le_pow_right (by decide) h
   have h5:(2:Nat) ^ 9=512:=by decide
   omega
  ·exact h
 have hs:=y6 (wK W) k (by rw[i7];exact h1) (by rw[i7];exact h3) 20 (by omega)
 rw[i7]at hs
 have h:=pZ h2 hn (fun i _=>by unfold bE;split <;>omega) hs
 unfold mJ
 rw[← hk]
 exact h
theorem du(L P:List Nat)(t n:Nat):(bf L P t n).length=n:=by simp[bf]
theorem yn(L P:List Nat)(t n:Nat):∀x∈bf L P t n,x≤L.length:=by
 intro x hx
 obtain⟨s,_,rfl⟩:=List.mem_map.1 hx
 exact lG L P t s L.length
theorem dX(L:List Nat)(n T:Nat):∀r,(bY L n T r).1.length=T
 | 0=>by simp[bY,Gi]
 | r+1=>by simp[bY,uH]
def ed(T:List (List Int))(P L:List Int)(m:Int):Prop:=cB T P∧P.length=aP L.length∧∀t∈T,(t.length:Int)=m∧bL t∧cP t=1048576
theorem vi{n:Nat}(h:1≤n)(h2:n≤1638350):1≤aP n∧aP n≤32767:=by
 unfold aP
 omega
theorem An{T:List (List Int)}{P L:List Int}{m:Int}(hM:gz L m)(h2:2≤T.length)(h6:T.length≤6)(hP:P.length=aP L.length)(hx:∀x∈P,0≤x∧x<(T.length:Int))(ht:∀t∈T,(t.length:Int)=m∧bL t∧cP t=1048576):ed T P L m:=by
 have hg:=vi hM.2.2.1 hM.2.2.2.1
 have h0:(T.getD 0 [])∈T:=mP (by omega)
 have hm:=(ht _ h0).1
 have h3:=hM.1
 exact⟨⟨h2,h6,by omega,by omega,fun t h=>⟨by have:=(ht t h).1;omega,(ht t h).2.1⟩,hx,by omega⟩,hP,ht⟩
theorem Aq{l:List Nat}{m:Int}{n:Nat}(h:mS l n)(hm:(n:Int)=m):((zL l).length:Int)=m∧bL (zL l)∧cP (zL l)=1048576:=⟨by rw[fG,h.1];exact hm,h.2.1,h.2.2⟩
theorem oS(L:List Int):(gr L).length=L.length:=List.length_map _
theorem pt(w:World){L:List Int}{m:Int}(hM:gz L m):ed (aV L m).1 (aV L m).2.1 L m:=by
 have hT:=o6 L.length
 have hm:((m.toNat:Nat):Int)=m:=Int.toNat_of_nonneg (by have:=hM.1;omega)
 have h3:=hM.1
 have h0:=hM.2.1
 have h2:=hM.2.2.2.1
 rw[aV,if_pos hM]
 refine An hM ?_ ?_ ?_ ?_ ?_
 ·rw[List.length_map,dX]
  exact hT.1
 ·rw[List.length_map,dX]
  exact hT.2
 ·rw[fG]
  show(kw (gr L) _).length=_
  simp[kw,oS]
 ·intro x hx
  obtain⟨y,hy,rfl⟩:=List.mem_map.1 hx
  have h4:y∈kw (gr L) (bY (gr L) m.toNat (cN L.length) 3).1:=hy
  obtain⟨k,_,rfl⟩:=List.mem_map.1 h4
  have:=(xE (bY (gr L) m.toNat (cN L.length) 3).1 (cE (gr L) k) (by rw[dX];omega)).1
  rw[dX]at this
  rw[List.length_map,dX]
  exact⟨by omega,by omega⟩
 ·intro t ht
  obtain⟨l,hl,rfl⟩:=List.mem_map.1 ht
  have h1:l∈uH (gr L) (kw (gr L) (bY (gr L) m.toNat (cN L.length) 3).1) m.toNat (cN L.length):=hl
  obtain⟨t,_,rfl⟩:=List.mem_map.1 h1
  have h:=tk w (bf (gr L) (kw (gr L) (bY (gr L) m.toNat (cN L.length) 3).1) t m.toNat) (by rw[du];omega) (by rw[du];omega) (fun x hx=>by
   have:=yn _ _ _ _ x hx
   rw[oS]at this
   omega)
  rw[du]at h
  exact Aq h hm
theorem oB{L:List Int}{m:Int}(hM:gz L m):ed (aY L m).1 (aY L m).2.1 L m:=by
 have hm:((m.toNat:Nat):Int)=m:=Int.toNat_of_nonneg (by have:=hM.1;omega)
 have h3:=hM.1
 have h0:=hM.2.1
 have hf:mS (j7 (gr L) m.toNat) m.toNat:=by
  have h:=Bx (bf (gr L) (List.replicate (aP (gr L).length) 0) 0 m.toNat) (by rw[du];omega) (by rw[du];omega)
  rw[du]at h
  exact h
 rw[aY,if_pos hM]
 refine An hM (Nat.le_refl 2) (by show 2≤6;omega) ?_ ?_ ?_
 ·rw[fG,List.length_replicate]
 ·intro x hx
  obtain⟨y,hy,rfl⟩:=List.mem_map.1 hx
  rw[(List.mem_replicate.1 hy).2]
  exact⟨by omega,by show((0:Nat):Int)<2;omega⟩
 ·intro t ht
  have e:t=zL (j7 (gr L) m.toNat):=by
   rcases List.mem_cons.1 ht with h | h
   ·exact h
   ·exact List.mem_singleton.1 h
  rw[e]
  exact Aq hf hm
theorem kx{T:List (List Int)}{P L:List Int}{m:Int}(h:ed T P L m)(hM:gz L m):bw T P L=(cQ (T.map nl) (nl P) (nl L) L.length,0):=by
 have hT:=h.1.1
 have h0:(T.getD 0 [])∈T:=mP (by omega)
 have hm:=(h.2.2 _ h0).1
 rw[bw,if_pos ⟨h.1,by rw[h.2.1];exact Nat.le_refl _⟩,if_pos (fun x hx=>by
  have:=hM.2.2.2.2 x hx
  exact⟨this.1,by omega⟩)]
theorem aZ.past{w w':World}{v:Value}{T:List (List Int)}{P:List Int}(h:aZ w v T P)(hT:∀t∈T,0<t.length){g:Nat}{u:TypeId}(hg:Blk w g u #[.slice none 0 0,.slice none 0 0])
 (hk:∀k,k≠g→w'.heap[k]? =w.heap[k]?):aZ w' v T P:=by
 have ha:∀b o,b≠g→w'.cell? ⟨b,o,none⟩=w.cell? ⟨b,o,none⟩:=by
  intro b o hb
  simp only[World.cell?,hk b hb]
 have he:∀o x,w.cell? ⟨g,o,none⟩=some x→x=.slice none 0 0:=by
  intro o x hx
  rw[ac hg o]at hx
  rcases o with _ | _ | o
  ·simpa using hx.symm
  ·simpa using hx.symm
  ·simp at hx
 have hz:∀(A:Option Addr) (n:Nat) (L:List Int),ZIn w A n L→ZIn w' A n L:=by
  intro A n L hz
  refine⟨hz.1,fun hn=> ?_⟩
  obtain⟨b,off,rfl,hc⟩:=hz.2 hn
  have hf:b≠g:=by
   rintro rfl
   have:=he _ _ (hc 0 hn)
   cases this
  exact⟨b,off,rfl,fun i hi=>(ha b _ hf).trans (hc i hi)⟩
 obtain⟨A,n,c,B,m,d,h0,h1,h2,h3,h4,h5,h6⟩:=h
 refine⟨A,n,c,B,m,d,h0,⟨h1.1,fun hn=> ?_⟩,h2,h3,hz _ _ _ h4,h5,h6⟩
 obtain⟨b,off,rfl,hc⟩:=h1.2 hn
 have hf:b≠g:=by
  rintro rfl
  obtain⟨A2,c2,k1,_⟩:=hc 0 hn
  have h7:=he _ _ k1
  have h8:T.getD 0 []∈T:=mP (by rw[h1.1];exact hn)
  have h9:=hT _ h8
  simp only[Value.slice.injEq]at h7
  omega
 refine⟨b,off,rfl,fun i hi=> ?_⟩
 obtain⟨A2,c2,k1,k2,k3,k4⟩:=hc i hi
 exact⟨A2,c2,(ha b _ hf).trans k1,hz _ _ _ k2,k3,k4⟩
noncomputable def eM (L:List Int) (m:Int):List (List Int)×List Int×Nat:=
 if gz L m then(if(eE (aY L m).1 (aY L m).2.1 L).1<(eE (aV L m).1 (aV L m).2.1 L).1 then aY L m else aV L m)else([], [],2)
theorem sX{T:List (List Int)}{P L:List Int}{m:Int}(h:ed T P L m)(hM:gz L m):∀t∈T,0<t.length:=fun t ht=>by
 have:=(h.2.2 t ht).1
 have:=hM.1
 omega
theorem mM(w:World)(g:Nat)(u v:Value):∀k,k≠g→((w.setCell ⟨g,0,none⟩ u).setCell ⟨g,1,none⟩ v).heap[k]? =w.heap[k]? :=by
 intro k hk
 rw[Below.heap_setCell _ ⟨g,1,none⟩ v k hk,Below.heap_setCell _ ⟨g,0,none⟩ u k hk]
theorem mz{w:World}{B e n p:Nat}{v:Value}{xs:List Value}{u:TypeId}{ds:Array Value}(h:w.ownsRow B e 1 v n xs)(k:Blk w p u ds)(h0:e≠u):∀j,v.ownBlock=some j→j∉ [p]:=by
 intro j hj hm
 rw[List.mem_singleton]at hm
 subst hm
 obtain⟨c1,f1,e1⟩:=Lib.ownsRow_kind h j hj
 unfold Blk at k
 rw[e1]at k
 simp only[Option.some.injEq,Obj.cells.injEq]at k
 exact h0 k.2.1
structure kJ (w0 w:World) (v:Value) (q:Nat) (F:Nat→Value) (C:Nat→List Nat):Prop where
 row:w.ownsRow w0.heap.size 36 1 v q ((List.range q).map F)
 each:∀t,t<q→(∃ A k,F t=.slice A (C t).length k∧(C t).length≤k)∧w.ownsRow w0.heap.size 3 1 (F t) (C t).length ((C t).map iv)
 below:Below w0.heap.size w0 w
theorem kJ.nil(w0 w:World)(F:Nat→Value)(C:Nat→List Nat)(h:Below w0.heap.size w0 w):kJ w0 w (.slice none 0 0) 0 F C:=
 ⟨World.ownsRow_nil _ _ _ _,fun _ ht=>absurd ht (Nat.not_lt_zero _),h⟩
theorem kJ.store{w0 w:World}{v:Value}{q:Nat}{F:Nat→Value}{C:Nat→List Nat}(h:kJ w0 w v q F C){g:Nat}{u:TypeId}{ds:Array Value}(hg:Blk w g u ds)(h1:(36:TypeId)≠u)(h2:(3:TypeId)≠u)(h0:w0.heap.size≤g)(i:Nat)(x:Value):kJ w0 (w.setCell ⟨g,i,none⟩ x) v q F C:=by
 have hs:ai w0.heap.size [g] [] w (w.setCell ⟨g,i,none⟩ x):=(ai.refl _ _ _ w).set (p:=⟨g,i,none⟩) h0 (by simp) x
 exact⟨hs.row h.row (mz h.row hg h1) az,fun t ht=>⟨(h.each t ht).1,hs.row (h.each t ht).2 (mz (h.each t ht).2 hg h2) az⟩,h.below.setCell (p:=⟨g,i,none⟩) h0 x⟩
theorem kJ.push{w0 w w1:World}{A:Option Addr}{q cap:Nat}{F:Nat→Value}{C:Nat→List Nat}(h:kJ w0 w (.slice A q cap) q F C){A1:Option Addr}{n k1:Nat}(ht:w1.ownsRow w.heap.size 3 1 (.slice A1 n k1) n ((C q).map iv))(hb:Below w.heap.size w w1)(hq:q≤1000)(hD:(C q).length=n):
 ∃A2 cap2 w2,(Builtin.append_ #[50,50] 50 #[.slice A q cap,.slice (some ⟨w1.heap.size,0,none⟩) 1 1]).run Tryz.prog (w1.alloc (.cells #[.slice A1 n k1] 36))=.ok (.slice A2 (q+1) cap2) w2∧
  kJ w0 w2 (.slice A2 (q+1) cap2) (q+1) (fun t=>if t=q then .slice A1 n k1 else F t) C∧∀(g:Nat) (u:TypeId) (ds:Array Value),Blk w1 g u ds→(36:TypeId)≠u→Blk w2 g u ds:=by
 obtain⟨i2,h2,ha⟩:=Option.map_eq_some_iff.1 Gl
 simp only[Prod.mk.injEq]at ha
 obtain⟨hi,hl,hm⟩:=ha
 have hc:=h.below.size
 have h6:=h.below.trans (hb.mono hc)
 have h0:=pV h.row hb
 have h9:=h6.size
 obtain⟨_,_,hf,h7,_,_⟩:=aq ht
 simp only[Value.slice.injEq]at hf
 obtain⟨rfl,_,rfl⟩:=hf
 obtain⟨v2,w2,hr,ho,hg,_,_⟩:=run_append_own_at (P:=Tryz.prog) (w1.alloc (.cells #[.slice A1 n k1] 36)) w0.heap.size 50 50 36 i2 (.slice none 0 0) 1 24 Tryz.underlying50 h2 hi hl hm rfl (by decide) _ _ _ (h0.alloc _) ⟨w1.heap.size,0,none⟩ 1 1 [.slice A1 n k1] rfl (cell_one_new w1 _ _)
  (fun u hu=>by rw[List.mem_singleton.1 hu];rfl) (by unfold maxLen;omega) (by omega) (by simp;omega)
 obtain⟨A2,cap2,rfl,_,_,_⟩:=aq ho
 have h1:=h0.alloc (.cells #[.slice A1 n k1] 36)
 refine⟨A2,cap2,w2,hr,⟨?_,fun t he=> ?_,?_⟩,fun g u ds hgb hne=> ?_⟩
 ·have h3:=ho
  rw[show ((List.range q).map F)++ [.slice A1 n k1]=(List.range (q+1)).map fun t=>if t=q then .slice A1 n k1 else F t by
   rw[List.range_succ,List.map_append,List.map_singleton,if_pos rfl]
   congr 1
   apply List.map_congr_left
   intro t he
   have:=List.mem_range.1 he
   rw[if_neg (by omega)]]at h3
  exact h3
 ·by_cases e:t=q
  ·subst e
   simp only[if_true]
   have h5:=(World.ownsRow.mono ht hc).alloc (.cells #[.slice A1 n k1] 36)
   rw[hD]
   exact⟨⟨A1,k1,rfl,h7⟩,World.ownsRow.kept h5 hg (pz h5 h1 (by decide))⟩
  ·simp only[if_neg e]
   have h5:=(pV (h.each t (by omega)).2 hb).alloc (.cells #[.slice A1 n k1] 36)
   exact⟨(h.each t (by omega)).1,World.ownsRow.kept h5 hg (pz h5 h1 (by decide))⟩
 ·exact(h6.alloc h9 _).grown hg (by simp;omega) (fun k hk=>(h0.lt k hk).1)
 ·have hh:g<w1.heap.size:=(Array.getElem?_eq_some_iff.1 hgb).1
  have h4:Blk (w1.alloc (.cells #[.slice A1 n k1] 36)) g u ds:=by
   unfold Blk
   rw[heap_alloc_old _ _ hh]
   exact hgb
  have h8:∀j,(Value.slice A q cap).ownBlock=some j→j≠g:=fun j hj e=>mz h1 h4 hne j hj (by rw[e];simp)
  unfold Blk at h4 ⊢
  rw[hg.block g (by simp;omega) (fun e=>h8 g e.symm rfl)]
  exact h4
theorem kJ.tabZ{w0 w:World}{A:Option Addr}{q c:Nat}{F:Nat→Value}{C:Nat→List Nat}(h:kJ w0 w (.slice A q c) q F C)(hm:∀t,t<q→(C t).length≤1000):sh w A q ((List.range q).map fun t=>zL (C t)):=by
 refine⟨by simp,fun hq=> ?_⟩
 obtain⟨A',c',hv,_,_,hA⟩:=aq h.row
 simp only[Value.slice.injEq]at hv
 obtain⟨rfl,_,rfl⟩:=hv
 obtain⟨b,rfl⟩:=hA hq
 refine⟨b,0,rfl,fun i hi=> ?_⟩
 obtain⟨⟨A2,k2,e1,e2⟩,e3⟩:=h.each i hi
 have h0:((List.range q).map fun t=>zL (C t)).getD i []=zL (C i):=by
  rw[List.getD_eq_getElem?_getD,List.getElem?_map,List.getElem?_range hi]
  rfl
 rw[h0,fG]
 refine⟨A2,k2,?_,?_,e2,?_⟩
 ·rw[Nat.zero_add,World.ownsRow.cellAt h.row i (by omega),List.getElem?_map,List.getElem?_range hi,←e1]
  rfl
 ·rw[e1]at e3
  have:=dP (bR e3)
  exact this
 ·have:=hm i hi
  unfold maxLen
  omega
def fo(bits:List Nat)(n:Nat):Nat→Nat→List (List Nat)→List (List Nat)×Nat×Nat
 | 0,p,acc=>(acc,p,0)
 | t+1,p,acc=>if(aE bits p n).2.2=0 then(if bL (zL (aE bits p n).1)then fo bits n t (aE bits p n).2.1 (acc++ [(aE bits p n).1])else([],0,80))else([],0,(aE bits p n).2.2)
def xS(bits:List Nat)(n a T K:Nat):List (List Int)×List Int×Nat×Nat:=
 if(aF bits T K [0,1,2,3,4,5] (a+18) []).2.2=0 then
  (if(fo bits n T (aF bits T K [0,1,2,3,4,5] (a+18) []).2.1 []).2.2=0 then
    (((fo bits n T (aF bits T K [0,1,2,3,4,5] (a+18) []).2.1 []).1.map zL),zL (aF bits T K [0,1,2,3,4,5] (a+18) []).1,(fo bits n T (aF bits T K [0,1,2,3,4,5] (a+18) []).2.1 []).2.1,0)
  else([], [],0,(fo bits n T (aF bits T K [0,1,2,3,4,5] (a+18) []).2.1 []).2.2))
 else([], [],0,(aF bits T K [0,1,2,3,4,5] (a+18) []).2.2)
def tx(bits:List Nat)(n a:Nat):List (List Int)×List Int×Nat×Nat:=
 if bits.length<a+3 then([], [],0,10)
 else if val ((bits.drop a).take 3)<2∨6<val ((bits.drop a).take 3)then([], [],0,110)
 else if bits.length<a+18 then([], [],0,10)
 else if val ((bits.drop (a+3)).take 15)=0 then([], [],0,110)
 else xS bits n a (val ((bits.drop a).take 3)) (val ((bits.drop (a+3)).take 15))
def fp(bits:List Nat)(at' n:Int):List (List Int)×List Int×Nat×Nat:=
 if at'<0∨(bits.length:Int)<at'∨n<3∨258<n then([], [],0,2)else tx bits n.toNat at'.toNat
def AL(w:World)(ans:List (List Int)×List Int×Nat×Nat)(e:Ending)(w':World):Prop:=
 ∃v,e=.returned (.tuple #[v,.int .i64 ans.2.2.1,.int .i64 ans.2.2.2])∧aZ w' v ans.1 ans.2.1∧Below w.heap.size w w'
theorem gu(bits:List Nat)(T:Nat)(hT:0<T):∀(k:Nat) (o:List Nat) (p:Nat) (out:List Nat),p≤bits.length→(aF bits T k o p out).2.1≤bits.length∧(aF bits T k o p out).2.2≤110
 | 0,_,_,_,h=>⟨h,Nat.zero_le _⟩
 | k+1,o,p,out,h=>by
   cases hp:dE (bits.drop p) 0 T with
   | hit n=>
     have hl:=(zy (bits.drop p) 0 T n hp hT).2.1
     rw[List.length_drop]at hl
     rw[fY hp]
     exact gu bits T hT k _ _ _ (by omega)
   | short=>
     rw[eO hp]
     exact⟨Nat.zero_le _,by show 10≤110;omega⟩
   | bad=>
     rw[fT hp]
     exact⟨Nat.zero_le _,Nat.le_refl _⟩
theorem wV:∀(bs:List Nat) (now n p:Nat) (out:List Nat),(bB bs now n p out).2.1≤p+bs.length∧(bB bs now n p out).2.2≤80:=by
 intro bs
 induction h:bs.length using Nat.strongRecOn generalizing bs with
 | _ m ih=>
   intro now n p out
   subst h
   rcases n with _ | n
   ·rw[fD]
    exact⟨Nat.le_add_right _ _,Nat.zero_le _⟩
   ·by_cases hb:now<1∨20<now
    ·rw[ie _ _ _ _ _ hb]
     exact⟨Nat.zero_le _,Nat.le_refl _⟩
    ·rcases bs with _ | ⟨b,bs⟩
     ·rw[jI _ _ _ _ hb]
      exact⟨Nat.zero_le _,by show 10≤80;omega⟩
     ·by_cases h0:b=0
      ·subst h0
       rw[iE _ _ _ _ _ hb]
       have:=ih bs.length (by simp) bs rfl now n (p+1) (out++ [now])
       rw[List.length_cons]
       exact⟨by omega,this.2⟩
      ·rcases bs with _ | ⟨d,bs⟩
       ·rw[lE _ _ _ _ _ hb h0]
        exact⟨Nat.zero_le _,by show 10≤80;omega⟩
       ·rw[fN _ _ _ _ _ _ _ hb h0]
        have:=ih bs.length (by simp only[List.length_cons];omega) bs rfl (if d=0 then now+1 else now - 1) (n+1) (p+2) out
        rw[List.length_cons,List.length_cons]
        exact⟨by omega,this.2⟩
theorem l7(bits:List Nat)(at' n:Int):(aE bits at' n).2.1≤bits.length∧(aE bits at' n).2.2≤80:=by
 unfold aE
 split
 ·exact⟨Nat.zero_le _,by show 2≤80;omega⟩
 ·split
  ·exact⟨Nat.zero_le _,by show 10≤80;omega⟩
  ·have:=wV (bits.drop (at'.toNat+5)) (val ((bits.drop at'.toNat).take 5)) n.toNat (at'.toNat+5) []
   rw[List.length_drop]at this
   exact⟨by omega,this.2⟩
theorem kJ.same{w0 w:World}{v:Value}{q:Nat}{F:Nat→Value}{C D:Nat→List Nat}(h:kJ w0 w v q F C)(hs:∀t,t<q→C t=D t):kJ w0 w v q F D:=
 ⟨h.row,fun t ht=>by rw[← hs t ht];exact h.each t ht,h.below⟩
theorem mj{bits:List Nat}{n t p:Nat}{acc:List (List Nat)}:fo bits n (t+1) p acc=if(aE bits p n).2.2=0 then(if bL (zL (aE bits p n).1)then fo bits n t (aE bits p n).2.1 (acc++ [(aE bits p n).1])else([],0,80))else([],0,(aE bits p n).2.2):=rfl
def lX(T:List (List Nat))(P bits:List Nat)(n0:Nat):Nat→Nat→Nat→List Nat→List Nat×Nat×Nat
 | 0,_,_,_=>([],0,110)
 | k+1,i,a,out=>match i1 (T.getD (P.getD (i / 50) 0) []) (bits.drop a)with
   | .hit x=>if x+1=n0 then(out++ [x],a+(T.getD (P.getD (i / 50) 0) []).getD x 0,0)else lX T P bits n0 k (i+1) (a+(T.getD (P.getD (i / 50) 0) []).getD x 0) (out++ [x])
   | .short=>([],0,10)
   | .code=>([],0,90)
theorem nT(T:List (List Nat))(P bits:List Nat)(n0 k i a:Nat)(out:List Nat):lX T P bits n0 (k+1) i a out=match i1 (T.getD (P.getD (i / 50) 0) []) (bits.drop a)with
 | .hit x=>if x+1=n0 then(out++ [x],a+(T.getD (P.getD (i / 50) 0) []).getD x 0,0)else lX T P bits n0 k (i+1) (a+(T.getD (P.getD (i / 50) 0) []).getD x 0) (out++ [x])
 | .short=>([],0,10)
 | .code=>([],0,90):=rfl
def kK(T:List (List Int))(P:List Int)(bits:List Nat)(at':Int):List Nat×Nat×Nat:=
 if cB T P then(if at'<0∨(bits.length:Int)<at' then([],0,2)else lX (T.map nl) (nl P) bits (T.getD 0 []).length (50*P.length) 0 at'.toNat [])else([],0,110)
end Go.Proofs.YthakcjehhlpjnaaGreat
