import Derived.Test.YthakcjehhlpjnaaGreatB11
set_option maxHeartbeats 6400000
set_option maxRecDepth 100000
namespace Go.Proofs.YthakcjehhlpjnaaGreat
def dJ(l:List Nat)(k:Nat):List Nat:=l.getD k 0 :: (l.take k++l.drop (k+1))
def aP:List Nat→Nat→Nat
 | [],_=>0
 | y :: l,x=>if y=x then 0 else aP l x+1
theorem eX:∀(l:List Nat) (x:Nat),x∈l→aP l x<l.length∧l.getD (aP l x) 0=x
 | [],x,h=>by cases h
 | y :: l,x,h=>by
   by_cases e:y=x
   ·subst e
    simp[aP]
   ·have hx:x∈l:=by
     rcases List.mem_cons.1 h with h | h
     ·exact absurd h.symm e
     ·exact h
    have ih:=eX l x hx
    rw[aP,if_neg e,List.length_cons]
    exact⟨by omega,ih.2⟩
theorem fT{l:List Nat}{k:Nat}(hk:k<l.length):(dJ l k).length=l.length:=by
 unfold dJ
 rw[List.length_cons,List.length_append,List.length_take,List.length_drop]
 omega
def Low(T:Nat)(l:List Nat):Prop:=T≤l.length∧∀x,x<T→aP l x<T∧x∈l
theorem sh:∀(l:List Nat) (T x:Nat),x∈l.take T→aP l x<T
 | [],T,x,h=>by simp at h
 | y :: l,0,x,h=>by simp at h
 | y :: l,T+1,x,h=>by
   by_cases e:y=x
   ·rw[aP,if_pos e]
    omega
   ·rw[List.take_succ_cons]at h
    rcases List.mem_cons.1 h with h | h
    ·exact absurd h.symm e
    ·rw[aP,if_neg e]
     have:=sh l T x h
     omega
theorem rG:∀(l:List Nat) (T x:Nat),x∈l→aP l x<T→x∈l.take T
 | [],T,x,h,_=>by cases h
 | y :: l,0,x,_,h=>by omega
 | y :: l,T+1,x,h,hp=>by
   rw[List.take_succ_cons]
   by_cases e:y=x
   ·rw[e]
    exact List.mem_cons_self ..
   ·rcases List.mem_cons.1 h with h | h
    ·exact absurd h.symm e
    ·rw[aP,if_neg e]at hp
     exact List.mem_cons_of_mem _ (rG l T x h (by omega))
theorem Low.move{T:Nat}{l:List Nat}(h:Low T l){x:Nat}(hx:x<T):Low T (dJ l (aP l x)):=by
 obtain⟨h1,h2⟩:=h
 have hp:=eX l x (h2 x hx).2
 have h5:=(h2 x hx).1
 refine⟨by rw[fT hp.1];exact h1,fun y hy=> ?_⟩
 have h0:y∈(dJ l (aP l x)).take T:=by
  unfold dJ
  rw[hp.2]
  obtain⟨S,rfl⟩:∃S,T=S+1:=⟨T - 1,by omega⟩
  rw[List.take_succ_cons]
  by_cases e:y=x
  ·rw[e]
   exact List.mem_cons_self ..
  ·refine List.mem_cons_of_mem _ ?_
   have h4:=rG l (S+1) y (h2 y hy).2 (h2 y hy).1
   rw[List.take_append,List.length_take,Nat.min_eq_left (by omega),List.take_take,Nat.min_eq_right (by omega)]
   have e2:l.take (S+1)=l.take (aP l x)++(x :: (l.drop (aP l x+1)).take (S - aP l x)):=by
    have h3:S+1=aP l x+(1+(S - aP l x)):=by omega
    conv=>lhs;rw[h3,List.take_add]
    congr 1
    rw[List.drop_eq_getElem_cons hp.1,Nat.add_comm 1,List.take_succ_cons]
    congr 1
    have:=hp.2
    rw[List.getD_eq_getElem?_getD,List.getElem?_eq_getElem hp.1]at this
    exact this
   rw[e2]at h4
   rcases List.mem_append.1 h4 with h3 | h3
   ·exact List.mem_append_left _ h3
   ·rcases List.mem_cons.1 h3 with h3 | h3
    ·exact absurd h3 e
    ·exact List.mem_append_right _ h3
 exact⟨sh _ _ _ h0,List.mem_of_mem_take h0⟩
theorem BC{T:Nat}(h:T≤6):Low T [0,1,2,3,4,5]:=by
 refine⟨h,fun x hx=> ?_⟩
 have:x=0∨x=1∨x=2∨x=3∨x=4∨x=5:=by omega
 rcases this with rfl | rfl | rfl | rfl | rfl | rfl <;>exact⟨by simp[aP];try omega,by simp⟩
def aG:List Nat→List Nat→List Nat
 | _, []=> []
 | o,x :: r=>List.replicate (aP o x) 1++0 :: aG (dJ o (aP o x)) r
inductive Pl where
 | hit (n:Nat)
 | short
 | bad
def bW:List Nat→Nat→Nat→Pl
 | [],_,_=>.short
 | b :: bs,n,most=>if b=0 then .hit n else if n+1=most then .bad else bW bs (n+1) most
def aD(bits:List Nat)(T:Nat):Nat→List Nat→Nat→List Nat→List Nat×Nat×Nat
 | 0,_,p,out=>(out,p,0)
 | k+1,o,p,out=>match bW (bits.drop p) 0 T with
   | .hit n=>aD bits T k (dJ o n) (p+n+1) (out++ [o.getD n 0])
   | .short=>([],0,10)
   | .bad=>([],0,110)
theorem mT:∀(k n most:Nat) (rest:List Nat),n+k<most→bW (List.replicate k 1++0 :: rest) n most=.hit (n+k)
 | 0,n,most,rest,h=>by
   rw[List.replicate_zero,List.nil_append,bW,if_pos rfl]
   rfl
 | k+1,n,most,rest,h=>by
   rw[List.replicate_succ,List.cons_append,bW,if_neg (by omega),if_neg (by omega),mT k (n+1) most rest (by omega)]
   congr 1
   omega
theorem r9(T:Nat):∀(picks o pre rest out:List Nat),Low T o→(∀ x∈picks,x<T)→
 aD (pre++aG o picks++rest) T picks.length o pre.length out=(out++picks,pre.length+(aG o picks).length,0)
 | [],o,pre,rest,out,_,_=>by simp[aD,aG]
 | x :: picks,o,pre,rest,out,ho,hx=>by
   have h1:=hx x (List.mem_cons_self ..)
   have hp:=ho.2 x h1
   have hl:=eX o x hp.2
   obtain⟨k,hk⟩:∃k,k=aP o x:=⟨_,rfl⟩
   have e:pre++aG o (x :: picks)++rest=(pre++(List.replicate k 1++ [0]))++aG (dJ o k) picks++rest:=by
    rw[aG,←hk]
    simp
   have hd:(pre++aG o (x :: picks)++rest).drop pre.length=List.replicate k 1++0 :: (aG (dJ o k) picks++rest):=by
    rw[e]
    simp
   rw[List.length_cons,aD,hd,mT k 0 T _ (by omega)]
   show aD _ T picks.length (dJ o (0+k)) (pre.length+(0+k)+1) (out++ [o.getD (0+k) 0])=_
   rw[Nat.zero_add,e]
   have h0:pre.length+k+1=(pre++(List.replicate k 1++ [0])).length:=by
    simp only[List.length_append,List.length_replicate,List.length_cons,List.length_nil]
    omega
   rw[h0,r9 T picks (dJ o k) _ rest _ (by rw[hk];exact ho.move h1) (fun y hy=>hx y (List.mem_cons_of_mem _ hy)),hk,hl.2,←hk]
   rw[aG,←hk]
   simp only[List.length_append,List.length_replicate,List.length_cons,List.length_nil,List.append_assoc,List.cons_append,List.nil_append,Prod.mk.injEq,true_and,and_true]
   omega
open Go.RowKit
def cL(m:Int):Nat:=if 2400≤m then 6 else if 1200≤m then 5 else if 600≤m then 4 else if 200≤m then 3 else 2
def bU(m:Int):Nat×Nat:=if m<1 then(0,2)else(cL m,0)
def aQ(m:Nat):Nat:=(m+49) / 50
theorem sG{L:List Nat}{p:Nat}(h:p<L.length):L.take (p+1)=L.take p++ [L.getD p 0]:=by
 rw[List.take_succ_eq_append_getElem h,List.getD_eq_getElem?_getD,List.getElem?_eq_getElem h]
 rfl
def fp(L:List Nat)(k i:Nat):List Nat:=L.getD k 0 :: if i≤k then L.take i else L.take k++(L.take i).drop (k+1)
theorem vB{L:List Nat}{k:Nat}(hk:k<L.length):fp L k (k+1)=fp L k k:=by
 unfold fp
 rw[if_neg (by omega),if_pos (ah _),List.drop_of_length_le (by rw[List.length_take];omega),List.append_nil]
theorem uT{L:List Nat}{k i:Nat}(hi:i<L.length)(h:i≠k):fp L k (i+1)=fp L k i++ [L.getD i 0]:=by
 unfold fp
 by_cases e:i+1≤k
 ·rw[if_pos e,if_pos (by omega),sG hi]
  rfl
 ·rw[if_neg e,if_neg (by omega),sG hi,List.drop_append_of_le_length (by rw[List.length_take];omega)]
  simp
theorem xW{L:List Nat}{k:Nat}(hk:k<L.length):fp L k L.length=dJ L k:=by
 unfold fp dJ
 rw[if_neg (by omega),List.take_length]
theorem xI(w:World)(A:Option Addr)(n c:Nat)(L:List Nat)(k:Nat)(hL:aw w A n L)(hn:n≤1000000)(hk:k<n):Calls Tryz.prog 140 #[.slice A n c,.int .i64 k] w fun e w'=>∃v,e=.returned v∧w'.ownsRow w.heap.size 3 1 v n ((dJ L k).map iv)∧Below w.heap.size w w':=by
 obtain⟨i3,h3,hv,hw,hz⟩:=info_parts Tryz.info3
 have hf:=hL.1
 obtain⟨b,off,rfl,hc⟩:=hL.2 (by omega)
 have c0:=hc k hk
 have hr:=World.block_lt_of_cell? w _ c0
 have HC:=aa hc
 have h7:=aa hf
 obtain⟨x,hx⟩:∃x,x=L.getD k 0:=⟨_,rfl⟩
 rw[← hx]at c0
 have HX:=aa hx
 have h1:(w.alloc (.cells #[.int .i64 x] 3)).ownsRow w.heap.size 3 1 (.slice (some ⟨w.heap.size,0,none⟩) 1 1) 1 ([x].map iv):=⟨rfl,.inr ⟨w.heap.size,1,#[.int .i64 x],rfl,Nat.le_refl _,heap_alloc_new w _,Nat.le_refl _,by unfold maxLen;omega,rfl,rfl⟩⟩
 have hl:=aa h1
 clear hL hf hc hx h1
 go_enter Tryz.func140,Tryz.ntmps140
 go_wp2_with fail
 clear c0
 go_loopw [5,6] (fun out iv' wx=>∃(i:Nat) (o:List Nat),i≤n∧iv'=.int .i64 i∧o.length≤i+1∧Hid (o=fp L k i)∧wx.ownsRow w.heap.size 3 1 out o.length (o.map iv)∧Below w.heap.size w wx) (fun _ iv' _=>n - (intOf iv').toNat)
 case atStart=>exact⟨0, [x],Nat.zero_le _,rfl,Nat.le_refl _,aa (by unfold fp;rw[if_pos (Nat.zero_le _),HX.out];rfl),hl.out,(Below.refl _ _).alloc (ah _) _⟩
 case round=>
  obtain⟨i,o,hi,rfl,ht,ho,h5,hb⟩:=hrel
  have HO:=aa h5
  have HB:=aa hb
  have hA:=hb.size
  obtain⟨A0,c0',rfl,hg,hs,_⟩:=aj h5
  unfold maxLen at hs
  clear h5 hb
  by_cases e:i<n
  ·have d0:decide ((i:Int)<(n:Int))=true:=ar (by omega)
   have q1:=(HB.out.cell (p:=⟨b,off+i,none⟩) hr).trans (HC.out i e)
   obtain⟨y,hy⟩:∃y,y=L.getD i 0:=⟨_,rfl⟩
   rw[← hy]at q1
   by_cases ek:i=k
   ·have d1:((i:Int) != (k:Int))=false:=by rw[ek];simp
    have ha:fp L k (i+1)=fp L k i:=by
     rw[ek]
     exact vB (by rw[h7.out];exact hk)
    rw[← ho.out]at ha
    have hp:=aa ha
    clear ha hy ek
    go_wp2_with fail
    go_roundw
    case rel=>exact⟨i+1,o,by omega,by go_num,by omega,aa hp.out.symm,HO.out,HB.out⟩
    case measure=>simp[intOf];omega
   ·have d1:((i:Int) != (k:Int))=true:=by
     rw[bne_iff_ne]
     omega
    have h9:=uT (L:=L) (k:=k) (i:=i) (by rw[h7.out];exact e) ek
    rw[← hy,←ho.out]at h9
    have hj:=aa h9
    obtain⟨N,hN⟩:∃N,N=o.length:=⟨_,rfl⟩
    obtain⟨X,hX⟩:∃X,X=o.map iv:=⟨_,rfl⟩
    rw[← hN,←hX]at HO
    have HN:=aa hN
    have hq:=aa hX
    rw[← hN]at ht hg ⊢
    clear h9 hy hN hX
    go_wp2_with (at_builtin;refine wpList_append_own _ rfl _ _ 36 rfl w.heap.size 3 i3 (.int .i64 0) 1 8 Tryz.underlying36 h3 hv hw hz rfl (by decide) _ _ _ rfl (HO.out.alloc _) ⟨wr.heap.size,0,none⟩ 1 1 [.int .i64 y] rfl rfl ?c1 ?c2 ?c3 ?c4 ?c5 ?_)
    case c1=>exact bi _ _ _
    case c2=>intro u hu;simp at hu;subst hu;rfl
    case c3=>unfold maxLen;omega
    case c4=>omega
    case c5=>simp;omega
    intro v4 w4 h2 h0 _
    have he:Below w.heap.size w w4:=(HB.out.alloc hA _).grown h0 (by simp;omega) (fun k hk=>(HO.out.lt k hk).1)
    have hm:=aa h2
    have hh:=aa he
    clear h2 h0 he
    go_wp2_with fail
    go_roundw
    case rel=>
     refine⟨i+1,o++ [y],by omega,by go_num,by rw[List.length_append,←HN.out];show N+1≤_;omega,aa hj.out.symm,?_,hh.out⟩
     rw[List.length_append,←HN.out,List.map_append,←hq.out]
     exact hm.out
    case measure=>simp[intOf];omega
  ·obtain rfl:i=n:=by omega
   have d0:decide ((i:Int)<(i:Int))=false:=ao (by omega)
   have h8:=xW (L:=L) (k:=k) (by rw[h7.out];exact hk)
   rw[h7.out,←ho.out]at h8
   have h4:o.length=i:=by rw[h8,fT (by rw[h7.out];exact hk),h7.out]
   have h6:=HO.out
   rw[h4,h8]at h6
   have HR:=aa h6
   rw[h4]at hg ⊢
   clear h8 h4 h6
   go_wp2_with fail
   go_ret
   exact⟨_,rfl,HR.out,HB.out⟩
def g9(L:List Int)(n:Int):Prop:=3≤n∧n≤258∧1≤L.length∧L.length≤1638350∧∀x∈L,0≤x∧x<n
instance (L:List Int) (n:Int):Decidable (g9 L n):=inferInstanceAs (Decidable (_∧_))
def aR(T:List (List Int))(P:List Int):Prop:=
 2≤T.length∧T.length≤6∧1≤P.length∧P.length≤32767∧(∀ t∈T,t.length=(T.getD 0 []).length∧aY t)∧(∀ x∈P,0≤x∧x<(T.length:Int))∧3≤(T.getD 0 []).length
instance (T:List (List Int)) (P:List Int):Decidable (aR T P):=inferInstanceAs (Decidable (_∧_))
def gm(c g:List Nat):Nat:=(g.map fun x=>c.getD x 0).sum
theorem Cu(c g:List Nat)(x:Nat):gm c (g++ [x])=gm c g+c.getD x 0:=by
 unfold gm
 rw[List.map_append,List.sum_append]
 simp
def lK(C:List (List Nat))(g:List Nat):Nat→Nat×Nat
 | 0=>(0,0)
 | t+1=>if t=0∨gm (C.getD t []) g<(lK C g t).2 then(t,gm (C.getD t []) g)else lK C g t
def FP(C:List (List Nat))(g:List Nat)(t b:Nat):Prop:=b<t∧(∀ j,j<t→gm (C.getD b []) g≤gm (C.getD j []) g)∧∀j,j<b→gm (C.getD b []) g<gm (C.getD j []) g
theorem xV(C:List (List Nat))(g:List Nat):∀t,FP C g (t+1) (lK C g (t+1)).1∧(lK C g (t+1)).2=gm (C.getD (lK C g (t+1)).1 []) g
 | 0=>by
   rw[lK,if_pos (.inl rfl)]
   exact⟨⟨by omega,fun j hj=>by rw[show j=0 by omega];exact Nat.le_refl _,fun j hj=>by omega⟩,rfl⟩
 | t+1=>by
   obtain⟨⟨h1,h2,h3⟩,h4⟩:=xV C g t
   rw[lK]
   by_cases e:gm (C.getD (t+1) []) g<(lK C g (t+1)).2
   ·rw[if_pos (.inr e)]
    refine⟨⟨by omega,fun j hj=> ?_,fun j hj=> ?_⟩,rfl⟩
    ·by_cases ej:j=t+1
     ·rw[ej]
      exact Nat.le_refl _
     ·have:=h2 j (by omega)
      show gm (C.getD (t+1) []) g≤_
      omega
    ·have h0:j<t+1:=hj
     have:=h2 j h0
     show gm (C.getD (t+1) []) g<_
     omega
   ·rw[if_neg (by omega)]
    refine⟨⟨by omega,fun j hj=> ?_,h3⟩,h4⟩
    by_cases ej:j=t+1
    ·rw[ej]
     omega
    ·exact h2 j (by omega)
def j6(C:List (List Nat))(g:List Nat):Nat:=(lK C g C.length).1
theorem xF(C:List (List Nat))(g:List Nat)(h:0<C.length):FP C g C.length (j6 C g):=by
 obtain⟨t,ht⟩:∃t,C.length=t+1:=⟨C.length - 1,by omega⟩
 unfold j6
 rw[ht]
 exact(xV C g t).1
def cD(L:List Nat)(k:Nat):List Nat:=(L.drop (50*k)).take 50
def ib(L P:List Nat)(t s q:Nat):Nat:=(List.range q).countP fun i=>decide (P.getD (i / 50) 0=t∧L.getD i 0=s)
theorem pr(L P:List Nat)(t s q:Nat):ib L P t s (q+1)=ib L P t s q+if P.getD (q / 50) 0=t∧L.getD q 0=s then 1 else 0:=by
 unfold ib
 rw[List.range_succ,List.countP_append,List.countP_singleton]
 simp only[decide_eq_true_eq]
theorem mf(L P:List Nat)(t s q:Nat):ib L P t s q≤q:=by
 unfold ib
 exact Nat.le_trans List.countP_le_length (Nat.le_of_eq List.length_range)
def jA(L P:List Nat)(t s:Nat):Nat:=ib L P t s L.length
def bh(L P:List Nat)(t n:Nat):List Nat:=(List.range n).map (jA L P t)
def yH(W:List Nat):List Nat:=W.map fun x=>max x 1
theorem ou(W:List Nat):ja (W.map fun(x:Nat)=>(x:Int))=yH W:=by
 unfold ja yH
 apply List.ext_getElem?
 intro i
 by_cases h:i<W.length
 ·rw[List.getElem?_map,List.getElem?_range (by simpa using h),List.getElem?_map,List.getElem?_eq_getElem h]
  simp only[Option.map_some,sH]
  rw[List.getD_eq_getElem?_getD,List.getElem?_map,List.getElem?_eq_getElem h]
  rfl
 ·rw[List.getElem?_eq_none (by simp;omega),List.getElem?_eq_none (by simp;omega)]
noncomputable def Jb (W:List Nat) (most:Nat):Nat→Nat:=Classical.epsilon fun len=>gU W most len
theorem yo{W:List Nat}{most:Nat}{len:Nat→Nat}(h:gU W most len):Jb W most=len:=DZ (Classical.epsilon_spec (p:=fun len=>gU W most len) ⟨len,h⟩) h
noncomputable def gD (W:List Nat):List Nat:=(List.range W.length).map (Jb (yH W) 17)
def nU(W:List Nat):List Nat:=(List.range W.length).map (bI (Nat.log2 W.length) (2 ^ (Nat.log2 W.length+1) - W.length) (yH W))
theorem Ir{n k:Nat}(h1:2 ^ k≤n)(h2:n<2 ^ (k+1)):k=Nat.log2 n:=by
 have hn:n≠0:=by
  have:0<2 ^ k:=Nat.two_pow_pos k
  omega
 have h3:Nat.log2 n<k+1:=(Nat.log2_lt hn).2 h2
 have h4:¬Nat.log2 n<k:=fun h=>by
  have:=(Nat.log2_lt hn).1 h
  omega
 omega
def F6(n T:Nat):List (List Nat):=(List.range T).map fun t=>(List.range n).map fun s=>if s*T / n=t then 1 else 15
def ky(L:List Nat)(C:List (List Nat)):List Nat:=(List.range (aQ L.length)).map fun k=>j6 C (cD L k)
noncomputable def vg (L P:List Nat) (n T:Nat):List (List Nat):=(List.range T).map fun t=>gD (bh L P t n)
noncomputable def bZ (L:List Nat) (n T:Nat):Nat→List (List Nat)×List Nat
 | 0=>(F6 n T,List.replicate (aQ L.length) 0)
 | r+1=>(vg L (ky L (bZ L n T r).1) n T,ky L (bZ L n T r).1)
def gB(T:List (List Nat))(P:List Nat):List Nat:=ai T.length 3++ai P.length 15++aG [0,1,2,3,4,5] P++T.flatMap aX
def cQ(T:List (List Nat))(P L:List Nat)(q:Nat):List Nat:=(List.range q).flatMap fun i=>bf (T.getD (P.getD (i / 50) 0) []) (L.getD i 0)
theorem lF(T:List (List Nat))(P L:List Nat)(q:Nat):cQ T P L (q+1)=cQ T P L q++bf (T.getD (P.getD (q / 50) 0) []) (L.getD q 0):=by
 unfold cQ
 rw[List.range_succ,List.flatMap_append]
 simp
theorem na(L:List Nat)(k:Nat):(cD L k).length=min 50 (L.length - 50*k):=by
 unfold cD
 rw[List.length_take,List.length_drop]
theorem Fy(C:Nat→List Nat)(T t:Nat)(h:t<T):((List.range T).map C).getD t []=C t:=by
 rw[List.getD_eq_getElem?_getD,List.getElem?_map,List.getElem?_range h]
 rfl
theorem Ix(c g:List Nat)(M:Nat)(h:∀x∈g,c.getD x 0≤M):gm c g≤M*g.length:=by
 unfold gm
 have:=sR M (g.map fun x=>c.getD x 0) (fun y hy=>by
  obtain⟨x,hx,rfl⟩:=List.mem_map.1 hy
  exact h x hx)
 rw[List.length_map]at this
 exact this
def sV(w:World)(A:Option Addr)(n:Nat)(T:List (List Int)):Prop:=
 T.length=n∧(0<n→∃b off,A=some ⟨b,off,none⟩∧∀i,i<n→∃A2 c2,w.cell? ⟨b,off+i,none⟩=some (.slice A2 (T.getD i []).length c2)∧ZIn w A2 (T.getD i []).length (T.getD i [])∧(T.getD i []).length≤c2∧(T.getD i []).length≤maxLen)
theorem sV.below{w w':World}{A:Option Addr}{n:Nat}{T:List (List Int)}(h:sV w A n T)(hb:Below w.heap.size w w'):sV w' A n T:=by
 refine⟨h.1,fun hn=> ?_⟩
 obtain⟨b,off,rfl,hc⟩:=h.2 hn
 refine⟨b,off,rfl,fun i hi=> ?_⟩
 obtain⟨A2,c2,h1,h2,h3,h4⟩:=hc i hi
 exact⟨A2,c2,(hb.cell (p:=⟨b,off+i,none⟩) (World.block_lt_of_cell? w _ h1)).trans h1,h2.below hb,h3,h4⟩
def aN(w:World)(v:Value)(T:List (List Int))(P:List Int):Prop:=
 ∃A n c B m d,v=.agg #[.slice A n c,.slice B m d]∧sV w A n T∧n≤c∧n≤maxLen∧ZIn w B m P∧m≤d∧m≤maxLen
theorem aN.below{w w':World}{v:Value}{T:List (List Int)}{P:List Int}(h:aN w v T P)(hb:Below w.heap.size w w'):aN w' v T P:=by
 obtain⟨A,n,c,B,m,d,h0,h1,h2,h3,h4,h5⟩:=h
 exact⟨A,n,c,B,m,d,h0,h1.below hb,h2,h3,h4.below hb,h5⟩
def dU(w:World)(ans:List (List Int)×List Int×Nat)(e:Ending)(w':World):Prop:=
 ∃v,e=.returned (.tuple #[v,.int .i64 ans.2.2])∧aN w' v ans.1 ans.2.1∧Below w.heap.size w w'
theorem o9(w:World):aN w (.agg #[.slice none 0 0,.slice none 0 0]) [] []:=
 ⟨none,0,0,none,0,0,rfl,⟨rfl,fun h=>absurd h (Nat.lt_irrefl _)⟩,Nat.le_refl _,by unfold maxLen;omega,⟨rfl,fun h=>absurd h (Nat.lt_irrefl _)⟩,Nat.le_refl _,by unfold maxLen;omega⟩
def zL(l:List Nat):List Int:=l.map fun(x:Nat)=>(x:Int)
def hU(L:List Int):List Nat:=L.map Int.toNat
noncomputable def aU (L:List Int) (m:Int):List (List Int)×List Int×Nat:=
 if g9 L m then(((bZ (hU L) m.toNat (cL L.length) 4).1.map zL),zL (bZ (hU L) m.toNat (cL L.length) 4).2,0)else([], [],2)
structure JY (w:World) (B g n:Nat) (C:Nat→List Nat) (F:Nat→Value):Prop where
 own:w.ownsRow B 36 1 (.slice (some ⟨g,0,none⟩) n n) n ((List.range n).map F)
 rows:∀j,j<n→(∃ A k,F j=.slice A (C j).length k∧(C j).length≤k)∧w.ownsRow B 3 1 (F j) (C j).length ((C j).map iv)∧∀b,(F j).ownBlock=some b→b<w.heap.size∧b≠g
theorem sB(w:World)(n:Nat)(hn:n≤1000):(Instr.makeSlice 50 (.int .i64 n) (.int .i64 n)).run Tryz.prog w=.ok (.slice (some ⟨w.heap.size,0,none⟩) n n) (w.alloc (.cells (madeCells #[.slice none 0 0] n) 36)):=by
 obtain⟨i2,h2,h0⟩:=Option.map_eq_some_iff.1 AJ
 simp only[Prod.mk.injEq]at h0
 obtain⟨h1,h3,h4⟩:=h0
 have h:=run_make (P:=Tryz.prog) w 50 36 i2 (.slice none 0 0) Tryz.underlying50 h2 h1 .i64 .i64 (n:Int) (n:Int) (by omega) (by omega) (by rw[h4];omega) (by omega)
 rw[h3,Int.toNat_natCast,Nat.mul_one]at h
 exact h
theorem xt(w:World)(B n:Nat)(hB:B≤w.heap.size)(hn:n≤1000):JY (w.alloc (.cells (madeCells #[.slice none 0 0] n) 36)) B w.heap.size n (fun _=> []) fun _=>.slice none 0 0:=by
 refine⟨⟨by simp,.inr ⟨w.heap.size,n,_,rfl,hB,heap_alloc_new w _,Nat.le_refl _,by unfold maxLen;omega,by rw[size_madeCells,Nat.mul_one],?_⟩⟩,fun j _=>⟨⟨none,0,rfl,Nat.le_refl _⟩,World.ownsRow_nil _ _ _ _,fun b hb=>by simp[Value.ownBlock]at hb⟩⟩
 rw[toList_madeCells_one,Nat.mul_one,List.take_of_length_le (by simp),List.map_const',List.length_range]
def n5(m T t s:Nat):Nat:=if s*T / m=t then 1 else 15
def n6(w:World)(B g n:Nat)(C:Nat→List Nat)(b:Nat):Prop:=∃F:Nat→Value,w.ownsRow B 36 1 (.slice (some ⟨g,0,none⟩) n n) n ((List.range n).map F)∧
 ∀j,j<n→∃A k,F j=.slice A (C j).length k∧(C j).length≤k∧w.ownsRow B 3 1 (F j) (C j).length ((C j).map iv)∧(F j).ownBlock≠some b
theorem n6.tabW{w:World}{B g n b:Nat}{C:Nat→List Nat}(h:n6 w B g n C b):cG w B g n C:=by
 obtain⟨F,h1,h2⟩:=h
 refine⟨F,h1,fun j hj=> ?_⟩
 obtain⟨A,k,x,y,z,_⟩:=h2 j hj
 exact⟨A,k,x,y,z⟩
theorem n6.same{w:World}{B g n b:Nat}{C D:Nat→List Nat}(h:n6 w B g n C b)(hs:∀j,j<n→C j=D j):n6 w B g n D b:=by
 obtain⟨F,h1,h2⟩:=h
 refine⟨F,h1,fun j hj=> ?_⟩
 rw[← hs j hj]
 exact h2 j hj
theorem n6.step{w w':World}{B B' g n b:Nat}{C:Nat→List Nat}(h:n6 w B g n C b)(hs:ak B' [] [] w w'):n6 w' B g n C b:=by
 obtain⟨F,h1,h2⟩:=h
 refine⟨F,hs.row h1 (fun _ _=>aq) aq,fun j hj=> ?_⟩
 obtain⟨A,k,x,y,z,u⟩:=h2 j hj
 exact⟨A,k,x,y,hs.row z (fun _ _=>aq) aq,u⟩
theorem n6.set{w:World}{B g n b:Nat}{C:Nat→List Nat}(h:n6 w B g n C b)(i:Nat){A:Option Addr}{k:Nat}{L:List Nat}(hL:w.ownsRow B 3 1 (.slice A L.length k) L.length (L.map iv))(hk:L.length≤k)(hb:(Value.slice A L.length k).ownBlock≠some b):
 n6 (w.setCell ⟨g,i,none⟩ (.slice A L.length k)) B g n (fun j=>if j=i then L else C j) b:=by
 obtain⟨F,h1,h2⟩:=h
 have h3:=World.ownsRow.stored h1 i (.slice A L.length k)
 have h0:((List.range n).map F).set i (.slice A L.length k)=(List.range n).map fun j=>if j=i then(.slice A L.length k)else F j:=by
  apply List.ext_getElem?
  intro j
  rw[List.getElem?_set]
  by_cases e:i=j
  ·subst e
   by_cases hj:i<n
   ·simp[hj]
   ·simp[hj]
  ·have e':¬j=i:=fun k=>e k.symm
   rw[if_neg e,List.getElem?_map,List.getElem?_map]
   by_cases hj:j<n
   ·rw[List.getElem?_range hj]
    simp[e']
   ·rw[List.getElem?_eq_none (by rw[List.length_range];omega)]
    rfl
 rw[h0]at h3
 have keep:∀(v:Value) (m:Nat) (xs:List Value),w.ownsRow B 3 1 v m xs→(w.setCell ⟨g,i,none⟩ (.slice A L.length k)).ownsRow B 3 1 v m xs:=by
  intro v m xs hv
  refine hv.kept h3.2 (.inr fun e=> ?_)
  obtain⟨c1,f1,e1⟩:=Lib.ownsRow_kind hv g e
  obtain⟨c2,f2,e2⟩:=Lib.ownsRow_kind h1 g rfl
  rw[e1]at e2
  simp at e2
 refine⟨_,h3.1,fun j hj=> ?_⟩
 by_cases e:j=i
 ·refine⟨A,k,?_,?_,?_,?_⟩
  ·simp only[if_pos e]
  ·simp only[if_pos e]
   exact hk
  ·simp only[if_pos e]
   exact keep _ _ _ hL
  ·simp only[if_pos e]
   exact hb
 ·obtain⟨A2,k2,x,y,z,u⟩:=h2 j hj
  refine⟨A2,k2,?_,?_,?_,?_⟩
  ·simp only[if_neg e]
   exact x
  ·simp only[if_neg e]
   exact y
  ·simp only[if_neg e]
   exact keep _ _ _ z
  ·simp only[if_neg e]
   exact u
theorem pE(m:Int):2≤cL m∧cL m≤6:=by
 unfold cL
 repeat' split
 all_goals omega
def kD(l:List Nat)(m:Nat):List Nat:=nU (bh l (List.replicate (aQ l.length) 0) 0 m)
def aZ(L:List Int)(m:Int):List (List Int)×List Int×Nat:=
 if g9 L m then([zL (kD (hU L) m.toNat),zL (kD (hU L) m.toNat)],zL (List.replicate (aQ L.length) 0),0)else([], [],2)
theorem Gk{w:World}{g:Nat}{A1 A2:Option Addr}{m c1 c2:Nat}{x y:List Nat}(hg:Blk w g 36 #[.slice A1 m c1,.slice A2 m c2])(hx:aw w A1 m x)(h1:m≤c1)(hy:aw w A2 m y)(h2:m≤c2)(hm:m≤maxLen):
 sV w (some ⟨g,0,none⟩) 2 [zL x,zL y]:=by
 refine⟨rfl,fun _=>⟨g,0,rfl,fun i hi=> ?_⟩⟩
 have h0:(zL x).length=m:=by unfold zL;rw[List.length_map,hx.1]
 have h3:(zL y).length=m:=by unfold zL;rw[List.length_map,hy.1]
 rw[Nat.zero_add]
 match i,hi with
 | 0,_=>
   refine⟨A1,c1,?_,?_,?_,?_⟩
   ·show w.cell? ⟨g,0,none⟩=some (.slice A1 (zL x).length c1)
    rw[h0]
    exact(ac hg 0).trans rfl
   ·show ZIn w A1 (zL x).length (zL x)
    rw[h0]
    exact cR hx
   ·show(zL x).length≤c1
    omega
   ·show(zL x).length≤maxLen
    omega
 | 1,_=>
   refine⟨A2,c2,?_,?_,?_,?_⟩
   ·show w.cell? ⟨g,1,none⟩=some (.slice A2 (zL y).length c2)
    rw[h3]
    exact(ac hg 1).trans rfl
   ·show ZIn w A2 (zL y).length (zL y)
    rw[h3]
    exact cR hy
   ·show(zL y).length≤c2
    omega
   ·show(zL y).length≤maxLen
    omega
theorem ii{T:List (List Int)}{q:Nat}(h:q<T.length):T.getD q []∈T:=by
 rw[List.getD_eq_getElem?_getD,List.getElem?_eq_getElem h]
 exact List.getElem_mem h
theorem yG(w:World)(v:Value)(T:List (List Int))(P:List Int)(h:aN w v T P):
 Calls Tryz.prog 97 #[v] w fun e w'=>e=.returned (.bool (decide (aR T P)))∧Below w.heap.size w w':=by
 obtain⟨A,n,c,B,m,d,rfl,hT,hS,hn,hP,hR,hm⟩:=h
 have hO:=hT.1
 have hE:=hP.1
 unfold maxLen at hn hm
 obtain⟨n0,hi⟩:∃n0,n0=(T.getD 0 []).length:=⟨_,rfl⟩
 have hs:Hid (n<2→decide (aR T P)=false):=aa fun h=>decide_eq_false fun k=>by have:=k.1;omega
 have hu:Hid (6<n→decide (aR T P)=false):=aa fun h=>decide_eq_false fun k=>by have:=k.2.1;omega
 have hw:Hid (m<1→decide (aR T P)=false):=aa fun h=>decide_eq_false fun k=>by have:=k.2.2.1;omega
 have hA:Hid (32767<m→decide (aR T P)=false):=aa fun h=>decide_eq_false fun k=>by have:=k.2.2.2.1;omega
 have hC:Hid (∀ q,q<n→((T.getD q []).length≠n0∨¬aY (T.getD q []))→decide (aR T P)=false):=aa fun q hq h=>decide_eq_false fun k=>by
  have:=k.2.2.2.2.1 (T.getD q []) (ii (by omega))
  rw[← hi]at this
  rcases h with h | h
  ·exact h this.1
  ·exact h this.2
 have hB:Hid (∀ x∈P,(x<0∨(n:Int)≤x)→decide (aR T P)=false):=aa fun x hx h=>decide_eq_false fun k=>by
  have:=k.2.2.2.2.2.1 x hx
  omega
 have hI:Hid (n0<3→decide (aR T P)=false):=aa fun h=>decide_eq_false fun k=>by
  have:=k.2.2.2.2.2.2
  omega
 have hf:Hid (2≤n→n≤6→1≤m→m≤32767→(∀ q,q<n→(T.getD q []).length=n0∧aY (T.getD q []))→(∀ x∈P,0≤x∧x<(n:Int))→3≤n0→decide (aR T P)=true):=aa fun h1 h2 h3 h4 h5 h6 h7=>
  decide_eq_true ⟨by omega,by omega,by omega,by omega,fun t ht=>by
   obtain⟨q,hq,rfl⟩:=List.mem_iff_getElem.1 ht
   have:=h5 q (by omega)
   rw[List.getD_eq_getElem?_getD,List.getElem?_eq_getElem hq]at this
   rw[← hi]
   exact this,fun x hx=>by have:=h6 x hx;omega,by omega⟩
 generalize decide (aR T P)=ans at*
 have q0:(w.alloc (.cells #[.slice A n c,.slice B m d] 52)).cell? ⟨w.heap.size,0,none⟩=some (.slice A n c):=(ac (ag w _ _) 0).trans rfl
 have q1:(w.alloc (.cells #[.slice A n c,.slice B m d] 52)).cell? ⟨w.heap.size,1,none⟩=some (.slice B m d):=(ac (ag w _ _) 1).trans rfl
 have HB:Hid (Below w.heap.size w (w.alloc (.cells #[.slice A n c,.slice B m d] 52))):=aa ((Below.refl _ _).alloc (ah _) _)
 have HT:=aa (hT.below HB.out)
 have HP:=aa (hP.below HB.out)
 have hH:=aa hi
 have hl:=aa hE
 clear hT hP hO hE hi
 go_enter Tryz.func97,Tryz.ntmps97
 by_cases e1:n<2
 ·have h0:=hs.out e1
  have d1:decide ((n:Int)<2)=true:=ar (by omega)
  subst h0
  go_wp2_with fail
  go_ret
  exact⟨rfl,HB.out⟩
 have d1:decide ((n:Int)<2)=false:=ao (by omega)
 by_cases e2:6<n
 ·have h0:=hu.out e2
  have d2:decide ((6:Int)<(n:Int))=true:=ar (by omega)
  subst h0
  go_wp2_with fail
  go_ret
  exact⟨rfl,HB.out⟩
 have d2:decide ((6:Int)<(n:Int))=false:=ao (by omega)
 by_cases e3:m<1
 ·have h0:=hw.out e3
  have d3:decide ((m:Int)<1)=true:=ar (by omega)
  subst h0
  go_wp2_with fail
  go_ret
  exact⟨rfl,HB.out⟩
 have d3:decide ((m:Int)<1)=false:=ao (by omega)
 by_cases e4:32767<m
 ·have h0:=hA.out e4
  have d4:decide ((32767:Int)<(m:Int))=true:=ar (by omega)
  subst h0
  clear e4
  go_wp2_with fail
  go_ret
  exact⟨rfl,HB.out⟩
 have d4:decide ((32767:Int)<(m:Int))=false:=ao (by omega)
 have h8:Hid ((∀ q,q<n→(T.getD q []).length=n0∧aY (T.getD q []))→(∀ x∈P,0≤x∧x<(n:Int))→3≤n0→ans=true):=aa (hf.out (by omega) (by omega) (by omega) (by omega))
 have hV:m≤100000:=by omega
 have hW:n≤6:=by omega
 have hX:2≤n:=by omega
 clear e1 e2 e3 e4 hs hu hw hA hf hn hm hS hR
 obtain⟨b,off,rfl,hc⟩:=HT.out.2 (by omega)
 obtain⟨A0,c0,ho,_⟩:=hc 0 (by omega)
 rw[← hH.out]at ho
 have hD:=ho
 rw[Nat.add_zero]at hD
 have hY:(0:Int)<(n:Int):=by omega
 clear hc
 go_wp2_with fail
 clear ho hD
 generalize w.alloc (.cells #[.slice (some ⟨b,off,none⟩) n c,.slice B m d] 52)=w1 at*
 go_loopw [4] (fun i wx=>∃q:Nat,q≤n∧i=.int .i64 q∧Hid (∀ j,j<q→(T.getD j []).length=n0∧aY (T.getD j []))∧w1=wx) (fun i _=>n - (intOf i).toNat)
 case atStart=>exact⟨0,Nat.zero_le _,rfl,by intro j hj;omega,rfl⟩
 case round=>
  obtain⟨q,hq,rfl,hv,rfl⟩:=hrel
  by_cases e:q<n
  ·have dq:decide ((q:Int)<(n:Int))=true:=ar (by omega)
   have hZ:(0:Int)≤(q:Int):=by omega
   have H0:(q:Int)<(n:Int):=by omega
   obtain⟨b',off',hF,hc⟩:=HT.out.2 (by omega)
   simp only[Option.some.injEq,Addr.mk.injEq,and_true]at hF
   obtain⟨rfl,rfl⟩:=hF
   obtain⟨A2,c2,h1,h2,h3,h4⟩:=hc q e
   obtain⟨L,hL⟩:∃L,L=T.getD q []:=⟨_,rfl⟩
   rw[← hL]at h1 h2 h3 h4
   obtain⟨k,hk⟩:∃k,k=L.length:=⟨_,rfl⟩
   rw[← hk]at h1 h2 h3 h4
   have hh:=aa (tR _ A2 k c2 L h2 h4)
   have he:Hid ((k≠n0∨¬aY L)→ans=false):=aa fun h=>hC.out q e (by rw[← hL,←hk];exact h)
   have ha:Hid (k=n0→aY L→∀j,j<q+1→(T.getD j []).length=n0∧aY (T.getD j [])):=aa fun a b j hj=>by
    rcases Nat.lt_or_ge j q with hG | hG
    ·exact hv.out j hG
    ·obtain rfl:j=q:=by omega
     rw[← hL,←hk]
     exact⟨a,b⟩
   clear hc hL hk h2 h3 h4
   by_cases ek:k=n0
   ·have d1:((k:Int) != (n0:Int))=false:=by rw[ek];simp
    by_cases el:aY L
    ·rw[if_pos el]at hh
     have hM:=aa (ha.out ek el)
     clear ek el he ha
     go_wp2_with fail
     refine hh.out.mono ?_
     rintro e w' ⟨rfl,rfl⟩
     go_wp2_with fail
     go_roundw
     case rel=>exact⟨q+1,by omega,by go_num,hM,trivial⟩
     case measure=>simp[intOf];omega
    ·rw[if_neg el]at hh
     have h0:=he.out (.inr el)
     subst h0
     clear ek el he ha
     go_wp2_with fail
     refine hh.out.mono ?_
     rintro e w' ⟨rfl,rfl⟩
     go_wp2_with fail
     go_ret
     exact⟨rfl,HB.out⟩
   ·have d1:((k:Int) != (n0:Int))=true:=by
     rw[bne_iff_ne]
     omega
    have h0:=he.out (.inl ek)
    subst h0
    clear ek he ha
    go_wp2_with fail
    go_ret
    exact⟨rfl,HB.out⟩
  ·obtain rfl:q=n:=by omega
   have dq:decide ((q:Int)<(q:Int))=false:=ao (by omega)
   have HV:=aa (h8.out hv.out)
   clear hv hC h8
   go_wp2_with fail
   go_loopw [5] (fun i wx=>∃z:Nat,z≤m∧i=.int .i64 z∧Hid (∀ x∈P.take z,0≤x∧x<(q:Int))∧Below w1.heap.size w1 wx) (fun i _=>m - (intOf i).toNat)
   case atStart=>exact⟨0,Nat.zero_le _,rfl,by simp[Hid],Below.refl _ _⟩
   case round=>
    obtain⟨z,hz,rfl,hv,hg⟩:=hrel
    have hb:=aa hg
    have p0:=(hg.cell (World.block_lt_of_cell? w1 _ q0)).trans q0
    have p1:=(hg.cell (World.block_lt_of_cell? w1 _ q1)).trans q1
    have hJ:=aa (HP.out.below hg)
    clear hg
    by_cases e:z<m
    ·have dz:decide ((z:Int)<(m:Int))=true:=ar (by omega)
     have H1:(0:Int)≤(z:Int):=by omega
     have H2:(z:Int)<(m:Int):=by omega
     obtain⟨b',off',rfl,hc⟩:=hJ.out.2 (by omega)
     have hQ:=hc z e
     have hp:=dD P z (by rw[hl.out];exact e)
     have h9:=dP P z (by rw[hl.out];exact e)
     obtain⟨x,hx⟩:∃x,x=P.getD z 0:=⟨_,rfl⟩
     rw[← hx]at hQ hp h9
     have hK:=aa hp
     have HM:=aa h9
     clear hc hx hp h9
     by_cases e1:x<0
     ·have d1:decide (x<0)=true:=decide_eq_true e1
      have h0:=hB.out x HM.out (.inl e1)
      subst h0
      go_wp2_with fail
      go_quiet (fail)
      go_wp2_with fail
      go_ret
      exact⟨rfl,HB.out.trans (az (hb.out.mono HB.out.size) _)⟩
     ·have d1:decide (x<0)=false:=decide_eq_false e1
      by_cases e2:(q:Int)≤x
      ·have d2:decide ((q:Int)≤x)=true:=decide_eq_true e2
       have h0:=hB.out x HM.out (.inr e2)
       subst h0
       go_wp2_with fail
       go_quiet (fail)
       go_wp2_with fail
       go_ret
       exact⟨rfl,HB.out.trans (az (hb.out.mono HB.out.size) _)⟩
      ·have d2:decide ((q:Int)≤x)=false:=decide_eq_false e2
       have ha:Hid (∀ y∈P.take (z+1),0≤y∧y<(q:Int)):=aa (by
        rw[hK.out]
        intro y hy
        rcases List.mem_append.1 hy with hy | hy
        ·exact hv.out y hy
        ·rw[List.mem_singleton.1 hy]
         omega)
       go_wp2_with fail
       go_quiet (fail)
       go_wp2_with fail
       go_roundw
       case rel=>exact⟨z+1,by omega,by go_num,ha,az hb.out _⟩
       case measure=>simp[intOf];omega
    ·obtain rfl:z=m:=by omega
     have dz:decide ((z:Int)<(z:Int))=false:=ao (by omega)
     have hr:=hv.out
     rw[List.take_of_length_le (Nat.le_of_eq hl.out)]at hr
     have hN:=aa (HV.out hr)
     clear hv hr HV
     by_cases e3:3≤n0
     ·have d3:decide ((3:Int)≤(n0:Int))=true:=ar (by omega)
      have h0:=hN.out e3
      subst h0
      go_wp2_with fail
      go_ret
      exact⟨rfl,ap HB.out hb.out⟩
     ·have d3:decide ((3:Int)≤(n0:Int))=false:=ao (by omega)
      have h0:=hI.out (by omega)
      subst h0
      go_wp2_with fail
      go_ret
      exact⟨rfl,ap HB.out hb.out⟩
theorem rQ(o:List Nat)(x:Nat)(r:List Nat):aG o (x :: r)=List.replicate (aP o x) 1++0 :: aG (dJ o (aP o x)) r:=rfl
theorem jh{B k n:Nat}{e:TypeId}{v:Value}{xs:List Value}{w w':World}(h:w.ownsRow B e k v n xs)(hb:Below w.heap.size w w'):w'.ownsRow B e k v n xs:=
 World.ownsRow.kept (row:=none) h ⟨hb.os,hb.tape,hb.output,hb.size,fun j hj _=>hb.block j hj⟩ (by cases hv:v.ownBlock <;>simp)
structure gV (w0 w:World) (v:Value) (X:List Nat) (g c:Nat) (o:List Nat):Prop where
 out:w.ownsRow w0.heap.size 3 1 v X.length (X.map iv)
 ord:w.ownsRow w0.heap.size 3 1 (.slice (some ⟨g,0,none⟩) 6 c) 6 (o.map iv)
 ne:v.ownBlock≠some g
 below:Below w0.heap.size w0 w
theorem gV.len{w0 w:World}{v:Value}{X:List Nat}{g c:Nat}{o:List Nat}(h:gV w0 w v X g c o):o.length=6:=by
 have:=h.ord.1
 simpa using this
theorem gV.cell{w0 w:World}{v:Value}{X:List Nat}{g c:Nat}{o:List Nat}(h:gV w0 w v X g c o)(j:Nat)(hj:j<6):w.cell? ⟨g,j,none⟩=some (.int .i64 (o.getD j 0:Nat)):=by
 have hl:=h.len
 rw[World.ownsRow.cellAt h.ord j (by omega),List.getElem?_map,List.getElem?_eq_getElem (by omega),List.getD_eq_getElem?_getD,List.getElem?_eq_getElem (by omega)]
 rfl
theorem gV.push{w0 w:World}{A:Option Addr}{N cap:Nat}{X:List Nat}{g c:Nat}{o:List Nat}(h:gV w0 w (.slice A N cap) X g c o)(x:Nat)(hN:X.length=N)(hX:N≤1000000):
 ∃A2 cap2 w2,(Builtin.append_ #[36,36] 36 #[.slice A N cap,.slice (some ⟨w.heap.size,0,none⟩) 1 1]).run Tryz.prog (w.alloc (.cells #[.int .i64 x] 3))=.ok (.slice A2 (N+1) cap2) w2∧
  gV w0 w2 (.slice A2 (N+1) cap2) (X++ [x]) g c o:=by
 obtain⟨i3,h3,h4,h5,h6⟩:=info_parts Tryz.info3
 subst hN
 have h1:=h.below.size
 obtain⟨v2,w2,hr,ho,hg,_,h0⟩:=run_append_own_at (P:=Tryz.prog) (w.alloc (.cells #[.int .i64 x] 3)) w0.heap.size 36 36 3 i3 (.int .i64 0) 1 8 Tryz.underlying36 h3 h4 h5 h6 rfl (by decide) _ _ _ (h.out.alloc _) ⟨w.heap.size,0,none⟩ 1 1 [iv x] rfl (bi w (iv x) 3)
  (fun u hu=>by rw[List.mem_singleton.1 hu];rfl) (by unfold maxLen;omega) (by omega) (by simp;omega)
 obtain⟨A2,cap2,rfl,_,_,_⟩:=aj ho
 have h7:=World.ownsRow.lt h.ord g rfl
 refine⟨A2,cap2,w2,hr,?_,World.ownsRow.kept (h.ord.alloc _) hg (.inr fun e=>h.ne e.symm),?_,?_⟩
 ·have h2:=ho
  rw[show X.map iv++ [iv x]=(X++ [x]).map iv by simp]at h2
  rw[List.length_append]
  exact h2
 ·rcases h0 with e | e
  ·rw[e]
   exact h.ne
  ·rw[e]
   intro e2
   have:=Option.some.inj e2
   simp at this
   omega
 ·exact(h.below.alloc h1 _).grown hg (by simp;omega) (fun k hk=>(h.out.lt k hk).1)
theorem gV.turn{w0 w w2:World}{v v2:Value}{X:List Nat}{g c:Nat}{o o2:List Nat}(h:gV w0 w v X g c o)(hb:Below w.heap.size w w2)(hr:w2.ownsRow w.heap.size 3 1 v2 6 (o2.map iv)):
 ∃g2 c2,v2=.slice (some ⟨g2,0,none⟩) 6 c2∧gV w0 w2 v X g2 c2 o2:=by
 obtain⟨A2,c2,rfl,_,_,hA⟩:=aj hr
 obtain⟨g2,rfl⟩:=hA (by omega)
 refine⟨g2,c2,rfl,jh h.out hb,World.ownsRow.mono hr h.below.size,?_,ap h.below hb⟩
 intro e
 have h1:=(World.ownsRow.lt h.out g2 e).2
 have h2:=(World.ownsRow.lt hr g2 rfl).1
 omega
def eG(T:List (List Int))(P:List Int):List Nat×Nat:=if aR T P then(gB (T.map nl) (nl P),0)else([],110)
theorem jS{L:List Int}(h:aY L):DOk L:=⟨h.1,h.2.1,h.2.2.1⟩
theorem Dc(w:World)(B:Nat)(hB:B≤w.heap.size):(w.alloc (.cells #[.int .i64 0,.int .i64 1,.int .i64 2,.int .i64 3,.int .i64 4,.int .i64 5] 3)).ownsRow B 3 1 (.slice (some ⟨w.heap.size,0,none⟩) 6 6) 6 (([0,1,2,3,4,5]:List Nat).map iv):=
 ⟨rfl,.inr ⟨w.heap.size,6,_,rfl,hB,heap_alloc_new w _,Nat.le_refl _,by unfold maxLen;omega,rfl,rfl⟩⟩
theorem kt:∀(P o:List Nat),an (aG o P)
 | [],o=>fun b hb=>by simp[aG]at hb
 | x :: P,o=>fun b hb=>by
   rw[rQ]at hb
   rcases List.mem_append.1 hb with h | h
   ·rw[List.eq_of_mem_replicate h]
    omega
   ·rcases List.mem_cons.1 h with h | h
    ·omega
    ·exact kt P _ b h
theorem lJ(T:Nat)(hT:T≤6):∀(P o:List Nat),Low T o→(∀ x∈P,x<T)→(aG o P).length≤6*P.length
 | [],o,_,_=>by simp[aG]
 | x :: P,o,h,hx=>by
   have h1:=(h.2 x (hx x (List.mem_cons_self ..))).1
   have h2:=lJ T hT P _ (h.move (hx x (List.mem_cons_self ..))) fun y hy=>hx y (List.mem_cons_of_mem _ hy)
   rw[rQ,List.length_append,List.length_replicate,List.length_cons,List.length_cons]
   omega
theorem lC:∀(T:List (List Int)),(∀ t∈T,DOk t)→((T.map nl).flatMap aX).length≤11000*T.length
 | [],_=>by simp
 | t :: T,h=>by
   have h1:=lC T fun x hx=>h x (List.mem_cons_of_mem _ hx)
   have h2:=Ao t
   rw[show jn t=(aX (nl t),0)from if_pos (h t (List.mem_cons_self ..))]at h2
   dsimp only at h2
   rw[List.map_cons,List.flatMap_cons,List.length_append,List.length_cons]
   omega
theorem qM(T:List (List Int))(P:List Int):an (eG T P).1:=by
 unfold eG
 split
 ·refine an.append (an.append (an.append (aE _ _) (aE _ _)) (kt _ _)) fun b hb=> ?_
  obtain⟨l,_,hl⟩:=List.mem_flatMap.1 hb
  exact ua l b hl
 ·intro b hb
  cases hb
theorem jo(T:List (List Int))(P:List Int):(eG T P).1.length≤300000:=by
 unfold eG
 split
 ·rename_i hM
  have h1:=lC T fun t ht=>jS (hM.2.2.2.2.1 t ht).2
  have h2:=lJ T.length hM.2.1 (nl P) _ (BC hM.2.1) fun x hx=>by
   obtain⟨y,hy,rfl⟩:=List.mem_map.1 hx
   have:=hM.2.2.2.2.2.1 y hy
   omega
  have h3:=hM.2.1
  have h4:=hM.2.2.2.1
  rw[bz]at h2
  show(gB (T.map nl) (nl P)).length≤300000
  unfold gB
  rw[List.length_append,List.length_append,List.length_append,af,af]
  omega
 ·exact Nat.zero_le _
def sQ(a:Nat):Pl→Nat×Nat×Nat
 | .hit n=>(n,a+n+1,0)
 | .short=>(0,0,10)
 | .bad=>(0,0,110)
theorem vD:∀(l:List Nat) (n T k:Nat),bW l n T=.hit k→n<T→n≤k∧k<n+l.length∧k<T
 | [],n,T,k,h,_=>by simp[bW]at h
 | b :: l,n,T,k,h,hn=>by
   rw[bW]at h
   by_cases e:b=0
   ·rw[if_pos e]at h
    have:=Pl.hit.inj h
    rw[List.length_cons]
    omega
   ·rw[if_neg e]at h
    by_cases e2:n+1=T
    ·rw[if_pos e2]at h
     cases h
    ·rw[if_neg e2]at h
     have:=vD l (n+1) T k h (by omega)
     rw[List.length_cons]
     omega
theorem zI(w:World)(A:Option Addr)(m c:Nat)(bits:List Nat)(a0 T:Nat)(hb:aw w A m bits)(hm:m≤1000000)(ha:a0≤m)(_:T≤6):
 Calls Tryz.prog 157 #[.slice A m c,.int .i64 a0,.int .i64 T] w fun e w'=>e=.returned (.tuple #[.int .i64 (sQ a0 (bW (bits.drop a0) 0 T)).1,.int .i64 (sQ a0 (bW (bits.drop a0) 0 T)).2.1,.int .i64 (sQ a0 (bW (bits.drop a0) 0 T)).2.2])∧w'=w:=by
 have HB:=aa hb
 have h3:=aa hb.1
 obtain⟨R,hR⟩:∃R,R=bW (bits.drop a0) 0 T:=⟨_,rfl⟩
 rw[← hR]
 have HR:=aa hR
 clear hb hR
 go_enter Tryz.func157,Tryz.ntmps157
 go_wp2_with fail
 go_loopw [9] (fun nv wx=>∃j:Nat,a0+j≤m∧nv=.int .i64 j∧Hid (R=bW (bits.drop (a0+j)) j T)∧w=wx) (fun nv _=>m - (intOf nv).toNat)
 case atStart=>exact⟨0,by omega,rfl,aa HR.out,rfl⟩
 case round=>
  obtain⟨j,hj,rfl,hv,rfl⟩:=hrel
  obtain⟨z,hz⟩:∃z,z=a0+j:=⟨_,rfl⟩
  have h7:(a0:Int)+(j:Int)=(z:Int):=by omega
  have h0:=hv.out
  rw[← hz]at h0
  by_cases e:z<m
  ·have d0:decide ((z:Int)<(m:Int))=true:=ar (by omega)
   have h5:(0:Int)≤(z:Int):=by omega
   have h6:(z:Int)<(m:Int):=by omega
   obtain⟨b,off,rfl,hc⟩:=HB.out.2 (by omega)
   have h4:=hc z e
   rw[lh (L:=bits) (p:=z) (by rw[h3.out];exact e),bW]at h0
   obtain⟨x,hx⟩:∃x,x=bits.getD z 0:=⟨_,rfl⟩
   rw[← hx]at h4 h0
   have HZ:=aa hz
   clear hc hx hv HR hz
   by_cases e0:x=0
   ·have d1:((x:Int)==0)=true:=by rw[e0];rfl
    rw[if_pos e0]at h0
    subst h0
    have h1:sQ a0 (.hit j)=(j,z+1,0):=by rw[HZ.out];rfl
    have h2:=aa h1
    clear e0 h1
    go_wp2_with fail
    go_ret3
    exact⟨by rw[h2.out];rfl,rfl⟩
   ·have d1:((x:Int)==0)=false:=by rw[beq_eq_false_iff_ne];omega
    rw[if_neg e0]at h0
    by_cases e1:j+1=T
    ·have d2:((j:Int)+1==(T:Int))=true:=by rw[beq_iff_eq];omega
     rw[if_pos e1]at h0
     subst h0
     clear e0 e1
     go_wp2_with fail
     go_ret3
     exact⟨rfl,rfl⟩
    ·have d2:((j:Int)+1==(T:Int))=false:=by rw[beq_eq_false_iff_ne];omega
     rw[if_neg e1]at h0
     have HV:=aa h0
     clear e0 e1 h0
     go_wp2_with fail
     go_roundw
     case rel=>exact⟨j+1,by have:=HZ.out;omega,by go_num,aa (by rw[HV.out,HZ.out];rfl),trivial⟩
     case measure=>simp[intOf];omega
  ·have d0:decide ((z:Int)<(m:Int))=false:=ao (by omega)
   rw[List.drop_of_length_le (by rw[h3.out];omega),bW]at h0
   subst h0
   clear hv HR hz
   go_wp2_with fail
   go_ret3
   exact⟨rfl,rfl⟩
theorem fe{bits:List Nat}{T k n p:Nat}{o out:List Nat}(h:bW (bits.drop p) 0 T=.hit n):aD bits T (k+1) o p out=aD bits T k (dJ o n) (p+n+1) (out++ [o.getD n 0]):=by
 rw[aD,h]
theorem dW{bits:List Nat}{T k p:Nat}{o out:List Nat}(h:bW (bits.drop p) 0 T=.short):aD bits T (k+1) o p out=([],0,10):=by
 rw[aD,h]
theorem fb{bits:List Nat}{T k p:Nat}{o out:List Nat}(h:bW (bits.drop p) 0 T=.bad):aD bits T (k+1) o p out=([],0,110):=by
 rw[aD,h]
theorem wZ(w:World)(A:Option Addr)(m c:Nat)(bits:List Nat)(a0 T many:Nat)(hb:aw w A m bits)(hm:m≤1000000)(ha:a0≤m)(hA:1≤T)(hT:T≤6)(hl:many≤40000):
 Calls Tryz.prog 94 #[.slice A m c,.int .i64 a0,.int .i64 T,.int .i64 many] w (aH w (aD bits T many [0,1,2,3,4,5] a0 [])):=by
 have hr:=aa fun(wx:World) (h:Below w.heap.size w wx)=>bF hb h
 have ht:=aa hb.1
 obtain⟨R,hR⟩:∃R,R=aD bits T many [0,1,2,3,4,5] a0 []:=⟨_,rfl⟩
 rw[← hR]
 have HR:=aa hR
 have hg:Hid (∀ v (a:List Nat×Nat×Nat) w',R=a→w'.ownsRow w.heap.size 3 1 v a.1.length (a.1.map iv)→Below w.heap.size w w'→aH w R (.returned (.tuple #[v,.int .i64 a.2.1,.int .i64 a.2.2])) w'):=aa fun v a w' h h1 h2=>by
  rw[h]
  exact⟨v,rfl,h1,h2⟩
 have h3:gV w (w.alloc (.cells #[.int .i64 0,.int .i64 1,.int .i64 2,.int .i64 3,.int .i64 4,.int .i64 5] 3)) (.slice none 0 0) [] w.heap.size 6 [0,1,2,3,4,5]:=
  ⟨World.ownsRow_nil _ _ _ _,Dc w _ (ah _),(fun e=>by cases e),(Below.refl _ _).alloc (ah _) _⟩
 have h4:=aa h3
 generalize aH w R=PO at*
 clear hb hR h3
 go_enter Tryz.func94,Tryz.ntmps94
 go_wp2_with fail
 generalize w.alloc (.cells #[.int .i64 0,.int .i64 1,.int .i64 2,.int .i64 3,.int .i64 4,.int .i64 5] 3)=w1 at*
 go_loopw [1,11,12,13,14,15,16] (fun av rv ov iv' s14 s15 s16 wx=>∃(q p:Nat) (X o:List Nat) (g c:Nat),q≤many∧iv'=.int .i64 q∧av=.int .i64 p∧p≤m∧rv=.slice (some ⟨g,0,none⟩) 6 c∧gV w wx ov X g c o∧Hid (R=aD bits T (many - q) o p X)∧X.length≤q) (fun _ _ _ iv' _ _ _ _=>many - (intOf iv').toNat)
 case atStart=>exact⟨0,a0, [],_,_,_,Nat.zero_le _,rfl,rfl,ha,rfl,h4.out,aa HR.out,Nat.le_refl _⟩
 case round=>
  clear h4 HR
  obtain⟨q,p,X,o,g,c2,hq,rfl,rfl,hp,rfl,h3,hX,hw⟩:=hrel
  have h4:=aa h3
  obtain⟨A7,c7,rfl,_,_,_⟩:=aj h3.out
  obtain⟨N,hN⟩:∃N,N=X.length:=⟨_,rfl⟩
  have HN:=aa hN
  rw[← hN]at h4 hw ⊢
  by_cases e:q<many
  ·have d0:decide ((q:Int)<(many:Int))=true:=ar (by omega)
   obtain⟨k1,hi⟩:∃k1,k1=many - (q+1):=⟨_,rfl⟩
   have h0:=hX.out
   rw[show many - q=k1+1 by omega]at h0
   have he:=aa (zI wr A m c bits p T (hr.out _ h3.below) hm hp hT)
   obtain⟨Y,hY⟩:∃Y,Y=bW (bits.drop p) 0 T:=⟨_,rfl⟩
   rw[← hY]at he
   have hs:=aa hi
   clear hX hi hN
   cases Y with
   | short=>
     rw[dW hY.symm]at h0
     have h5:=aa (hg.out (.slice none 0 0) _ wr h0 (World.ownsRow_nil _ _ _ _) h3.below)
     clear h0 hY h3 h4
     go_wp2_with fail
     refine he.out.mono ?_
     rintro e w5 ⟨rfl,rfl⟩
     dsimp only[sQ]
     go_wp2_with fail
     first | exact h5.out | (go_ret3;exact h5.out)
   | bad=>
     rw[fb hY.symm]at h0
     have h5:=aa (hg.out (.slice none 0 0) _ wr h0 (World.ownsRow_nil _ _ _ _) h3.below)
     clear h0 hY h3 h4
     go_wp2_with fail
     refine he.out.mono ?_
     rintro e w5 ⟨rfl,rfl⟩
     dsimp only[sQ]
     go_wp2_with fail
     first | exact h5.out | (go_ret3;exact h5.out)
   | hit k=>
     rw[fe hY.symm]at h0
     have hk:=vD _ _ _ _ hY.symm (by omega)
     rw[List.length_drop,ht.out]at hk
     have hj:k<6:=by omega
     have hn:p+k+1≤m:=by omega
     have hh:=aa h0
     have qo:=h3.cell k hj
     obtain⟨y,hy⟩:∃y,y=o.getD k 0:=⟨_,rfl⟩
     rw[← hy]at qo hh
     have hB:(0:Int)≤(k:Int):=by omega
     have hx:(k:Int)<6:=by omega
     obtain⟨A9,c9,w9,ho,h7⟩:=h4.out.push y HN.out.symm (by omega)
     have hf:=aa h7
     have hu:=aa ho
     have hv:=aa (xI w9 (some ⟨g,0,none⟩) 6 c2 o k (aJ h7.ord) (by omega) hj)
     clear h0 hY hy h3 ho h7 hk
     go_wp2_with fail
     refine he.out.mono ?_
     rintro e w5 ⟨rfl,rfl⟩
     dsimp only[sQ]
     obtain⟨z,hz⟩:∃z,z=p+k+1:=⟨_,rfl⟩
     have hC:(p:Int)+(k:Int)+1=(z:Int):=by omega
     rw[← hz]at hh hn ⊢
     clear hz
     go_wp2_with (at_builtin;refine Lib.wpList_append_run _ rfl (.tmp 34) (.tmp 39) 36 36 rfl (.slice A7 N c7) (.slice (some ⟨w5.heap.size,0,none⟩) 1 1) rfl rfl _ _ hu.out ?_)
     refine hv.out.mono ?_
     rintro e w10 ⟨v10,rfl,hc,h9⟩
     obtain⟨g10,c10,rfl,h6⟩:=hf.out.turn h9 hc
     have h8:=aa h6
     clear hc h9 h6
     go_wp2_with fail
     go_roundw
     case rel=>
      refine⟨q+1,z,X++ [y],dJ o k,g10,c10,by omega,by go_num,rfl,hn,rfl,h8.out,?_,?_⟩
      ·rw[← hs.out]
       exact hh
      ·rw[List.length_append,←HN.out]
       show N+1≤_
       omega
     case measure=>simp[intOf];omega
  ·obtain rfl:q=many:=by omega
   have d0:decide ((q:Int)<(q:Int))=false:=ao (by omega)
   have h0:=hX.out
   rw[Nat.sub_self,aD]at h0
   have h5:=aa (hg.out (.slice A7 N c7) _ wr h0 (by show wr.ownsRow w.heap.size 3 1 (.slice A7 N c7) X.length (X.map iv);exact h4.out.out) h3.below)
   clear hX h0 hN h3 h4
   go_wp2_with fail
   first | exact h5.out | (go_ret3;exact h5.out)
theorem Jx:(Tryz.prog.info? 50).map (fun i=>(i.zero,i.size,i.bytes))=some (some (.slice none 0 0),1,24):=by kernel_rfl
theorem ju{w:World}{B B' k k' n n':Nat}{e e':TypeId}{v v':Value}{xs xs':List Value}(h:w.ownsRow B e k v n xs)(h':w.ownsRow B' e' k' v' n' xs')(he:e≠e'):v.ownBlock=none∨v.ownBlock≠v'.ownBlock:=by
 cases hv:v.ownBlock with
 | none=>exact .inl rfl
 | some b=>
   refine .inr fun hb=> ?_
   obtain⟨c1,f1,e1⟩:=Lib.ownsRow_kind h b hv
   obtain⟨c2,f2,e2⟩:=Lib.ownsRow_kind h' b hb.symm
   rw[e2]at e1
   simp at e1
   exact he e1.2.1.symm
theorem cG.mono{w:World}{B B' g n:Nat}{C:Nat→List Nat}(h:cG w B g n C)(hB:B'≤B):cG w B' g n C:=by
 obtain⟨F,h1,h2⟩:=h
 refine⟨F,World.ownsRow.mono h1 hB,fun j hj=> ?_⟩
 obtain⟨A,k,a,b,c⟩:=h2 j hj
 exact⟨A,k,a,b,World.ownsRow.mono c hB⟩
theorem cG.low_kept{w w2:World}{B g n:Nat}{C:Nat→List Nat}(h:cG w B g n C)(hb:Below w.heap.size w w2):cG w2 B g n C:=by
 obtain⟨F,h1,h2⟩:=h
 refine⟨F,jh h1 hb,fun j hj=> ?_⟩
 obtain⟨A,k,a,b,c⟩:=h2 j hj
 exact⟨A,k,a,b,jh c hb⟩
theorem cG.grown_row{w w2:World}{B B' g n m:Nat}{C:Nat→List Nat}{v:Value}{xs:List Value}(h:cG w B g n C)(hv:w.ownsRow B' 50 1 v m xs)(hg:w.grownBy w2 v.ownBlock):cG w2 B g n C:=by
 obtain⟨F,h1,h2⟩:=h
 refine⟨F,World.ownsRow.kept h1 hg (ju h1 hv (by decide)),fun j hj=> ?_⟩
 obtain⟨A,k,a,b,c⟩:=h2 j hj
 exact⟨A,k,a,b,World.ownsRow.kept c hg (ju c hv (by decide))⟩
theorem cG.alloc'{w:World}{B g n:Nat}{C:Nat→List Nat}(h:cG w B g n C)(o:Obj):cG (w.alloc o) B g n C:=by
 obtain⟨F,h1,h2⟩:=h
 refine⟨F,h1.alloc _,fun j hj=> ?_⟩
 obtain⟨A,k,a,b,c⟩:=h2 j hj
 exact⟨A,k,a,b,c.alloc _⟩
structure vK (w0 w:World) (v:Value) (q n:Nat) (G:Nat→Nat) (C:Nat→Nat→List Nat):Prop where
 row:w.ownsRow w0.heap.size 50 1 v q ((List.range q).map fun t=>.slice (some ⟨G t,0,none⟩) n n)
 tab:∀t,t<q→cG w w0.heap.size (G t) n (C t)
 below:Below w0.heap.size w0 w
theorem vK.nil(w0 w:World)(n:Nat)(G:Nat→Nat)(C:Nat→Nat→List Nat)(h:Below w0.heap.size w0 w):vK w0 w (.slice none 0 0) 0 n G C:=
 ⟨World.ownsRow_nil _ _ _ _,fun _ ht=>absurd ht (Nat.not_lt_zero _),h⟩
theorem vK.push{w0 w w1:World}{A:Option Addr}{q cap n:Nat}{G:Nat→Nat}{C:Nat→Nat→List Nat}(h:vK w0 w (.slice A q cap) q n G C){g:Nat}{D:Nat→List Nat}(ht:cG w1 w.heap.size g n D)(hb:Below w.heap.size w w1)(hq:q≤1000)(hD:C q=D):
 ∃A2 cap2 w2,(Builtin.append_ #[142,142] 142 #[.slice A q cap,.slice (some ⟨w1.heap.size,0,none⟩) 1 1]).run Tryz.prog (w1.alloc (.cells #[.slice (some ⟨g,0,none⟩) n n] 50))=.ok (.slice A2 (q+1) cap2) w2∧
  vK w0 w2 (.slice A2 (q+1) cap2) (q+1) n (fun t=>if t=q then g else G t) C:=by
 obtain⟨i2,h2,h6⟩:=Option.map_eq_some_iff.1 Jx
 simp only[Prod.mk.injEq]at h6
 obtain⟨h9,ha,hc⟩:=h6
 have h7:=h.below.size
 have h4:=h.below.trans (hb.mono h7)
 have h0:=jh h.row hb
 have h5:=h4.size
 obtain⟨v2,w2,hr,ho,hg,_,_⟩:=run_append_own_at (P:=Tryz.prog) (w1.alloc (.cells #[.slice (some ⟨g,0,none⟩) n n] 50)) w0.heap.size 142 142 50 i2 (.slice none 0 0) 1 24 Tryz.underlying142 h2 h9 ha hc rfl (by decide) _ _ _ (h0.alloc _) ⟨w1.heap.size,0,none⟩ 1 1 [.slice (some ⟨g,0,none⟩) n n] rfl (cell_one_new w1 _ _)
  (fun u hu=>by rw[List.mem_singleton.1 hu];rfl) (by unfold maxLen;omega) (by omega) (by simp;omega)
 obtain⟨A2,cap2,rfl,_,_,_⟩:=aj ho
 refine⟨A2,cap2,w2,hr,?_,fun t h8=> ?_,?_⟩
 ·have h3:=ho
  rw[show ((List.range q).map fun t=>Value.slice (some ⟨G t,0,none⟩) n n)++ [.slice (some ⟨g,0,none⟩) n n]=(List.range (q+1)).map fun t=>.slice (some ⟨if t=q then g else G t,0,none⟩) n n by
   rw[List.range_succ,List.map_append,List.map_singleton,if_pos rfl]
   congr 1
   apply List.map_congr_left
   intro t h8
   have:=List.mem_range.1 h8
   rw[if_neg (by omega)]]at h3
  exact h3
 ·have h1:=h0.alloc (.cells #[.slice (some ⟨g,0,none⟩) n n] 50)
  by_cases e:t=q
  ·subst e
   simp only[if_true]
   rw[hD]
   exact(((ht.mono h7).alloc' _).grown_row h1 hg)
  ·simp only[if_neg e]
   exact((((h.tab t (by omega)).low_kept hb).alloc' _).grown_row h1 hg)
 ·exact(h4.alloc h5 _).grown hg (by simp;omega) (fun k hk=>(h0.lt k hk).1)
def JU(w:World)(v:Value)(q n:Nat)(C:Nat→Nat→List Nat):Prop:=
 ∃b c,v=.slice (some ⟨b,0,none⟩) q c∧∀t,t<q→∃g,w.cell? ⟨b,t,none⟩=some (.slice (some ⟨g,0,none⟩) n n)∧qV w g n (C t)
theorem vK.read{w0 w:World}{v:Value}{q n:Nat}{G:Nat→Nat}{C:Nat→Nat→List Nat}(h:vK w0 w v q n G C)(hq:0<q):JU w v q n C:=by
 obtain⟨A,c,rfl,_,_,hA⟩:=aj h.row
 obtain⟨b,rfl⟩:=hA hq
 refine⟨b,c,rfl,fun t ht=>⟨G t,?_,(h.tab t ht).read⟩⟩
 rw[World.ownsRow.cellAt h.row t (by omega),List.getElem?_map,List.getElem?_range ht]
 rfl
def FU(T:List (List Int))(P L:List Int):Prop:=aR T P∧aQ L.length≤P.length
instance (T:List (List Int)) (P L:List Int):Decidable (FU T P L):=inferInstanceAs (Decidable (_∧_))
def bD(T:List (List Int))(P L:List Int):List Nat×Nat:=
 if FU T P L then(if ∀x∈L,0≤x∧x<((T.getD 0 []).length:Int)then(cQ (T.map nl) (nl P) (nl L) L.length,0)else([],60))else([],110)
theorem xO(T:List (List Nat))(P L:List Nat)(q:Nat):an (cQ T P L q):=fun b hb=>by
 unfold cQ at hb
 obtain⟨i,_,hi⟩:=List.mem_flatMap.1 hb
 exact aE _ _ b hi
theorem nz(T:List (List Nat))(P L:List Nat)(h:∀t∈T,∀x∈t,x≤20):∀q,(cQ T P L q).length≤20*q
 | 0=>Nat.le_refl _
 | q+1=>by
   have h1:=nz T P L h q
   have h2:((T.getD (P.getD (q / 50) 0) []).getD (L.getD q 0) 0)≤20:=by
    rcases Nat.lt_or_ge (P.getD (q / 50) 0) T.length with h3 | h3
    ·have h4:T.getD (P.getD (q / 50) 0) []∈T:=by
      rw[List.getD_eq_getElem?_getD,List.getElem?_eq_getElem h3]
      exact List.getElem_mem h3
     rcases Nat.lt_or_ge (L.getD q 0) (T.getD (P.getD (q / 50) 0) []).length with h5 | h5
     ·exact h _ h4 _ (nA h5)
     ·have h6:(T.getD (P.getD (q / 50) 0) [])[L.getD q 0]? =none:=List.getElem?_eq_none h5
      rw[List.getD_eq_getElem?_getD (l:=T.getD (P.getD (q / 50) 0) []),h6]
      exact Nat.zero_le _
    ·have h6:T[P.getD (q / 50) 0]? =none:=List.getElem?_eq_none h3
     rw[List.getD_eq_getElem?_getD (l:=T),h6]
     exact Nat.zero_le _
   rw[lF,List.length_append,ct]
   omega
theorem pG(T:List (List Int))(P L:List Int):an (bD T P L).1:=by
 unfold bD
 split
 ·split
  ·exact xO _ _ _ _
  ·intro b hb
   cases hb
 ·intro b hb
  cases hb
theorem im(T:List (List Int))(P L:List Int)(hL:L.length≤2000000):(bD T P L).1.length≤40000000:=by
 unfold bD
 split
 ·rename_i hM
  split
  ·have:=nz (T.map nl) (nl P) (nl L) (fun t ht x hx=>by
    obtain⟨t2,h0,rfl⟩:=List.mem_map.1 ht
    exact(BA (jS (hM.1.2.2.2.2.1 t2 h0).2) x hx).2) L.length
   show(cQ (T.map nl) (nl P) (nl L) L.length).length≤40000000
   omega
  ·exact Nat.zero_le _
 ·exact Nat.zero_le _
theorem xD(T:List (List Int))(P L:List Int):(bD T P L).2≤110:=by
 unfold bD
 split
 ·split
  ·exact Nat.zero_le _
  ·show 60≤110
   omega
 ·exact Nat.le_refl _
def ff(T:List (List Int))(P L:List Int):Nat×Nat:=if(bD T P L).2=0 then((eG T P).1.length+(bD T P L).1.length,0)else(0,(bD T P L).2)
end Go.Proofs.YthakcjehhlpjnaaGreat
