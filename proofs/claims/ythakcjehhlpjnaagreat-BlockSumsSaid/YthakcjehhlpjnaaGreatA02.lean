import Derived.Test.YthakcjehhlpjnaaGreatA01
import Derived.Laws.OwnMore
import Derived.Laws.MakeOwn
import Derived.Deep.Onto
import Derived.Lib.AppendZeros
import Derived.Deep.RegionLaw
set_option maxHeartbeats 3200000
set_option maxRecDepth 100000
namespace Go.Proofs.YthakcjehhlpjnaaGreat
open Go.RowKit
def iG(L:List Int):Prop:=2≤L.length∧L.length≤258∧∀x∈L,0≤x∧x≤1073741824
instance (L:List Int):Decidable (iG L):=inferInstanceAs (Decidable (_∧_))
theorem eH(L:List Int)(q:Nat)(h:q<L.length):L.take (q+1)=L.take q++ [L.getD q 0]:=by
 rw[List.take_succ_eq_append_getElem h,List.getD_eq_getElem?_getD,List.getElem?_eq_getElem h]
 rfl
theorem fb(L:List Int)(q:Nat)(h:q<L.length):L.getD q 0∈L:=by
 rw[List.getD_eq_getElem?_getD,List.getElem?_eq_getElem h]
 exact List.getElem_mem h
theorem GD(w:World)(A:Option Addr)(n c:Nat)(L:List Int)(hL:ZIn w A n L)(hn:n≤maxLen):Calls Tryz.prog 216 #[.slice A n c] w fun e w'=>e=.returned (.bool (decide (iG L)))∧w'=w:=by
 unfold maxLen at hn
 have h8:=hL.1
 have HL:=aa hL
 have h5:=aa h8
 have h6:Hid (∀ x∈L,(x<0∨1073741824<x)→decide (iG L)=false):=aa fun x hx h=>decide_eq_false fun hm=>by
  have:=hm.2.2 x hx
  omega
 have h4:Hid ((∀ x∈L,0≤x∧x≤1073741824)→decide (iG L)=(decide (2≤n)&&decide (n≤258))):=aa fun h=>by
  rw[← Bool.decide_and]
  refine decide_eq_decide.2 ⟨fun hm=> ?_,fun hm=> ?_⟩
  ·have:=hm.1
   have:=hm.2.1
   omega
  ·exact⟨by omega,by omega,h⟩
 clear hL h8
 generalize decide (iG L)=ans at*
 go_enter Tryz.func216,Tryz.ntmps216
 go_wp2_with fail
 go_loopw [3] (fun i wx=>∃q:Nat,q≤n∧i=.int .i64 q∧Hid (∀ x∈L.take q,0≤x∧x≤1073741824)∧wx=w) (fun i _=>n - (intOf i).toNat)
 case atStart=>exact⟨0,Nat.zero_le _,rfl,by simp[Hid],rfl⟩
 case round=>
  obtain⟨q,hq,rfl,hv,rfl⟩:=hrel
  by_cases e:q<n
  ·have dq:decide ((q:Int)<(n:Int))=true:=aC (by omega)
   obtain⟨b,off,rfl,hc⟩:=HL.out.2 (by omega)
   have hb:=hc q e
   have h7:=eH L q (by rw[h5.out];exact e)
   have h2:=fb L q (by rw[h5.out];exact e)
   obtain⟨x,hx⟩:∃x,x=L.getD q 0:=⟨_,rfl⟩
   rw[← hx]at hb h7 h2
   have h9:=aa h7
   have HM:=aa h2
   clear hc hx h7 h2
   by_cases e1:x<0
   ·have d1:decide (x<0)=true:=decide_eq_true e1
    have h0:=h6.out x HM.out (.inl e1)
    subst h0
    go_wp2_with fail
    go_ret
    exact⟨rfl,rfl⟩
   ·have d1:decide (x<0)=false:=decide_eq_false e1
    by_cases e2:1073741824<x
    ·have d2:decide (1073741824<x)=true:=decide_eq_true e2
     have h0:=h6.out x HM.out (.inr e2)
     subst h0
     go_wp2_with fail
     go_ret
     exact⟨rfl,rfl⟩
    ·have d2:decide (1073741824<x)=false:=decide_eq_false e2
     have h3:∀y∈L.take (q+1),0≤y∧y≤1073741824:=by
      rw[h9.out]
      intro y hy
      rcases List.mem_append.1 hy with hy | hy
      ·exact hv.out y hy
      ·rw[List.mem_singleton.1 hy]
       omega
     have ha:=aa h3
     clear h3
     go_wp2_with fail
     go_roundw
     case rel=>exact⟨q+1,by omega,by go_num,ha,trivial⟩
     case measure=>simp[intOf];omega
  ·obtain rfl:q=n:=by omega
   have dq:decide ((q:Int)<(q:Int))=false:=au (by omega)
   have h3:=hv.out
   rw[List.take_of_length_le (Nat.le_of_eq h5.out)]at h3
   have h0:=h4.out h3
   have d1:decide ((2:Int)≤(q:Int))=decide (2≤q):=decide_eq_decide.2 (by omega)
   have d2:decide ((q:Int)≤258)=decide (q≤258):=decide_eq_decide.2 (by omega)
   subst h0
   clear h3 h6 h4
   by_cases h1:2≤q
   ·have d3:decide (2≤q)=true:=decide_eq_true h1
    go_wp2_with fail
    go_ret
    exact⟨by simp[h1],rfl⟩
   ·have d3:decide (2≤q)=false:=decide_eq_false h1
    go_wp2_with fail
    go_ret
    exact⟨by simp[h1],rfl⟩
def m7(q:Nat)(ws ov:Nat→Nat)(at_:Int):Prop:=(at_= -1∧∀j,j<q→ov j≠0)∨∃a:Nat,at_=a∧a<q∧ov a=0∧∀j,j<q→ov j=0→j≠a→ws a<ws j∨(ws a=ws j∧a<j)
theorem Co(w:World)(A B:Option Addr)(k c d:Nat)(W O:List Nat)(hW:aT w A k W)(hO:aT w B k O)(hk:k≤10000)(h0:∃j,j<k∧O.getD j 0=0):
 Calls Tryz.prog 246 #[.slice A k c,.slice B k d] w fun e w'=>∃a:Nat,e=.returned (.int .i64 a)∧kE k (fun j=>W.getD j 0) (fun j=>O.getD j 0) a∧∃m,w'=w.drewN m:=by
 have HW:=aa hW
 have HO:=aa hO
 have H0:=aa h0
 obtain⟨ws,h8⟩:∃ws:Nat→Nat,ws=fun j=>W.getD j 0:=⟨_,rfl⟩
 obtain⟨ov,h7⟩:∃ov:Nat→Nat,ov=fun j=>O.getD j 0:=⟨_,rfl⟩
 have hb:=aa h8
 have h9:=aa h7
 have hP:Hid (∀ (a:Nat) (m:Nat),kE k ws ov a→(fun e w'=>∃a:Nat,e=Ending.returned (.int .i64 a)∧kE k (fun j=>W.getD j 0) (fun j=>O.getD j 0) a∧∃m,w'=w.drewN m) (.returned (.int .i64 a)) (w.drewN m)):=aa fun a m h=>⟨a,rfl,by rw[← h8,←h7];exact h,m,rfl⟩
 generalize (fun e w'=>∃a:Nat,e=Ending.returned (.int .i64 a)∧kE k (fun j=>W.getD j 0) (fun j=>O.getD j 0) a∧∃m,w'=w.drewN m)=PO at*
 clear hW hO h0 h8 h7
 go_enter Tryz.func246,Tryz.ntmps246
 go_wp2_with fail
 go_loopw [5,6] (fun v i wx=>∃(q:Nat) (at_:Int),q≤k∧i=.int .i64 q∧v=.int .i64 at_∧Hid (m7 q ws ov at_)∧∃m,wx=w.drewN m) (fun _ i _=>k - (intOf i).toNat)
 case atStart=>exact⟨0,-1,Nat.zero_le _,rfl,rfl,.inl ⟨rfl,fun j hj=>by omega⟩,0,rfl⟩
 case round=>
  obtain⟨q,at_,hq,rfl,rfl,hl,hd⟩:=hrel
  have HD:=aa hd
  by_cases e:q<k
  ·have dq:decide ((q:Int)<(k:Int))=true:=aC (by omega)
   obtain⟨b1,o1,rfl,h6⟩:=HW.out.2 (by omega)
   obtain⟨b2,o2,rfl,hc⟩:=HO.out.2 (by omega)
   have c1:wr.cell? ⟨b1,o1+q,none⟩=some (.int .i64 (ws q:Nat)):=by rw[hb.out];obtain⟨m,rfl⟩:=hd;exact h6 q e
   have c2:wr.cell? ⟨b2,o2+q,none⟩=some (.int .i64 (ov q:Nat)):=by rw[h9.out];obtain⟨m,rfl⟩:=hd;exact hc q e
   obtain⟨x,hx⟩:∃x,x=ov q:=⟨_,rfl⟩
   obtain⟨y,hy⟩:∃y,y=ws q:=⟨_,rfl⟩
   rw[← hx]at c2
   rw[← hy]at c1
   have HX:=aa hx
   have HY:=aa hy
   have h4:∀a:Nat,a<k→wr.cell? ⟨b1,o1+a,none⟩=some (.int .i64 (ws a:Nat)):=by
    intro a ha
    rw[hb.out]
    obtain⟨m,rfl⟩:=hd
    exact h6 a ha
   have he:=aa h4
   clear hx hy h6 hc hd h4
   by_cases e1:x=0
   ·subst e1
    rcases hl.out with⟨rfl,h3⟩ | ⟨a,rfl,ha,h5,h1⟩
    ·have d1:((((0:Nat):Int))==0)=true:=rfl
     have h2:Hid (m7 (q+1) ws ov (q:Int)):=aa (.inr ⟨q,rfl,Nat.lt_succ_self q,HX.out.symm,fun j hj h0 hne=>absurd h0 (h3 j (by omega))⟩)
     clear h3 hl
     go_wp2_with fail
     go_quiet (fail)
     go_wp2_with fail
     go_roundw
     case rel=>
      obtain⟨m,hm⟩:=HD.out
      exact⟨q+1,q,by omega,by go_num,rfl,h2,m+nq,by rw[hm];simp⟩
     case measure=>simp[intOf];omega
    ·have d1:((((0:Nat):Int))==0)=true:=rfl
     have ca:=he.out a (by omega)
     obtain⟨z,hz⟩:∃z,z=ws a:=⟨_,rfl⟩
     rw[← hz]at ca
     have HZ:=aa hz
     have d2:decide ((a:Int)<0)=false:=au (by omega)
     have hh:(a:Int)<(k:Int):=by omega
     clear hz
     by_cases e2:y<z
     ·have d3:decide ((y:Int)<(z:Int))=true:=aC (by omega)
      have h2:Hid (m7 (q+1) ws ov (q:Int)):=aa (.inr ⟨q,rfl,Nat.lt_succ_self q,HX.out.symm,fun j hj h0 hne=>by
       left
       rw[← HY.out]
       by_cases ej:j=a
       ·rw[ej,←HZ.out]
        exact e2
       ·have:=h1 j (by omega) h0 ej
        rw[← HZ.out]at this
        omega⟩)
      clear h1 hl
      go_wp2_with fail
      go_quiet (fail)
      go_wp2_with fail
      go_roundw
      case rel=>
       obtain⟨m,hm⟩:=HD.out
       exact⟨q+1,q,by omega,by go_num,rfl,h2,m+nq,by rw[hm];simp⟩
      case measure=>simp[intOf];omega
     ·have d3:decide ((y:Int)<(z:Int))=false:=au (by omega)
      have h2:Hid (m7 (q+1) ws ov (a:Int)):=aa (.inr ⟨a,rfl,by omega,h5,fun j hj h0 hne=>by
       by_cases ej:j=q
       ·rw[ej,←HY.out,←HZ.out]
        omega
       ·exact h1 j (by omega) h0 hne⟩)
      clear h1 hl
      go_wp2_with fail
      go_quiet (fail)
      go_wp2_with fail
      go_roundw
      case rel=>
       obtain⟨m,hm⟩:=HD.out
       exact⟨q+1,a,by omega,by go_num,rfl,h2,m+nq,by rw[hm];simp⟩
      case measure=>simp[intOf];omega
   ·have d1:((x:Int)==0)=false:=by
     rw[beq_eq_false_iff_ne]
     omega
    have h2:Hid (m7 (q+1) ws ov at_):=aa (by
     rcases hl.out with⟨rfl,h3⟩ | ⟨a,rfl,ha,h5,h1⟩
     ·exact .inl ⟨rfl,fun j hj=>by
       by_cases ej:j=q
       ·rw[ej,←HX.out]
        exact e1
       ·exact h3 j (by omega)⟩
     ·exact .inr ⟨a,rfl,by omega,h5,fun j hj h0 hne=>by
       by_cases ej:j=q
       ·rw[ej,←HX.out]at h0
        exact absurd h0 e1
       ·exact h1 j (by omega) h0 hne⟩)
    clear hl
    go_wp2_with fail
    go_quiet (fail)
    go_wp2_with fail
    go_roundw
    case rel=>
     obtain⟨m,hm⟩:=HD.out
     exact⟨q+1,at_,by omega,by go_num,rfl,h2,m+nq,by rw[hm];simp⟩
    case measure=>simp[intOf];omega
  ·obtain rfl:q=k:=by omega
   have dq:decide ((q:Int)<(q:Int))=false:=au (by omega)
   rcases hl.out with⟨rfl,h3⟩ | ⟨a,rfl,ha,h5,h1⟩
   ·exfalso
    obtain⟨j,hj,hg⟩:=H0.out
    exact h3 j hj (by rw[h9.out];exact hg)
   ·have hf:Hid (kE q ws ov a):=aa ⟨ha,h5,h1⟩
    obtain⟨m,rfl⟩:=hd
    clear h1 hl
    go_wp2_with fail
    exact hP.out a m hf.out
def bW(n:Nat)(f:Nat→Nat):List Value:=(List.range n).map fun j=>iv (f j)
theorem dF(n:Nat)(f:Nat→Nat):(bW n f).length=n:=by simp[bW]
theorem jR(n:Nat)(f:Nat→Nat)(i:Nat)(h:i<n):(bW n f)[i]? =some (iv (f i)):=by
 unfold bW
 rw[List.getElem?_map,List.getElem?_range h]
 rfl
theorem E3(n:Nat)(f:Nat→Nat)(i v:Nat):(bW n f).set i (iv v)=bW n fun j=>if j=i then v else f j:=by
 apply List.ext_getElem?
 intro j
 by_cases hj:j<n
 ·rw[jR n _ j hj]
  by_cases e:i=j
  ·subst e
   rw[List.getElem?_set_self (by rw[dF];exact hj),if_pos rfl]
  ·rw[List.getElem?_set_ne e,jR n f j hj,if_neg (fun h=>e h.symm)]
 ·rw[List.getElem?_eq_none (by rw[List.length_set,dF];omega),List.getElem?_eq_none (by rw[dF];omega)]
theorem bJ(n:Nat)(f g:Nat→Nat)(h:∀j,j<n→f j=g j):bW n f=bW n g:=by
 unfold bW
 refine List.map_congr_left fun j hj=> ?_
 rw[h j (List.mem_range.1 hj)]
theorem Bz(n:Nat)(f:Nat→Nat)(v:Nat):bW n f++ [iv v]=bW (n+1) fun j=>if j=n then v else f j:=by
 unfold bW
 rw[List.range_succ,List.map_append]
 congr 1
 ·refine List.map_congr_left fun j hj=> ?_
  have:=List.mem_range.1 hj
  show iv (f j)=iv (if j=n then v else f j)
  rw[if_neg (by omega)]
 ·simp
theorem nY(L:List Nat):L.map iv=bW L.length fun j=>L.getD j 0:=by
 apply List.ext_getElem?
 intro j
 by_cases hj:j<L.length
 ·rw[jR _ _ j hj,List.getElem?_map,List.getElem?_eq_getElem hj,List.getD_eq_getElem?_getD,List.getElem?_eq_getElem hj]
  rfl
 ·rw[List.getElem?_eq_none (by rw[List.length_map];omega),List.getElem?_eq_none (by rw[dF];omega)]
def aB(w:World)(B g c n:Nat)(f:Nat→Nat):Prop:=w.ownsRow B 3 1 (.slice (some ⟨g,0,none⟩) n c) n (bW n f)
theorem aB.cell{w:World}{B g c n:Nat}{f:Nat→Nat}(h:aB w B g c n f)(i:Nat)(hi:i<n):w.cell? ⟨g,i,none⟩=some (.int .i64 (f i:Nat)):=by
 rw[World.ownsRow.cellAt h i (by omega),jR n f i hi]
 rfl
theorem aB.frozen{w:World}{B g c n:Nat}{f:Nat→Nat}(h:aB w B g c n f)(i:Nat):w.frozen? ⟨g,i,none⟩=false:=World.ownsRow.frozenAt h i
theorem aB.set{w:World}{B g c n:Nat}{f:Nat→Nat}(h:aB w B g c n f)(i v:Nat):aB (w.setCell ⟨g,i,none⟩ (.int .i64 v)) B g c n fun j=>if j=i then v else f j:=by
 have:=(World.ownsRow.stored h i (iv v)).1
 rw[E3]at this
 exact this
theorem aB.other{w:World}{B g c n:Nat}{f:Nat→Nat}(h:aB w B g c n f){g2:Nat}(h0:g2≠g)(i:Nat)(v:Value):aB (w.setCell ⟨g2,i,none⟩ v) B g c n f:=by
 refine World.ownsRow.kept (row:=some g2) h ⟨rfl,rfl,rfl,by simp,fun k _ hk=>heap_setCell_other w ⟨g2,i,none⟩ k v (fun e=>hk (by simp[e]))⟩ (.inr ?_)
 intro e
 exact h0 (by simpa [Value.ownBlock]using e.symm)
theorem aB.grown{w w':World}{B g c n:Nat}{f:Nat→Nat}(h:aB w B g c n f){row:Option Nat}(hg:w.grownBy w' row)(h0:some g≠row):aB w' B g c n f:=
 World.ownsRow.kept h hg (.inr h0)
theorem aB.lt{w:World}{B g c n:Nat}{f:Nat→Nat}(h:aB w B g c n f):B≤g∧g<w.heap.size:=World.ownsRow.lt h g rfl
theorem aB.drew{w:World}{B g c n:Nat}{f:Nat→Nat}(h:aB w B g c n f)(m:Nat):aB (w.drewN m) B g c n f:=h
theorem aB.alloc{w:World}{B g c n:Nat}{f:Nat→Nat}(h:aB w B g c n f)(o:Obj):aB (w.alloc o) B g c n f:=World.ownsRow.alloc h o
theorem aB.ints{w:World}{B g c n:Nat}{f:Nat→Nat}(h:aB w B g c n f):aT w (some ⟨g,0,none⟩) n ((List.range n).map f):=by
 refine bR (B:=B) (cap:=c) ?_
 rw[List.map_map]
 exact h
theorem aB.below{w w':World}{B C g c n:Nat}{f:Nat→Nat}(h:aB w B g c n f)(hb:Below C w w')(hg:g<C):aB w' B g c n f:=by
 rcases h.2 with⟨h',_⟩ | ⟨g',cap',cur,h',hB,h0,rest⟩
 ·simp at h'
 ·simp only[Value.slice.injEq,Option.some.injEq,Addr.mk.injEq,and_true,true_and]at h'
  obtain⟨rfl,rfl⟩:=h'
  exact⟨h.1,.inr ⟨g,c,cur,rfl,hB,(hb.block g hg).trans h0,rest⟩⟩
theorem cI(n:Nat)(f:Nat→Nat)(j:Nat)(h:j<n):((List.range n).map f).getD j 0=f j:=by
 rw[List.getD_eq_getElem?_getD,List.getElem?_map,List.getElem?_range h]
 rfl
theorem a9(w:World)(B n:Nat)(hB:B≤w.heap.size)(hn:n≤1000000):aB (w.alloc (.cells (madeCells #[.int .i64 0] n) 3)) B w.heap.size n n fun _=>0:=by
 refine⟨by rw[dF,Nat.mul_one],.inr ⟨w.heap.size,n,_,rfl,hB,heap_alloc_new w _,Nat.le_refl _,by unfold maxLen;omega,by rw[size_madeCells,Nat.mul_one],?_⟩⟩
 rw[toList_madeCells_one,Nat.mul_one,List.take_of_length_le (by simp)]
 unfold bW
 rw[List.map_const',List.length_range]
 rfl
theorem bq(w:World)(n:Nat)(hn:n≤1000000):(Instr.makeSlice 36 (.int .i64 n) (.int .i64 n)).run Tryz.prog w=.ok (.slice (some ⟨w.heap.size,0,none⟩) n n) (w.alloc (.cells (madeCells #[.int .i64 0] n) 3)):=by
 obtain⟨i3,h3,h0,h1,h2⟩:=info_parts Tryz.info3
 have h:=run_make (P:=Tryz.prog) w 36 3 i3 (.int .i64 0) Tryz.underlying36 h3 h0 .i64 .i64 (n:Int) (n:Int) (by omega) (by omega) (by rw[h2];omega) (by omega)
 rw[h1,Int.toNat_natCast,Nat.mul_one]at h
 exact h
theorem rA(w:World)(B g c n:Nat)(f:Nat→Nat)(h:aB w B g c n f)(x:Nat)(hn:n≤1000000)(hB:B≤w.heap.size):
 ∃g2 c2 w2,(Builtin.append_ #[36,36] 36 #[.slice (some ⟨g,0,none⟩) n c,.slice (some ⟨w.heap.size,0,none⟩) 1 1]).run Tryz.prog (w.alloc (.cells #[.int .i64 x] 3))=.ok (.slice (some ⟨g2,0,none⟩) (n+1) c2) w2∧
  aB w2 B g2 c2 (n+1) (fun j=>if j=n then x else f j)∧(w.alloc (.cells #[.int .i64 x] 3)).grownBy w2 (some g)∧(g2=g∨w.heap.size<g2):=by
 obtain⟨i3,h3,h1,h2,h4⟩:=info_parts Tryz.info3
 obtain⟨v2,w2,hr,ho,hg,_,h0⟩:=run_append_own_at (P:=Tryz.prog) (w.alloc (.cells #[.int .i64 x] 3)) B 36 36 3 i3 (.int .i64 0) 1 8 Tryz.underlying36 h3 h1 h2 h4 rfl (by decide) _ _ _ (h.alloc _) ⟨w.heap.size,0,none⟩ 1 1 [iv x] rfl (cH w (iv x) 3)
  (fun u hu=>by rw[List.mem_singleton.1 hu];rfl) (by unfold maxLen;omega) (by omega) (by simp;omega)
 obtain⟨A,c2,rfl,hc,hm,hA⟩:=aq ho
 obtain⟨g2,rfl⟩:=hA (by omega)
 rw[Bz]at ho
 refine⟨g2,c2,w2,hr,ho,hg,?_⟩
 rcases h0 with e | e
 ·left
  simpa [Value.ownBlock]using e
 ·right
  have:g2=(w.alloc (.cells #[.int .i64 x] 3)).heap.size:=by simpa [Value.ownBlock]using e
  rw[this]
  simp
def vL(n:Nat)(f:Nat→Nat)(g:Nat):Prop:=(∀ i,i<n→f i≤g)∧∃i,i<n∧f i=g
theorem vb(w:World)(A:Option Addr)(n c:Nat)(L:List Nat)(hL:aT w A n L)(h1:1≤n)(hn:n≤1000000):Calls Tryz.prog 218 #[.slice A n c] w fun e w'=>∃g:Nat,e=.returned (.int .i64 g)∧vL n (fun i=>L.getD i 0) g∧w'=w:=by
 obtain⟨b,off,rfl,hc⟩:=hL.2 (by omega)
 obtain⟨f,hf⟩:∃f:Nat→Nat,f=fun i=>L.getD i 0:=⟨_,rfl⟩
 have h0:∀i,i<n→w.cell? ⟨b,off+i,none⟩=some (.int .i64 (f i:Nat)):=by rw[hf];exact hc
 rw[← hf]
 have HC:=aa h0
 have c0:=h0 0 (by omega)
 rw[Nat.add_zero]at c0
 obtain⟨y,hy⟩:∃y,y=f 0:=⟨_,rfl⟩
 rw[← hy]at c0
 have HY:=aa hy
 have h4:(0:Int)<(n:Int):=by omega
 have hP:Hid (∀ g:Nat,vL n f g→(fun e w'=>∃g:Nat,e=Ending.returned (.int .i64 g)∧vL n f g∧w'=w) (.returned (.int .i64 g)) w):=aa fun g h=>⟨g,rfl,h,rfl⟩
 generalize (fun e w'=>∃g:Nat,e=Ending.returned (.int .i64 g)∧vL n f g∧w'=w)=PO at*
 clear hL hc hf h0 hy
 go_enter Tryz.func218,Tryz.ntmps218
 go_wp2_with fail
 go_loopw [3,4] (fun v i wx=>∃q g:Nat,q≤n∧i=.int .i64 q∧v=.int .i64 g∧Hid ((∀ i,i<q→f i≤g)∧∃i,i<n∧f i=g)∧wx=w) (fun _ i _=>n - (intOf i).toNat)
 case atStart=>exact⟨0,y,Nat.zero_le _,rfl,rfl,⟨fun i hi=>by omega,0,by omega,HY.out.symm⟩,rfl⟩
 case round=>
  obtain⟨q,g,hq,rfl,rfl,hm,rfl⟩:=hrel
  by_cases e:q<n
  ·have dq:decide ((q:Int)<(n:Int))=true:=aC (by omega)
   have cq:=HC.out q e
   obtain⟨x,hx⟩:∃x,x=f q:=⟨_,rfl⟩
   rw[← hx]at cq
   have HX:=aa hx
   clear hx
   by_cases e2:g<x
   ·have d2:decide ((g:Int)<(x:Int))=true:=aC (by omega)
    have HM:Hid ((∀ i,i<q+1→f i≤x)∧∃i,i<n∧f i=x):=aa ⟨fun i hi=>by
     by_cases ei:i=q
     ·rw[ei,←HX.out]
      exact Nat.le_refl _
     ·have:=hm.out.1 i (by omega)
      omega,q,e,HX.out.symm⟩
    have h3:(if(g:Int)<(x:Int)then(x:Int)else(g:Int))=(x:Int):=if_pos (by omega)
    have h2:(if(g:Int)≤(x:Int)then(x:Int)else(g:Int))=(x:Int):=if_pos (by omega)
    clear hm
    go_wp2_with fail
    go_roundw
    case rel=>exact⟨q+1,x,by omega,by go_num,by go_num,HM,trivial⟩
    case measure=>simp[intOf];omega
   ·have d2:decide ((g:Int)<(x:Int))=false:=au (by omega)
    have HM:Hid ((∀ i,i<q+1→f i≤g)∧∃i,i<n∧f i=g):=aa ⟨fun i hi=>by
     by_cases ei:i=q
     ·rw[ei,←HX.out]
      omega
     ·exact hm.out.1 i (by omega),hm.out.2⟩
    clear hm
    go_wp2_with fail
    go_roundw
    case rel=>exact⟨q+1,g,by omega,by go_num,by go_num,HM,trivial⟩
    case measure=>simp[intOf];omega
  ·obtain rfl:q=n:=by omega
   have dq:decide ((q:Int)<(q:Int))=false:=au (by omega)
   have HM:Hid (vL q f g):=aa hm.out
   clear hm
   go_wp2_with fail
   exact hP.out g HM.out
theorem zu{k:Nat}{ws ov ws2 ov2:Nat→Nat}{a:Nat}(h:kE k ws ov a)(hw:∀j,j<k→ws2 j=ws j)(ho:∀j,j<k→ov2 j=ov j):kE k ws2 ov2 a:=by
 refine⟨h.1,by rw[ho a h.1];exact h.2.1,fun j hj h0 hne=> ?_⟩
 rw[hw a h.1,hw j hj]
 exact h.2.2 j hj (by rw[← ho j hj];exact h0) hne
theorem tA(w:World)(B gW cW gO cO k:Nat)(ws ov:Nat→Nat)(hW:aB w B gW cW k ws)(hO:aB w B gO cO k ov)(hk:k≤10000)(h0:∃j,j<k∧ov j=0):
 Calls Tryz.prog 246 #[.slice (some ⟨gW,0,none⟩) k cW,.slice (some ⟨gO,0,none⟩) k cO] w fun e w'=>∃a:Nat,e=.returned (.int .i64 a)∧kE k ws ov a∧∃m,w'=w.drewN m:=by
 obtain⟨j0,h1,h2⟩:=h0
 refine(Co w _ _ k cW cO _ _ hW.ints hO.ints hk ⟨j0,h1,by rw[cI k ov j0 h1];exact h2⟩).mono ?_
 rintro e w' ⟨a,rfl,hl,hd⟩
 exact⟨a,rfl,zu hl (fun j hj=>(cI k ws j hj).symm) (fun j hj=>(cI k ov j hj).symm),hd⟩
theorem Dp{n k:Nat}{w:List Nat}{ws ov:Nat→Nat}{act:List Tr}{len:Nat→Nat}(h:iY n w k ws ov act len):∀j,k≤j→ov j=0:=by
 intro j hj
 by_cases e:ov j=0
 ·exact e
 ·have:=h.par j e
  omega
theorem IN{ov:Nat→Nat}(hp:∀j,ov j≠0→j<ov j){i j d:Nat}(h:Up ov i j d):i+d≤j:=by
 induction h with
 | here=>exact Nat.le_refl _
 | next h h0 ih=>
   have:=hp _ h0
   omega
def Iq(w wx:World)(n:Nat)(W:List Nat)(s:Nat)(v3 v4:Value):Prop:=∃(k gW cW gO cO:Nat) (ws ov:Nat→Nat) (act:List Tr) (len:Nat→Nat),k+1=n+s∧v3=.slice (some ⟨gW,0,none⟩) k cW∧v4=.slice (some ⟨gO,0,none⟩) k cO∧gW≠gO∧
 aB wx w.heap.size gW cW k ws∧aB wx w.heap.size gO cO k ov∧iY n W k ws ov act len∧Below w.heap.size w wx
def nX(w:World)(n:Nat)(W:List Nat)(e:Ending)(w':World):Prop:=∃(g c:Nat) (len:Nat→Nat),j8 W len∧e=.returned (.slice (some ⟨g,0,none⟩) n c)∧aB w' w.heap.size g c n len∧Below w.heap.size w w'
theorem Cy(w:World)(A:Option Addr)(n c:Nat)(W:List Nat)(hL:aT w A n W)(h1:1≤n)(hn:n≤258)(hZ:W.sum≤1099511627776):Calls Tryz.prog 217 #[.slice A n c] w (nX w n W):=by
 have hz:=hL.1
 have hf:(w.alloc (.cells #[] 3)).ownsRow w.heap.size 3 1 (.slice (some ⟨w.heap.size,0,none⟩) 0 0) 0 []:=World.ownsRow_made w #[] 0 (ah _) (Nat.zero_le _) rfl
 have HQ:Below w.heap.size w (w.alloc (.cells #[] 3)):=(Below.refl _ w).alloc (ah _) _
 obtain⟨v3,w3,p1,HA,r3⟩:=iW (w.alloc (.cells #[] 3)) w.heap.size _ 0 [] hf A n c W (cU hL HQ) (by omega) (by simp)
 have H5:Below w.heap.size w w3:=HQ.grown r3 (by simp) (fun k hk=>(hf.lt k hk).1)
 obtain⟨A3,c3,rfl,r0,_,q4⟩:=aq HA
 obtain⟨g3,rfl⟩:=q4 (by omega)
 rw[Nat.zero_add]at HA p1 r0
 have HT:aB w3 w.heap.size g3 c3 n fun j=>W.getD j 0:=by
  have:=HA
  rw[List.nil_append,nY,hz]at this
  exact this
 have rs:=bq w3 n (by omega)
 have rv:=a9 w3 w.heap.size n H5.size (by omega)
 have r2:=HT.alloc (.cells (madeCells #[.int .i64 0] n) 3)
 have ql:Below w.heap.size w (w3.alloc (.cells (madeCells #[.int .i64 0] n) 3)):=H5.alloc H5.size _
 have hh:Iq w (w3.alloc (.cells (madeCells #[.int .i64 0] n) 3)) n W 1 (.slice (some ⟨g3,0,none⟩) n c3) (.slice (some ⟨w3.heap.size,0,none⟩) n n):=by
  have rb:=pA W (by omega)
  rw[hz]at rb
  exact⟨n,g3,c3,w3.heap.size,n,_,_,_,_,rfl,rfl,rfl,by have:=HT.lt;omega,r2,rv,rb,ql⟩
 have HH:=aa p1
 have HI:=aa hh
 have hv:=aa hZ
 clear hL hz hf HQ p1 HA r3 H5 HT rv r2 ql hh hZ q4 r0
 go_enter Tryz.func217,Tryz.ntmps217
 go_wp2_with (at_builtin;refine Lib.wpList_append_run _ rfl (.tmp 12) (.tmp 13) 36 36 rfl (.slice (some ⟨w.heap.size,0,none⟩) 0 0) (.slice A n c) rfl rfl _ w3 HH.out ?_)
 go_loopw [3,4,5] (fun a b x wx=>∃s:Nat,1≤s∧s≤n∧x=.int .i64 s∧Iq w wx n W s a b) (fun _ _ x _=>n - (intOf x).toNat)
 case atStart=>exact⟨1,Nat.le_refl _,h1,rfl,HI.out⟩
 case round=>
  obtain⟨s,te,tm,rfl,k,gW,cW,gO,cO,ws,ov,act,len,rl,rfl,rfl,H8,H7,h4,hC,hb⟩:=hrel
  have HC:=hb.size
  by_cases e:s<n
  ·have ds:decide ((s:Int)<(n:Int))=true:=aC (by omega)
   have p3:=ou hC (by omega)
   obtain⟨p,q,hp,hq,sn,HZ,rO⟩:=p3
   have po:=aa (tA wr w.heap.size gW cW gO cO k ws ov H7 h4 (by omega) ⟨p,hp,HZ⟩)
   have pk:=aa H7
   have hF:=aa h4
   have HG:=aa hC
   have HB:=aa hb
   clear H7 h4 hC hb
   go_wp2_with fail
   refine po.out.mono ?_
   rintro e w1 ⟨a,rfl,HY,m1,rfl⟩
   have HF:=aa HY
   have ha:a<k:=HY.1
   have hQ:=pk.out.drew m1
   have h8:=hF.out.drew m1
   have pb:=aa (aL HB.out m1)
   have st:w.heap.size≤(wr.drewN m1).heap.size:=HC
   have H6:=h8.cell a ha
   have HU:=h8.frozen a
   have sx:(0:Int)≤(a:Int):=by omega
   have sT:(a:Int)<(k:Int):=by omega
   have q5:=h8.set a k
   have q9:=hQ.other (g2:=gO) (fun h=>H8 h.symm) a (.int .i64 k)
   have r4:=h8.lt
   have H2:=aa q5
   have HJ:=aa q9
   have hD:=aa (pb.out.setCell (p:=⟨gO,a,none⟩) r4.1 (.int .i64 k))
   obtain⟨ov1,he⟩:∃ov1:Nat→Nat,ov1=fun j=>if j=a then k else ov j:=⟨_,rfl⟩
   have hs:∃j,j<k∧ov1 j=0:=by
    by_cases e1:p=a
    ·exact⟨q,hq,by rw[he];show(if q=a then k else ov q)=0;rw[if_neg (fun h=>sn (e1.trans h.symm))];exact rO⟩
    ·exact⟨p,hp,by rw[he];show(if p=a then k else ov p)=0;rw[if_neg e1];exact HZ⟩
   rw[← he]at H2
   have h7:=aa he
   have q1:=aa hs
   clear hQ h8 q5 q9 HY he hs HZ rO po pk hF HB
   go_wp2_with fail
   generalize (wr.drewN m1).setCell ⟨gO,a,none⟩ (.int .i64 k)=w2 at*
   have pr:=aa (tA w2 w.heap.size gW cW gO cO k ws ov1 HJ.out H2.out (by omega) q1.out)
   refine pr.out.mono ?_
   rintro e w4 ⟨b,rfl,hU,m2,rfl⟩
   have ps:=aa hU
   have hb:b<k:=hU.1
   have hR:=HJ.out.drew m2
   have h9:=H2.out.drew m2
   have hE:=aa (aL hD.out m2)
   have HS:=h9.cell b hb
   have HV:=h9.frozen b
   have t0:(0:Int)≤(b:Int):=by omega
   have t1:(b:Int)<(k:Int):=by omega
   have HL:=h9.set b k
   have qa:=hR.other (g2:=gO) (fun h=>H8 h.symm) b (.int .i64 k)
   obtain⟨ov2,hm⟩:∃ov2:Nat→Nat,ov2=fun j=>if j=b then k else if j=a then k else ov j:=⟨_,rfl⟩
   have hK:aB ((w2.drewN m2).setCell ⟨gO,b,none⟩ (.int .i64 k)) w.heap.size gO cO k ov2:=by
    rw[h7.out]at HL
    rw[hm]
    exact HL
   have qs:b≠a:=by
    intro h
    have:=hU.2.1
    rw[h7.out,h]at this
    have h3:(if a=a then k else ov a)=0:=this
    rw[if_pos rfl]at h3
    omega
   have rM:ov b=0:=by
    have:=hU.2.1
    rw[h7.out]at this
    have h3:(if b=a then k else ov b)=0:=this
    rwa [if_neg qs]at h3
   have s0:=o5 HG.out ha hb (fun h=>qs h.symm) HF.out.2.1 rM
   obtain⟨x,hx⟩:∃x,x=ws a+ws b:=⟨_,rfl⟩
   have tq:x≤1099511627776:=Nat.le_trans (by rw[hx];exact s0) hv.out
   obtain⟨xa,s1⟩:∃xa,xa=ws a:=⟨_,rfl⟩
   obtain⟨xb,H0⟩:∃xb,xb=ws b:=⟨_,rfl⟩
   have ts:(xa:Int)+(xb:Int)=(x:Int):=by omega
   have r5:=qi HG.out HF.out h7.out ps.out hm
   have pm:Hid (∃ act2 len2,iY n W (k+1) (fun j=>if j=k then x else ws j) (fun j=>if j=k then 0 else ov2 j) act2 len2):=aa (by
    obtain⟨act2,len2,h⟩:=r5
    have e2:(fun j=>if j=k then 0 else ov2 j)=ov2:=by
     funext j
     by_cases ej:j=k
     ·rw[if_pos ej,ej,hm]
      show 0=if k=b then k else if k=a then k else ov k
      rw[if_neg (by omega),if_neg (by omega),Dp HG.out k (ah _)]
     ·rw[if_neg ej]
    rw[e2,hx]
    exact⟨act2,len2,h⟩)
   have hS:=h9.lt
   have q0:=aa hK
   have H3:=aa qa
   have HD:=aa (hE.out.setCell (p:=⟨gO,b,none⟩) hS.1 (.int .i64 k))
   have ta:k≤600:=by omega
   have s7:=aa s1
   have s8:=aa H0
   clear HL hK qa hU hm rM s0 hx r5 s1 H0 r4 hS HF ps HG H2 HJ hD h7 q1 hv HI HH rs st HC H6 HU pb pr
   go_upto_region 11 with fail
   generalize (w2.drewN m2).setCell ⟨gO,b,none⟩ (.int .i64 k)=w5 at*
   have ca:=H3.out.cell a ha
   have cb:=H3.out.cell b hb
   rw[← s7.out]at ca
   rw[← s8.out]at cb
   have p5:w.heap.size≤w5.drew.heap.size:=HD.out.size
   have HN:aB w5.drew w.heap.size gW cW k ws:=H3.out
   have H4:aB w5.drew w.heap.size gO cO k ov2:=q0.out
   have pf:=aa HD.out.drew
   have s4:=aa H4
   obtain⟨g6,c6,w6,r6,HO,HW,hM⟩:=rA w5.drew w.heap.size gW cW k ws HN x (by omega) p5
   have HM:aB w6 w.heap.size gO cO k ov2:=(H4.alloc _).grown HW (fun h=>H8 (by simpa using h.symm))
   have hA:g6≠gO:=by
    rcases hM with h | h
    ·rw[h]
     exact H8
    ·have:=H4.lt
     omega
   have HR:Below w.heap.size w w6:=(pf.out.alloc p5 _).grown HW (Nat.le_trans p5 (by simp)) (fun k hk=>by
    have:k=gW:=by simpa using hk.symm
    rw[this]
    exact HN.lt.1)
   have s3:=HR.size
   obtain⟨g7,c7,w7,r7,q8,HX,hN⟩:=rA w6 w.heap.size gO cO k ov2 HM 0 (by omega) s3
   have qb:aB w7 w.heap.size g6 c6 (k+1) (fun j=>if j=k then x else ws j):=(HO.alloc _).grown HX (fun h=>hA (by simpa using h))
   have hW:g6≠g7:=by
    rcases hN with h | h
    ·rw[h]
     exact hA
    ·have:=HO.lt
     omega
   have qm:Below w.heap.size w w7:=(HR.alloc s3 _).grown HX (by simp;omega) (fun k hk=>by
    have:k=gO:=by simpa using hk.symm
    rw[this]
    exact HM.lt.1)
   have R6:=aa r6
   have R7:=aa r7
   have hJ:Hid (Iq w w7 n W (s+1) (.slice (some ⟨g6,0,none⟩) (k+1) c6) (.slice (some ⟨g7,0,none⟩) (k+1) c7)):=aa (by
    obtain⟨act2,len2,hg⟩:=pm.out
    exact⟨k+1,g6,c6,g7,c7,_,_,act2,len2,by omega,rfl,rfl,hW,qb,q8,hg,qm⟩)
   have s6:(Builtin.append_ #[36,36] 36 #[.slice (some ⟨gW,0,none⟩) k cW,.slice (some ⟨w5.heap.size,0,none⟩) 1 1]).run Tryz.prog (w5.alloc (.cells #[.int .i64 x] 3)).drew=.ok (.slice (some ⟨g6,0,none⟩) (k+1) c6) w6:=r6
   have tn:IntKind.i64.wrap (x:Int)=(x:Int):=by rw[IntKind.wrap_i64];omega
   have p2:s+1≤n:=by omega
   clear HN H4 r6 HO HW hM HM hA HR r7 q8 HX hN qb hW qm pm H3 q0 HD pf s4 hE hR h9 HS HV R6 rl
   go_region_law (refine pD (v':=.slice (some ⟨g6,0,none⟩) (k+1) c6) (w':=w6) rfl (.tmp 40) (.tmp 50) 36 rfl (.slice (some ⟨gW,0,none⟩) k cW) (.slice (some ⟨w5.heap.size,0,none⟩) 1 1) rfl rfl ?hr ?_;case hr=>(dsimp only;with_reducible exact s6))
   go_wp2_with (at_builtin;refine Lib.wpList_append_run _ rfl (.tmp 52) (.tmp 53) 36 36 rfl (.slice (some ⟨gO,0,none⟩) k cO) (.slice (some ⟨w6.heap.size,0,none⟩) 1 1) rfl rfl _ w7 R7.out ?_)
   all_goals (
    go_roundw
    case rel=>exact⟨s+1,by omega,p2,by go_num,hJ.out⟩
    case measure=>simp[intOf];omega)
  ·obtain rfl:s=n:=by omega
   have ds:decide ((s:Int)<(s:Int))=false:=au (by omega)
   clear hv HI HH rs
   have hP:=sZ hC (by omega)
   have hY:=hC.par
   have HC:=hb.size
   have hV:=bq wr s (by omega)
   have hX:=a9 wr w.heap.size s hb.size (by omega)
   have hO:=h4.alloc (.cells (madeCells #[.int .i64 0] s) 3)
   have qo:Below w.heap.size w (wr.alloc (.cells (madeCells #[.int .i64 0] s) 3)):=hb.alloc hb.size _
   have hT:gO≠wr.heap.size:=by have:=h4.lt;omega
   have ht:=aa hP
   have hl:=aa hY
   have HK:=aa hX
   have pv:=aa hO
   have pg:=aa qo
   obtain⟨gX,hB⟩:∃gX,gX=wr.heap.size:=⟨_,rfl⟩
   rw[← hB]at HK hV hT
   have sv:=aa hB
   clear hP hY hX hO qo H7 h4 hC hb HC hB
   go_wp2_with fail
   clear hV
   have pj:Hid (∀ i c j,i<s→Up ov i j c→ov j=0→c=len i):=aa fun i c j hi hu h0=>by
    obtain⟨r,hr,so⟩:=ht.out.2 i hi
    exact hu.ends h0 hr so
   have q3:Hid (∀ i j c,Up ov i j c→i+c≤j):=aa fun i j c hu=>IN (fun j h0=>(hl.out j h0).1) hu
   have HP:Hid (∀ w',aB w' w.heap.size gX s s len→Below w.heap.size w w'→nX w s W (.returned (.slice (some ⟨gX,0,none⟩) s s)) w'):=aa fun w' h2 h3=>⟨gX,s,len,ht.out.1,rfl,h2,h3⟩
   have sm:k≤600:=by omega
   have tl:s≤k:=by omega
   generalize nX w s W=PO at*
   clear ht rl
   go_loopw [10,11] (fun x z wx=>∃i:Nat,i≤s∧x=.int .i64 i∧aB wx w.heap.size gX s s (fun j=>if j<i then len j else 0)∧aB wx w.heap.size gO cO k ov∧Below w.heap.size w wx) (fun x _ _=>s - (intOf x).toNat)
   case atStart=>
    refine⟨0,Nat.zero_le _,rfl,?_,pv.out,pg.out⟩
    have e0:(fun j=>if j<0 then len j else 0)=fun _=>0:=by
     funext j
     rw[if_neg (by omega)]
    rw[e0]
    exact HK.out
   case round=>
    clear HK pv pg
    rename World=>w2
    obtain⟨i,hi,rfl,h6,h4,hb⟩:=hrel
    have pl:=aa h6
    have hF:=aa h4
    have HB:=aa hb
    by_cases e:i<s
    ·have di:decide ((i:Int)<(s:Int))=true:=aC (by omega)
     have ci:=h4.cell i (by omega)
     have t4:(i:Int)<(k:Int):=by omega
     have t3:(0:Int)≤(i:Int):=by omega
     obtain⟨y0,p4⟩:∃y0,y0=ov i:=⟨_,rfl⟩
     rw[← p4]at ci
     have s9:=aa p4
     clear h6 h4 hb p4
     go_wp2_with fail
     go_loopw [11] (fun z wx=>∃c j y:Nat,j<k∧Hid (Up ov i j c)∧Hid (y=ov j)∧z=.int .i64 y∧aB wx w.heap.size gX s s (fun j=>if j=i then c else if j<i then len j else 0)∧aB wx w.heap.size gO cO k ov∧Below w.heap.size w wx) (fun z _=>if intOf z=0 then 0 else k+1 - (intOf z).toNat)
     case atStart=>
      refine⟨0,i,y0,by omega,.here i,s9.out,rfl,?_,hF.out,HB.out⟩
      have e0:(fun j=>if j=i then 0 else if j<i then len j else 0)=fun j=>if j<i then len j else 0:=by
       funext j
       by_cases ej:j=i
       ·rw[if_pos ej,if_neg (by omega)]
       ·rw[if_neg ej]
      rw[e0]
      exact pl.out
     case round=>
      rename World=>w6
      obtain⟨c,j,y,t5,hu,hy,rfl,h6,h4,hb⟩:=hrel
      have hH:=aa h6
      have HE:=aa h4
      have hD:=aa hb
      by_cases e3:y=0
      ·subst e3
       have hc:=pj.out i c j e hu.out hy.out.symm
       have ho:(fun j=>if j=i then c else if j<i then len j else 0)=fun j=>if j<i+1 then len j else 0:=by
        funext j'
        by_cases ej:j'=i
        ·rw[if_pos ej,if_pos (by omega),ej,hc]
        ·rw[if_neg ej]
         by_cases ej2:j'<i
         ·rw[if_pos ej2,if_pos (by omega)]
         ·rw[if_neg ej2,if_neg (by omega)]
       rw[ho]at hH
       clear h6 h4 hb hu hy hc ho
       go_wp2_with fail
       go_roundw
       case rel=>exact⟨i+1,by omega,by go_num,hH.out,HE.out,hD.out⟩
       case measure=>simp[intOf];omega
      ·have dy:((y:Int)==0)=false:=by
        rw[beq_eq_false_iff_ne]
        omega
       have p0:=hl.out j (by rw[← hy.out];exact e3)
       rw[← hy.out]at p0
       have s2:y<k:=p0.2
       have sl:=q3.out i j c hu.out
       have cx:=h6.cell i e
       have fx:=h6.frozen i
       rw[if_pos rfl]at cx
       have hB:=h6.lt
       have rR:Up ov i y (c+1):=hu.out.of_eq hy.out.symm e3
       have q2:=aa rR
       have h5:=h6.set i (c+1)
       have ho:(fun j'=>if j'=i then c+1 else if j'=i then c else if j'<i then len j' else 0)=fun j'=>if j'=i then c+1 else if j'<i then len j' else 0:=by
        funext j'
        by_cases ej:j'=i
        ·rw[if_pos ej,if_pos ej]
        ·rw[if_neg ej,if_neg ej,if_neg ej]
       rw[ho]at h5
       have hw:=h4.other (g2:=gX) (fun h=>hT h.symm) i (.int .i64 ((c+1:Nat):Int))
       have cy:=hw.cell y s2
       obtain⟨y2,H1⟩:∃y2,y2=ov y:=⟨_,rfl⟩
       rw[← H1]at cy
       have sa:=aa H1
       have ss:y2=0∨(y<y2∧y2<k):=by
        by_cases e4:y2=0
        ·exact .inl e4
        ·right
         have:=hl.out y (by rw[← H1];exact e4)
         rw[← H1]at this
         exact this
       have tg:(i:Int)<(s:Int):=by omega
       have tt:(0:Int)≤(y:Int):=by omega
       have tv:(y:Int)<(k:Int):=by omega
       have r1:c≤600:=by omega
       have hI:=aa h5
       have hG:=aa hw
       have hE:=aa (hD.out.setCell (p:=⟨gX,i,none⟩) hB.1 (.int .i64 ((c+1:Nat):Int)))
       clear h6 h4 hb hu hy p0 h5 hw ho rR H1 hB sl
       obtain⟨c1,H6⟩:∃c1,c1=c+1:=⟨_,rfl⟩
       rw[← H6]at hI hG hE q2 cy
       have t2:(c:Int)+1=(c1:Int):=by omega
       clear H6
       go_wp2_with fail
       go_roundw
       case rel=>exact⟨c1,y,y2,s2,q2,sa,rfl,hI.out,hG.out,hE.out⟩
       case measure=>
        show(if((y2:Nat):Int)=0 then 0 else k+1 - ((y2:Nat):Int).toNat)<(if((y:Nat):Int)=0 then 0 else k+1 - ((y:Nat):Int).toNat)
        rw[Int.toNat_natCast,Int.toNat_natCast]
        split <;>split <;>omega
    ·obtain rfl:i=s:=by omega
     have di:decide ((i:Int)<(i:Int))=false:=au (by omega)
     have ho:bW i (fun j=>if j<i then len j else 0)=bW i len:=bJ i _ _ fun j hj=>if_pos hj
     have h5:aB w2 w.heap.size gX i i len:=by
      have h3:w2.ownsRow w.heap.size 3 1 (.slice (some ⟨gX,0,none⟩) i i) i (bW i fun j=>if j<i then len j else 0):=h6
      rw[ho]at h3
      exact h3
     have s5:=aa (HP.out w2 h5 hb)
     clear h6 h4 hb ho h5 pl hF HB HP pj q3 hl
     go_wp2_with fail
     exact s5.out
end Go.Proofs.YthakcjehhlpjnaaGreat
