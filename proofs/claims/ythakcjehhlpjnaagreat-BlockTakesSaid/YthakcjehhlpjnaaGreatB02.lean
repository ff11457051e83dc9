import Derived.Test.YthakcjehhlpjnaaGreatB01
import Derived.Laws.OwnMore
import Derived.Laws.MakeOwn
import Derived.Deep.Onto
import Derived.Lib.AppendZeros
import Derived.Deep.RegionLaw
import Derived.Deep.CutRange
set_option maxHeartbeats 3200000
set_option maxRecDepth 100000
namespace Go.Proofs.YthakcjehhlpjnaaGreat
open Go.RowKit
def iM(L:List Int):Prop:=2≤L.length∧L.length≤258∧∀x∈L,0≤x∧x≤1073741824
instance (L:List Int):Decidable (iM L):=inferInstanceAs (Decidable (_∧_))
theorem dD(L:List Int)(q:Nat)(h:q<L.length):L.take (q+1)=L.take q++ [L.getD q 0]:=by
 rw[List.take_succ_eq_append_getElem h,List.getD_eq_getElem?_getD,List.getElem?_eq_getElem h]
 rfl
theorem dP(L:List Int)(q:Nat)(h:q<L.length):L.getD q 0∈L:=by
 rw[List.getD_eq_getElem?_getD,List.getElem?_eq_getElem h]
 exact List.getElem_mem h
theorem vG(w:World)(A:Option Addr)(n c:Nat)(L:List Int)(hL:ZIn w A n L)(hn:n≤maxLen):Calls Tryz.prog 216 #[.slice A n c] w fun e w'=>e=.returned (.bool (decide (iM L)))∧w'=w:=by
 unfold maxLen at hn
 have h8:=hL.1
 have HL:=aa hL
 have h5:=aa h8
 have h6:Hid (∀ x∈L,(x<0∨1073741824<x)→decide (iM L)=false):=aa fun x hx h=>decide_eq_false fun hm=>by
  have:=hm.2.2 x hx
  omega
 have h4:Hid ((∀ x∈L,0≤x∧x≤1073741824)→decide (iM L)=(decide (2≤n)&&decide (n≤258))):=aa fun h=>by
  rw[← Bool.decide_and]
  refine decide_eq_decide.2 ⟨fun hm=> ?_,fun hm=> ?_⟩
  ·have:=hm.1
   have:=hm.2.1
   omega
  ·exact⟨by omega,by omega,h⟩
 clear hL h8
 generalize decide (iM L)=ans at*
 go_enter Tryz.func216,Tryz.ntmps216
 go_wp2_with fail
 go_loopw [3] (fun i wx=>∃q:Nat,q≤n∧i=.int .i64 q∧Hid (∀ x∈L.take q,0≤x∧x≤1073741824)∧wx=w) (fun i _=>n - (intOf i).toNat)
 case atStart=>exact⟨0,Nat.zero_le _,rfl,by simp[Hid],rfl⟩
 case round=>
  obtain⟨q,hq,rfl,hv,rfl⟩:=hrel
  by_cases e:q<n
  ·have dq:decide ((q:Int)<(n:Int))=true:=ar (by omega)
   obtain⟨b,off,rfl,hc⟩:=HL.out.2 (by omega)
   have hb:=hc q e
   have h7:=dD L q (by rw[h5.out];exact e)
   have h2:=dP L q (by rw[h5.out];exact e)
   obtain⟨x,hx⟩:∃x,x=L.getD q 0:=⟨_,rfl⟩
   rw[← hx]at hb h7 h2
   have h9:=aa h7
   have HM:=aa h2
   clear hc hx h7 h2
   by_cases e1:x<0
   ·have d1:decide (x<0)=true:=decide_eq_true e1
    have h0:=h6.out x HM.out (.inl e1)
    subst h0
    go_wp2_with fail
    go_ret
    exact⟨rfl,rfl⟩
   ·have d1:decide (x<0)=false:=decide_eq_false e1
    by_cases e2:1073741824<x
    ·have d2:decide (1073741824<x)=true:=decide_eq_true e2
     have h0:=h6.out x HM.out (.inr e2)
     subst h0
     go_wp2_with fail
     go_ret
     exact⟨rfl,rfl⟩
    ·have d2:decide (1073741824<x)=false:=decide_eq_false e2
     have h3:∀y∈L.take (q+1),0≤y∧y≤1073741824:=by
      rw[h9.out]
      intro y hy
      rcases List.mem_append.1 hy with hy | hy
      ·exact hv.out y hy
      ·rw[List.mem_singleton.1 hy]
       omega
     have ha:=aa h3
     clear h3
     go_wp2_with fail
     go_roundw
     case rel=>exact⟨q+1,by omega,by go_num,ha,trivial⟩
     case measure=>simp[intOf];omega
  ·obtain rfl:q=n:=by omega
   have dq:decide ((q:Int)<(q:Int))=false:=ao (by omega)
   have h3:=hv.out
   rw[List.take_of_length_le (Nat.le_of_eq h5.out)]at h3
   have h0:=h4.out h3
   have d1:decide ((2:Int)≤(q:Int))=decide (2≤q):=decide_eq_decide.2 (by omega)
   have d2:decide ((q:Int)≤258)=decide (q≤258):=decide_eq_decide.2 (by omega)
   subst h0
   clear h3 h6 h4
   by_cases h1:2≤q
   ·have d3:decide (2≤q)=true:=decide_eq_true h1
    go_wp2_with fail
    go_ret
    exact⟨by simp[h1],rfl⟩
   ·have d3:decide (2≤q)=false:=decide_eq_false h1
    go_wp2_with fail
    go_ret
    exact⟨by simp[h1],rfl⟩
def m8(q:Nat)(ws ov:Nat→Nat)(at_:Int):Prop:=(at_= -1∧∀j,j<q→ov j≠0)∨∃a:Nat,at_=a∧a<q∧ov a=0∧∀j,j<q→ov j=0→j≠a→ws a<ws j∨(ws a=ws j∧a<j)
theorem C3(w:World)(A B:Option Addr)(k c d:Nat)(W O:List Nat)(hW:aw w A k W)(hO:aw w B k O)(hk:k≤10000)(h0:∃j,j<k∧O.getD j 0=0):
 Calls Tryz.prog 246 #[.slice A k c,.slice B k d] w fun e w'=>∃a:Nat,e=.returned (.int .i64 a)∧kY k (fun j=>W.getD j 0) (fun j=>O.getD j 0) a∧∃m,w'=w.drewN m:=by
 have HW:=aa hW
 have HO:=aa hO
 have H0:=aa h0
 obtain⟨ws,h8⟩:∃ws:Nat→Nat,ws=fun j=>W.getD j 0:=⟨_,rfl⟩
 obtain⟨ov,h7⟩:∃ov:Nat→Nat,ov=fun j=>O.getD j 0:=⟨_,rfl⟩
 have hb:=aa h8
 have h9:=aa h7
 have hP:Hid (∀ (a:Nat) (m:Nat),kY k ws ov a→(fun e w'=>∃a:Nat,e=Ending.returned (.int .i64 a)∧kY k (fun j=>W.getD j 0) (fun j=>O.getD j 0) a∧∃m,w'=w.drewN m) (.returned (.int .i64 a)) (w.drewN m)):=aa fun a m h=>⟨a,rfl,by rw[← h8,←h7];exact h,m,rfl⟩
 generalize (fun e w'=>∃a:Nat,e=Ending.returned (.int .i64 a)∧kY k (fun j=>W.getD j 0) (fun j=>O.getD j 0) a∧∃m,w'=w.drewN m)=PO at*
 clear hW hO h0 h8 h7
 go_enter Tryz.func246,Tryz.ntmps246
 go_wp2_with fail
 go_loopw [5,6] (fun v i wx=>∃(q:Nat) (at_:Int),q≤k∧i=.int .i64 q∧v=.int .i64 at_∧Hid (m8 q ws ov at_)∧∃m,wx=w.drewN m) (fun _ i _=>k - (intOf i).toNat)
 case atStart=>exact⟨0,-1,Nat.zero_le _,rfl,rfl,.inl ⟨rfl,fun j hj=>by omega⟩,0,rfl⟩
 case round=>
  obtain⟨q,at_,hq,rfl,rfl,hl,hd⟩:=hrel
  have HD:=aa hd
  by_cases e:q<k
  ·have dq:decide ((q:Int)<(k:Int))=true:=ar (by omega)
   obtain⟨b1,o1,rfl,h6⟩:=HW.out.2 (by omega)
   obtain⟨b2,o2,rfl,hc⟩:=HO.out.2 (by omega)
   have c1:wr.cell? ⟨b1,o1+q,none⟩=some (.int .i64 (ws q:Nat)):=by rw[hb.out];obtain⟨m,rfl⟩:=hd;exact h6 q e
   have c2:wr.cell? ⟨b2,o2+q,none⟩=some (.int .i64 (ov q:Nat)):=by rw[h9.out];obtain⟨m,rfl⟩:=hd;exact hc q e
   obtain⟨x,hx⟩:∃x,x=ov q:=⟨_,rfl⟩
   obtain⟨y,hy⟩:∃y,y=ws q:=⟨_,rfl⟩
   rw[← hx]at c2
   rw[← hy]at c1
   have HX:=aa hx
   have HY:=aa hy
   have h4:∀a:Nat,a<k→wr.cell? ⟨b1,o1+a,none⟩=some (.int .i64 (ws a:Nat)):=by
    intro a ha
    rw[hb.out]
    obtain⟨m,rfl⟩:=hd
    exact h6 a ha
   have he:=aa h4
   clear hx hy h6 hc hd h4
   by_cases e1:x=0
   ·subst e1
    rcases hl.out with⟨rfl,h3⟩ | ⟨a,rfl,ha,h5,h1⟩
    ·have d1:((((0:Nat):Int))==0)=true:=rfl
     have h2:Hid (m8 (q+1) ws ov (q:Int)):=aa (.inr ⟨q,rfl,Nat.lt_succ_self q,HX.out.symm,fun j hj h0 hne=>absurd h0 (h3 j (by omega))⟩)
     clear h3 hl
     go_wp2_with fail
     go_quiet (fail)
     go_wp2_with fail
     go_roundw
     case rel=>
      obtain⟨m,hm⟩:=HD.out
      exact⟨q+1,q,by omega,by go_num,rfl,h2,m+nq,by rw[hm];simp⟩
     case measure=>simp[intOf];omega
    ·have d1:((((0:Nat):Int))==0)=true:=rfl
     have ca:=he.out a (by omega)
     obtain⟨z,hz⟩:∃z,z=ws a:=⟨_,rfl⟩
     rw[← hz]at ca
     have HZ:=aa hz
     have d2:decide ((a:Int)<0)=false:=ao (by omega)
     have hh:(a:Int)<(k:Int):=by omega
     clear hz
     by_cases e2:y<z
     ·have d3:decide ((y:Int)<(z:Int))=true:=ar (by omega)
      have h2:Hid (m8 (q+1) ws ov (q:Int)):=aa (.inr ⟨q,rfl,Nat.lt_succ_self q,HX.out.symm,fun j hj h0 hne=>by
       left
       rw[← HY.out]
       by_cases ej:j=a
       ·rw[ej,←HZ.out]
        exact e2
       ·have:=h1 j (by omega) h0 ej
        rw[← HZ.out]at this
        omega⟩)
      clear h1 hl
      go_wp2_with fail
      go_quiet (fail)
      go_wp2_with fail
      go_roundw
      case rel=>
       obtain⟨m,hm⟩:=HD.out
       exact⟨q+1,q,by omega,by go_num,rfl,h2,m+nq,by rw[hm];simp⟩
      case measure=>simp[intOf];omega
     ·have d3:decide ((y:Int)<(z:Int))=false:=ao (by omega)
      have h2:Hid (m8 (q+1) ws ov (a:Int)):=aa (.inr ⟨a,rfl,by omega,h5,fun j hj h0 hne=>by
       by_cases ej:j=q
       ·rw[ej,←HY.out,←HZ.out]
        omega
       ·exact h1 j (by omega) h0 hne⟩)
      clear h1 hl
      go_wp2_with fail
      go_quiet (fail)
      go_wp2_with fail
      go_roundw
      case rel=>
       obtain⟨m,hm⟩:=HD.out
       exact⟨q+1,a,by omega,by go_num,rfl,h2,m+nq,by rw[hm];simp⟩
      case measure=>simp[intOf];omega
   ·have d1:((x:Int)==0)=false:=by
     rw[beq_eq_false_iff_ne]
     omega
    have h2:Hid (m8 (q+1) ws ov at_):=aa (by
     rcases hl.out with⟨rfl,h3⟩ | ⟨a,rfl,ha,h5,h1⟩
     ·exact .inl ⟨rfl,fun j hj=>by
       by_cases ej:j=q
       ·rw[ej,←HX.out]
        exact e1
       ·exact h3 j (by omega)⟩
     ·exact .inr ⟨a,rfl,by omega,h5,fun j hj h0 hne=>by
       by_cases ej:j=q
       ·rw[ej,←HX.out]at h0
        exact absurd h0 e1
       ·exact h1 j (by omega) h0 hne⟩)
    clear hl
    go_wp2_with fail
    go_quiet (fail)
    go_wp2_with fail
    go_roundw
    case rel=>
     obtain⟨m,hm⟩:=HD.out
     exact⟨q+1,at_,by omega,by go_num,rfl,h2,m+nq,by rw[hm];simp⟩
    case measure=>simp[intOf];omega
  ·obtain rfl:q=k:=by omega
   have dq:decide ((q:Int)<(q:Int))=false:=ao (by omega)
   rcases hl.out with⟨rfl,h3⟩ | ⟨a,rfl,ha,h5,h1⟩
   ·exfalso
    obtain⟨j,hj,hg⟩:=H0.out
    exact h3 j hj (by rw[h9.out];exact hg)
   ·have hf:Hid (kY q ws ov a):=aa ⟨ha,h5,h1⟩
    obtain⟨m,rfl⟩:=hd
    clear h1 hl
    go_wp2_with fail
    exact hP.out a m hf.out
def bY(n:Nat)(f:Nat→Nat):List Value:=(List.range n).map fun j=>iv (f j)
theorem dO(n:Nat)(f:Nat→Nat):(bY n f).length=n:=by simp[bY]
theorem jQ(n:Nat)(f:Nat→Nat)(i:Nat)(h:i<n):(bY n f)[i]? =some (iv (f i)):=by
 unfold bY
 rw[List.getElem?_map,List.getElem?_range h]
 rfl
theorem G0(n:Nat)(f:Nat→Nat)(i v:Nat):(bY n f).set i (iv v)=bY n fun j=>if j=i then v else f j:=by
 apply List.ext_getElem?
 intro j
 by_cases hj:j<n
 ·rw[jQ n _ j hj]
  by_cases e:i=j
  ·subst e
   rw[List.getElem?_set_self (by rw[dO];exact hj),if_pos rfl]
  ·rw[List.getElem?_set_ne e,jQ n f j hj,if_neg (fun h=>e h.symm)]
 ·rw[List.getElem?_eq_none (by rw[List.length_set,dO];omega),List.getElem?_eq_none (by rw[dO];omega)]
theorem bN(n:Nat)(f g:Nat→Nat)(h:∀j,j<n→f j=g j):bY n f=bY n g:=by
 unfold bY
 refine List.map_congr_left fun j hj=> ?_
 rw[h j (List.mem_range.1 hj)]
theorem EO(n:Nat)(f:Nat→Nat)(v:Nat):bY n f++ [iv v]=bY (n+1) fun j=>if j=n then v else f j:=by
 unfold bY
 rw[List.range_succ,List.map_append]
 congr 1
 ·refine List.map_congr_left fun j hj=> ?_
  have:=List.mem_range.1 hj
  show iv (f j)=iv (if j=n then v else f j)
  rw[if_neg (by omega)]
 ·simp
theorem n3(L:List Nat):L.map iv=bY L.length fun j=>L.getD j 0:=by
 apply List.ext_getElem?
 intro j
 by_cases hj:j<L.length
 ·rw[jQ _ _ j hj,List.getElem?_map,List.getElem?_eq_getElem hj,List.getD_eq_getElem?_getD,List.getElem?_eq_getElem hj]
  rfl
 ·rw[List.getElem?_eq_none (by rw[List.length_map];omega),List.getElem?_eq_none (by rw[dO];omega)]
def aB(w:World)(B g c n:Nat)(f:Nat→Nat):Prop:=w.ownsRow B 3 1 (.slice (some ⟨g,0,none⟩) n c) n (bY n f)
theorem aB.cell{w:World}{B g c n:Nat}{f:Nat→Nat}(h:aB w B g c n f)(i:Nat)(hi:i<n):w.cell? ⟨g,i,none⟩=some (.int .i64 (f i:Nat)):=by
 rw[World.ownsRow.cellAt h i (by omega),jQ n f i hi]
 rfl
theorem aB.frozen{w:World}{B g c n:Nat}{f:Nat→Nat}(h:aB w B g c n f)(i:Nat):w.frozen? ⟨g,i,none⟩=false:=World.ownsRow.frozenAt h i
theorem aB.set{w:World}{B g c n:Nat}{f:Nat→Nat}(h:aB w B g c n f)(i v:Nat):aB (w.setCell ⟨g,i,none⟩ (.int .i64 v)) B g c n fun j=>if j=i then v else f j:=by
 have:=(World.ownsRow.stored h i (iv v)).1
 rw[G0]at this
 exact this
theorem aB.other{w:World}{B g c n:Nat}{f:Nat→Nat}(h:aB w B g c n f){g2:Nat}(h0:g2≠g)(i:Nat)(v:Value):aB (w.setCell ⟨g2,i,none⟩ v) B g c n f:=by
 refine World.ownsRow.kept (row:=some g2) h ⟨rfl,rfl,rfl,by simp,fun k _ hk=>heap_setCell_other w ⟨g2,i,none⟩ k v (fun e=>hk (by simp[e]))⟩ (.inr ?_)
 intro e
 exact h0 (by simpa [Value.ownBlock]using e.symm)
theorem aB.grown{w w':World}{B g c n:Nat}{f:Nat→Nat}(h:aB w B g c n f){row:Option Nat}(hg:w.grownBy w' row)(h0:some g≠row):aB w' B g c n f:=
 World.ownsRow.kept h hg (.inr h0)
theorem aB.lt{w:World}{B g c n:Nat}{f:Nat→Nat}(h:aB w B g c n f):B≤g∧g<w.heap.size:=World.ownsRow.lt h g rfl
theorem aB.drew{w:World}{B g c n:Nat}{f:Nat→Nat}(h:aB w B g c n f)(m:Nat):aB (w.drewN m) B g c n f:=h
theorem aB.alloc{w:World}{B g c n:Nat}{f:Nat→Nat}(h:aB w B g c n f)(o:Obj):aB (w.alloc o) B g c n f:=World.ownsRow.alloc h o
theorem aB.ints{w:World}{B g c n:Nat}{f:Nat→Nat}(h:aB w B g c n f):aw w (some ⟨g,0,none⟩) n ((List.range n).map f):=by
 refine aJ (B:=B) (cap:=c) ?_
 rw[List.map_map]
 exact h
theorem aB.below{w w':World}{B C g c n:Nat}{f:Nat→Nat}(h:aB w B g c n f)(hb:Below C w w')(hg:g<C):aB w' B g c n f:=by
 rcases h.2 with⟨h',_⟩ | ⟨g',cap',cur,h',hB,h0,rest⟩
 ·simp at h'
 ·simp only[Value.slice.injEq,Option.some.injEq,Addr.mk.injEq,and_true,true_and]at h'
  obtain⟨rfl,rfl⟩:=h'
  exact⟨h.1,.inr ⟨g,c,cur,rfl,hB,(hb.block g hg).trans h0,rest⟩⟩
theorem cH(n:Nat)(f:Nat→Nat)(j:Nat)(h:j<n):((List.range n).map f).getD j 0=f j:=by
 rw[List.getD_eq_getElem?_getD,List.getElem?_map,List.getElem?_range h]
 rfl
theorem a9(w:World)(B n:Nat)(hB:B≤w.heap.size)(hn:n≤1000000):aB (w.alloc (.cells (madeCells #[.int .i64 0] n) 3)) B w.heap.size n n fun _=>0:=by
 refine⟨by rw[dO,Nat.mul_one],.inr ⟨w.heap.size,n,_,rfl,hB,heap_alloc_new w _,Nat.le_refl _,by unfold maxLen;omega,by rw[size_madeCells,Nat.mul_one],?_⟩⟩
 rw[toList_madeCells_one,Nat.mul_one,List.take_of_length_le (by simp)]
 unfold bY
 rw[List.map_const',List.length_range]
 rfl
theorem bA(w:World)(n:Nat)(hn:n≤1000000):(Instr.makeSlice 36 (.int .i64 n) (.int .i64 n)).run Tryz.prog w=.ok (.slice (some ⟨w.heap.size,0,none⟩) n n) (w.alloc (.cells (madeCells #[.int .i64 0] n) 3)):=by
 obtain⟨i3,h3,h0,h1,h2⟩:=info_parts Tryz.info3
 have h:=run_make (P:=Tryz.prog) w 36 3 i3 (.int .i64 0) Tryz.underlying36 h3 h0 .i64 .i64 (n:Int) (n:Int) (by omega) (by omega) (by rw[h2];omega) (by omega)
 rw[h1,Int.toNat_natCast,Nat.mul_one]at h
 exact h
theorem sf(w:World)(B g c n:Nat)(f:Nat→Nat)(h:aB w B g c n f)(x:Nat)(hn:n≤1000000)(hB:B≤w.heap.size):
 ∃g2 c2 w2,(Builtin.append_ #[36,36] 36 #[.slice (some ⟨g,0,none⟩) n c,.slice (some ⟨w.heap.size,0,none⟩) 1 1]).run Tryz.prog (w.alloc (.cells #[.int .i64 x] 3))=.ok (.slice (some ⟨g2,0,none⟩) (n+1) c2) w2∧
  aB w2 B g2 c2 (n+1) (fun j=>if j=n then x else f j)∧(w.alloc (.cells #[.int .i64 x] 3)).grownBy w2 (some g)∧(g2=g∨w.heap.size<g2):=by
 obtain⟨i3,h3,h1,h2,h4⟩:=info_parts Tryz.info3
 obtain⟨v2,w2,hr,ho,hg,_,h0⟩:=run_append_own_at (P:=Tryz.prog) (w.alloc (.cells #[.int .i64 x] 3)) B 36 36 3 i3 (.int .i64 0) 1 8 Tryz.underlying36 h3 h1 h2 h4 rfl (by decide) _ _ _ (h.alloc _) ⟨w.heap.size,0,none⟩ 1 1 [iv x] rfl (bi w (iv x) 3)
  (fun u hu=>by rw[List.mem_singleton.1 hu];rfl) (by unfold maxLen;omega) (by omega) (by simp;omega)
 obtain⟨A,c2,rfl,hc,hm,hA⟩:=aj ho
 obtain⟨g2,rfl⟩:=hA (by omega)
 rw[EO]at ho
 refine⟨g2,c2,w2,hr,ho,hg,?_⟩
 rcases h0 with e | e
 ·left
  simpa [Value.ownBlock]using e
 ·right
  have:g2=(w.alloc (.cells #[.int .i64 x] 3)).heap.size:=by simpa [Value.ownBlock]using e
  rw[this]
  simp
def wH(n:Nat)(f:Nat→Nat)(g:Nat):Prop:=(∀ i,i<n→f i≤g)∧∃i,i<n∧f i=g
theorem vR(w:World)(A:Option Addr)(n c:Nat)(L:List Nat)(hL:aw w A n L)(h1:1≤n)(hn:n≤1000000):Calls Tryz.prog 218 #[.slice A n c] w fun e w'=>∃g:Nat,e=.returned (.int .i64 g)∧wH n (fun i=>L.getD i 0) g∧w'=w:=by
 obtain⟨b,off,rfl,hc⟩:=hL.2 (by omega)
 obtain⟨f,hf⟩:∃f:Nat→Nat,f=fun i=>L.getD i 0:=⟨_,rfl⟩
 have h0:∀i,i<n→w.cell? ⟨b,off+i,none⟩=some (.int .i64 (f i:Nat)):=by rw[hf];exact hc
 rw[← hf]
 have HC:=aa h0
 have c0:=h0 0 (by omega)
 rw[Nat.add_zero]at c0
 obtain⟨y,hy⟩:∃y,y=f 0:=⟨_,rfl⟩
 rw[← hy]at c0
 have HY:=aa hy
 have h4:(0:Int)<(n:Int):=by omega
 have hP:Hid (∀ g:Nat,wH n f g→(fun e w'=>∃g:Nat,e=Ending.returned (.int .i64 g)∧wH n f g∧w'=w) (.returned (.int .i64 g)) w):=aa fun g h=>⟨g,rfl,h,rfl⟩
 generalize (fun e w'=>∃g:Nat,e=Ending.returned (.int .i64 g)∧wH n f g∧w'=w)=PO at*
 clear hL hc hf h0 hy
 go_enter Tryz.func218,Tryz.ntmps218
 go_wp2_with fail
 go_loopw [3,4] (fun v i wx=>∃q g:Nat,q≤n∧i=.int .i64 q∧v=.int .i64 g∧Hid ((∀ i,i<q→f i≤g)∧∃i,i<n∧f i=g)∧wx=w) (fun _ i _=>n - (intOf i).toNat)
 case atStart=>exact⟨0,y,Nat.zero_le _,rfl,rfl,⟨fun i hi=>by omega,0,by omega,HY.out.symm⟩,rfl⟩
 case round=>
  obtain⟨q,g,hq,rfl,rfl,hm,rfl⟩:=hrel
  by_cases e:q<n
  ·have dq:decide ((q:Int)<(n:Int))=true:=ar (by omega)
   have cq:=HC.out q e
   obtain⟨x,hx⟩:∃x,x=f q:=⟨_,rfl⟩
   rw[← hx]at cq
   have HX:=aa hx
   clear hx
   by_cases e2:g<x
   ·have d2:decide ((g:Int)<(x:Int))=true:=ar (by omega)
    have HM:Hid ((∀ i,i<q+1→f i≤x)∧∃i,i<n∧f i=x):=aa ⟨fun i hi=>by
     by_cases ei:i=q
     ·rw[ei,←HX.out]
      exact Nat.le_refl _
     ·have:=hm.out.1 i (by omega)
      omega,q,e,HX.out.symm⟩
    have h3:(if(g:Int)<(x:Int)then(x:Int)else(g:Int))=(x:Int):=if_pos (by omega)
    have h2:(if(g:Int)≤(x:Int)then(x:Int)else(g:Int))=(x:Int):=if_pos (by omega)
    clear hm
    go_wp2_with fail
    go_roundw
    case rel=>exact⟨q+1,x,by omega,by go_num,by go_num,HM,trivial⟩
    case measure=>simp[intOf];omega
   ·have d2:decide ((g:Int)<(x:Int))=false:=ao (by omega)
    have HM:Hid ((∀ i,i<q+1→f i≤g)∧∃i,i<n∧f i=g):=aa ⟨fun i hi=>by
     by_cases ei:i=q
     ·rw[ei,←HX.out]
      omega
     ·exact hm.out.1 i (by omega),hm.out.2⟩
    clear hm
    go_wp2_with fail
    go_roundw
    case rel=>exact⟨q+1,g,by omega,by go_num,by go_num,HM,trivial⟩
    case measure=>simp[intOf];omega
  ·obtain rfl:q=n:=by omega
   have dq:decide ((q:Int)<(q:Int))=false:=ao (by omega)
   have HM:Hid (wH q f g):=aa hm.out
   clear hm
   go_wp2_with fail
   exact hP.out g HM.out
theorem Ap{k:Nat}{ws ov ws2 ov2:Nat→Nat}{a:Nat}(h:kY k ws ov a)(hw:∀j,j<k→ws2 j=ws j)(ho:∀j,j<k→ov2 j=ov j):kY k ws2 ov2 a:=by
 refine⟨h.1,by rw[ho a h.1];exact h.2.1,fun j hj h0 hne=> ?_⟩
 rw[hw a h.1,hw j hj]
 exact h.2.2 j hj (by rw[← ho j hj];exact h0) hne
theorem tC(w:World)(B gW cW gO cO k:Nat)(ws ov:Nat→Nat)(hW:aB w B gW cW k ws)(hO:aB w B gO cO k ov)(hk:k≤10000)(h0:∃j,j<k∧ov j=0):
 Calls Tryz.prog 246 #[.slice (some ⟨gW,0,none⟩) k cW,.slice (some ⟨gO,0,none⟩) k cO] w fun e w'=>∃a:Nat,e=.returned (.int .i64 a)∧kY k ws ov a∧∃m,w'=w.drewN m:=by
 obtain⟨j0,h1,h2⟩:=h0
 refine(C3 w _ _ k cW cO _ _ hW.ints hO.ints hk ⟨j0,h1,by rw[cH k ov j0 h1];exact h2⟩).mono ?_
 rintro e w' ⟨a,rfl,hl,hd⟩
 exact⟨a,rfl,Ap hl (fun j hj=>(cH k ws j hj).symm) (fun j hj=>(cH k ov j hj).symm),hd⟩
theorem Ev{n k:Nat}{w:List Nat}{ws ov:Nat→Nat}{act:List Tr}{len:Nat→Nat}(h:jq n w k ws ov act len):∀j,k≤j→ov j=0:=by
 intro j hj
 by_cases e:ov j=0
 ·exact e
 ·have:=h.par j e
  omega
theorem JQ{ov:Nat→Nat}(hp:∀j,ov j≠0→j<ov j){i j d:Nat}(h:Up ov i j d):i+d≤j:=by
 induction h with
 | here=>exact Nat.le_refl _
 | next h h0 ih=>
   have:=hp _ h0
   omega
def Ji(w wx:World)(n:Nat)(W:List Nat)(s:Nat)(v3 v4:Value):Prop:=∃(k gW cW gO cO:Nat) (ws ov:Nat→Nat) (act:List Tr) (len:Nat→Nat),k+1=n+s∧v3=.slice (some ⟨gW,0,none⟩) k cW∧v4=.slice (some ⟨gO,0,none⟩) k cO∧gW≠gO∧
 aB wx w.heap.size gW cW k ws∧aB wx w.heap.size gO cO k ov∧jq n W k ws ov act len∧Below w.heap.size w wx
def oh(w:World)(n:Nat)(W:List Nat)(e:Ending)(w':World):Prop:=∃(g c:Nat) (len:Nat→Nat),kL W len∧e=.returned (.slice (some ⟨g,0,none⟩) n c)∧aB w' w.heap.size g c n len∧Below w.heap.size w w'
theorem EN(w:World)(A:Option Addr)(n c:Nat)(W:List Nat)(hL:aw w A n W)(h1:1≤n)(hn:n≤258)(H0:W.sum≤1099511627776):Calls Tryz.prog 217 #[.slice A n c] w (oh w n W):=by
 have hz:=hL.1
 have hf:(w.alloc (.cells #[] 3)).ownsRow w.heap.size 3 1 (.slice (some ⟨w.heap.size,0,none⟩) 0 0) 0 []:=World.ownsRow_made w #[] 0 (ah _) (Nat.zero_le _) rfl
 have HT:Below w.heap.size w (w.alloc (.cells #[] 3)):=(Below.refl _ w).alloc (ah _) _
 obtain⟨v3,w3,p4,HE,rb⟩:=jf (w.alloc (.cells #[] 3)) w.heap.size _ 0 [] hf A n c W (bF hL HT) (by omega) (by simp)
 have H8:Below w.heap.size w w3:=HT.grown rb (by simp) (fun k hk=>(hf.lt k hk).1)
 obtain⟨A3,c3,rfl,r1,_,q8⟩:=aj HE
 obtain⟨g3,rfl⟩:=q8 (by omega)
 rw[Nat.zero_add]at HE p4 r1
 have HW:aB w3 w.heap.size g3 c3 n fun j=>W.getD j 0:=by
  have:=HE
  rw[List.nil_append,n3,hz]at this
  exact this
 have rR:=bA w3 n (by omega)
 have s0:=a9 w3 w.heap.size n H8.size (by omega)
 have r3:=HW.alloc (.cells (madeCells #[.int .i64 0] n) 3)
 have qo:Below w.heap.size w (w3.alloc (.cells (madeCells #[.int .i64 0] n) 3)):=H8.alloc H8.size _
 have hh:Ji w (w3.alloc (.cells (madeCells #[.int .i64 0] n) 3)) n W 1 (.slice (some ⟨g3,0,none⟩) n c3) (.slice (some ⟨w3.heap.size,0,none⟩) n n):=by
  have rM:=pQ W (by omega)
  rw[hz]at rM
  exact⟨n,g3,c3,w3.heap.size,n,_,_,_,_,rfl,rfl,rfl,by have:=HW.lt;omega,r3,s0,rM,qo⟩
 have HK:=aa p4
 have HL:=aa hh
 have hv:=aa H0
 clear hL hz hf HT p4 HE rb H8 HW s0 r3 qo hh H0 q8 r1
 go_enter Tryz.func217,Tryz.ntmps217
 go_wp2_with (at_builtin;refine Lib.wpList_append_run _ rfl (.tmp 12) (.tmp 13) 36 36 rfl (.slice (some ⟨w.heap.size,0,none⟩) 0 0) (.slice A n c) rfl rfl _ w3 HK.out ?_)
 go_loopw [3,4,5] (fun a b x wx=>∃s:Nat,1≤s∧s≤n∧x=.int .i64 s∧Ji w wx n W s a b) (fun _ _ x _=>n - (intOf x).toNat)
 case atStart=>exact⟨1,Nat.le_refl _,h1,rfl,HL.out⟩
 case round=>
  obtain⟨s,tq,tv,rfl,k,gW,cW,gO,cO,ws,ov,act,len,rO,rfl,rfl,HD,HC,h4,hC,hb⟩:=hrel
  have HF:=hb.size
  by_cases e:s<n
  ·have ds:decide ((s:Int)<(n:Int))=true:=ar (by omega)
   have pb:=oR hC (by omega)
   obtain⟨p,q,hp,hq,sx,p2,s2⟩:=pb
   have pM:=aa (tC wr w.heap.size gW cW gO cO k ws ov HC h4 (by omega) ⟨p,hp,p2⟩)
   have po:=aa HC
   have hF:=aa h4
   have HG:=aa hC
   have HB:=aa hb
   clear HC h4 hC hb
   go_wp2_with fail
   refine pM.out.mono ?_
   rintro e w1 ⟨a,rfl,p1,m1,rfl⟩
   have HJ:=aa p1
   have ha:a<k:=p1.1
   have hQ:=po.out.drew m1
   have h8:=hF.out.drew m1
   have pj:=aa (az HB.out m1)
   have t1:w.heap.size≤(wr.drewN m1).heap.size:=HF
   have HA:=h8.cell a ha
   have HX:=h8.frozen a
   have t3:(0:Int)≤(a:Int):=by omega
   have t4:(a:Int)<(k:Int):=by omega
   have q9:=h8.set a k
   have qb:=hQ.other (g2:=gO) (fun h=>HD h.symm) a (.int .i64 k)
   have rs:=h8.lt
   have H3:=aa q9
   have HM:=aa qb
   have hD:=aa (pj.out.setCell (p:=⟨gO,a,none⟩) rs.1 (.int .i64 k))
   obtain⟨ov1,he⟩:∃ov1:Nat→Nat,ov1=fun j=>if j=a then k else ov j:=⟨_,rfl⟩
   have hs:∃j,j<k∧ov1 j=0:=by
    by_cases e1:p=a
    ·exact⟨q,hq,by rw[he];show(if q=a then k else ov q)=0;rw[if_neg (fun h=>sx (e1.trans h.symm))];exact s2⟩
    ·exact⟨p,hp,by rw[he];show(if p=a then k else ov p)=0;rw[if_neg e1];exact p2⟩
   rw[← he]at H3
   have h7:=aa he
   have q4:=aa hs
   clear hQ h8 q9 qb p1 he hs p2 s2 pM po hF HB
   go_wp2_with fail
   generalize (wr.drewN m1).setCell ⟨gO,a,none⟩ (.int .i64 k)=w2 at*
   have q0:=aa (tC w2 w.heap.size gW cW gO cO k ws ov1 HM.out H3.out (by omega) q4.out)
   refine q0.out.mono ?_
   rintro e w4 ⟨b,rfl,hV,m2,rfl⟩
   have q1:=aa hV
   have hb:b<k:=hV.1
   have hR:=HM.out.drew m2
   have h9:=H3.out.drew m2
   have hE:=aa (az hD.out m2)
   have HV:=h9.cell b hb
   have HY:=h9.frozen b
   have t5:(0:Int)≤(b:Int):=by omega
   have ta:(b:Int)<(k:Int):=by omega
   have HO:=h9.set b k
   have ql:=hR.other (g2:=gO) (fun h=>HD h.symm) b (.int .i64 k)
   obtain⟨ov2,hm⟩:∃ov2:Nat→Nat,ov2=fun j=>if j=b then k else if j=a then k else ov j:=⟨_,rfl⟩
   have hK:aB ((w2.drewN m2).setCell ⟨gO,b,none⟩ (.int .i64 k)) w.heap.size gO cO k ov2:=by
    rw[h7.out]at HO
    rw[hm]
    exact HO
   have r0:b≠a:=by
    intro h
    have:=hV.2.1
    rw[h7.out,h]at this
    have h3:(if a=a then k else ov a)=0:=this
    rw[if_pos rfl]at h3
    omega
   have s1:ov b=0:=by
    have:=hV.2.1
    rw[h7.out]at this
    have h3:(if b=a then k else ov b)=0:=this
    rwa [if_neg r0]at h3
   have s4:=py HG.out ha hb (fun h=>r0 h.symm) HJ.out.2.1 s1
   obtain⟨x,hx⟩:∃x,x=ws a+ws b:=⟨_,rfl⟩
   have tM:x≤1099511627776:=Nat.le_trans (by rw[hx];exact s4) hv.out
   obtain⟨xa,s5⟩:∃xa,xa=ws a:=⟨_,rfl⟩
   obtain⟨xb,H1⟩:∃xb,xb=ws b:=⟨_,rfl⟩
   have tS:(xa:Int)+(xb:Int)=(x:Int):=by omega
   have rv:=sM HG.out HJ.out h7.out q1.out hm
   have pv:Hid (∃ act2 len2,jq n W (k+1) (fun j=>if j=k then x else ws j) (fun j=>if j=k then 0 else ov2 j) act2 len2):=aa (by
    obtain⟨act2,len2,h⟩:=rv
    have e2:(fun j=>if j=k then 0 else ov2 j)=ov2:=by
     funext j
     by_cases ej:j=k
     ·rw[if_pos ej,ej,hm]
      show 0=if k=b then k else if k=a then k else ov k
      rw[if_neg (by omega),if_neg (by omega),Ev HG.out k (ah _)]
     ·rw[if_neg ej]
    rw[e2,hx]
    exact⟨act2,len2,h⟩)
   have hS:=h9.lt
   have q3:=aa hK
   have H4:=aa ql
   have HH:=aa (hE.out.setCell (p:=⟨gO,b,none⟩) hS.1 (.int .i64 k))
   have tn:k≤600:=by omega
   have sl:=aa s5
   have sm:=aa H1
   clear HO hK ql hV hm s1 s4 hx rv s5 H1 rs hS HJ q1 HG H3 HM hD h7 q4 hv HL HK rR t1 HF HA HX pj q0
   go_upto_region 11 with fail
   generalize (w2.drewN m2).setCell ⟨gO,b,none⟩ (.int .i64 k)=w5 at*
   have ca:=H4.out.cell a ha
   have cb:=H4.out.cell b hb
   rw[← sl.out]at ca
   rw[← sm.out]at cb
   have pg:w.heap.size≤w5.drew.heap.size:=HH.out.size
   have HR:aB w5.drew w.heap.size gW cW k ws:=H4.out
   have H5:aB w5.drew w.heap.size gO cO k ov2:=q3.out
   have pk:=aa HH.out.drew
   have s9:=aa H5
   obtain⟨g6,c6,w6,r6,HS,HZ,hM⟩:=sf w5.drew w.heap.size gW cW k ws HR x (by omega) pg
   have HQ:aB w6 w.heap.size gO cO k ov2:=(H5.alloc _).grown HZ (fun h=>HD (by simpa using h.symm))
   have hA:g6≠gO:=by
    rcases hM with h | h
    ·rw[h]
     exact HD
    ·have:=H5.lt
     omega
   have HU:Below w.heap.size w w6:=(pk.out.alloc pg _).grown HZ (Nat.le_trans pg (by simp)) (fun k hk=>by
    have:k=gW:=by simpa using hk.symm
    rw[this]
    exact HR.lt.1)
   have s8:=HU.size
   obtain⟨g7,c7,w7,r7,qa,p0,hN⟩:=sf w6 w.heap.size gO cO k ov2 HQ 0 (by omega) s8
   have qm:aB w7 w.heap.size g6 c6 (k+1) (fun j=>if j=k then x else ws j):=(HS.alloc _).grown p0 (fun h=>hA (by simpa using h))
   have hY:g6≠g7:=by
    rcases hN with h | h
    ·rw[h]
     exact hA
    ·have:=HS.lt
     omega
   have qs:Below w.heap.size w w7:=(HU.alloc s8 _).grown p0 (by simp;omega) (fun k hk=>by
    have:k=gO:=by simpa using hk.symm
    rw[this]
    exact HQ.lt.1)
   have R6:=aa r6
   have R7:=aa r7
   have hJ:Hid (Ji w w7 n W (s+1) (.slice (some ⟨g6,0,none⟩) (k+1) c6) (.slice (some ⟨g7,0,none⟩) (k+1) c7)):=aa (by
    obtain⟨act2,len2,hg⟩:=pv.out
    exact⟨k+1,g6,c6,g7,c7,_,_,act2,len2,by omega,rfl,rfl,hY,qm,qa,hg,qs⟩)
   have s6:(Builtin.append_ #[36,36] 36 #[.slice (some ⟨gW,0,none⟩) k cW,.slice (some ⟨w5.heap.size,0,none⟩) 1 1]).run Tryz.prog (w5.alloc (.cells #[.int .i64 x] 3)).drew=.ok (.slice (some ⟨g6,0,none⟩) (k+1) c6) w6:=r6
   have ty:IntKind.i64.wrap (x:Int)=(x:Int):=by rw[IntKind.wrap_i64];omega
   have p5:s+1≤n:=by omega
   clear HR H5 r6 HS HZ hM HQ hA HU r7 qa p0 hN qm hY qs pv H4 q3 HH pk s9 hE hR h9 HV HY R6 rO
   go_region_law (refine qf (v':=.slice (some ⟨g6,0,none⟩) (k+1) c6) (w':=w6) rfl (.tmp 40) (.tmp 50) 36 rfl (.slice (some ⟨gW,0,none⟩) k cW) (.slice (some ⟨w5.heap.size,0,none⟩) 1 1) rfl rfl ?hr ?_;case hr=>(dsimp only;with_reducible exact s6))
   go_wp2_with (at_builtin;refine Lib.wpList_append_run _ rfl (.tmp 52) (.tmp 53) 36 36 rfl (.slice (some ⟨gO,0,none⟩) k cO) (.slice (some ⟨w6.heap.size,0,none⟩) 1 1) rfl rfl _ w7 R7.out ?_)
   all_goals (
    go_roundw
    case rel=>exact⟨s+1,by omega,p5,by go_num,hJ.out⟩
    case measure=>simp[intOf];omega)
  ·obtain rfl:s=n:=by omega
   have ds:decide ((s:Int)<(s:Int))=false:=ao (by omega)
   clear hv HL HK rR
   have hP:=tO hC (by omega)
   have hZ:=hC.par
   have HF:=hb.size
   have hW:=bA wr s (by omega)
   have hX:=a9 wr w.heap.size s hb.size (by omega)
   have hO:=h4.alloc (.cells (madeCells #[.int .i64 0] s) 3)
   have qv:Below w.heap.size w (wr.alloc (.cells (madeCells #[.int .i64 0] s) 3)):=hb.alloc hb.size _
   have hT:gO≠wr.heap.size:=by have:=h4.lt;omega
   have ht:=aa hP
   have hl:=aa hZ
   have HN:=aa hX
   have q2:=aa hO
   have pl:=aa qv
   obtain⟨gX,hB⟩:∃gX,gX=wr.heap.size:=⟨_,rfl⟩
   rw[← hB]at HN hW hT
   have t2:=aa hB
   clear hP hZ hX hO qv HC h4 hC hb HF hB
   go_wp2_with fail
   clear hW
   have pn:Hid (∀ i c j,i<s→Up ov i j c→ov j=0→c=len i):=aa fun i c j hi hu h0=>by
    obtain⟨r,hr,sT⟩:=ht.out.2 i hi
    exact hu.ends h0 hr sT
   have q7:Hid (∀ i j c,Up ov i j c→i+c≤j):=aa fun i j c hu=>JQ (fun j h0=>(hl.out j h0).1) hu
   have HP:Hid (∀ w',aB w' w.heap.size gX s s len→Below w.heap.size w w'→oh w s W (.returned (.slice (some ⟨gX,0,none⟩) s s)) w'):=aa fun w' h2 h3=>⟨gX,s,len,ht.out.1,rfl,h2,h3⟩
   have sv:k≤600:=by omega
   have tt:s≤k:=by omega
   generalize oh w s W=PO at*
   clear ht rO
   go_loopw [10,11] (fun x z wx=>∃i:Nat,i≤s∧x=.int .i64 i∧aB wx w.heap.size gX s s (fun j=>if j<i then len j else 0)∧aB wx w.heap.size gO cO k ov∧Below w.heap.size w wx) (fun x _ _=>s - (intOf x).toNat)
   case atStart=>
    refine⟨0,Nat.zero_le _,rfl,?_,q2.out,pl.out⟩
    have e0:(fun j=>if j<0 then len j else 0)=fun _=>0:=by
     funext j
     rw[if_neg (by omega)]
    rw[e0]
    exact HN.out
   case round=>
    clear HN q2 pl
    rename World=>w2
    obtain⟨i,hi,rfl,h6,h4,hb⟩:=hrel
    have ps:=aa h6
    have hF:=aa h4
    have HB:=aa hb
    by_cases e:i<s
    ·have di:decide ((i:Int)<(s:Int))=true:=ar (by omega)
     have ci:=h4.cell i (by omega)
     have tl:(i:Int)<(k:Int):=by omega
     have tg:(0:Int)≤(i:Int):=by omega
     obtain⟨y0,pf⟩:∃y0,y0=ov i:=⟨_,rfl⟩
     rw[← pf]at ci
     have so:=aa pf
     clear h6 h4 hb pf
     go_wp2_with fail
     go_loopw [11] (fun z wx=>∃c j y:Nat,j<k∧Hid (Up ov i j c)∧Hid (y=ov j)∧z=.int .i64 y∧aB wx w.heap.size gX s s (fun j=>if j=i then c else if j<i then len j else 0)∧aB wx w.heap.size gO cO k ov∧Below w.heap.size w wx) (fun z _=>if intOf z=0 then 0 else k+1 - (intOf z).toNat)
     case atStart=>
      refine⟨0,i,y0,by omega,.here i,so.out,rfl,?_,hF.out,HB.out⟩
      have e0:(fun j=>if j=i then 0 else if j<i then len j else 0)=fun j=>if j<i then len j else 0:=by
       funext j
       by_cases ej:j=i
       ·rw[if_pos ej,if_neg (by omega)]
       ·rw[if_neg ej]
      rw[e0]
      exact ps.out
     case round=>
      rename World=>w6
      obtain⟨c,j,y,tm,hu,hy,rfl,h6,h4,hb⟩:=hrel
      have hH:=aa h6
      have HI:=aa h4
      have hD:=aa hb
      by_cases e3:y=0
      ·subst e3
       have hc:=pn.out i c j e hu.out hy.out.symm
       have ho:(fun j=>if j=i then c else if j<i then len j else 0)=fun j=>if j<i+1 then len j else 0:=by
        funext j'
        by_cases ej:j'=i
        ·rw[if_pos ej,if_pos (by omega),ej,hc]
        ·rw[if_neg ej]
         by_cases ej2:j'<i
         ·rw[if_pos ej2,if_pos (by omega)]
         ·rw[if_neg ej2,if_neg (by omega)]
       rw[ho]at hH
       clear h6 h4 hb hu hy hc ho
       go_wp2_with fail
       go_roundw
       case rel=>exact⟨i+1,by omega,by go_num,hH.out,HI.out,hD.out⟩
       case measure=>simp[intOf];omega
      ·have dy:((y:Int)==0)=false:=by
        rw[beq_eq_false_iff_ne]
        omega
       have p3:=hl.out j (by rw[← hy.out];exact e3)
       rw[← hy.out]at p3
       have s7:y<k:=p3.2
       have st:=q7.out i j c hu.out
       have cx:=h6.cell i e
       have fx:=h6.frozen i
       rw[if_pos rfl]at cx
       have hB:=h6.lt
       have s3:Up ov i y (c+1):=hu.out.of_eq hy.out.symm e3
       have q5:=aa s3
       have h5:=h6.set i (c+1)
       have ho:(fun j'=>if j'=i then c+1 else if j'=i then c else if j'<i then len j' else 0)=fun j'=>if j'=i then c+1 else if j'<i then len j' else 0:=by
        funext j'
        by_cases ej:j'=i
        ·rw[if_pos ej,if_pos ej]
        ·rw[if_neg ej,if_neg ej,if_neg ej]
       rw[ho]at h5
       have hw:=h4.other (g2:=gX) (fun h=>hT h.symm) i (.int .i64 ((c+1:Nat):Int))
       have cy:=hw.cell y s7
       obtain⟨y2,H2⟩:∃y2,y2=ov y:=⟨_,rfl⟩
       rw[← H2]at cy
       have ss:=aa H2
       have t0:y2=0∨(y<y2∧y2<k):=by
        by_cases e4:y2=0
        ·exact .inl e4
        ·right
         have:=hl.out y (by rw[← H2];exact e4)
         rw[← H2]at this
         exact this
       have ts:(i:Int)<(s:Int):=by omega
       have u0:(0:Int)≤(y:Int):=by omega
       have u1:(y:Int)<(k:Int):=by omega
       have r2:c≤600:=by omega
       have hI:=aa h5
       have hG:=aa hw
       have hE:=aa (hD.out.setCell (p:=⟨gX,i,none⟩) hB.1 (.int .i64 ((c+1:Nat):Int)))
       clear h6 h4 hb hu hy p3 h5 hw ho s3 H2 hB st
       obtain⟨c1,HA⟩:∃c1,c1=c+1:=⟨_,rfl⟩
       rw[← HA]at hI hG hE q5 cy
       have te:(c:Int)+1=(c1:Int):=by omega
       clear HA
       go_wp2_with fail
       go_roundw
       case rel=>exact⟨c1,y,y2,s7,q5,ss,rfl,hI.out,hG.out,hE.out⟩
       case measure=>
        show(if((y2:Nat):Int)=0 then 0 else k+1 - ((y2:Nat):Int).toNat)<(if((y:Nat):Int)=0 then 0 else k+1 - ((y:Nat):Int).toNat)
        rw[Int.toNat_natCast,Int.toNat_natCast]
        split <;>split <;>omega
    ·obtain rfl:i=s:=by omega
     have di:decide ((i:Int)<(i:Int))=false:=ao (by omega)
     have ho:bY i (fun j=>if j<i then len j else 0)=bY i len:=bN i _ _ fun j hj=>if_pos hj
     have h5:aB w2 w.heap.size gX i i len:=by
      have h3:w2.ownsRow w.heap.size 3 1 (.slice (some ⟨gX,0,none⟩) i i) i (bY i fun j=>if j<i then len j else 0):=h6
      rw[ho]at h3
      exact h3
     have sa:=aa (HP.out w2 h5 hb)
     clear h6 h4 hb ho h5 ps hF HB HP pn q7 hl
     go_wp2_with fail
     exact sa.out
theorem eA{w:World}{A:Option Addr}{m:Nat}{L:List Int}(h:ZIn w A m L)(hv:∀x∈L,0≤x):aw w A m (L.map Int.toNat):=by
 refine⟨by rw[List.length_map];exact h.1,fun hm=> ?_⟩
 obtain⟨b,off,rfl,hc⟩:=h.2 hm
 refine⟨b,off,rfl,fun i hi=> ?_⟩
 have h1:i<L.length:=by rw[h.1];exact hi
 rw[hc i hi,List.getD_eq_getElem?_getD,List.getD_eq_getElem?_getD,List.getElem?_map,List.getElem?_eq_getElem (by rw[h.1];exact hi)]
 have h0:=hv (L[i]'h1) (List.getElem_mem _)
 show some (Value.int .i64 (L[i]'h1))=some (.int .i64 (((L[i]'h1).toNat:Nat):Int))
 rw[Int.toNat_of_nonneg h0]
def sH(L:List Int)(j:Nat):Nat:=max (L.getD j 0).toNat 1
def ja(L:List Int):List Nat:=(List.range L.length).map (sH L)
def jG(w:World)(L:List Int)(most:Int)(e:Ending)(w':World):Prop:=
 ((¬ iM L∨most<12∨20<most)∧∃v,e=.returned (.tuple #[v,.int .i64 2])∧w'.ownsRow w.heap.size 3 1 v 0 []∧Below w.heap.size w w')∨
 (iM L∧12≤most∧most≤20∧∃v len,gU (ja L) most.toNat len∧e=.returned (.tuple #[v,.int .i64 0])∧w'.ownsRow w.heap.size 3 1 v L.length (bY L.length len)∧Below w.heap.size w w')
theorem aB.lower{w:World}{B B' g c n:Nat}{f:Nat→Nat}(h:aB w B g c n f)(hB:B'≤B):aB w B' g c n f:=World.ownsRow.mono h hB
theorem om(n:Nat)(f:Nat→Nat)(hn:n≤258)(h:∀j,j<n→f j≤1073741824):((List.range n).map f).sum≤1099511627776:=by
 have h1:=sR 1073741824 ((List.range n).map f) (fun x hx=>by
  obtain⟨j,hj,rfl⟩:=List.mem_map.1 hx
  exact h j (List.mem_range.1 hj))
 rw[List.length_map,List.length_range]at h1
 have h2:1073741824*n≤1073741824*258:=Nat.mul_le_mul_left _ hn
 omega
def JA(w wx:World)(W0:List Nat)(n most gA cA t:Nat)(v:Value):Prop:=∃(gX cX:Nat) (len f:Nat→Nat),t≤40∧v=.slice (some ⟨gX,0,none⟩) n cX∧aB wx w.heap.size gA cA n f∧aB wx w.heap.size gX cX n len∧
 cB W0 t=(List.range n).map f∧kL (cB W0 t) len∧(∀ j,j<n→f j≤1073741824)∧(∀ q,q<t→∃L1,kL (cB W0 q) L1∧∃i,i<n∧most<L1 i)∧Below w.heap.size w wx
theorem rZ(n:Nat)(f:Nat→Nat):half ((List.range n).map f)=(List.range n).map fun j=>f j / 2+1:=by
 unfold half
 rw[List.map_map]
 rfl
theorem Fh(w:World)(A:Option Addr)(n c:Nat)(L:List Int)(most:Nat)(hL:ZIn w A n L)(hM:iM L)(p2:12≤most)(p3:most≤20):Calls Tryz.prog 186 #[.slice A n c,.int .i64 most] w (jG w L most):=by
 have hT:=hL.1
 have p4:2≤n:=by have:=hM.1;omega
 have hn:n≤258:=by have:=hM.2.1;omega
 have HM:=aa (vG w A n c L hL (by unfold maxLen;omega))
 rw[show decide (iM L)=true from decide_eq_true hM]at HM
 have HU:=eA hL fun x hx=>(hM.2.2 x hx).1
 have hc:(w.alloc (.cells #[] 3)).ownsRow w.heap.size 3 1 (.slice (some ⟨w.heap.size,0,none⟩) 0 0) 0 []:=World.ownsRow_made w #[] 0 (ah _) (Nat.zero_le _) rfl
 have hZ:Below w.heap.size w (w.alloc (.cells #[] 3)):=(Below.refl _ w).alloc (ah _) _
 obtain⟨v3,w3,H4,hV,HR⟩:=jf (w.alloc (.cells #[] 3)) w.heap.size _ 0 [] hc A n c _ (bF HU hZ) (by omega) (by simp)
 have HK:Below w.heap.size w w3:=hZ.grown HR (by simp) (fun k hk=>(hc.lt k hk).1)
 obtain⟨A3,cA,rfl,HL,_,HI⟩:=aj hV
 obtain⟨gA,rfl⟩:=HI (by omega)
 rw[Nat.zero_add]at hV H4 HL
 obtain⟨f0,hS⟩:∃f0:Nat→Nat,f0=fun j=>(L.getD j 0).toNat:=⟨_,rfl⟩
 have HN:aB w3 w.heap.size gA cA n f0:=by
  have:=hV
  rw[List.nil_append,n3,List.length_map,hT]at this
  have e:bY n (fun j=>(L.map Int.toNat).getD j 0)=bY n f0:=bN n _ _ fun j hj=>by
   rw[hS]
   show(L.map Int.toNat).getD j 0=(L.getD j 0).toNat
   rw[List.getD_eq_getElem?_getD,List.getD_eq_getElem?_getD,List.getElem?_map,List.getElem?_eq_getElem (by omega)]
   rfl
  rw[e]at this
  exact this
 have hB:∀j,j<n→f0 j≤1073741824:=by
  intro j hj
  rw[hS]
  have:=(hM.2.2 _ (dP L j (by omega))).2
  show(L.getD j 0).toNat≤_
  omega
 have HJ:ja L=(List.range n).map fun j=>max (f0 j) 1:=by
  unfold ja
  rw[hT,hS]
  rfl
 have hP:Hid (∀ (v:Value) (len:Nat→Nat) w',gU (ja L) most len→w'.ownsRow w.heap.size 3 1 v n (bY n len)→Below w.heap.size w w'→jG w L most (.returned (.tuple #[v,.int .i64 0])) w'):=aa fun v len w' h1 h2 h3=>
  .inr ⟨hM,by omega,by omega,v,len,by rw[Int.toNat_natCast];exact h1,rfl,by rw[hT];exact h2,h3⟩
 have m1:decide ((most:Int)<12)=false:=ao (by omega)
 have m2:decide ((20:Int)<(most:Int))=false:=ao (by omega)
 have HH:=aa H4
 have HA:=aa HN
 have H8:=aa HK
 have hE:=aa hB
 have hR:=aa HJ
 have HD:=aa EN
 have HX:=aa vR
 generalize jG w L most=PO at*
 clear hL hT hM HU hc hZ H4 hV HR HK HI HL hS HN hB HJ
 go_enter Tryz.func186,Tryz.ntmps186
 go_wp2_with fail
 refine HM.out.mono ?_
 rintro e w' ⟨rfl,rfl⟩
 clear HM
 go_wp2_with (at_builtin;refine Lib.wpList_append_run _ rfl (.tmp 22) (.tmp 23) 36 36 rfl (.slice (some ⟨w'.heap.size,0,none⟩) 0 0) (.slice A n c) rfl rfl _ w3 HH.out ?_)
 go_loopw [7] (fun x wx=>∃i:Nat,i≤n∧x=.int .i64 i∧aB wx w'.heap.size gA cA n (fun j=>if j<i then max (f0 j) 1 else f0 j)∧Below w'.heap.size w' wx) (fun x _=>n - (intOf x).toNat)
 case atStart=>
  refine⟨0,Nat.zero_le _,rfl,?_,H8.out⟩
  have e0:(fun j=>if j<0 then max (f0 j) 1 else f0 j)=f0:=by
   funext j
   rw[if_neg (by omega)]
  rw[e0]
  exact HA.out
 case round=>
  obtain⟨i,hi,rfl,hf,hb⟩:=hrel
  by_cases e:i<n
  ·have di:decide ((i:Int)<(n:Int))=true:=ar (by omega)
   have p5:(0:Int)≤(i:Int):=by omega
   have ci:=hf.cell i e
   have fi:=hf.frozen i
   rw[if_neg (by omega)]at ci
   have hg:=hf.lt
   obtain⟨x,hx⟩:∃x,x=f0 i:=⟨_,rfl⟩
   rw[← hx]at ci
   have hO:∀m:Nat,m=max x 1→(fun j=>if j=i then m else if j<i then max (f0 j) 1 else f0 j)=fun j=>if j<i+1 then max (f0 j) 1 else f0 j:=by
    intro m hm
    funext j
    by_cases ej:j=i
    ·rw[if_pos ej,if_pos (by omega),ej,hm,hx]
    ·rw[if_neg ej]
     by_cases ej2:j<i
     ·rw[if_pos ej2,if_pos (by omega)]
     ·rw[if_neg ej2,if_neg (by omega)]
   have HC:=aa hO
   have HF:=aa hf
   have HB:=aa hb
   have HT:w'.heap.size≤gA:=hg.1
   have HZ:x≤1073741824:=by rw[hx];exact hE.out i e
   clear hf hb hO hx hg
   by_cases h0:x=0
   ·subst h0
    have hs:=HF.out.set i 1
    rw[HC.out 1 rfl]at hs
    have HS:=aa hs
    have hC:=aa (HB.out.setCell (p:=⟨gA,i,none⟩) HT (.int .i64 ((1:Nat):Int)))
    clear hs
    go_wp2_with fail
    go_roundw
    case rel=>exact⟨i+1,by omega,by go_num,HS.out,hC.out⟩
    case measure=>simp[intOf];omega
   ·have hs:=HF.out.set i x
    rw[HC.out x (by omega)]at hs
    have HS:=aa hs
    have hC:=aa (HB.out.setCell (p:=⟨gA,i,none⟩) HT (.int .i64 (x:Int)))
    have dx:decide ((x:Int)<1)=false:=ao (by omega)
    have pf:¬((x:Int)<1):=by omega
    clear hs
    go_wp2_with fail
    go_roundw
    case rel=>exact⟨i+1,by omega,by go_num,HS.out,hC.out⟩
    case measure=>simp[intOf];omega
  ·obtain rfl:i=n:=by omega
   have di:decide ((i:Int)<(i:Int))=false:=ao (by omega)
   have ho:aB wr w'.heap.size gA cA i (fun j=>max (f0 j) 1):=by
    have h3:wr.ownsRow w'.heap.size 3 1 (.slice (some ⟨gA,0,none⟩) i cA) i (bY i fun j=>if j<i then max (f0 j) 1 else f0 j):=hf
    rw[bN i _ (fun j=>max (f0 j) 1) fun j hj=>if_pos hj]at h3
    exact h3
   have h6:∀j,j<i→(fun j=>max (f0 j) 1) j≤1073741824:=fun j hj=>by
    have:=hE.out j hj
    show max (f0 j) 1≤_
    omega
   have hv:=HD.out wr (some ⟨gA,0,none⟩) i cA _ ho.ints (by omega) (by omega) (om i _ (by omega) h6)
   rw[← hR.out]at hv
   have hH:=aa hv
   have hD:=aa ho
   have hA:=aa hb
   have H3:=ho.lt
   clear hf hb ho hv h6
   go_wp2_with fail
   refine hH.out.mono ?_
   rintro e w5 ⟨gX,cX,len,h5,rfl,HO,H0⟩
   have H5:=hA.out.size
   have he:JA w' w5 (ja L) i most gA cA 0 (.slice (some ⟨gX,0,none⟩) i cX):=
    ⟨gX,cX,len,_,by omega,rfl,hD.out.below H0 H3.2,HO.lower H5,hR.out,h5,(fun j hj=>by
      have:=hE.out j hj
      show max (f0 j) 1≤_
      omega),(fun q hq=>by omega),hA.out.trans (H0.mono H5)⟩
   have hl:=aa he
   have hJ:Hid ((ja L).length=i∧∀x∈ja L,x≤2 ^ 30):=aa (by
    rw[hR.out]
    refine⟨by simp,fun x hx=> ?_⟩
    obtain⟨j,hj,rfl⟩:=List.mem_map.1 hx
    have:=hE.out j (List.mem_range.1 hj)
    show max (f0 j) 1≤2 ^ 30
    have e30:(2:Nat) ^ 30=1073741824:=by decide
    omega)
   clear h5 HO H0 he H5 hR hE hD hA HA H8 HH hH
   generalize ja L=W0 at*
   go_wp2_with fail
   go_loopw [8,9,10] (fun v x z wx=>∃t:Nat,x=.int .i64 t∧JA w' wx W0 i most gA cA t v) (fun _ x _ _=>41 - (intOf x).toNat)
   case atStart=>exact⟨0,rfl,hl.out⟩
   case round=>
    clear hl
    rename World=>w6
    obtain⟨t,rfl,gY,cY,len,f,ht,rfl,H2,hN,hw,h5,hB,hq,hb⟩:=hrel
    have hQ:=aa H2
    have hW:=aa hN
    have hX:=aa hw
    have h7:=aa h5
    have hG:=aa hB
    have HQ:=aa hq
    have HB:=aa hb
    have p1:=hb.size
    have h8:(∀ j,j<i→len j≤most)→PO (.returned (.tuple #[.slice (some ⟨gY,0,none⟩) i cY,.int .i64 0])) w6:=fun hall=>by
     have hm:gU (cB W0 t) most len:=.done h5 (by rw[dX,hJ.out.1];exact hall)
     have HY:=mI (w:=W0) t (fun q hq2=>by rw[hJ.out.1];exact hq q hq2) hm
     exact hP.out _ len w6 HY hN hb
    have h4:=aa h8
    by_cases e:t<40
    ·have dt:decide ((t:Int)<40)=true:=ar (by omega)
     have HG:=aa (HX.out w6 (some ⟨gY,0,none⟩) i cY _ hN.ints (by omega) (by omega))
     clear H2 hN hw h5 hB hq hb h8
     go_wp2_with fail
     refine HG.out.mono ?_
     rintro e w7 ⟨g,rfl,hz,rfl⟩
     have hh:Hid ((∀ j,j<i→len j≤g)∧∃j,j<i∧len j=g):=aa (by
      refine⟨fun j hj=> ?_,?_⟩
      ·have h3:((List.range i).map len).getD j 0≤g:=hz.1 j hj
       rw[cH i len j hj]at h3
       exact h3
      ·obtain⟨j,hj,h⟩:=hz.2
       have h3:((List.range i).map len).getD j 0=g:=h
       rw[cH i len j hj]at h3
       exact⟨j,hj,h3⟩)
     clear hz HG
     by_cases e2:most<g
     ·have dg:decide ((most:Int)<(g:Int))=true:=ar (by omega)
      have HE:Hid (∀ q,q<t+1→∃L1,kL (cB W0 q) L1∧∃j,j<i∧most<L1 j):=aa (by
       intro q hq
       by_cases eq:q=t
       ·subst eq
        obtain⟨j,hj,h⟩:=hh.out.2
        exact⟨len,h7.out,j,hj,by rw[h];exact e2⟩
       ·exact HQ.out q (by omega))
      clear h4 hh HQ h7 hW
      go_wp2_with fail
      go_loopw [10] (fun z wx=>∃j:Nat,j≤i∧z=.int .i64 j∧aB wx w'.heap.size gA cA i (fun a=>if a<j then f a / 2+1 else f a)∧Below w'.heap.size w' wx) (fun z _=>i - (intOf z).toNat)
      case atStart=>
       refine⟨0,Nat.zero_le _,rfl,?_,HB.out⟩
       have e0:(fun a=>if a<0 then f a / 2+1 else f a)=f:=by
        funext a
        rw[if_neg (by omega)]
       rw[e0]
       exact hQ.out
      case round=>
       clear hQ HB p1
       rename World=>w8
       obtain⟨j,hj,rfl,hu,hK⟩:=hrel
       by_cases e3:j<i
       ·have dj:decide ((j:Int)<(i:Int))=true:=ar (by omega)
        have pb:(0:Int)≤(j:Int):=by omega
        have cj:=hu.cell j e3
        have fj:=hu.frozen j
        rw[if_neg (by omega)]at cj
        have hg:=hu.lt
        obtain⟨x,hx⟩:∃x,x=f j:=⟨_,rfl⟩
        rw[← hx]at cj
        obtain⟨y,hy⟩:∃y,y=x / 2:=⟨_,rfl⟩
        obtain⟨y1,HV⟩:∃y1,y1=y+1:=⟨_,rfl⟩
        have pj:(x:Int) / 2=(y:Int):=by omega
        have HZ:x≤1073741824:=by rw[hx];exact hG.out j e3
        have pg:y≤1073741824:=by omega
        have p0:(y:Int)+1=(y1:Int):=by omega
        have hs:=hu.set j y1
        have hO:(fun a=>if a=j then y1 else if a<j then f a / 2+1 else f a)=fun a=>if a<j+1 then f a / 2+1 else f a:=by
         funext a
         by_cases ea:a=j
         ·rw[if_pos ea,if_pos (by omega),ea,HV,hy,hx]
         ·rw[if_neg ea]
          by_cases ea2:a<j
          ·rw[if_pos ea2,if_pos (by omega)]
          ·rw[if_neg ea2,if_neg (by omega)]
        rw[hO]at hs
        have HS:=aa hs
        have hC:=aa (hK.setCell (p:=⟨gA,j,none⟩) hg.1 (.int .i64 (y1:Nat)))
        clear hu hK hs hO hx hy HV hg
        go_wp2_with fail
        go_roundw
        case rel=>exact⟨j+1,by omega,by go_num,HS.out,hC.out⟩
        case measure=>simp[intOf];omega
       ·obtain rfl:j=i:=by omega
        have dj:decide ((j:Int)<(j:Int))=false:=ao (by omega)
        have ho:aB w8 w'.heap.size gA cA j (fun a=>f a / 2+1):=by
         have h3:w8.ownsRow w'.heap.size 3 1 (.slice (some ⟨gA,0,none⟩) j cA) j (bY j fun a=>if a<j then f a / 2+1 else f a):=hu
         rw[bN j _ (fun a=>f a / 2+1) fun a ha=>if_pos ha]at h3
         exact h3
        have h6:∀a,a<j→(fun a=>f a / 2+1) a≤1073741824:=fun a ha=>by
         have:=hG.out a ha
         show f a / 2+1≤_
         omega
        have h9:cB W0 (t+1)=(List.range j).map fun a=>f a / 2+1:=by
         rw[cB,hX.out,rZ]
        have hv:=HD.out w8 (some ⟨gA,0,none⟩) j cA _ ho.ints (by omega) (by omega) (om j _ (by omega) h6)
        rw[← h9]at hv
        have hI:=aa hv
        have hD:=aa ho
        have hA:=aa hK
        have hF:=aa h6
        have hp:=aa h9
        have H3:=ho.lt
        have HW:=hK.size
        clear hu hK ho hv h6 h9
        go_wp2_with fail
        refine hI.out.mono ?_
        rintro e w9 ⟨gZ,cZ,len2,hr,rfl,HP,H1⟩
        have he:JA w' w9 W0 j most gA cA (t+1) (.slice (some ⟨gZ,0,none⟩) j cZ):=
         ⟨gZ,cZ,len2,_,by omega,rfl,hD.out.below H1 H3.2,HP.lower HW,hp.out,hr,hF.out,HE.out,hA.out.trans (H1.mono HW)⟩
        have hl:=aa he
        clear hr HP H1 he hI hD hA hF hp HE
        go_wp2_with fail
        go_roundw
        case rel=>exact⟨t+1,by go_num,hl.out⟩
        case measure=>simp[intOf];omega
     ·have dg:decide ((most:Int)<(g:Int))=false:=ao (by omega)
      have hY:=aa (h4.out fun j hj=>by
       have:=hh.out.1 j hj
       omega)
      clear h4 hh HQ h7 hW hQ HB
      go_wp2_with fail
      exact hY.out
    ·have dt:decide ((t:Int)<40)=false:=ao (by omega)
     have hY:=aa (h4.out fun j hj=>by
      have:=pW (w:=W0) hJ.out.2 (by rw[hJ.out.1];exact hn) t (by omega) h7.out j (by rw[hJ.out.1];exact hj)
      omega)
     clear h4 HQ h7 hW hQ HB H2 hN hw h5 hB hq hb h8
     go_wp2_with fail
     exact hY.out
def bc(L:List Int):Nat:=(L.map fun x=>2 ^ (20 - x.toNat)).sum
def aY(L:List Int):Prop:=2≤L.length∧L.length≤258∧(∀ x∈L,1≤x∧x≤20)∧bc L≤1048576
instance (L:List Int):Decidable (aY L):=inferInstanceAs (Decidable (_∧_))
def pO(L:List Int):Int:=if aY L then(bc L:Nat)else -1
theorem sw(L:List Int)(x:Int):bc (L++ [x])=bc L+2 ^ (20 - x.toNat):=by
 unfold bc
 rw[List.map_append,List.sum_append]
 simp
theorem FW(L:List Int)(h:∀x∈L,1≤x):bc L≤524288*L.length:=by
 unfold bc
 have h1:=sR 524288 (L.map fun x=>2 ^ (20 - x.toNat)) (fun y hy=>by
  obtain⟨x,hx,rfl⟩:=List.mem_map.1 hy
  have:=h x hx
  have h2:2 ^ (20 - x.toNat)≤2 ^ 19:=Nat.pow_le_pow_right (by decide) (by omega)
  exact h2)
 rw[List.length_map]at h1
 exact h1
theorem GJ(w:World)(A:Option Addr)(n c:Nat)(L:List Int)(hL:ZIn w A n L)(hn:n≤maxLen):Calls Tryz.prog 158 #[.slice A n c] w fun e w'=>e=.returned (.int .i64 (pO L))∧w'=w:=by
 unfold maxLen at hn
 have hp:=hL.1
 have HL:=aa hL
 have hf:=aa hp
 have h9:Hid (∀ x∈L,(x<1∨20<x)→pO L= -1):=aa fun x hx h=>if_neg fun hm=>by
  have:=hm.2.2.1 x hx
  omega
 have h5:Hid ((n<2∨258<n)→pO L= -1):=aa fun h=>if_neg fun hm=>by
  have:=hm.1
  have:=hm.2.1
  omega
 have h6:Hid (1048576<bc L→pO L= -1):=aa fun h=>if_neg fun hm=>by
  have:=hm.2.2.2
  omega
 have h7:Hid (2≤n→n≤258→(∀ x∈L,1≤x∧x≤20)→bc L≤1048576→pO L=(bc L:Nat)):=aa fun h1 h2 h3 h4=>if_pos ⟨by omega,by omega,h3,h4⟩
 clear hL hp
 generalize pO L=ans at*
 go_enter Tryz.func158,Tryz.ntmps158
 go_wp2_with fail
 go_loopw [3,4] (fun s i wx=>∃(q:Nat) (v:Int),q≤n∧i=.int .i64 q∧s=.int .i64 v∧Hid (q≤1000000→v=(bc (L.take q):Nat))∧Hid (∀ x∈L.take q,1≤x∧x≤20)∧wx=w) (fun _ i _=>n - (intOf i).toNat)
 case atStart=>exact⟨0,0,Nat.zero_le _,rfl,rfl,fun _=>rfl,by simp[Hid],rfl⟩
 case round=>
  obtain⟨q,v,hq,rfl,rfl,hk,hv,rfl⟩:=hrel
  by_cases e:q<n
  ·have dq:decide ((q:Int)<(n:Int))=true:=ar (by omega)
   obtain⟨b,off,rfl,hc⟩:=HL.out.2 (by omega)
   have hw:=hc q e
   have hi:=dD L q (by rw[hf.out];exact e)
   have ha:=dP L q (by rw[hf.out];exact e)
   obtain⟨x,hx⟩:∃x,x=L.getD q 0:=⟨_,rfl⟩
   rw[← hx]at hw hi ha
   have hj:=aa hi
   have HM:=aa ha
   clear hc hx hi ha
   by_cases e1:x<1
   ·have d1:decide (x<1)=true:=decide_eq_true e1
    have h0:=h9.out x HM.out (.inl e1)
    subst h0
    clear h5 h6 h7
    go_wp2_with fail
    go_ret
    exact⟨rfl,rfl⟩
   ·have d1:decide (x<1)=false:=decide_eq_false e1
    by_cases e2:20<x
    ·have d2:decide (20<x)=true:=decide_eq_true e2
     have h0:=h9.out x HM.out (.inr e2)
     subst h0
     clear h5 h6 h7
     go_wp2_with fail
     go_ret
     exact⟨rfl,rfl⟩
    ·obtain⟨y,rfl⟩:∃y:Nat,x=y:=⟨x.toNat,by omega⟩
     have d1':decide ((y:Int)<1)=false:=d1
     have d2:decide ((20:Int)<(y:Int))=false:=decide_eq_false e2
     have h8:∀z∈L.take (q+1),1≤z∧z≤20:=by
      rw[hj.out]
      intro z hz
      rcases List.mem_append.1 hz with hz | hz
      ·exact hv.out z hz
      ·rw[List.mem_singleton.1 hz]
       omega
     have hl:=aa h8
     obtain⟨d,hd⟩:∃d,d=20 - y:=⟨_,rfl⟩
     have hA:(20:Int) - (y:Int)=(d:Int):=by omega
     have hg:d≤19:=by omega
     obtain⟨t,ht⟩:∃t:Nat,t=2 ^ d:=⟨_,rfl⟩
     have hB:((2:Int) ^ d)=(t:Int):=by rw[ht];simp
     have hy:t≤524288:=by
      rw[ht]
      exact Nat.pow_le_pow_right (by decide) hg
     have ho:bc (L.take (q+1))=bc (L.take q)+t:=by
      rw[hj.out,sw,ht,hd,Int.toNat_natCast]
     have hh:=FW (L.take q) fun z hz=>(hv.out z hz).1
     have hr:(L.take q).length≤q:=by rw[List.length_take];omega
     have hu:=aa ho
     have hC:¬(y:Int)<1:=e1
     clear h8 hd ht ho e1
     by_cases e3:q+1≤1000000
     ·have he:=hk.out (by omega)
      obtain⟨z,hz⟩:∃z,z=bc (L.take q):=⟨_,rfl⟩
      rw[← hz]at he hh
      have HZ:=aa hz
      subst he
      have hD:z≤524288000000:=by
       have:524288*(L.take q).length≤524288*1000000:=Nat.mul_le_mul_left _ (by omega)
       omega
      have hs:Hid (q+1≤1000000→(z:Int)+(t:Int)=(bc (L.take (q+1)):Nat)):=aa fun _=>by rw[hu.out,←HZ.out];simp
      clear hz hk hh hr h9 h5 h6 h7
      go_wp2_with fail
      go_roundw
      case rel=>exact⟨q+1,_,by omega,by go_num,rfl,hs,hl,trivial⟩
      case measure=>simp[intOf];omega
     ·clear hh hr hk h9 h5 h6 h7
      go_wp2_with fail
      go_roundw
      case rel=>exact⟨q+1,_,by omega,by go_num,rfl,fun h=>absurd h e3,hl,trivial⟩
      case measure=>simp[intOf];omega
  ·obtain rfl:q=n:=by omega
   have dq:decide ((q:Int)<(q:Int))=false:=ao (by omega)
   have h8:=hv.out
   have hb:=hk.out
   rw[List.take_of_length_le (Nat.le_of_eq hf.out)]at h8 hb
   by_cases h1:q<2
   ·have d1:decide ((q:Int)<2)=true:=ar (by omega)
    have h0:=h5.out (.inl h1)
    subst h0
    clear h8 hb hk hv h9 h5 h6 h7
    go_wp2_with fail
    go_ret
    exact⟨rfl,rfl⟩
   ·have d1:decide ((q:Int)<2)=false:=ao (by omega)
    by_cases h2:258<q
    ·have d2:decide ((258:Int)<(q:Int))=true:=ar (by omega)
     have h0:=h5.out (.inr h2)
     subst h0
     clear h8 hb hk hv h9 h5 h6 h7
     go_wp2_with fail
     go_ret
     exact⟨rfl,rfl⟩
    ·have d2:decide ((258:Int)<(q:Int))=false:=ao (by omega)
     have he:=hb (by omega)
     obtain⟨z,hz⟩:∃z,z=bc L:=⟨_,rfl⟩
     rw[← hz]at he
     subst he
     by_cases h3:1048576<z
     ·have d3:decide ((1048576:Int)<(z:Int))=true:=ar (by omega)
      have h0:=h6.out (by rw[← hz];exact h3)
      subst h0
      clear h8 hb hk hv h9 h5 h6 h7 hz
      go_wp2_with fail
      go_ret
      exact⟨rfl,rfl⟩
     ·have d3:decide ((1048576:Int)<(z:Int))=false:=ao (by omega)
      have h0:=h7.out (by omega) (by omega) h8 (by rw[← hz];omega)
      rw[← hz]at h0
      subst h0
      clear h8 hb hk hv h9 h5 h6 h7 hz
      go_wp2_with fail
      go_ret
      exact⟨rfl,rfl⟩
theorem tR(w:World)(A:Option Addr)(n c:Nat)(L:List Int)(hL:ZIn w A n L)(hn:n≤maxLen):Calls Tryz.prog 96 #[.slice A n c] w fun e w'=>e=.returned (.int .i64 (if aY L then 0 else 80))∧w'=w:=by
 have HR:=aa (GJ w A n c L hL hn)
 clear hL
 by_cases h:aY L
 ·rw[show pO L=(bc L:Nat)from if_pos h]at HR
  rw[if_pos h]
  obtain⟨z,hz⟩:∃z,z=bc L:=⟨_,rfl⟩
  rw[← hz]at HR
  have d0:decide ((z:Int)<0)=false:=ao (by omega)
  clear h hz
  go_enter Tryz.func96,Tryz.ntmps96
  go_wp2_with fail
  refine HR.out.mono ?_
  rintro e w' ⟨rfl,rfl⟩
  go_wp2_with fail
  go_ret
  exact⟨rfl,rfl⟩
 ·rw[show pO L= -1 from if_neg h]at HR
  rw[if_neg h]
  clear h
  go_enter Tryz.func96,Tryz.ntmps96
  go_wp2_with fail
  refine HR.out.mono ?_
  rintro e w' ⟨rfl,rfl⟩
  go_wp2_with fail
  go_ret
  exact⟨rfl,rfl⟩
def qK(w:World)(L:List Int)(e:Ending)(w':World):Prop:=
 (¬ iM L∧∃v,e=.returned (.tuple #[v,.int .i64 2])∧w'.ownsRow w.heap.size 3 1 v 0 []∧Below w.heap.size w w')∨
 (iM L∧∃v k,2 ^ k≤L.length∧L.length<2 ^ (k+1)∧e=.returned (.tuple #[v,.int .i64 0])∧w'.ownsRow w.heap.size 3 1 v L.length (bY L.length (bI k (2 ^ (k+1) - L.length) (ja L)))∧Below w.heap.size w w')
end Go.Proofs.YthakcjehhlpjnaaGreat
