import Derived.Test.YthakcjehhlpjnaaGreatB13
import Derived.Test.YthakcjehhlpjnaaGreatB03
set_option maxHeartbeats 3200000
set_option maxRecDepth 100000
namespace Go.Proofs.YthakcjehhlpjnaaGreat
open Go.RowKit
theorem y5{P:Program}{f:FuncId}{args:Array Value}{w:World}{R:Ending→World→Prop}(h:Calls P f args w R):∃e w',R e w':=by
 obtain⟨e,w',_,hR,_⟩:=h []
 exact⟨e,w',hR⟩
theorem Iq(w:World)(L:List Int):ZIn (w.alloc (.cells (L.map fun(x:Int)=>Value.int .i64 x).toArray 3)) (some ⟨w.heap.size,0,none⟩) L.length L:=by
 refine⟨rfl,fun _=>⟨w.heap.size,0,rfl,fun i hi=> ?_⟩⟩
 rw[Nat.zero_add,ac (ag w 3 _)]
 simp[hi]
theorem eT(l:List Nat):(zL l).length=l.length:=List.length_map _
theorem jr(W:List Nat):(yH W).length=W.length:=List.length_map _
def nt(l:List Nat)(n:Nat):Prop:=l.length=n∧aY (zL l)∧bc (zL l)=1048576
theorem sC{n:Nat}{len:Nat→Nat}(h2:2≤n)(hn:n≤258)(hl:∀i,i<n→len i≤20)(hs:((List.range n).map fun i=>2 ^ (20 - len i)).sum=2 ^ 20):nt ((List.range n).map len) n:=by
 have h:=Gp h2 hn hl hs
 exact⟨by simp,h.1,h.2⟩
theorem ug(w:World)(W:List Nat)(h2:2≤W.length)(hn:W.length≤258)(hx:∀x∈W,x≤1073741824):nt (gD W) W.length:=by
 have hM:iM (zL W):=⟨by rw[eT];exact h2,by rw[eT];exact hn,fun x hx'=>by
  obtain⟨y,hy,rfl⟩:=List.mem_map.1 hx'
  have:=hx y hy
  exact⟨by omega,by omega⟩⟩
 obtain⟨e,w',hR⟩:=y5 (Fh (w.alloc (.cells ((zL W).map fun(x:Int)=>Value.int .i64 x).toArray 3)) (some ⟨w.heap.size,0,none⟩) (zL W).length (zL W).length (zL W) 17 (Iq w (zL W)) hM (by omega) (by omega))
 rcases hR with⟨h1,_⟩ | ⟨_,_,_,v,len,hm,_⟩
 ·rcases h1 with h | h | h
  ·exact absurd hM h
  ·omega
  ·omega
 ·have e1:ja (zL W)=yH W:=ou W
  rw[e1]at hm
  have h0:gU (yH W) 17 len:=hm
  have hg:=Ah h0
  rw[jr]at hg
  have h:=sC h2 hn (fun i hi=>by have:=hg.1 i hi;omega) (hg.2 20 (by omega))
  unfold gD
  rw[yo h0]
  exact h
theorem EH(W:List Nat)(h2:2≤W.length)(hn:W.length≤258):nt (nU W) W.length:=by
 obtain⟨k,hk⟩:∃k,k=Nat.log2 W.length:=⟨_,rfl⟩
 have h1:2 ^ k≤W.length:=by
  rw[hk]
  exact Nat.log2_self_le (by omega)
 have h3:W.length<2 ^ (k+1):=by
  rw[hk]
  exact Nat.lt_log2_self
 have h0:k≤8:=by
  rcases Nat.lt_or_ge 8 k with h | h
  ·have h4:2 ^ 9≤2 ^ k:=Nat.pow_le_pow_right (by decide) h
   have h5:(2:Nat) ^ 9=512:=by decide
   omega
  ·exact h
 have hs:=AD (yH W) k (by rw[jr];exact h1) (by rw[jr];exact h3) 20 (by omega)
 rw[jr]at hs
 have h:=sC h2 hn (fun i _=>by unfold bI;split <;>omega) hs
 unfold nU
 rw[← hk]
 exact h
theorem dH(L P:List Nat)(t n:Nat):(bh L P t n).length=n:=by simp[bh]
theorem AH(L P:List Nat)(t n:Nat):∀x∈bh L P t n,x≤L.length:=by
 intro x hx
 obtain⟨s,_,rfl⟩:=List.mem_map.1 hx
 exact mf L P t s L.length
theorem eH(L:List Nat)(n T:Nat):∀r,(bZ L n T r).1.length=T
 | 0=>by simp[bZ,F6]
 | r+1=>by simp[bZ,vg]
def eN(T:List (List Int))(P L:List Int)(m:Int):Prop:=aR T P∧P.length=aQ L.length∧∀t∈T,(t.length:Int)=m∧aY t∧bc t=1048576
theorem vV{n:Nat}(h:1≤n)(h2:n≤1638350):1≤aQ n∧aQ n≤32767:=by
 unfold aQ
 omega
theorem By{T:List (List Int)}{P L:List Int}{m:Int}(hM:g9 L m)(h2:2≤T.length)(h6:T.length≤6)(hP:P.length=aQ L.length)(hx:∀x∈P,0≤x∧x<(T.length:Int))(ht:∀t∈T,(t.length:Int)=m∧aY t∧bc t=1048576):eN T P L m:=by
 have hg:=vV hM.2.2.1 hM.2.2.2.1
 have h0:(T.getD 0 [])∈T:=ii (by omega)
 have hm:=(ht _ h0).1
 have h3:=hM.1
 exact⟨⟨h2,h6,by omega,by omega,fun t h=>⟨by have:=(ht t h).1;omega,(ht t h).2.1⟩,hx,by omega⟩,hP,ht⟩
theorem BL{l:List Nat}{m:Int}{n:Nat}(h:nt l n)(hm:(n:Int)=m):((zL l).length:Int)=m∧aY (zL l)∧bc (zL l)=1048576:=⟨by rw[eT,h.1];exact hm,h.2.1,h.2.2⟩
theorem pR(L:List Int):(hU L).length=L.length:=List.length_map _
theorem p6(w:World){L:List Int}{m:Int}(hM:g9 L m):eN (aU L m).1 (aU L m).2.1 L m:=by
 have hT:=pE L.length
 have hm:((m.toNat:Nat):Int)=m:=Int.toNat_of_nonneg (by have:=hM.1;omega)
 have h3:=hM.1
 have h0:=hM.2.1
 have h2:=hM.2.2.2.1
 rw[aU,if_pos hM]
 refine By hM ?_ ?_ ?_ ?_ ?_
 ·rw[List.length_map,eH]
  exact hT.1
 ·rw[List.length_map,eH]
  exact hT.2
 ·rw[eT]
  show(ky (hU L) _).length=_
  simp[ky,pR]
 ·intro x hx
  obtain⟨y,hy,rfl⟩:=List.mem_map.1 hx
  have h4:y∈ky (hU L) (bZ (hU L) m.toNat (cL L.length) 3).1:=hy
  obtain⟨k,_,rfl⟩:=List.mem_map.1 h4
  have:=(xF (bZ (hU L) m.toNat (cL L.length) 3).1 (cD (hU L) k) (by rw[eH];omega)).1
  rw[eH]at this
  rw[List.length_map,eH]
  exact⟨by omega,by omega⟩
 ·intro t ht
  obtain⟨l,hl,rfl⟩:=List.mem_map.1 ht
  have h1:l∈vg (hU L) (ky (hU L) (bZ (hU L) m.toNat (cL L.length) 3).1) m.toNat (cL L.length):=hl
  obtain⟨t,_,rfl⟩:=List.mem_map.1 h1
  have h:=ug w (bh (hU L) (ky (hU L) (bZ (hU L) m.toNat (cL L.length) 3).1) t m.toNat) (by rw[dH];omega) (by rw[dH];omega) (fun x hx=>by
   have:=AH _ _ _ _ x hx
   rw[pR]at this
   omega)
  rw[dH]at h
  exact BL h hm
theorem oJ{L:List Int}{m:Int}(hM:g9 L m):eN (aZ L m).1 (aZ L m).2.1 L m:=by
 have hm:((m.toNat:Nat):Int)=m:=Int.toNat_of_nonneg (by have:=hM.1;omega)
 have h3:=hM.1
 have h0:=hM.2.1
 have hf:nt (kD (hU L) m.toNat) m.toNat:=by
  have h:=EH (bh (hU L) (List.replicate (aQ (hU L).length) 0) 0 m.toNat) (by rw[dH];omega) (by rw[dH];omega)
  rw[dH]at h
  exact h
 rw[aZ,if_pos hM]
 refine By hM (Nat.le_refl 2) (by show 2≤6;omega) ?_ ?_ ?_
 ·rw[eT,List.length_replicate]
 ·intro x hx
  obtain⟨y,hy,rfl⟩:=List.mem_map.1 hx
  rw[(List.mem_replicate.1 hy).2]
  exact⟨by omega,by show((0:Nat):Int)<2;omega⟩
 ·intro t ht
  have e:t=zL (kD (hU L) m.toNat):=by
   rcases List.mem_cons.1 ht with h | h
   ·exact h
   ·exact List.mem_singleton.1 h
  rw[e]
  exact BL hf hm
theorem kJ{T:List (List Int)}{P L:List Int}{m:Int}(h:eN T P L m)(hM:g9 L m):bD T P L=(cQ (T.map nl) (nl P) (nl L) L.length,0):=by
 have hT:=h.1.1
 have h0:(T.getD 0 [])∈T:=ii (by omega)
 have hm:=(h.2.2 _ h0).1
 rw[bD,if_pos ⟨h.1,by rw[h.2.1];exact Nat.le_refl _⟩,if_pos (fun x hx=>by
  have:=hM.2.2.2.2 x hx
  exact⟨this.1,by omega⟩)]
theorem aN.past{w w':World}{v:Value}{T:List (List Int)}{P:List Int}(h:aN w v T P)(hT:∀t∈T,0<t.length){g:Nat}{u:TypeId}(hg:Blk w g u #[.slice none 0 0,.slice none 0 0])
 (hk:∀k,k≠g→w'.heap[k]? =w.heap[k]?):aN w' v T P:=by
 have ha:∀b o,b≠g→w'.cell? ⟨b,o,none⟩=w.cell? ⟨b,o,none⟩:=by
  intro b o hb
  simp only[World.cell?,hk b hb]
 have he:∀o x,w.cell? ⟨g,o,none⟩=some x→x=.slice none 0 0:=by
  intro o x hx
  rw[ac hg o]at hx
  rcases o with _ | _ | o
  ·simpa using hx.symm
  ·simpa using hx.symm
  ·simp at hx
 have hz:∀(A:Option Addr) (n:Nat) (L:List Int),ZIn w A n L→ZIn w' A n L:=by
  intro A n L hz
  refine⟨hz.1,fun hn=> ?_⟩
  obtain⟨b,off,rfl,hc⟩:=hz.2 hn
  have hf:b≠g:=by
   rintro rfl
   have:=he _ _ (hc 0 hn)
   cases this
  exact⟨b,off,rfl,fun i hi=>(ha b _ hf).trans (hc i hi)⟩
 obtain⟨A,n,c,B,m,d,h0,h1,h2,h3,h4,h5,h6⟩:=h
 refine⟨A,n,c,B,m,d,h0,⟨h1.1,fun hn=> ?_⟩,h2,h3,hz _ _ _ h4,h5,h6⟩
 obtain⟨b,off,rfl,hc⟩:=h1.2 hn
 have hf:b≠g:=by
  rintro rfl
  obtain⟨A2,c2,k1,_⟩:=hc 0 hn
  have h7:=he _ _ k1
  have h8:T.getD 0 []∈T:=ii (by rw[h1.1];exact hn)
  have h9:=hT _ h8
  simp only[Value.slice.injEq]at h7
  omega
 refine⟨b,off,rfl,fun i hi=> ?_⟩
 obtain⟨A2,c2,k1,k2,k3,k4⟩:=hc i hi
 exact⟨A2,c2,(ha b _ hf).trans k1,hz _ _ _ k2,k3,k4⟩
noncomputable def fo (L:List Int) (m:Int):List (List Int)×List Int×Nat:=
 if g9 L m then(if(ff (aZ L m).1 (aZ L m).2.1 L).1<(ff (aU L m).1 (aU L m).2.1 L).1 then aZ L m else aU L m)else([], [],2)
theorem uj{T:List (List Int)}{P L:List Int}{m:Int}(h:eN T P L m)(hM:g9 L m):∀t∈T,0<t.length:=fun t ht=>by
 have:=(h.2.2 t ht).1
 have:=hM.1
 omega
theorem kr(w:World)(g:Nat)(u v:Value):∀k,k≠g→((w.setCell ⟨g,0,none⟩ u).setCell ⟨g,1,none⟩ v).heap[k]? =w.heap[k]? :=by
 intro k hk
 rw[Below.heap_setCell _ ⟨g,1,none⟩ v k hk,Below.heap_setCell _ ⟨g,0,none⟩ u k hk]
theorem oI(w:World)(A:Option Addr)(n c:Nat)(a k:Nat)(_hn:n≤1000000000000)(_ha:a≤n)(hk:k≤64)(_h:n<a+k):
 Calls Tryz.prog 93 #[.slice A n c,.int .i64 a,.int .i64 k] w fun e w'=>e=.returned (.tuple #[.int .u64 0,.int .i64 10])∧w=w':=by
 go_enter Tryz.func93,Tryz.ntmps93
 go_wp2
 go_ret2
 exact⟨rfl,rfl⟩
theorem y4(w:World)(A:Option Addr)(n c:Nat)(L:List Nat)(a k:Nat)(hi:aw w A n L)(hb:an L)(hc:n≤c)(hn:c≤maxLen)(hk:k≤64)(h0:a+k≤n):
 Calls Tryz.prog 93 #[.slice A n c,.int .i64 a,.int .i64 k] w fun e w'=>e=.returned (.tuple #[.int .u64 (val ((L.drop a).take k)),.int .i64 0])∧w=w':=by
 unfold maxLen at hn
 have h1:=hb.drop a
 go_enter Tryz.func93,Tryz.ntmps93
 go_wp2_with fail
 ·refine(kz w A k 0 ((L.drop a).take k) (hi.nil (by omega) h0) (h1.take k) hk).mono ?_
  rintro e w' ⟨rfl,rfl⟩
  go_wp2_with fail
  go_ret2
  exact⟨rfl,rfl⟩
 ·refine(kz w (Option.map (fun x=>x.add a) A) k (c - a) ((L.drop a).take k) (hi.cut h0) (h1.take k) hk).mono ?_
  rintro e w' ⟨rfl,rfl⟩
  go_wp2_with fail
  go_ret2
  exact⟨rfl,rfl⟩
theorem mA{w:World}{B e n p:Nat}{v:Value}{xs:List Value}{u:TypeId}{ds:Array Value}(h:w.ownsRow B e 1 v n xs)(k:Blk w p u ds)(h0:e≠u):∀j,v.ownBlock=some j→j∉ [p]:=by
 intro j hj hm
 rw[List.mem_singleton]at hm
 subst hm
 obtain⟨c1,f1,e1⟩:=Lib.ownsRow_kind h j hj
 unfold Blk at k
 rw[e1]at k
 simp only[Option.some.injEq,Obj.cells.injEq]at k
 exact h0 k.2.1
structure jW (w0 w:World) (v:Value) (q:Nat) (F:Nat→Value) (C:Nat→List Nat):Prop where
 row:w.ownsRow w0.heap.size 36 1 v q ((List.range q).map F)
 each:∀t,t<q→(∃ A k,F t=.slice A (C t).length k∧(C t).length≤k)∧w.ownsRow w0.heap.size 3 1 (F t) (C t).length ((C t).map iv)
 below:Below w0.heap.size w0 w
theorem jW.nil(w0 w:World)(F:Nat→Value)(C:Nat→List Nat)(h:Below w0.heap.size w0 w):jW w0 w (.slice none 0 0) 0 F C:=
 ⟨World.ownsRow_nil _ _ _ _,fun _ ht=>absurd ht (Nat.not_lt_zero _),h⟩
theorem jW.store{w0 w:World}{v:Value}{q:Nat}{F:Nat→Value}{C:Nat→List Nat}(h:jW w0 w v q F C){g:Nat}{u:TypeId}{ds:Array Value}(hg:Blk w g u ds)(h1:(36:TypeId)≠u)(h2:(3:TypeId)≠u)(h0:w0.heap.size≤g)(i:Nat)(x:Value):jW w0 (w.setCell ⟨g,i,none⟩ x) v q F C:=by
 have hs:ak w0.heap.size [g] [] w (w.setCell ⟨g,i,none⟩ x):=(ak.refl _ _ _ w).set (p:=⟨g,i,none⟩) h0 (by simp) x
 exact⟨hs.row h.row (mA h.row hg h1) aq,fun t ht=>⟨(h.each t ht).1,hs.row (h.each t ht).2 (mA (h.each t ht).2 hg h2) aq⟩,h.below.setCell (p:=⟨g,i,none⟩) h0 x⟩
theorem jW.push{w0 w w1:World}{A:Option Addr}{q cap:Nat}{F:Nat→Value}{C:Nat→List Nat}(h:jW w0 w (.slice A q cap) q F C){A1:Option Addr}{n k1:Nat}(ht:w1.ownsRow w.heap.size 3 1 (.slice A1 n k1) n ((C q).map iv))(hb:Below w.heap.size w w1)(hq:q≤1000)(hD:(C q).length=n):
 ∃A2 cap2 w2,(Builtin.append_ #[50,50] 50 #[.slice A q cap,.slice (some ⟨w1.heap.size,0,none⟩) 1 1]).run Tryz.prog (w1.alloc (.cells #[.slice A1 n k1] 36))=.ok (.slice A2 (q+1) cap2) w2∧
  jW w0 w2 (.slice A2 (q+1) cap2) (q+1) (fun t=>if t=q then .slice A1 n k1 else F t) C∧∀(g:Nat) (u:TypeId) (ds:Array Value),Blk w1 g u ds→(36:TypeId)≠u→Blk w2 g u ds:=by
 obtain⟨i2,h2,ha⟩:=Option.map_eq_some_iff.1 AJ
 simp only[Prod.mk.injEq]at ha
 obtain⟨hi,hl,hm⟩:=ha
 have hc:=h.below.size
 have h6:=h.below.trans (hb.mono hc)
 have h0:=jh h.row hb
 have h9:=h6.size
 obtain⟨_,_,hf,h7,_,_⟩:=aj ht
 simp only[Value.slice.injEq]at hf
 obtain⟨rfl,_,rfl⟩:=hf
 obtain⟨v2,w2,hr,ho,hg,_,_⟩:=run_append_own_at (P:=Tryz.prog) (w1.alloc (.cells #[.slice A1 n k1] 36)) w0.heap.size 50 50 36 i2 (.slice none 0 0) 1 24 Tryz.underlying50 h2 hi hl hm rfl (by decide) _ _ _ (h0.alloc _) ⟨w1.heap.size,0,none⟩ 1 1 [.slice A1 n k1] rfl (cell_one_new w1 _ _)
  (fun u hu=>by rw[List.mem_singleton.1 hu];rfl) (by unfold maxLen;omega) (by omega) (by simp;omega)
 obtain⟨A2,cap2,rfl,_,_,_⟩:=aj ho
 have h1:=h0.alloc (.cells #[.slice A1 n k1] 36)
 refine⟨A2,cap2,w2,hr,⟨?_,fun t he=> ?_,?_⟩,fun g u ds hgb hne=> ?_⟩
 ·have h3:=ho
  rw[show ((List.range q).map F)++ [.slice A1 n k1]=(List.range (q+1)).map fun t=>if t=q then .slice A1 n k1 else F t by
   rw[List.range_succ,List.map_append,List.map_singleton,if_pos rfl]
   congr 1
   apply List.map_congr_left
   intro t he
   have:=List.mem_range.1 he
   rw[if_neg (by omega)]]at h3
  exact h3
 ·by_cases e:t=q
  ·subst e
   simp only[if_true]
   have h5:=(World.ownsRow.mono ht hc).alloc (.cells #[.slice A1 n k1] 36)
   rw[hD]
   exact⟨⟨A1,k1,rfl,h7⟩,World.ownsRow.kept h5 hg (ju h5 h1 (by decide))⟩
  ·simp only[if_neg e]
   have h5:=(jh (h.each t (by omega)).2 hb).alloc (.cells #[.slice A1 n k1] 36)
   exact⟨(h.each t (by omega)).1,World.ownsRow.kept h5 hg (ju h5 h1 (by decide))⟩
 ·exact(h6.alloc h9 _).grown hg (by simp;omega) (fun k hk=>(h0.lt k hk).1)
 ·have hh:g<w1.heap.size:=(Array.getElem?_eq_some_iff.1 hgb).1
  have h4:Blk (w1.alloc (.cells #[.slice A1 n k1] 36)) g u ds:=by
   unfold Blk
   rw[heap_alloc_old _ _ hh]
   exact hgb
  have h8:∀j,(Value.slice A q cap).ownBlock=some j→j≠g:=fun j hj e=>mA h1 h4 hne j hj (by rw[e];simp)
  unfold Blk at h4 ⊢
  rw[hg.block g (by simp;omega) (fun e=>h8 g e.symm rfl)]
  exact h4
theorem jW.tabZ{w0 w:World}{A:Option Addr}{q c:Nat}{F:Nat→Value}{C:Nat→List Nat}(h:jW w0 w (.slice A q c) q F C)(hm:∀t,t<q→(C t).length≤1000):sV w A q ((List.range q).map fun t=>zL (C t)):=by
 refine⟨by simp,fun hq=> ?_⟩
 obtain⟨A',c',hv,_,_,hA⟩:=aj h.row
 simp only[Value.slice.injEq]at hv
 obtain⟨rfl,_,rfl⟩:=hv
 obtain⟨b,rfl⟩:=hA hq
 refine⟨b,0,rfl,fun i hi=> ?_⟩
 obtain⟨⟨A2,k2,e1,e2⟩,e3⟩:=h.each i hi
 have h0:((List.range q).map fun t=>zL (C t)).getD i []=zL (C i):=by
  rw[List.getD_eq_getElem?_getD,List.getElem?_map,List.getElem?_range hi]
  rfl
 rw[h0,eT]
 refine⟨A2,k2,?_,?_,e2,?_⟩
 ·rw[Nat.zero_add,World.ownsRow.cellAt h.row i (by omega),List.getElem?_map,List.getElem?_range hi,←e1]
  rfl
 ·rw[e1]at e3
  have:=cR (aJ e3)
  exact this
 ·have:=hm i hi
  unfold maxLen
  omega
def eU(bits:List Nat)(n:Nat):Nat→Nat→List (List Nat)→List (List Nat)×Nat×Nat
 | 0,p,acc=>(acc,p,0)
 | t+1,p,acc=>if(ax bits p n).2.2=0 then(if aY (zL (ax bits p n).1)then eU bits n t (ax bits p n).2.1 (acc++ [(ax bits p n).1])else([],0,80))else([],0,(ax bits p n).2.2)
def rc(bits:List Nat)(n a T K:Nat):List (List Int)×List Int×Nat×Nat:=
 if(aD bits T K [0,1,2,3,4,5] (a+18) []).2.2=0 then
  (if(eU bits n T (aD bits T K [0,1,2,3,4,5] (a+18) []).2.1 []).2.2=0 then
    (((eU bits n T (aD bits T K [0,1,2,3,4,5] (a+18) []).2.1 []).1.map zL),zL (aD bits T K [0,1,2,3,4,5] (a+18) []).1,(eU bits n T (aD bits T K [0,1,2,3,4,5] (a+18) []).2.1 []).2.1,0)
  else([], [],0,(eU bits n T (aD bits T K [0,1,2,3,4,5] (a+18) []).2.1 []).2.2))
 else([], [],0,(aD bits T K [0,1,2,3,4,5] (a+18) []).2.2)
def jl(bits:List Nat)(n a:Nat):List (List Int)×List Int×Nat×Nat:=
 if bits.length<a+3 then([], [],0,10)
 else if val ((bits.drop a).take 3)<2∨6<val ((bits.drop a).take 3)then([], [],0,110)
 else if bits.length<a+18 then([], [],0,10)
 else if val ((bits.drop (a+3)).take 15)=0 then([], [],0,110)
 else rc bits n a (val ((bits.drop a).take 3)) (val ((bits.drop (a+3)).take 15))
def eJ(bits:List Nat)(at' n:Int):List (List Int)×List Int×Nat×Nat:=
 if at'<0∨(bits.length:Int)<at'∨n<3∨258<n then([], [],0,2)else jl bits n.toNat at'.toNat
def kT(w:World)(ans:List (List Int)×List Int×Nat×Nat)(e:Ending)(w':World):Prop:=
 ∃v,e=.returned (.tuple #[v,.int .i64 ans.2.2.1,.int .i64 ans.2.2.2])∧aN w' v ans.1 ans.2.1∧Below w.heap.size w w'
theorem fm(bits:List Nat)(T:Nat)(hT:0<T):∀(k:Nat) (o:List Nat) (p:Nat) (out:List Nat),p≤bits.length→(aD bits T k o p out).2.1≤bits.length∧(aD bits T k o p out).2.2≤110
 | 0,_,_,_,h=>⟨h,Nat.zero_le _⟩
 | k+1,o,p,out,h=>by
   cases hp:bW (bits.drop p) 0 T with
   | hit n=>
     have hl:=(vD (bits.drop p) 0 T n hp hT).2.1
     rw[List.length_drop]at hl
     rw[fe hp]
     exact fm bits T hT k _ _ _ (by omega)
   | short=>
     rw[dW hp]
     exact⟨Nat.zero_le _,by show 10≤110;omega⟩
   | bad=>
     rw[fb hp]
     exact⟨Nat.zero_le _,Nat.le_refl _⟩
theorem wN:∀(bs:List Nat) (now n p:Nat) (out:List Nat),(bq bs now n p out).2.1≤p+bs.length∧(bq bs now n p out).2.2≤80:=by
 intro bs
 induction h:bs.length using Nat.strongRecOn generalizing bs with
 | _ m ih=>
   intro now n p out
   subst h
   rcases n with _ | n
   ·rw[fw]
    exact⟨Nat.le_add_right _ _,Nat.zero_le _⟩
   ·by_cases hb:now<1∨20<now
    ·rw[gv _ _ _ _ _ hb]
     exact⟨Nat.zero_le _,Nat.le_refl _⟩
    ·rcases bs with _ | ⟨b,bs⟩
     ·rw[iC _ _ _ _ hb]
      exact⟨Nat.zero_le _,by show 10≤80;omega⟩
     ·by_cases h0:b=0
      ·subst h0
       rw[f6 _ _ _ _ _ hb]
       have:=ih bs.length (by simp) bs rfl now n (p+1) (out++ [now])
       rw[List.length_cons]
       exact⟨by omega,this.2⟩
      ·rcases bs with _ | ⟨d,bs⟩
       ·rw[jK _ _ _ _ _ hb h0]
        exact⟨Nat.zero_le _,by show 10≤80;omega⟩
       ·rw[fB _ _ _ _ _ _ _ hb h0]
        have:=ih bs.length (by simp only[List.length_cons];omega) bs rfl (if d=0 then now+1 else now - 1) (n+1) (p+2) out
        rw[List.length_cons,List.length_cons]
        exact⟨by omega,this.2⟩
theorem jx(bits:List Nat)(at' n:Int):(ax bits at' n).2.1≤bits.length∧(ax bits at' n).2.2≤80:=by
 unfold ax
 split
 ·exact⟨Nat.zero_le _,by show 2≤80;omega⟩
 ·split
  ·exact⟨Nat.zero_le _,by show 10≤80;omega⟩
  ·have:=wN (bits.drop (at'.toNat+5)) (val ((bits.drop at'.toNat).take 5)) n.toNat (at'.toNat+5) []
   rw[List.length_drop]at this
   exact⟨by omega,this.2⟩
theorem jW.same{w0 w:World}{v:Value}{q:Nat}{F:Nat→Value}{C D:Nat→List Nat}(h:jW w0 w v q F C)(hs:∀t,t<q→C t=D t):jW w0 w v q F D:=
 ⟨h.row,fun t ht=>by rw[← hs t ht];exact h.each t ht,h.below⟩
theorem kF{bits:List Nat}{n t p:Nat}{acc:List (List Nat)}:eU bits n (t+1) p acc=if(ax bits p n).2.2=0 then(if aY (zL (ax bits p n).1)then eU bits n t (ax bits p n).2.1 (acc++ [(ax bits p n).1])else([],0,80))else([],0,(ax bits p n).2.2):=rfl
theorem Af(w:World)(A:Option Addr)(m c:Nat)(bits:List Nat)(a0 n:Nat)(hb:aw w A m bits)(HO:m≤c)(hm:m≤1000000)(hc:c≤maxLen)(p4:an bits)(ha:a0≤m)(rv:3≤n)(hn:n≤258):
 Calls Tryz.prog 38 #[.slice A m c,.int .i64 a0,.int .i64 n] w (kT w (jl bits n a0)):=by
 have HK:=hb.1
 obtain⟨w1,H3⟩:∃w1,w1=w.alloc (.cells #[.slice none 0 0,.slice none 0 0] 52):=⟨_,rfl⟩
 have HJ:Below w.heap.size w w1:=bR H3
 have pg:Blk w1 w.heap.size 52 #[.slice none 0 0,.slice none 0 0]:=ee H3
 have h7:Hid (∀ (wx:World) (k:Nat),jl bits n a0=([], [],0,k)→Blk wx w.heap.size 52 #[.slice none 0 0,.slice none 0 0]→Below w.heap.size w wx→kT w (jl bits n a0) (.returned (.tuple #[.agg #[.slice none 0 0,.slice none 0 0],.int .i64 0,.int .i64 k])) ((wx.setCell ⟨w.heap.size,0,none⟩ (.slice none 0 0)).setCell ⟨w.heap.size,1,none⟩ (.slice none 0 0))):=aa fun wx k h1 _ h3=>by
  rw[h1]
  exact⟨_,rfl,o9 _,(h3.setCell (p:=⟨w.heap.size,0,none⟩) (ah _) _).setCell (p:=⟨w.heap.size,1,none⟩) (ah _) _⟩
 have q9:Hid (∀ (wx:World) (v:Value) (T:List (List Int)) (P:List Int) (pl:Nat),jl bits n a0=(T,P,pl,0)→aN wx v T P→Below w.heap.size w wx→kT w (jl bits n a0) (.returned (.tuple #[v,.int .i64 pl,.int .i64 0])) wx):=aa fun wx v T P pl h1 h2 h3=>⟨v,by rw[h1];rfl,by rw[h1];exact h2,h3⟩
 have hZ:=aa (bF hb HJ)
 have hO:jl bits n a0=if m<a0+3 then([], [],0,10)
  else if val ((bits.drop a0).take 3)<2∨6<val ((bits.drop a0).take 3)then([], [],0,110)
  else if m<a0+18 then([], [],0,10)
  else if val ((bits.drop (a0+3)).take 15)=0 then([], [],0,110)
  else rc bits n a0 (val ((bits.drop a0).take 3)) (val ((bits.drop (a0+3)).take 15)):=by rw[← HK];rfl
 generalize kT w (jl bits n a0)=PO at*
 generalize jl bits n a0=ans at*
 have h4:=aa pg
 have hF:=aa HJ
 have hH:=aa p4
 have hI:=aa HK
 have hp:=aa hO
 have d0:decide ((a0:Int)<0)=false:=ao (by omega)
 have d1:decide ((m:Int)<(a0:Int))=false:=ao (by omega)
 have d2:decide ((n:Int)<3)=false:=ao (by omega)
 have d3:decide ((258:Int)<(n:Int))=false:=ao (by omega)
 unfold maxLen at hc
 clear hb HK p4 HJ pg hO
 go_enter Tryz.func38,Tryz.ntmps38
 go_upto_region 3 with fail
 rw[← H3]
 clear H3
 by_cases e1:m<a0+3
 ·have HN:=aa (oI w1 A m c a0 3 (by omega) ha (by omega) e1)
  have h0:=hp.out
  rw[if_pos e1]at h0
  have HA:=aa h0
  clear h0 hp
  go_wp2_with fail
  refine HN.out.mono ?_
  rintro e w2 ⟨rfl,rfl⟩
  have h8:=aa (h7.out w1 10 HA.out h4.out hF.out)
  have q0:=(ac h4.out 0).trans rfl
  have q1:=(ac h4.out 1).trans rfl
  have f0:=ae h4.out 0
  have f1:=ae h4.out 1
  go_wp2_with fail
  refine bodyPost_ret (v:=.tuple #[.agg #[.slice none 0 0,.slice none 0 0],.int .i64 0,.int .i64 10]) ?_ rfl h8.out
  simp[results,Tryz.results38,go_sem,q0,q1]
 ·have HN:=aa (y4 w1 A m c bits a0 3 hZ.out hH.out HO (by unfold maxLen;omega) (by omega) (by omega))
  have qm:val ((bits.drop a0).take 3)<2 ^ 3:=by
   have h:=eD _ ((hH.out.drop a0).take 3)
   rw[List.length_take,List.length_drop,hI.out,Nat.min_eq_left (by omega)]at h
   exact h
  have h0:=hp.out
  rw[if_neg e1]at h0
  obtain⟨T,hT⟩:∃T,T=val ((bits.drop a0).take 3):=⟨_,rfl⟩
  rw[← hT]at HN qm h0
  have h9:=aa h0
  clear h0 hp hT
  by_cases e2:T<2∨6<T
  ·have h0:=h9.out
   rw[if_pos e2]at h0
   have HA:=aa h0
   clear h0 h9
   by_cases e3:T<2
   ·have d5:decide ((T:Int)<2)=true:=ar (by omega)
    clear e2
    go_wp2_with fail
    refine HN.out.mono ?_
    rintro e w2 ⟨rfl,rfl⟩
    have h8:=aa (h7.out w1 110 HA.out h4.out hF.out)
    have q0:=(ac h4.out 0).trans rfl
    have q1:=(ac h4.out 1).trans rfl
    have f0:=ae h4.out 0
    have f1:=ae h4.out 1
    go_wp2_with fail
    refine bodyPost_ret (v:=.tuple #[.agg #[.slice none 0 0,.slice none 0 0],.int .i64 0,.int .i64 110]) ?_ rfl h8.out
    simp[results,Tryz.results38,go_sem,q0,q1]
   ·have d5:decide ((T:Int)<2)=false:=ao (by omega)
    have d6:decide ((6:Int)<(T:Int))=true:=ar (by omega)
    clear e2
    go_wp2_with fail
    refine HN.out.mono ?_
    rintro e w2 ⟨rfl,rfl⟩
    have h8:=aa (h7.out w1 110 HA.out h4.out hF.out)
    have q0:=(ac h4.out 0).trans rfl
    have q1:=(ac h4.out 1).trans rfl
    have f0:=ae h4.out 0
    have f1:=ae h4.out 1
    go_wp2_with fail
    refine bodyPost_ret (v:=.tuple #[.agg #[.slice none 0 0,.slice none 0 0],.int .i64 0,.int .i64 110]) ?_ rfl h8.out
    simp[results,Tryz.results38,go_sem,q0,q1]
  ·have h0:=h9.out
   rw[if_neg e2]at h0
   have he:=aa h0
   have d5:decide ((T:Int)<2)=false:=ao (by omega)
   have d6:decide ((6:Int)<(T:Int))=false:=ao (by omega)
   obtain⟨p3,H2⟩:∃p3,p3=a0+3:=⟨_,rfl⟩
   have r2:(a0:Int)+3=(p3:Int):=by omega
   have r7:2≤T:=by omega
   have ql:T≤6:=by omega
   have r6:=aa H2
   clear h0 h9 e2
   by_cases e4:m<a0+18
   ·have hL:=aa (oI w1 A m c p3 15 (by omega) (by omega) (by omega) (by omega))
    have h0:=he.out
    rw[if_pos e4]at h0
    have HA:=aa h0
    clear h0 he H2
    go_wp2_with fail
    refine HN.out.mono ?_
    rintro e w2 ⟨rfl,rfl⟩
    go_wp2_with fail
    refine hL.out.mono ?_
    rintro e w2 ⟨rfl,rfl⟩
    have h8:=aa (h7.out w1 10 HA.out h4.out hF.out)
    have q0:=(ac h4.out 0).trans rfl
    have q1:=(ac h4.out 1).trans rfl
    have f0:=ae h4.out 0
    have f1:=ae h4.out 1
    go_wp2_with fail
    refine bodyPost_ret (v:=.tuple #[.agg #[.slice none 0 0,.slice none 0 0],.int .i64 0,.int .i64 10]) ?_ rfl h8.out
    simp[results,Tryz.results38,go_sem,q0,q1]
   ·have hL:=aa (y4 w1 A m c bits p3 15 hZ.out hH.out HO (by unfold maxLen;omega) (by omega) (by omega))
    have HE:val ((bits.drop p3).take 15)<2 ^ 15:=by
     have h:=eD _ ((hH.out.drop p3).take 15)
     rw[List.length_take,List.length_drop,hI.out,Nat.min_eq_left (by omega)]at h
     exact h
    have h0:=he.out
    rw[if_neg e4,←H2]at h0
    obtain⟨K,hK⟩:∃K,K=val ((bits.drop p3).take 15):=⟨_,rfl⟩
    rw[← hK]at hL HE h0
    have qb:K<32768:=by simpa using HE
    have hf:=aa h0
    clear h0 he H2 hK HE
    by_cases e5:K=0
    ·have h0:=hf.out
     rw[if_pos e5]at h0
     have HA:=aa h0
     have d7:((K:Int)==0)=true:=by rw[e5];rfl
     clear h0 hf
     go_wp2_with fail
     refine HN.out.mono ?_
     rintro e w2 ⟨rfl,rfl⟩
     go_wp2_with fail
     refine hL.out.mono ?_
     rintro e w2 ⟨rfl,rfl⟩
     have h8:=aa (h7.out w1 110 HA.out h4.out hF.out)
     have q0:=(ac h4.out 0).trans rfl
     have q1:=(ac h4.out 1).trans rfl
     have f0:=ae h4.out 0
     have f1:=ae h4.out 1
     go_wp2_with fail
     refine bodyPost_ret (v:=.tuple #[.agg #[.slice none 0 0,.slice none 0 0],.int .i64 0,.int .i64 110]) ?_ rfl h8.out
     simp[results,Tryz.results38,go_sem,q0,q1]
    ·have h0:=hf.out
     rw[if_neg e5]at h0
     have hJ:=aa h0
     have d7:((K:Int)==0)=false:=by
      rw[beq_eq_false_iff_ne]
      omega
     obtain⟨p18,hW⟩:∃p18,p18=a0+18:=⟨_,rfl⟩
     have pn:(a0:Int)+18=(p18:Int):=by omega
     have HY:=aa (wZ w1 A m c bits p18 T K hZ.out hm (by omega) (by omega) ql (by omega))
     have hE:=fm bits T (by omega) K [0,1,2,3,4,5] p18 [] (by rw[hI.out];omega)
     rw[hI.out]at hE
     unfold rc at h0
     rw[← hW]at h0
     generalize aD bits T K [0,1,2,3,4,5] p18 []=pk at*
     obtain⟨out,p0,ck⟩:=pk
     dsimp only at h0 hE
     obtain⟨r0,rb⟩:=hE
     have hh:=aa h0
     clear h0 hf hJ hW
     go_wp2_with fail
     refine HN.out.mono ?_
     rintro e w2 ⟨rfl,rfl⟩
     go_wp2_with fail
     refine hL.out.mono ?_
     rintro e w2 ⟨rfl,rfl⟩
     go_wp2_with fail
     refine HY.out.mono ?_
     rintro e w3 ⟨v3,rfl,H1,H0⟩
     obtain⟨A3,c3,rfl,hD,HP,_⟩:=aj H1
     dsimp only at H1 hD HP ⊢
     have hw:=aa (aL H0 h4.out)
     have HS:=aa (ap hF.out H0)
     have q3:=aa (bF hZ.out H0)
     have HX:=aa (cR (aJ H1))
     obtain⟨N3,HF⟩:∃N3,N3=out.length:=⟨_,rfl⟩
     rw[← HF]at HX hD ⊢
     have q8:=aa HF
     clear H1 H0 HF HY
     by_cases e6:ck=0
     ·subst e6
      have h0:=hh.out
      rw[if_pos rfl]at h0
      have hj:=aa h0
      clear h0 hh
      have hC:Below w3.heap.size w3 (w3.alloc (.cells #[.slice none 0 0,.slice A3 N3 c3] 52)):=(Below.refl _ _).alloc (ah _) _
      have pM:=aa (ag w3 52 #[.slice none 0 0,.slice A3 N3 c3])
      have q4:=aa (aL hC hw.out)
      have qo:w.heap.size<w3.heap.size:=(Array.getElem?_eq_some_iff.1 hw.out).1
      have H4:=aa hC
      clear hC
      go_upto_region 17 with fail
      generalize w3.alloc (.cells #[.slice none 0 0,.slice A3 N3 c3] 52)=w4 at*
      go_wp2_with fail
      go_loopw [1,14] (fun av tv wx=>∃(t p:Nat) (acc:List (List Nat)) (F:Nat→Value) (v:Value),t≤T∧tv=.int .i64 t∧av=.int .i64 p∧p≤m∧acc.length=t∧Hid (eU bits n T p0 []=eU bits n (T - t) p acc)∧Hid (∀ x∈acc,aY (zL x))∧jW w3 wx v t F (fun i=>acc.getD i [])∧Blk wx w3.heap.size 52 #[v,.slice A3 N3 c3]∧Blk wx w.heap.size 52 #[.slice none 0 0,.slice none 0 0]) (fun _ tv _=>T - (intOf tv).toNat)
      case atStart=>exact⟨0,p0, [],fun _=>.slice none 0 0,.slice none 0 0,Nat.zero_le _,rfl,rfl,r0,rfl,aa rfl,aa (fun x hx=>absurd hx aq),jW.nil w3 w4 _ _ H4.out,pM.out,q4.out⟩
      case round=>
       obtain⟨t,p,acc,F,v,ht,rfl,rfl,r3,hA,hq,hB,h6,hg,hk⟩:=hrel
       obtain⟨A5,c5,rfl,qv,qs,_⟩:=aj h6.row
       have H8:=aa h6
       have HG:=aa hg
       have hG:=aa hk
       have HU:=aa (ap HS.out h6.below)
       have hv:=aa hA
       unfold maxLen at qs
       by_cases e7:t<T
       ·have d9:decide ((t:Int)<(T:Int))=true:=ar (by omega)
        have HZ:=aa (oq wr A m c bits p n (bF q3.out h6.below) HO hm hH.out r3 (by omega) hn)
        have hr:=hq.out
        rw[show T - t=(T - t - 1)+1 by omega,kF]at hr
        have hE:=jx bits p n
        rw[hI.out]at hE
        generalize ax bits p n=ta at*
        obtain⟨x,p2,cx⟩:=ta
        dsimp only at hr hE
        obtain⟨r1,rs⟩:=hE
        have hl:=aa hr
        clear hr hq h6 hg hk hA
        go_wp2_with fail
        refine HZ.out.mono ?_
        rintro e w6 ⟨v6,rfl,hV,hN⟩
        obtain⟨A6,c6,rfl,hS,_,_⟩:=aj hV
        dsimp only at hV hS ⊢
        have HC:=aa hV
        have p1:=aa (cR (aJ hV))
        have HB:=aa hN
        have HV:=aa (aL hN HG.out)
        have h5:=aa (aL hN hG.out)
        have HT:=aa (ap HU.out hN)
        obtain⟨N6,HH⟩:∃N6,N6=x.length:=⟨_,rfl⟩
        rw[← HH]at HC p1 hS ⊢
        have HW:=aa HH
        clear hV hN HH HZ
        by_cases e8:cx=0
        ·subst e8
         have hr:=hl.out
         rw[if_pos rfl]at hr
         have HI:N6≤maxLen:=by
          have h:=aj HC.out
          obtain⟨_,_,h1,h2,h3,_⟩:=h
          omega
         have hY:=aa (tR w6 A6 N6 c6 (zL x) p1.out HI)
         by_cases e9:aY (zL x)
         ·rw[if_pos e9]at hY hr
          have hM:=aa hr
          have hu:x.length≤258:=by
           have h:=e9.2.1
           rw[eT]at h
           exact h
          have pb:N6≤258:=by rw[HW.out];exact hu
          have pv:=aa e9
          have p5:∀i,i<t→(fun i=>acc.getD i []) i=(fun i=>(acc++ [x]).getD i []) i:=by
           intro i hi
           show acc.getD i []=(acc++ [x]).getD i []
           rw[List.getD_eq_getElem?_getD,List.getD_eq_getElem?_getD,List.getElem?_append_left (by rw[hv.out];exact hi)]
          have HD:(acc++ [x]).getD t []=x:=by
           rw[List.getD_eq_getElem?_getD,List.getElem?_append_right (by rw[hv.out];exact Nat.le_refl _),hv.out,Nat.sub_self]
           rfl
          obtain⟨A7,c7,w7,ps,pj,HL⟩:=(H8.out.same p5).push (C:=fun i=>(acc++ [x]).getD i []) (A1:=A6) (n:=N6) (k1:=c6) (by rw[HD];exact HC.out) HB.out (by omega) (by rw[HD,HW.out])
          have hP:=HL _ _ _ HV.out (by decide)
          have hQ:=HL _ _ _ h5.out (by decide)
          have HM:w3.heap.size≤w3.heap.size:=Nat.le_refl _
          have qa:=aa ps
          have q5:=aa (pj.store hP (by decide) (by decide) HM 0 (.slice A7 (t+1:Nat) c7))
          have pf:=au hP 0 (.slice A7 (t+1:Nat) c7)
          have q2:Hid (Blk (w7.setCell ⟨w3.heap.size,0,none⟩ (.slice A7 (t+1:Nat) c7)) w3.heap.size 52 #[.slice A7 (t+1:Nat) c7,.slice A3 N3 c3]):=aa (by simpa using pf)
          have H5:Hid (Blk (w7.setCell ⟨w3.heap.size,0,none⟩ (.slice A7 (t+1:Nat) c7)) w.heap.size 52 #[.slice none 0 0,.slice none 0 0]):=aa (by
           show(World.setCell _ _ _).heap[_]? =_
           rw[Below.heap_setCell _ ⟨w3.heap.size,0,none⟩ _ _ (show w.heap.size≠w3.heap.size by omega)]
           exact hQ)
          have q0:=(ac HV.out 0).trans rfl
          have q7:=(ac hP 0).trans rfl
          have f7:=ae hP 0
          clear hr e9 p5 HD ps pj HL hP hQ pf hu hl
          go_wp2_with fail
          refine hY.out.mono ?_
          rintro e w9 ⟨rfl,rfl⟩
          go_wp2_with (at_builtin;refine Lib.wpList_append_run _ rfl (.tmp 109) (.tmp 111) 50 50 rfl (.slice A5 t c5) (.slice (some ⟨w9.heap.size,0,none⟩) 1 1) rfl rfl _ _ qa.out ?_)
          go_roundw
          case rel=>
           refine⟨t+1,p2,acc++ [x],_,_,by omega,by go_num,rfl,r1,by rw[List.length_append,hv.out];rfl,aa (by rw[hM.out,show T - (t+1)=T - t - 1 by omega]),aa (fun y hy=> ?_),q5.out,q2.out,H5.out⟩
           rcases List.mem_append.1 hy with hy | hy
           ·exact hB.out y hy
           ·rw[List.mem_singleton.1 hy]
            exact pv.out
          case measure=>simp[intOf];omega
         ·rw[if_neg e9]at hY hr
          have HA:Hid (ans=([], [],0,80)):=aa (by rw[hj.out,hr];rfl)
          have d10:((80:Int) != 0)=true:=rfl
          clear hr e9 hl
          go_wp2_with fail
          refine hY.out.mono ?_
          rintro e w9 ⟨rfl,rfl⟩
          have h8:=aa (h7.out w9 80 HA.out h5.out HT.out)
          have q0:=(ac h5.out 0).trans rfl
          have q1:=(ac h5.out 1).trans rfl
          have f0:=ae h5.out 0
          have f1:=ae h5.out 1
          go_wp2_with fail
          refine bodyPost_ret (v:=.tuple #[.agg #[.slice none 0 0,.slice none 0 0],.int .i64 0,.int .i64 80]) ?_ rfl h8.out
          simp[results,Tryz.results38,go_sem,q0,q1]
        ·have d8:((cx:Int) != 0)=true:=by
          rw[bne_iff_ne]
          omega
         have hr:=hl.out
         rw[if_neg e8]at hr
         have HA:Hid (ans=([], [],0,cx)):=aa (by
          rw[hj.out,hr]
          exact if_neg e8)
         clear hr hl
         have h8:=aa (h7.out w6 cx HA.out h5.out HT.out)
         have q0:=(ac h5.out 0).trans rfl
         have q1:=(ac h5.out 1).trans rfl
         have f0:=ae h5.out 0
         have f1:=ae h5.out 1
         go_wp2_with fail
         refine bodyPost_ret (v:=.tuple #[.agg #[.slice none 0 0,.slice none 0 0],.int .i64 0,.int .i64 cx]) ?_ rfl h8.out
         simp[results,Tryz.results38,go_sem,q0,q1]
       ·obtain rfl:t=T:=by omega
        have d9:decide ((t:Int)<(t:Int))=false:=ao (by omega)
        have hr:=hq.out
        rw[Nat.sub_self]at hr
        have po:eU bits n t p0 []=(acc,p,0):=hr
        have HA:Hid (ans=(acc.map zL,zL out,p,0)):=aa (by rw[hj.out,po];rfl)
        have ho:∀i,i<t→(acc.getD i []).length≤1000:=by
         intro i hi
         have HQ:acc.getD i []∈acc:=by
          rw[List.getD_eq_getElem?_getD,List.getElem?_eq_getElem (by rw[hv.out];exact hi)]
          exact List.getElem_mem ..
         have h:=(hB.out _ HQ).2.1
         rw[eT]at h
         omega
        have HR:=H8.out.tabZ ho
        have hR:((List.range t).map fun i=>zL (acc.getD i []))=acc.map zL:=by
         apply List.ext_getElem?
         intro i
         rw[List.getElem?_map,List.getElem?_map]
         by_cases hi:i<t
         ·rw[List.getElem?_range hi]
          show some (zL (acc.getD i []))=_
          rw[List.getD_eq_getElem?_getD,List.getElem?_eq_getElem (by rw[hv.out];exact hi)]
          rfl
         ·rw[List.getElem?_eq_none (by rw[List.length_range];omega),List.getElem?_eq_none (by rw[hv.out];omega)]
          rfl
        rw[hR]at HR
        have hX:aN wr (.agg #[.slice A5 t c5,.slice A3 N3 c3]) (acc.map zL) (zL out):=⟨A5,t,c5,A3,N3,c3,rfl,HR,qv,by unfold maxLen;omega,HX.out.below H8.out.below,hD,by
         have h:=q8.out
         omega⟩
        have hs:=hX.past (w':=(wr.setCell ⟨w.heap.size,0,none⟩ (.slice A5 t c5)).setCell ⟨w.heap.size,1,none⟩ (.slice A3 N3 c3)) (fun y hy=>by
         obtain⟨z,hz,rfl⟩:=List.mem_map.1 hy
         have:=(hB.out z hz).1
         omega) hG.out (kr _ _ _ _)
        have h8:=aa (q9.out _ _ _ _ p HA.out hs ((HU.out.setCell (p:=⟨w.heap.size,0,none⟩) (ah _) _).setCell (p:=⟨w.heap.size,1,none⟩) (ah _) _))
        have q0:=(ac hG.out 0).trans rfl
        have q1:=(ac hG.out 1).trans rfl
        have f0:=ae hG.out 0
        have f1:=ae hG.out 1
        have s0:=(ac HG.out 0).trans rfl
        have s1:=(ac HG.out 1).trans rfl
        clear hr po hq h6 hg hk ho HR hR hX hs hA
        go_wp2_with fail
        refine bodyPost_ret (v:=.tuple #[.agg #[.slice A5 t c5,.slice A3 N3 c3],.int .i64 p,.int .i64 0]) ?_ rfl h8.out
        simp[results,Tryz.results38,go_sem,q0,q1]
     ·have d8:((ck:Int) != 0)=true:=by
       rw[bne_iff_ne]
       omega
      have h0:=hh.out
      rw[if_neg e6]at h0
      have HA:=aa h0
      clear h0 hh
      have h8:=aa (h7.out w3 ck HA.out hw.out HS.out)
      have q0:=(ac hw.out 0).trans rfl
      have q1:=(ac hw.out 1).trans rfl
      have f0:=ae hw.out 0
      have f1:=ae hw.out 1
      go_wp2_with fail
      refine bodyPost_ret (v:=.tuple #[.agg #[.slice none 0 0,.slice none 0 0],.int .i64 0,.int .i64 ck]) ?_ rfl h8.out
      simp[results,Tryz.results38,go_sem,q0,q1]
theorem z7(w:World)(A:Option Addr)(m c:Nat)(at' n:Int)(_hm:m≤1000000)(h:at'<0∨(m:Int)<at'∨n<3∨258<n):
 Calls Tryz.prog 38 #[.slice A m c,.int .i64 at',.int .i64 n] w (kT w ([], [],0,2)):=by
 obtain⟨w1,h0⟩:∃w1,w1=w.alloc (.cells #[.slice none 0 0,.slice none 0 0] 52):=⟨_,rfl⟩
 have h6:Below w.heap.size w w1:=bR h0
 have h4:Blk w1 w.heap.size 52 #[.slice none 0 0,.slice none 0 0]:=ee h0
 have h5:Hid (kT w ([], [],0,2) (.returned (.tuple #[.agg #[.slice none 0 0,.slice none 0 0],.int .i64 0,.int .i64 2])) w1):=aa ⟨_,rfl,o9 _,h6⟩
 have q0:=(ac h4 0).trans rfl
 have q1:=(ac h4 1).trans rfl
 have f0:=ae h4 0
 have f1:=ae h4 1
 generalize kT w ([], [],0,2)=PO at*
 rw[h0]at q0 q1 f0 f1
 clear h6 h4
 by_cases h1:at'<0
 ·have d0:decide (at'<0)=true:=decide_eq_true h1
  clear h
  go_enter Tryz.func38,Tryz.ntmps38
  go_wp2_with fail
  rw[← h0]
  rw[← h0]at q0 q1 f0 f1
  refine bodyPost_ret (v:=.tuple #[.agg #[.slice none 0 0,.slice none 0 0],.int .i64 0,.int .i64 2]) ?_ rfl h5.out
  simp[results,Tryz.results38,go_sem,q0,q1]
 ·have d0:decide (at'<0)=false:=decide_eq_false h1
  by_cases h2:(m:Int)<at'
  ·have d1:decide ((m:Int)<at')=true:=decide_eq_true h2
   clear h
   go_enter Tryz.func38,Tryz.ntmps38
   go_wp2_with fail
   rw[← h0]
   rw[← h0]at q0 q1 f0 f1
   refine bodyPost_ret (v:=.tuple #[.agg #[.slice none 0 0,.slice none 0 0],.int .i64 0,.int .i64 2]) ?_ rfl h5.out
   simp[results,Tryz.results38,go_sem,q0,q1]
  ·have d1:decide ((m:Int)<at')=false:=decide_eq_false h2
   by_cases h3:n<3
   ·have d2:decide (n<3)=true:=decide_eq_true h3
    clear h
    go_enter Tryz.func38,Tryz.ntmps38
    go_wp2_with fail
    rw[← h0]
    rw[← h0]at q0 q1 f0 f1
    refine bodyPost_ret (v:=.tuple #[.agg #[.slice none 0 0,.slice none 0 0],.int .i64 0,.int .i64 2]) ?_ rfl h5.out
    simp[results,Tryz.results38,go_sem,q0,q1]
   ·have d2:decide (n<3)=false:=decide_eq_false h3
    have d3:decide (258<n)=true:=ar (by omega)
    clear h
    go_enter Tryz.func38,Tryz.ntmps38
    go_wp2_with fail
    rw[← h0]
    rw[← h0]at q0 q1 f0 f1
    refine bodyPost_ret (v:=.tuple #[.agg #[.slice none 0 0,.slice none 0 0],.int .i64 0,.int .i64 2]) ?_ rfl h5.out
    simp[results,Tryz.results38,go_sem,q0,q1]
theorem y8(w:World)(A:Option Addr)(m c:Nat)(bits:List Nat)(at' n:Int)(hb:aw w A m bits)(h1:m≤c)(hm:m≤1000000)(hc:c≤maxLen)(h0:an bits):
 Calls Tryz.prog 38 #[.slice A m c,.int .i64 at',.int .i64 n] w (kT w (eJ bits at' n)):=by
 by_cases h:at'<0∨(m:Int)<at'∨n<3∨258<n
 ·rw[eJ,if_pos (by rw[hb.1];exact h)]
  exact z7 w A m c at' n hm h
 ·rw[eJ,if_neg (by rw[hb.1];exact h)]
  obtain⟨a0,rfl⟩:∃a0:Nat,at'=a0:=⟨at'.toNat,by omega⟩
  obtain⟨n0,rfl⟩:∃n0:Nat,n=n0:=⟨n.toNat,by omega⟩
  exact Af w A m c bits a0 n0 hb h1 hm hc h0 (by omega) (by omega) (by omega)
def kA(T:List (List Nat))(P bits:List Nat)(n0:Nat):Nat→Nat→Nat→List Nat→List Nat×Nat×Nat
 | 0,_,_,_=>([],0,110)
 | k+1,i,a,out=>match fg (T.getD (P.getD (i / 50) 0) []) (bits.drop a)with
   | .hit x=>if x+1=n0 then(out++ [x],a+(T.getD (P.getD (i / 50) 0) []).getD x 0,0)else kA T P bits n0 k (i+1) (a+(T.getD (P.getD (i / 50) 0) []).getD x 0) (out++ [x])
   | .short=>([],0,10)
   | .code=>([],0,90)
theorem lV(T:List (List Nat))(P bits:List Nat)(n0 k i a:Nat)(out:List Nat):kA T P bits n0 (k+1) i a out=match fg (T.getD (P.getD (i / 50) 0) []) (bits.drop a)with
 | .hit x=>if x+1=n0 then(out++ [x],a+(T.getD (P.getD (i / 50) 0) []).getD x 0,0)else kA T P bits n0 k (i+1) (a+(T.getD (P.getD (i / 50) 0) []).getD x 0) (out++ [x])
 | .short=>([],0,10)
 | .code=>([],0,90):=rfl
def eK(T:List (List Int))(P:List Int)(bits:List Nat)(at':Int):List Nat×Nat×Nat:=
 if aR T P then(if at'<0∨(bits.length:Int)<at' then([],0,2)else kA (T.map nl) (nl P) bits (T.getD 0 []).length (50*P.length) 0 at'.toNat [])else([],0,110)
theorem DT(w:World)(v:Value)(T:List (List Int))(P:List Int)(h:aN w v T P)(A':Option Addr)(m' c':Nat)(bits:List Nat)(at':Int)(hb:bits.length=m')(_hm':m'≤1000000)(h3:¬(aR T P∧0≤at'∧at'≤(m':Int))):
 Calls Tryz.prog 39 #[v,.slice A' m' c',.int .i64 at'] w (aH w (eK T P bits at')):=by
 obtain⟨A,n,c,B,m,d,rfl,hc⟩:∃A n c B m d,v=.agg #[.slice A n c,.slice B m d]∧aN w (.agg #[.slice A n c,.slice B m d]) T P:=by
  obtain⟨A,n,c,B,m,d,hv,h7,he,hf,hg,hh,hi⟩:=id h
  exact⟨A,n,c,B,m,d,hv,by rw[← hv];exact h⟩
 clear h
 obtain⟨w1,h4⟩:∃w1,w1=w.alloc (.cells #[.slice A n c,.slice B m d] 52):=⟨_,rfl⟩
 have h7:Blk w1 w.heap.size 52 #[.slice A n c,.slice B m d]:=ee h4
 have h9:Below w.heap.size w w1:=bR h4
 have q0:=(ac h7 0).trans rfl
 have q1:=(ac h7 1).trans rfl
 have h2:=aa (yG w1 _ T P (hc.below h9))
 have ha:=aa h9
 rw[h4]at q0 q1
 by_cases hM:aR T P
 ·have h8:Hid (∀ w',Below w.heap.size w w'→aH w (eK T P bits at') (.returned (.tuple #[.slice none 0 0,.int .i64 0,.int .i64 2])) w'):=aa fun w' h=>by
   rw[show eK T P bits at'=([],0,2) by rw[eK,if_pos hM,if_pos (by rw[hb];rcases Classical.em (at'<0)with k | k;exact .inl k;exact .inr (by rcases Classical.em ((m':Int)<at')with k2 | k2;exact k2;exact absurd ⟨hM,by omega,by omega⟩ h3))]]
   exact⟨_,rfl,World.ownsRow_nil _ _ _ _,h⟩
  generalize aH w (eK T P bits at')=PO at*
  rw[show decide (aR T P)=true from decide_eq_true hM]at h2
  have h6:at'<0∨(m':Int)<at':=by
   rcases Classical.em (at'<0)with k | k
   ·exact .inl k
   ·rcases Classical.em ((m':Int)<at')with k2 | k2
    ·exact .inr k2
    ·exact absurd ⟨hM,by omega,by omega⟩ h3
  clear h9 h7 hc hM h3 hb
  by_cases h1:at'<0
  ·have d0:decide (at'<0)=true:=decide_eq_true h1
   clear h6
   go_enter Tryz.func39,Tryz.ntmps39
   go_wp2_with fail
   rw[← h4]
   clear h4 q0 q1
   refine h2.out.mono ?_
   rintro e w2 ⟨rfl,h5⟩
   have h0:=aa (h8.out _ (ap ha.out h5))
   clear h5
   go_wp2_with fail
   first | exact h0.out | (go_ret3;exact h0.out)
  ·have d0:decide (at'<0)=false:=decide_eq_false h1
   have d1:decide ((m':Int)<at')=true:=ar (by omega)
   clear h6
   go_enter Tryz.func39,Tryz.ntmps39
   go_wp2_with fail
   rw[← h4]
   clear h4 q0 q1
   refine h2.out.mono ?_
   rintro e w2 ⟨rfl,h5⟩
   have h0:=aa (h8.out _ (ap ha.out h5))
   clear h5
   go_wp2_with fail
   first | exact h0.out | (go_ret3;exact h0.out)
 ·have h8:Hid (∀ w',Below w.heap.size w w'→aH w (eK T P bits at') (.returned (.tuple #[.slice none 0 0,.int .i64 0,.int .i64 110])) w'):=aa fun w' h=>by
   rw[show eK T P bits at'=([],0,110)from if_neg hM]
   exact⟨_,rfl,World.ownsRow_nil _ _ _ _,h⟩
  generalize aH w (eK T P bits at')=PO at*
  rw[show decide (aR T P)=false from decide_eq_false hM]at h2
  clear h9 h7 hc hM h3 hb
  go_enter Tryz.func39,Tryz.ntmps39
  go_wp2_with fail
  rw[← h4]
  clear h4 q0 q1
  refine h2.out.mono ?_
  rintro e w2 ⟨rfl,h5⟩
  have h0:=aa (h8.out _ (ap ha.out h5))
  clear h5
  go_wp2_with fail
  first | exact h0.out | (go_ret3;exact h0.out)
end Go.Proofs.YthakcjehhlpjnaaGreat
