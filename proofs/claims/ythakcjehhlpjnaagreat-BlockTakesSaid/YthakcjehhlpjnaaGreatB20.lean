import Derived.Test.YthakcjehhlpjnaaGreatB19
set_option maxHeartbeats 1600000
set_option maxRecDepth 1000000
namespace Go.Proofs.YthakcjehhlpjnaaGreat.S05
def Bd(s:List UInt8)(b:Nat):List Nat:=(List.range s.length).filter fun i=>(s.getD i 0).toNat==b
def aF(s:List UInt8):List Nat:=(List.range 256).flatMap (Bd s)
def bu(s:List UInt8)(b:Nat):Nat:=s.countP fun x=>x.toNat==b
def bw(s:List UInt8):Nat→Nat
 | 0=>0
 | b+1=>bw s b+bu s b
def jg(s:List UInt8)(i:Nat):Nat:=bw s (s.getD i 0).toNat+bu (s.take i) (s.getD i 0).toNat
theorem qi(s:List UInt8)(b:Nat):∀n,n≤s.length→((List.range n).filter fun i=>(s.getD i 0).toNat==b).length=bu (s.take n) b:=by
 intro n
 induction n with
 | zero=>intro _;simp[bu]
 | succ n ih=>
   intro h
   rw[List.range_succ,List.filter_append,List.length_append,ih (by omega),List.take_add_one,bu,bu,List.countP_append,List.getElem?_eq_getElem (by omega)]
   have e:s.getD n 0=s[n]:=by rw[List.getD_eq_getElem?_getD,List.getElem?_eq_getElem (by omega)];rfl
   simp only[Option.toList_some,List.countP_singleton,List.filter_cons,List.filter_nil,e]
   split <;>simp
theorem wM(s:List UInt8)(b:Nat):(Bd s b).length=bu s b:=by
 have:=qi s b s.length (ah _)
 rwa [List.take_length]at this
theorem Ha(s:List UInt8)(i:Nat)(h:i<s.length):(Bd s (s.getD i 0).toNat)[bu (s.take i) (s.getD i 0).toNat]? =some i:=by
 unfold Bd
 have e:List.range s.length=List.range i++i :: (List.range (s.length - i - 1)).map (i+1+ ·):=by
  conv=>lhs;rw[show s.length=i+((s.length - i - 1)+1) by omega,List.range_add,List.range_succ_eq_map]
  simp only[List.map_cons,List.map_map,Nat.add_zero]
  congr 2
  apply List.map_congr_left
  intro j _
  simp only[Function.comp]
  omega
 rw[e,List.filter_append,List.getElem?_append_right (by rw[qi s _ i (by omega)];exact Nat.le_refl _),qi s _ i (by omega),Nat.sub_self,List.filter_cons_of_pos (by simp)]
 rfl
theorem gR(s:List UInt8):∀b,((List.range b).flatMap (Bd s)).length=bw s b
 | 0=>rfl
 | b+1=>by
   rw[List.range_succ,List.flatMap_append,List.length_append,gR s b,bw]
   simp[wM]
theorem i4(s:List UInt8)(i:Nat)(h:i<s.length):(aF s)[jg s i]? =some i:=by
 unfold aF jg
 have hb:(s.getD i 0).toNat<256:=UInt8.toNat_lt _
 have hg:=Ha s i h
 generalize (s.getD i 0).toNat=b at*
 have e:List.range 256=List.range b++b :: (List.range (256 - b - 1)).map (b+1+ ·):=by
  conv=>lhs;rw[show 256=b+((256 - b - 1)+1) by omega,List.range_add,List.range_succ_eq_map]
  simp only[List.map_cons,List.map_map,Nat.add_zero]
  congr 2
  apply List.map_congr_left
  intro j _
  simp only[Function.comp]
  omega
 rw[e,List.flatMap_append,List.flatMap_cons,List.getElem?_append_right (by rw[gR];omega),gR,Nat.add_sub_cancel_left,List.getElem?_append_left]
 ·exact hg
 ·exact(List.getElem?_eq_some_iff.1 hg).1
theorem gj(s:List UInt8)(i:Nat):i∈aF s↔i<s.length:=by
 constructor
 ·intro h
  obtain⟨b,_,hb⟩:=List.mem_flatMap.1 h
  exact List.mem_range.1 (List.mem_filter.1 hb).1
 ·intro h
  exact List.mem_of_getElem? (i4 s i h)
def PLt(s:List UInt8)(i j:Nat):Prop:=s.getD i 0<s.getD j 0∨(s.getD i 0=s.getD j 0∧i<j)
theorem PLt.ne{s:List UInt8}{i j:Nat}(h:PLt s i j):i≠j:=by
 rintro rfl
 rcases h with h | ⟨_,h⟩
 ·exact UInt8.lt_irrefl _ h
 ·omega
theorem jE(s:List UInt8):(aF s).Pairwise (PLt s):=by
 unfold aF
 rw[List.pairwise_flatMap]
 refine⟨fun b _=> ?_,?_⟩
 ·refine List.Pairwise.imp_of_mem ?_ (List.pairwise_lt_range.filter _)
  intro i j hi hj h0
  have h1:=(List.mem_filter.1 hi).2
  have h2:=(List.mem_filter.1 hj).2
  simp only[beq_iff_eq]at h1 h2
  exact .inr ⟨UInt8.toNat_inj.1 (h1.trans h2.symm),h0⟩
 ·refine List.pairwise_lt_range.imp fun {a b} hab i hi j hj=> ?_
  have h1:=(List.mem_filter.1 hi).2
  have h2:=(List.mem_filter.1 hj).2
  simp only[beq_iff_eq]at h1 h2
  exact .inl (UInt8.lt_iff_toNat_lt.2 (by omega))
theorem px(s:List UInt8):(aF s).Perm (List.range s.length):=
 (List.perm_ext_iff_of_nodup ((jE s).imp PLt.ne) List.nodup_range).2 fun i=>by rw[gj,List.mem_range]
theorem bO(s:List UInt8):(aF s).length=s.length:=by
 rw[(px s).length_eq,List.length_range]
theorem B5(s:List UInt8)(i:Nat)(h:i<s.length):jg s i<s.length:=by
 rw[← bO s]
 exact(List.getElem?_eq_some_iff.1 (i4 s i h)).1
theorem E4(s:List UInt8)(i j:Nat)(h:i<s.length)(k:j<s.length)(e:jg s i=jg s j):i=j:=by
 have h1:=i4 s i h
 rw[e,i4 s j k]at h1
 exact(Option.some.inj h1).symm
theorem qe(s:List UInt8)(P:List Nat)(hl:P.length=s.length)(h:∀i,i<s.length→P[jg s i]? =some i):P=aF s:=by
 refine List.ext_getElem? fun k=> ?_
 by_cases hk:k<s.length
 ·have h0:k<(aF s).length:=by rw[bO];exact hk
  obtain⟨j,hj⟩:∃j,(aF s)[k]? =some j:=⟨_,List.getElem?_eq_getElem h0⟩
  have h2:j<s.length:=(gj s j).1 (List.mem_of_getElem? hj)
  have hr:jg s j=k:=by
   have h1:=i4 s j h2
   have h4:jg s j<(aF s).length:=by rw[bO];exact B5 s j h2
   have hp:=List.pairwise_iff_getElem.1 (jE s)
   rw[List.getElem?_eq_getElem h4]at h1
   rw[List.getElem?_eq_getElem h0]at hj
   have h1:=Option.some.inj h1
   have hj:=Option.some.inj hj
   rcases Nat.lt_trichotomy (jg s j) k with h3 | h3 | h3
   ·have:=PLt.ne (hp _ _ h4 h0 h3)
    exact absurd (h1.trans hj.symm) this
   ·exact h3
   ·have:=PLt.ne (hp _ _ h0 h4 h3)
    exact absurd (hj.trans h1.symm) this
  rw[hj,←hr,h j h2]
 ·rw[List.getElem?_eq_none (by omega),List.getElem?_eq_none (by rw[bO];omega)]
def a6(s:List UInt8)(L:List Nat):List UInt8:=L.map fun i=>rat s (i+(s.length - 1))
theorem a4(s:List UInt8)(L:List Nat):(a6 s L).length=L.length:=List.length_map _
theorem kG(s:List UInt8)(L:List Nat)(k:Nat)(h:k<L.length):(a6 s L).getD k 0=rat s (L.getD k 0+(s.length - 1)):=by
 rw[a6,List.getD_eq_getElem?_getD,List.getElem?_map,List.getD_eq_getElem?_getD,List.getElem?_eq_getElem h]
 rfl
def itr(Q:List Nat)(row:Nat):Nat→Nat
 | 0=>row
 | k+1=>Q.getD (itr Q row k) 0
def fF(last:List UInt8)(row:Nat):List UInt8:=(List.range last.length).map fun k=>last.getD (itr (aF last) row (k+1)) 0
def mu(n i:Nat):Nat:=(i+(n - 1)) % n
theorem uL(n i:Nat)(h:0<n):mu n i<n:=Nat.mod_lt _ h
theorem mP(n i:Nat)(h:i<n):mu n i=if i=0 then n - 1 else i - 1:=by
 unfold mu
 split
 ·rename_i e
  subst e
  rw[Nat.zero_add,Nat.mod_eq_of_lt (by omega)]
 ·rw[show i+(n - 1)=(i - 1)+n by omega,Nat.add_mod_right,Nat.mod_eq_of_lt (by omega)]
theorem Ed(n:Nat):((List.range n).map (mu n)).Perm (List.range n):=by
 refine(List.perm_ext_iff_of_nodup ?_ List.nodup_range).2 fun i=> ?_
 ·rw[List.nodup_iff_pairwise_ne,List.pairwise_map]
  refine List.Pairwise.imp_of_mem ?_ List.nodup_range
  intro a b ha hb h0 e
  have ha:=List.mem_range.1 ha
  have hb:=List.mem_range.1 hb
  rw[mP n a ha,mP n b hb]at e
  split at e <;>split at e <;>omega
 ·rw[List.mem_map,List.mem_range]
  constructor
  ·rintro⟨a,ha,rfl⟩
   exact uL n a (by have:=List.mem_range.1 ha;omega)
  ·intro h
   refine⟨if i=n - 1 then 0 else i+1,List.mem_range.2 (by split <;>omega),?_⟩
   rw[mP n _ (by split <;>omega)]
   split <;>split <;>omega
theorem tu(s:List UInt8)(i:Nat)(_:i<s.length)(k:Nat):(dF s (mu s.length i))[k]? =if k<s.length then some (rat s (i+(s.length - 1)+k))else none:=by
 split
 ·rename_i h
  rw[fN s _ k (Nat.le_of_lt (uL _ _ (by omega))) h]
  congr 1
  unfold mu rat
  rw[Nat.mod_add_mod]
 ·rw[List.getElem?_eq_none (by rw[dN];omega)]
theorem uE(s:List UInt8)(i:Nat)(hi:i<s.length):dF s (mu s.length i)=rat s (i+(s.length - 1)) :: (dF s i).take (s.length - 1):=by
 refine List.ext_getElem? fun k=> ?_
 rw[tu s i hi]
 cases k with
 | zero=>rw[if_pos (by omega)];rfl
 | succ k=>
   rw[List.getElem?_cons_succ,List.getElem?_take]
   by_cases h:k<s.length - 1
   ·rw[if_pos (by omega),if_pos h,fN s i k (by omega) (by omega)]
    have:=me s (i+k)
    rw[← this,show i+(s.length - 1)+(k+1)=i+k+s.length by omega]
   ·rw[if_neg (by omega),if_neg h]
theorem H6{a b:List UInt8}(m:Nat)(hl:a.length=b.length)(h:a≤b):a.take m≤b.take m:=by
 refine List.not_lt.1 fun h0=> ?_
 rcases List.lt_iff_exists.1 h0 with⟨_,h1⟩ | ⟨i,h1,h2,h3,h4⟩
 ·simp only[List.length_take]at h1
  omega
 ·simp only[List.length_take]at h1 h2
  refine absurd (List.lt_iff_exists.2 (.inr ⟨i,by omega,by omega,fun j hj=> ?_,?_⟩)) (List.not_lt.2 h)
  ·have:=h3 j hj
   rwa [List.getElem_take,List.getElem_take]at this
  ·rwa [List.getElem_take,List.getElem_take]at h4
theorem RLt.le{s:List UInt8}{i j:Nat}(h:RLt s i j):dF s i≤dF s j:=by
 rcases h with h | ⟨h,_⟩
 ·exact List.le_of_lt h
 ·rw[h]
  exact List.le_refl _
theorem ra{s:List UInt8}{L:List Nat}(h:ef s L):L.Perm (List.range s.length):=
 (List.perm_ext_iff_of_nodup (jt h) List.nodup_range).2 fun i=>by rw[h.2 i,List.mem_range]
theorem lp{s:List UInt8}{L:List Nat}(h:ef s L)(k:Nat)(hk:k<s.length):L.getD k 0<s.length:=by
 have h0:k<L.length:=by rw[dw h];exact hk
 rw[List.getD_eq_getElem?_getD,List.getElem?_eq_getElem h0]
 exact(h.2 _).1 (List.getElem_mem h0)
theorem rz{α:Type}(L:List Nat)(f:Nat→α):(List.range L.length).map (fun k=>f (L.getD k 0))=L.map f:=by
 refine List.ext_getElem? fun k=> ?_
 rw[List.getElem?_map,List.getElem?_map]
 by_cases h:k<L.length
 ·rw[List.getElem?_range h,List.getElem?_eq_getElem h,Option.map_some,Option.map_some,List.getD_eq_getElem?_getD,List.getElem?_eq_getElem h]
  rfl
 ·rw[List.getElem?_eq_none (by rw[List.length_range];omega),List.getElem?_eq_none (by omega)]
  rfl
theorem DI{s:List UInt8}{L:List Nat}(h:ef s L):L.map (dF s)=(aF (a6 s L)).map fun k=>dF s (mu s.length (L.getD k 0)):=by
 have hl:=dw h
 have hp:=ra h
 refine List.Perm.eq_of_pairwise (le:=(· ≤ ·)) (fun a b _ _ h1 h2=>List.le_antisymm h1 h2) ?_ ?_ ?_
 ·rw[List.pairwise_map]
  exact h.1.imp RLt.le
 ·rw[List.pairwise_map]
  refine List.Pairwise.imp_of_mem ?_ (jE (a6 s L))
  intro a b ha hb h0
  have ha:a<L.length:=by have:=(gj _ a).1 ha;rwa [a4]at this
  have hb:b<L.length:=by have:=(gj _ b).1 hb;rwa [a4]at this
  unfold PLt at h0
  rw[kG s L a ha,kG s L b hb]at h0
  rw[uE s _ (lp h a (by omega)),uE s _ (lp h b (by omega)),List.cons_le_cons_iff]
  rcases h0 with h1 | ⟨h1,h2⟩
  ·exact .inl h1
  ·refine .inr ⟨h1,H6 _ (by rw[dN,dN]) ?_⟩
   have:=List.pairwise_iff_getElem.1 h.1 a b ha hb h2
   rw[List.getD_eq_getElem?_getD,List.getElem?_eq_getElem ha,List.getD_eq_getElem?_getD,List.getElem?_eq_getElem hb]
   exact this.le
 ·refine(hp.map (dF s)).trans (List.Perm.symm ?_)
  refine((px (a6 s L)).map _).trans ?_
  rw[a4,rz L fun i=>dF s (mu s.length i)]
  refine(hp.map _).trans ?_
  have:=(Ed s.length).map (dF s)
  rwa [List.map_map]at this
theorem eX{s:List UInt8}{L:List Nat}(h:ef s L)(r:Nat)(hr:r<s.length):(aF (a6 s L)).getD r 0<s.length:=by
 have hl:=dw h
 have hk:r<(aF (a6 s L)).length:=by rw[bO,a4];omega
 rw[List.getD_eq_getElem?_getD,List.getElem?_eq_getElem hk]
 have:=(gj (a6 s L) _).1 (List.getElem_mem hk)
 rwa [a4,hl]at this
theorem GN{s:List UInt8}{L:List Nat}(h:ef s L)(r:Nat)(hr:r<s.length)(j:Nat):rat s (L.getD r 0+j)=rat s (L.getD ((aF (a6 s L)).getD r 0) 0+(s.length - 1)+j):=by
 have hl:=dw h
 have e:=congrArg (fun l=>l[r]?) (DI h)
 simp only[List.getElem?_map]at e
 have hk:r<(aF (a6 s L)).length:=by rw[bO,a4];omega
 have hq:=eX h r hr
 rw[List.getElem?_eq_getElem (by omega),List.getElem?_eq_getElem hk,Option.map_some,Option.map_some]at e
 have e:=Option.some.inj e
 have h1:L[r]=L.getD r 0:=by rw[List.getD_eq_getElem?_getD,List.getElem?_eq_getElem (by omega)];rfl
 have h0:(aF (a6 s L))[r]=(aF (a6 s L)).getD r 0:=by rw[List.getD_eq_getElem?_getD,List.getElem?_eq_getElem hk];rfl
 rw[h1,h0]at e
 have:=(BP s _ _ (Nat.le_of_lt (lp h r hr)) (Nat.le_of_lt (uL _ _ (by omega)))).1 e j
 rw[this]
 unfold mu rat
 rw[Nat.mod_add_mod]
theorem zO{s:List UInt8}{L:List Nat}(h:ef s L)(r:Nat)(hr:r<s.length):∀k,itr (aF (a6 s L)) r k<s.length
 | 0=>hr
 | k+1=>eX h _ (zO h r hr k)
theorem I1{s:List UInt8}{L:List Nat}(h:ef s L)(r:Nat)(hr:r<s.length):∀k j,rat s (L.getD (itr (aF (a6 s L)) r k) 0+j)=rat s (L.getD r 0+k+j):=by
 intro k
 induction k with
 | zero=>intro j;rfl
 | succ k ih=>
   intro j
   have h1:=GN h _ (zO h r hr k) (j+1)
   rw[ih (j+1)]at h1
   rw[show L.getD r 0+(k+1)+j=L.getD r 0+k+(j+1) by omega,h1]
   have h2:=me s (L.getD (itr (aF (a6 s L)) r (k+1)) 0+j)
   rw[← h2]
   congr 1
   show _=L.getD (itr (aF (a6 s L)) r (k+1)) 0+(s.length - 1)+(j+1)
   omega
theorem Gh{s:List UInt8}{L:List Nat}(h:ef s L)(r:Nat)(hr:r<s.length):fF (a6 s L) r=dF s (L.getD r 0):=by
 have hl:=dw h
 refine List.ext_getElem? fun k=> ?_
 unfold fF
 rw[List.getElem?_map,a4,hl]
 by_cases hk:k<s.length
 ·rw[List.getElem?_range hk,Option.map_some,fN s _ k (Nat.le_of_lt (lp h r hr)) hk]
  have h1:=zO h r hr (k+1)
  rw[kG s L _ (by omega)]
  have h2:=I1 h r hr (k+1) (s.length - 1)
  rw[h2,show L.getD r 0+(k+1)+(s.length - 1)=L.getD r 0+k+s.length by omega,me]
 ·rw[List.getElem?_eq_none (by rw[List.length_range];omega),List.getElem?_eq_none (by rw[dN];omega)]
  rfl
theorem vo{s:List UInt8}{L:List Nat}(h:ef s L):(a6 s L).Perm s:=by
 refine((ra h).map _).trans ?_
 rcases Nat.eq_zero_or_pos s.length with h0 | h0
 ·have:s= []:=List.eq_nil_of_length_eq_zero h0
  subst this
  exact List.Perm.refl _
 ·have e:((List.range s.length).map fun i=>rat s (i+(s.length - 1)))=dF s (s.length - 1):=by
   refine List.ext_getElem? fun k=> ?_
   by_cases hk:k<s.length
   ·rw[List.getElem?_map,List.getElem?_range hk,Option.map_some,fN s _ k (by omega) hk,Nat.add_comm]
   ·rw[List.getElem?_eq_none (by rw[List.length_map,List.length_range];omega),List.getElem?_eq_none (by rw[dN];omega)]
  rw[e,dF]
  refine List.perm_append_comm.trans ?_
  rw[List.take_append_drop]
open Go.RowKit
def iK(f:Nat→Nat):Array Value:=(Array.range 256).map fun i=>.int .i64 (f i)
theorem oY(f:Nat→Nat):(iK f).size=256:=by simp[iK]
theorem DH:iK (fun _=>0)=Array.replicate 256 (.int .i64 0):=by
 apply Array.ext
 ·simp[iK]
 ·intro i h1 h2
  simp[iK]
theorem Bw:(∀ w,(zeroValue 261).run Tryz.prog w=.ok (.agg (iK fun _=>0)) w)∧(Tryz.prog.info? 261).map (·.size)=some 256:=by
 rw[DH]
 exact zero_of_info (by kernel_rfl)
theorem yS(f:Nat→Nat)(b x:Nat):(iK f).setIfInBounds b (.int .i64 x)=iK fun i=>if i=b then x else f i:=by
 apply Array.ext
 ·simp[iK]
 ·intro i h1 h2
  rw[Array.getElem_setIfInBounds (by simpa [iK]using h2)]
  by_cases e:b=i
  ·subst e
   simp[iK]
  ·rw[if_neg e]
   have e2:¬i=b:=fun h=>e h.symm
   simp[iK,e2]
theorem wD(f:Nat→Nat):(iK f).all (·.oneCell')=true:=by
 rw[Array.all_eq_true]
 intro i h
 simp[iK,Value.oneCell']
theorem yC(f:Nat→Nat)(i:Nat)(h:i<256):(iK f)[i]? =some (.int .i64 (f i:Nat)):=by
 simp[iK,h]
theorem Ee(f g:Nat→Nat)(h:∀i,i<256→f i=g i):iK f=iK g:=by
 apply Array.ext
 ·simp[iK]
 ·intro i h1 h2
  have hi:i<256:=by rw[oY]at h1;exact h1
  simp[iK,h i hi]
theorem wG(s:List UInt8)(i b:Nat)(h:i<s.length):bu (s.take (i+1)) b=if b=(s.getD i 0).toNat then bu (s.take i) (s.getD i 0).toNat+1 else bu (s.take i) b:=by
 have e:s.getD i 0=s[i]:=by rw[List.getD_eq_getElem?_getD,List.getElem?_eq_getElem h];rfl
 rw[List.take_succ_eq_append_getElem h,bu,List.countP_append,List.countP_singleton,e]
 by_cases hb:b=s[i].toNat
 ·subst hb
  rw[if_pos rfl]
  simp[bu]
 ·rw[if_neg hb]
  have:(s[i].toNat==b)=false:=by
   simp only[beq_eq_false_iff_ne,ne_eq]
   exact fun h=>hb h.symm
  simp[bu,this]
theorem rW(s:List UInt8)(i b:Nat):bu (s.take i) b≤s.length:=by
 have:=List.countP_le_length (p:=fun x:UInt8=>x.toNat==b) (l:=s.take i)
 rw[List.length_take]at this
 unfold bu
 omega
theorem nB(s:List UInt8)(b:Nat)(hb:b≤256):bw s b≤s.length:=by
 rw[← gR,←bO s]
 have e:List.range 256=List.range b++(List.range (256 - b)).map (b+ ·):=by
  conv=>lhs;rw[show 256=b+(256 - b) by omega,List.range_add]
 unfold aF
 rw[e,List.flatMap_append,List.length_append]
 omega
theorem dY(s:ByteArray)(i:Nat)(h:i<s.size):s.data.toList.getD i 0=s[i]:=by
 rw[List.getD_eq_getElem?_getD,List.getElem?_eq_getElem (by simpa using h)]
 rfl
theorem Cb(w:World)(a b c:Array Value)(t:TypeId):Blk (((w.alloc (.cells a t)).alloc (.cells b t)).alloc (.cells c t)) w.heap.size t a∧Blk (((w.alloc (.cells a t)).alloc (.cells b t)).alloc (.cells c t)) (w.heap.size+1) t b∧Blk (((w.alloc (.cells a t)).alloc (.cells b t)).alloc (.cells c t)) (w.heap.size+1+1) t c:=by
 have e1:(w.alloc (.cells a t)).heap.size=w.heap.size+1:=by simp
 have e2:((w.alloc (.cells a t)).alloc (.cells b t)).heap.size=w.heap.size+1+1:=by simp
 refine⟨?_,?_,?_⟩
 ·show(World.alloc _ _).heap[_]? =_
  rw[bn _ _ _ (by simp;omega),bn _ _ _ (by simp)]
  exact ag w t a
 ·show(World.alloc _ _).heap[_]? =_
  rw[bn _ _ _ (by simp),←e1]
  exact ag _ t b
 ·rw[← e2]
  exact ag _ t c
theorem aI{w:World}{g k:Nat}{t:TypeId}{cs:Array Value}(h:Blk w g t cs)(h0:g≠k)(i:Nat)(u:Value):Blk (w.setCell ⟨k,i,none⟩ u) g t cs:=by
 show(w.setCell ⟨k,i,none⟩ u).heap[g]? =_
 rw[Below.heap_setCell w ⟨k,i,none⟩ u g h0]
 exact h
theorem tk(w:World)(cs:Array Value)(q c:Nat)(h:q<256)(hc:cs[q]? =some (.int .i64 c)):(Instr.index 261 (.agg cs) (.int .i64 q)).run Tryz.prog w=.ok (.int .i64 c) w:=by
 obtain⟨i3,h3,h2,h0,h5⟩:=info_parts Tryz.info3
 have h1:(0:Int)≤(q:Int):=by omega
 have h4:¬256≤q:=by omega
 unfold Instr.index
 simp[run_underlying Tryz.underlying261,go_sem,h1,sizeOf,typeInfo,h3,h0,part,hc,h4]
theorem Am(w:World)(s:ByteArray)(hs:s.size≤1000000):Calls Tryz.prog 221 #[.string s] w fun e w'=>e=.returned (.agg (iK (bw s.data.toList)))∧Below w.heap.size w w':=by
 obtain⟨hz,hi⟩:=Bw
 have HI:=aa hi
 have HS:=aa oY
 have he:=aa yS
 have HO:=aa wD
 have HG:=aa yC
 have ha:=aa Ee
 have hy:s.data.toList.length=s.size:=rfl
 have hg:=aa hy
 have hF:=aa (show(fun b=>bu (s.data.toList.take 0) b)=fun _=>0 from by funext b;simp[bu])
 generalize iK=T at*
 clear hi hy
 have hD:=aa (rW s.data.toList)
 have hE:=aa (wG s.data.toList)
 go_enter Tryz.func221,Tryz.ntmps221
 go_wp2
 go_loopw [11] (fun i wx=>∃q:Nat,q≤s.size∧i=.int .i64 q∧Blk wx w.heap.size 261 (T fun _=>0)∧Blk wx (w.heap.size+1) 261 (T fun b=>bu (s.data.toList.take q) b)∧Blk wx (w.heap.size+1+1) 261 (T fun _=>0)∧Below w.heap.size w wx) (fun i _=>s.size - (intOf i).toNat)
 case atStart=>
  obtain⟨h1,h2,h3⟩:=Cb w (T fun _=>0) (T fun _=>0) (T fun _=>0) 261
  exact⟨0,Nat.zero_le _,rfl,h1,by rw[hF.out];exact h2,h3,(((Below.refl _ w).alloc (ah _) _).alloc (by simp) _).alloc (by simp;omega) _⟩
 case round=>
  obtain⟨q,hq,rfl,h7,h8,h0,hb⟩:=hrel
  have H0:=aa h7
  have H1:=aa h8
  have H2:=aa h0
  have HB:=aa hb
  have hJ:=hb.size
  by_cases e:q<s.size
  ·have h5:=UInt8.toNat_lt s[q]
   have hr:=dY s q e
   obtain⟨b,hh⟩:∃b,b=s[q].toNat:=⟨_,rfl⟩
   rw[← hh]at h5
   have hc:=ac h8 b
   have hf:=ae h8 b
   rw[HG.out _ b h5]at hc
   have ht:=hD.out q b
   obtain⟨c,h9⟩:∃c,c=bu (s.data.toList.take q) b:=⟨_,rfl⟩
   rw[hg.out]at ht
   rw[← h9]at hc ht
   have hL:s[q].toNat=b:=hh.symm
   have hj:=aa h9
   have hC:=aa hr
   have hB:=aa hh
   have hA:=HS.out fun b=>bu (s.data.toList.take q) b
   clear h7 h8 h0 hb h9 hr hh hz
   go_wp2_with fail
   go_roundw
   case rel=>
    refine⟨q+1,by omega,by go_num,aI H0.out (by omega) _ _,?_,aI H2.out (by omega) _ _,HB.out.setCell (by show _≤w.heap.size+1;omega) _⟩
    have h1:=au H1.out b (.int .i64 ((c+1:Nat):Int))
    rw[he.out]at h1
    have e2:(fun i=>if i=b then c+1 else bu (s.data.toList.take q) i)=fun b=>bu (s.data.toList.take (q+1)) b:=by
     funext i
     rw[hE.out q i (by rw[hg.out];omega),hC.out,←hB.out,←hj.out]
    rw[e2]at h1
    exact h1
   case measure=>simp[intOf];omega
  ·obtain rfl:q=s.size:=by omega
   have hT:s.data.toList.take s.size=s.data.toList:=List.take_of_length_le (Nat.le_of_eq hg.out)
   rw[hT]at h8
   have hw:(Tryz.prog.info? 261).map (·.size)=some (T fun b=>bu s.data.toList b).size:=by rw[HS.out];exact HI.out
   have hG:=aa hw
   have H1:=aa h8
   have hA:=HS.out fun b=>bu s.data.toList b
   clear h7 h8 h0 hb hz hT hw
   go_wp2_with fail
   refine jc rfl rfl H1.out Tryz.underlying261 hG.out ?_
   go_wp2_with fail
   have ho:=aa (nB s.data.toList)
   have hK:=aa HB.out
   go_loopw [6,23] (fun l i wx=>∃q:Nat,q≤256∧i=.int .i64 q∧l=.int .i64 (bw s.data.toList q:Nat)∧Blk wx w.heap.size 261 (T fun _=>0)∧Blk wx (w.heap.size+1+1) 261 (T fun i=>if i<q then bw s.data.toList i else 0)∧Below w.heap.size w wx) (fun _ i _=>256 - (intOf i).toNat)
   case atStart=>
    have e0:(fun i=>if i<0 then bw s.data.toList i else 0)=fun _=>0:=by
     funext i
     rw[if_neg (by omega)]
    exact⟨0,by omega,rfl,rfl,H0.out,by rw[e0];exact H2.out,HB.out⟩
   case round=>
    clear H0 H1 H2 HB
    obtain⟨q,hq,rfl,rfl,h7,h0,hb⟩:=hrel
    have H0:=aa h7
    have H2:=aa h0
    have HB:=aa hb
    have hJ:=hb.size
    by_cases e:q<256
    ·have hu:=HG.out (fun b=>bu s.data.toList b) q e
     have hc:=ac h0 q
     have hf:=ae h0 q
     rw[HG.out _ q e]at hc
     obtain⟨v,hv⟩:∃v,v=(if q<q then bw s.data.toList q else 0):=⟨_,rfl⟩
     rw[← hv]at hc
     have hx:=ho.out q hq
     have h4:=ho.out (q+1) (by omega)
     have hm:bw s.data.toList (q+1)=bw s.data.toList q+bu s.data.toList q:=rfl
     rw[hg.out]at hx h4
     rw[hm]at h4
     have hH:=aa hm
     obtain⟨c,h9⟩:∃c,c=bu s.data.toList q:=⟨_,rfl⟩
     obtain⟨f,hk⟩:∃f,f=bw s.data.toList q:=⟨_,rfl⟩
     rw[← h9]at hu h4
     rw[← hk]at hx h4 ⊢
     have hj:=aa h9
     have hn:=aa hk
     clear h7 h0 hb hm h9 hk hv
     have hI:=tk wr (T fun b=>bu s.data.toList b) q c e hu
     go_wp2_with fail
     go_roundw
     case rel=>
      refine⟨q+1,by omega,by go_num,?_,aI H0.out (by omega) _ _,?_,HB.out.setCell (by show _≤w.heap.size+1+1;omega) _⟩
      ·rw[hH.out,←hj.out,←hn.out]
       go_num
      ·have h1:=au H2.out q (.int .i64 ((f:Nat):Int))
       rw[he.out]at h1
       have e2:(fun i=>if i=q then f else if i<q then bw s.data.toList i else 0)=fun i=>if i<q+1 then bw s.data.toList i else 0:=by
        funext i
        by_cases h:i=q
        ·subst h
         rw[if_pos rfl,if_pos (by omega),hn.out]
        ·rw[if_neg h]
         by_cases h2:i<q
         ·rw[if_pos h2,if_pos (by omega)]
         ·rw[if_neg h2,if_neg (by omega)]
       rw[e2]at h1
       exact h1
     case measure=>simp[intOf];omega
    ·obtain rfl:q=256:=by omega
     have h6:T (fun i=>if i<256 then bw s.data.toList i else 0)=T (bw s.data.toList):=ha.out _ _ fun i hi=>if_pos hi
     rw[h6]at h0
     have hl:(Tryz.prog.info? 261).map (·.size)=some (T (bw s.data.toList)).size:=by rw[HS.out];exact HI.out
     have H2:=aa h0
     have hp:=aa hl
     have hM:=bV (P:=Tryz.prog) H0.out hl (by rw[HS.out,HS.out]) (HO.out _)
     have hA:=HS.out (bw s.data.toList)
     clear h7 h0 hb h6 hl
     go_wp2_with fail
     refine jc rfl rfl H2.out Tryz.underlying261 hp.out ?_
     go_wp2_with fail
     refine bodyPost_ret (v:=.agg (T (bw s.data.toList))) (il rfl rfl (setRow_heap _ _ _ _ _ _ H0.out) Tryz.underlying261 hp.out) rfl ⟨rfl,?_⟩
     exact below_setRow HB.out (ah _) _
end Go.Proofs.YthakcjehhlpjnaaGreat.S05
