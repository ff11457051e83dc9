import Derived.Test.YthakcjehhlpjnaaGreatB04
import Derived.Test.YthakcjehhlpjnaaGreatB12
import Derived.Deep.MidRow
import Derived.Deep.CutBlock
import Derived.Deep.RegionWith
set_option maxHeartbeats 1600000
set_option maxRecDepth 100000
namespace Go.Proofs.YthakcjehhlpjnaaGreat
def bu(l:List Nat)(k:Nat):Nat:=l.countP fun x=>x==k
def cn(l:List Nat)(k:Nat):Nat:=l.countP fun x=>decide (x<k)
def iq(l:List Nat)(k i:Nat):Nat:=(l.take i).countP fun x=>x==k
def iX(l:List Nat)(s:Nat):Nat:=cn l (l.getD s 0)+iq l (l.getD s 0) s
theorem tA(l:List Nat)(q:Nat)(h:q<l.length):l.take (q+1)=l.take q++ [l.getD q 0]:=by
 rw[List.take_add_one,List.getElem?_eq_getElem h,List.getD_eq_getElem?_getD,List.getElem?_eq_getElem h]
 rfl
theorem iV(l:List Nat)(k i:Nat)(h:i<l.length):iq l k (i+1)=iq l k i+if l.getD i 0=k then 1 else 0:=by
 unfold iq
 rw[tA l i h,List.countP_append]
 congr 1
 rw[List.countP_cons,List.countP_nil,Nat.zero_add]
 by_cases e:l.getD i 0=k
 ·rw[if_pos e,if_pos (by rw[e];exact beq_self_eq_true k)]
 ·rw[if_neg e,if_neg (by rw[beq_iff_eq];exact e)]
theorem nm(l:List Nat)(k:Nat):iq l k l.length=bu l k:=by
 unfold iq bu
 rw[List.take_length]
theorem Hr(l:List Nat)(k:Nat){i j:Nat}(h:i≤j)(hj:j≤l.length):iq l k i≤iq l k j:=by
 induction j with
 | zero=>
   rw[show i=0 by omega]
   exact Nat.le_refl _
 | succ j ih=>
   by_cases e:i=j+1
   ·rw[e]
    exact Nat.le_refl _
   ·have h1:=ih (by omega) (by omega)
    rw[iV l k j (by omega)]
    omega
theorem vQ(l:List Nat){i j:Nat}(h:i<j)(hj:j≤l.length):iq l (l.getD i 0) i<iq l (l.getD i 0) j:=by
 have h1:=iV l (l.getD i 0) i (by omega)
 rw[if_pos rfl]at h1
 have h2:=Hr l (l.getD i 0) (show i+1≤j by omega) hj
 omega
theorem Ju(l:List Nat)(k i:Nat):iq l k i≤l.length:=by
 unfold iq
 have h1:=List.countP_le_length (p:=fun x=>x==k) (l:=l.take i)
 rw[List.length_take]at h1
 omega
theorem Hf(l:List Nat):cn l 0=0:=by
 unfold cn
 rw[List.countP_eq_zero]
 intro x _
 rw[decide_eq_true_iff]
 omega
theorem vh(l:List Nat)(k:Nat):cn l (k+1)=cn l k+bu l k:=by
 unfold cn bu
 induction l with
 | nil=>rfl
 | cons x l ih=>
   rw[List.countP_cons,List.countP_cons,List.countP_cons,ih]
   by_cases h1:x<k
   ·rw[if_pos (ar (by omega)),if_pos (decide_eq_true h1),if_neg (by rw[beq_iff_eq];omega)]
    omega
   ·by_cases h2:x=k
    ·rw[if_pos (ar (by omega)),if_neg (by rw[decide_eq_true_iff];omega),if_pos (by rw[beq_iff_eq];exact h2)]
     omega
    ·rw[if_neg (by rw[decide_eq_true_iff];omega),if_neg (by rw[decide_eq_true_iff];omega),if_neg (by rw[beq_iff_eq];exact h2)]
     omega
theorem nc(l:List Nat){a b:Nat}(h:a≤b):cn l a≤cn l b:=by
 induction h with
 | refl=>exact Nat.le_refl _
 | step h ih=>
   rw[vh]
   omega
theorem uS(l:List Nat)(k:Nat):cn l k≤l.length:=List.countP_le_length
theorem rW(l:List Nat)(k:Nat):bu l k≤l.length:=List.countP_le_length
theorem qB{l:List Nat}{s:Nat}(h:s<l.length):cn l (l.getD s 0)≤iX l s∧iX l s<cn l (l.getD s 0+1):=by
 have h1:=vQ l h (ah _)
 rw[nm]at h1
 rw[vh]
 unfold iX
 omega
theorem rB{l:List Nat}{s:Nat}(h:s<l.length):iX l s<l.length:=by
 have h1:=(qB h).2
 have h2:=uS l (l.getD s 0+1)
 omega
theorem BY{l:List Nat}{s t:Nat}(hs:s<l.length)(ht:t<l.length)(h:iX l s=iX l t):s=t:=by
 have a:=qB hs
 have b:=qB ht
 by_cases e:l.getD s 0=l.getD t 0
 ·by_cases e1:s<t
  ·have h1:=vQ l e1 (Nat.le_of_lt ht)
   unfold iX at h
   rw[← e]at h
   omega
  ·by_cases e2:t<s
   ·have h1:=vQ l e2 (Nat.le_of_lt hs)
    unfold iX at h
    rw[e]at h
    omega
   ·omega
 ·by_cases e1:l.getD s 0<l.getD t 0
  ·have:=nc l (show l.getD s 0+1≤l.getD t 0 by omega)
   omega
  ·have:=nc l (show l.getD t 0+1≤l.getD s 0 by omega)
   omega
theorem F5{l:List Nat}{i:Nat}(h:i<l.length):∃s,s<l.length∧iX l s=i:=by
 have hp:=mr ((List.range l.length).map (iX l)) l.length (by
  unfold List.Nodup
  rw[List.pairwise_map]
  refine List.Pairwise.imp_of_mem ?_ (List.nodup_range (n:=l.length))
  intro a b ha hb h0 e
  exact h0 (BY (List.mem_range.1 ha) (List.mem_range.1 hb) e)) (by
  intro x hx
  obtain⟨s,hs,rfl⟩:=List.mem_map.1 hx
  exact rB (List.mem_range.1 hs)) (by rw[List.length_map,List.length_range])
 obtain⟨s,hs,e⟩:=List.mem_map.1 (hp.mem_iff.2 (List.mem_range.2 h))
 exact⟨s,List.mem_range.1 hs,e⟩
theorem zp{l:List Nat}{s k:Nat}(hs:s<l.length)(h1:cn l k≤iX l s)(h2:iX l s<cn l (k+1)):l.getD s 0=k:=by
 have a:=qB hs
 by_cases e1:l.getD s 0<k
 ·have:=nc l (show l.getD s 0+1≤k by omega)
  omega
 ·by_cases e2:k<l.getD s 0
  ·have:=nc l (show k+1≤l.getD s 0 by omega)
   omega
  ·omega
def dB(l:List Nat)(F:Nat→Nat)(i:Nat):Prop:=∀s,s<i→F (iX l s)=s
theorem dB.step{l:List Nat}{F:Nat→Nat}{i:Nat}(h:dB l F i)(hi:i<l.length):dB l (fun j=>if j=iX l i then i else F j) (i+1):=by
 intro s hs
 show(if iX l s=iX l i then i else F (iX l s))=s
 by_cases e:s=i
 ·subst e
  rw[if_pos rfl]
 ·rw[if_neg (fun h2=>e (BY (by omega) hi h2))]
  exact h s (by omega)
theorem dB.get{l:List Nat}{F:Nat→Nat}(h:dB l F l.length){i:Nat}(hi:i<l.length):F i<l.length∧iX l (F i)=i:=by
 obtain⟨s,hs,rfl⟩:=F5 hi
 rw[h s hs]
 exact⟨hs,rfl⟩
theorem vi(l:List Nat)(k:Nat):∀i,i≤l.length→cd l k i=cd l k 0+iq l k i
 | 0,_=>rfl
 | i+1,h=>by
   have ih:=vi l k i (by omega)
   rw[iV l k i (by omega)]
   by_cases e:l.getD i 0=k
   ·rw[FN (by omega) e,if_pos e,ih]
    omega
   ·rw[Bm (by omega) e,if_neg e,ih]
    rfl
theorem Ie(l:List Nat){k:Nat}(hk:k<20):cd l (k+1) 0=(cd l k 0+bu l k)*2:=by
 rw[I8 (Nat.le_refl l.length) hk,vi l k l.length (ah _),nm]
 omega
theorem Df(l:List Nat):cd l 0 0=0:=by
 unfold cd
 rw[rN,Nat.zero_div]
theorem yK{l:List Nat}{s:Nat}(hs:s<l.length):cP l s=cd l (l.getD s 0) 0+iq l (l.getD s 0) s:=by
 rw[← BF (n:=l.getD s 0) (i:=s) rfl,vi l _ s (by omega)]
theorem xM{l:List Nat}{s:Nat}(hs:s<l.length):cP l s+cn l (l.getD s 0)=cd l (l.getD s 0) 0+iX l s:=by
 rw[yK hs]
 unfold iX
 omega
theorem Iz{l:List Nat}(h:eu l):cd l 20 0+bu l 20=jD l:=by
 rw[← nm,←vi l 20 l.length (ah _)]
 unfold cd
 rw[lB 20 l l.length (ah _),qz 21 l fun x hx=>by have:=h.high x hx;omega]
 show jD l / 2 ^ (20 - 20)=_
 rw[Nat.sub_self,Nat.pow_zero,Nat.div_one]
theorem nB{l bs:List Nat}(h:eu l)(hb:an bs){n:Nat}(hn:n≤bs.length)(h0:n≤20)(hc:sj l bs n)(hs:val (bs.take n)*pw n<jD l):cd l n 0≤val (bs.take n):=by
 obtain⟨i,hi⟩:=(lj h hb hn h0 hc).2 hs
 have a:=iD h hi
 have b:pos n 0 l≤lie l i:=by
  unfold lie
  rcases Nat.lt_or_ge n (l.getD i 0)with h1 | h1
  ·exact Nat.le_trans (oH l h1 0) (l9 _ l (Nat.zero_le _))
  ·have:=hi.2.1
   rw[show l.getD i 0=n by omega]
   exact l9 n l (Nat.zero_le _)
 have hp:=fA (l.getD i 0)
 have hd:cd l n 0*pw n=pos n 0 l:=Nat.div_mul_cancel (nu n h0 l 0)
 have h3:cd l n 0*pw n<(val (bs.take n)+1)*pw n:=by omega
 have:=Nat.lt_of_mul_lt_mul_right h3
 omega
theorem JI{l:List Nat}{F:Nat→Nat}(h:eu l)(hF:dB l F l.length){n v:Nat}(h1:cd l n 0≤v)(h2:v - cd l n 0<bu l n):cn l n+(v - cd l n 0)<l.length∧kZ l n v=some (F (cn l n+(v - cd l n 0))):=by
 have hp:=vh l n
 have h4:=uS l (n+1)
 have h3:cn l n+(v - cd l n 0)<l.length:=by omega
 refine⟨h3,oy h ?_⟩
 obtain⟨hs,hi⟩:=hF.get h3
 generalize F (cn l n+(v - cd l n 0))=s at*
 have hk:l.getD s 0=n:=zp hs (by omega) (by omega)
 have h0:=xM hs
 rw[hk]at h0
 exact⟨hs,hk,by omega⟩
theorem IB{l:List Nat}{n v:Nat}(h2:bu l n≤v - cd l n 0):kZ l n v=none:=by
 cases e:kZ l n v with
 | none=>rfl
 | some s=>
   exfalso
   obtain⟨h3,h4,h5⟩:=jb e
   have h6:=yK h3
   have h7:=vQ l h3 (ah _)
   rw[nm]at h7
   rw[h4]at h6 h7
   omega
theorem CH{l:List Nat}(h:eu l){n v:Nat}(hs:¬v*pw n<jD l):kZ l n v=none:=by
 cases e:kZ l n v with
 | none=>rfl
 | some s=>
   exfalso
   have h3:=jb e
   have h4:=iD h h3.begin
   have h5:=vr h h3.1
   have:=fA (l.getD s 0)
   omega
open Go.RowKit
def eE(f:Nat→Nat):Array Value:=(Array.range 21).map fun i=>.int .i64 (f i)
theorem fD(f:Nat→Nat):(eE f).size=21:=by simp[eE]
theorem Dd:eE (fun _=>0)=Array.replicate 21 (.int .i64 0):=by
 apply Array.ext
 ·simp[eE]
 ·intro i h1 h2
  simp[eE]
theorem Je:(∀ w,(zeroValue 176).run Tryz.prog w=.ok (.agg (eE fun _=>0)) w)∧(Tryz.prog.info? 176).map (·.size)=some 21:=by
 rw[Dd]
 exact zero_of_info (by kernel_rfl)
theorem yf(f:Nat→Nat)(b x:Nat):(eE f).setIfInBounds b (.int .i64 x)=eE fun i=>if i=b then x else f i:=by
 apply Array.ext
 ·simp[eE]
 ·intro i h1 h2
  rw[Array.getElem_setIfInBounds (by simpa [eE]using h2)]
  by_cases e:b=i
  ·subst e
   simp[eE]
  ·rw[if_neg e]
   have e2:¬i=b:=fun h=>e h.symm
   simp[eE,e2]
theorem yE(f:Nat→Nat):(eE f).all (·.oneCell')=true:=by
 rw[Array.all_eq_true]
 intro i h
 simp[eE,Value.oneCell']
theorem nS(f:Nat→Nat)(i:Nat)(h:i<21):(eE f)[i]? =some (.int .i64 (f i:Nat)):=by
 simp[eE,h]
theorem I4(w:World)(a b:Array Value)(t:TypeId):Blk ((w.alloc (.cells a t)).alloc (.cells b t)) w.heap.size t a∧Blk ((w.alloc (.cells a t)).alloc (.cells b t)) (w.heap.size+1) t b:=by
 have e1:(w.alloc (.cells a t)).heap.size=w.heap.size+1:=by simp
 refine⟨?_,?_⟩
 ·show(World.alloc _ _).heap[_]? =_
  rw[bn _ _ _ (by simp)]
  exact ag w t a
 ·rw[← e1]
  exact ag _ t b
theorem eO{w:World}{g k:Nat}{t:TypeId}{cs:Array Value}(h:Blk w g t cs)(h0:g≠k)(i:Nat)(u:Value):Blk (w.setCell ⟨k,i,none⟩ u) g t cs:=by
 show(w.setCell ⟨k,i,none⟩ u).heap[g]? =_
 rw[Below.heap_setCell w ⟨k,i,none⟩ u g h0]
 exact h
theorem la{w:World}{g:Nat}{t:TypeId}{cs:Array Value}(h:Blk w g t cs):w.rangeAt g 0 cs.toList:=by
 intro j v hv
 rw[Nat.zero_add,ac h]
 simpa using hv
theorem l4{w:World}{A:Option Addr}{n:Nat}{L:List Int}(hL:ZIn w A n L)(h0:aY L):∃b off,A=some ⟨b,off,none⟩∧∀i,i<n→w.cell? ⟨b,off+i,none⟩=some (.int .i64 ((nl L).getD i 0:Nat)):=by
 have h1:=hL.1
 have h2:2≤n:=by have:=h0.1;omega
 obtain⟨b,off,rfl,hc⟩:=hL.2 (by omega)
 refine⟨b,off,rfl,fun i hi=> ?_⟩
 rw[hc i hi,ox]
 have:0≤L.getD i 0:=by
  rw[List.getD_eq_getElem?_getD,List.getElem?_eq_getElem (by omega)]
  have:=(h0.2.2.1 L[i] (List.getElem_mem ..)).1
  show(0:Int)≤L[i]
  omega
 rw[Int.toNat_of_nonneg this]
theorem EL(w:World)(A:Option Addr)(n c:Nat)(L:List Int)(hL:ZIn w A n L)(h7:aY L):Calls Tryz.prog 179 #[.slice A n c] w fun e w'=>e=.returned (.agg (eE (bu (nl L))))∧Below w.heap.size w w':=by
 have hp:=hL.1
 have hw:n≤258:=by have:=h7.2.1;omega
 obtain⟨b,off,rfl,h5⟩:=l4 hL h7
 have h4:=fq h7
 obtain⟨l,hl⟩:∃l,l=nl L:=⟨_,rfl⟩
 have ho:l.length=n:=by rw[hl,bz,hp]
 rw[← hl]at h5 h4 ⊢
 have HF:=aa h4
 have h6:=aa ho
 have h8:=aa h5
 obtain⟨hz,hi⟩:=Je
 have HI:=aa hi
 have HS:=aa fD
 have ha:=aa yf
 have HO:=aa yE
 have HG:=aa nS
 generalize eE=T at*
 clear hi hl h7 hL hp h4 ho h5
 go_enter Tryz.func179,Tryz.ntmps179
 go_wp2_with fail
 go_loopw [5,8] (fun s5 x wx=>∃q:Nat,q≤n∧x=.int .i64 q∧Blk wx w.heap.size 176 (T fun _=>0)∧Blk wx (w.heap.size+1) 176 (T fun k=>iq l k q)∧Below w.heap.size w wx) (fun _ x _=>n - (intOf x).toNat)
 case atStart=>
  obtain⟨h1,h2⟩:=I4 w (T fun _=>0) (T fun _=>0) 176
  exact⟨0,Nat.zero_le _,rfl,h1,h2,((Below.refl _ w).alloc (ah _) _).alloc (by simp) _⟩
 case round=>
  obtain⟨q,hq,rfl,he,h3,hb⟩:=hrel
  have H0:=aa he
  have H1:=aa h3
  have HB:=aa hb
  have hy:=hb.size
  by_cases e:q<n
  ·have d0:decide ((q:Int)<(n:Int))=true:=ar (by omega)
   have hh:=h8.out q e
   have hr:=World.block_lt_of_cell? w _ hh
   have ht:=(HB.out.cell (p:=⟨b,off+q,none⟩) hr).trans hh
   have hj:=(HF.out.one (i:=q) (by rw[h6.out];exact e)).2
   have h0:=iV l (l.getD q 0) q (by rw[h6.out];exact e)
   rw[if_pos rfl]at h0
   obtain⟨k,hk⟩:∃k,k=l.getD q 0:=⟨_,rfl⟩
   rw[← hk]at ht hj h0
   have hm:k<21:=by omega
   have hc:=ac h3 k
   have hf:=ae h3 k
   rw[HG.out _ k hm]at hc
   have hn:=Ju l k q
   rw[h6.out]at hn
   obtain⟨c1,hg⟩:∃c1,c1=iq l k q:=⟨_,rfl⟩
   rw[← hg]at hc hn h0
   have HK:=aa hk
   have hs:=aa h0
   have hv:=aa hg
   have hu:=HS.out fun k=>iq l k q
   clear he h3 hb hh hr hk h0 hg hz
   go_wp2_with fail
   go_roundw
   case rel=>
    refine⟨q+1,by omega,by go_num,eO H0.out (by omega) _ _,?_,HB.out.setCell (by show _≤w.heap.size+1;omega) _⟩
    have h1:=au H1.out k (.int .i64 ((c1+1:Nat):Int))
    rw[ha.out]at h1
    have e2:(fun i=>if i=k then c1+1 else iq l i q)=fun i=>iq l i (q+1):=by
     funext i
     by_cases ei:i=k
     ·rw[if_pos ei,ei,hs.out]
     ·rw[if_neg ei,iV l i q (by rw[h6.out];exact e),if_neg (by rw[← HK.out];exact fun h=>ei h.symm)]
      rfl
    rw[e2]at h1
    exact h1
   case measure=>simp[intOf];omega
  ·obtain rfl:q=n:=by omega
   have d0:decide ((q:Int)<(q:Int))=false:=ao (by omega)
   have e2:(fun k=>iq l k q)=bu l:=by
    funext k
    rw[← h6.out,nm]
   rw[e2]at h3
   have h9:Hid ((Tryz.prog.info? 176).map (·.size)=some (T (bu l)).size):=aa (by rw[HS.out];exact HI.out)
   have H1:=aa h3
   have hu:=HS.out (bu l)
   clear he h3 hb hz e2
   have hx:=bV (P:=Tryz.prog) H0.out h9.out (by rw[HS.out,HS.out]) (HO.out _)
   go_upto_region 7 with fail
   refine wp_region_lit (wpList_load_mid rfl _ _ rfl _ _ rfl (T (bu l)).toList _ (la H1.out) Tryz.underlying176 rfl h9.out ?_)
   rw[Array.toArray_toList]
   go_wp2_with fail
   refine bodyPost_ret (v:=.agg (T (bu l))) (il rfl rfl (setRow_heap _ _ _ _ _ _ H0.out) Tryz.underlying176 h9.out) rfl ⟨rfl,?_⟩
   exact below_setRow HB.out (ah _) _
theorem IA(w:World)(A:Option Addr)(n c:Nat)(x:Int):Calls Tryz.prog 131 #[.slice A n c,.int .i64 x] w fun e w'=>e=.returned (.bool (decide (0≤x∧x<(n:Int))))∧w=w':=by
 by_cases h0:0≤x
 ·have d0:decide (0≤x)=true:=decide_eq_true h0
  by_cases h1:x<(n:Int)
  ·have d1:decide (x<(n:Int))=true:=decide_eq_true h1
   have d2:decide (0≤x∧x<(n:Int))=true:=decide_eq_true ⟨h0,h1⟩
   rw[d2]
   go_enter Tryz.func131,Tryz.ntmps131
   go_wp2_with fail
   go_ret
   exact⟨rfl,rfl⟩
  ·have d1:decide (x<(n:Int))=false:=decide_eq_false h1
   have d2:decide (0≤x∧x<(n:Int))=false:=decide_eq_false (fun h=>h1 h.2)
   rw[d2]
   go_enter Tryz.func131,Tryz.ntmps131
   go_wp2_with fail
   go_ret
   exact⟨rfl,rfl⟩
 ·have d0:decide (0≤x)=false:=decide_eq_false h0
  have d2:decide (0≤x∧x<(n:Int))=false:=decide_eq_false (fun h=>h0 h.1)
  rw[d2]
  go_enter Tryz.func131,Tryz.ntmps131
  go_wp2_with fail
  go_ret
  exact⟨rfl,rfl⟩
theorem rU(w:World)(b off n c s x:Nat)(hs:s<n)(hx:w.cell? ⟨b,off+s,none⟩=some (.int .i64 (x:Nat))):Calls Tryz.prog 132 #[.slice (some ⟨b,off,none⟩) n c,.int .i64 s] w fun e w'=>e=.returned (.int .i64 (x:Nat))∧w=w':=by
 go_enter Tryz.func132,Tryz.ntmps132
 go_wp2_with fail
 go_ret
 exact⟨rfl,rfl⟩
theorem oD(w:World)(A:Option Addr)(n c:Nat)(L:List Int)(hL:ZIn w A n L)(hg:aY L):Calls Tryz.prog 180 #[.slice A n c,.agg (eE (cn (nl L)))] w fun e w'=>∃g F,e=.returned (.slice (some ⟨g,0,none⟩) n n)∧aB w' w.heap.size g n n F∧dB (nl L) F n∧Below w.heap.size w w':=by
 have hv:=hL.1
 have hH:n≤258:=by have:=hg.2.1;omega
 obtain⟨b,off,rfl,h8⟩:=l4 hL hg
 have h7:=fq hg
 obtain⟨l,hl⟩:∃l,l=nl L:=⟨_,rfl⟩
 have hu:l.length=n:=by rw[hl,bz,hv]
 rw[← hl]at h8 h7 ⊢
 have HF:=aa h7
 have ha:=aa hu
 have hi:=aa h8
 have HS:=aa fD
 have hn:=aa yf
 have HG:=aa nS
 generalize eE=T at*
 have hx:=bA (w.alloc (.cells (T (cn l)) 176)) n (by omega)
 clear hl hg hL hv h7 hu h8
 have hm:Hid (aB ((w.alloc (.cells (T (cn l)) 176)).alloc (.cells (madeCells #[.int .i64 0] n) 3)) w.heap.size (w.heap.size+1) n n fun _=>0):=aa (by
  have h:=a9 (w.alloc (.cells (T (cn l)) 176)) w.heap.size n (by simp) (by omega)
  simpa using h)
 have hh:Hid (Blk ((w.alloc (.cells (T (cn l)) 176)).alloc (.cells (madeCells #[.int .i64 0] n) 3)) w.heap.size 176 (T (cn l))):=aa (by
  show(World.alloc _ _).heap[_]? =_
  rw[bn _ _ _ (by simp)]
  exact ag w _ _)
 go_enter Tryz.func180,Tryz.ntmps180
 go_wp2_with fail
 go_loopw [6,7,13] (fun s6 s7 x wx=>∃(q:Nat) (F:Nat→Nat),q≤n∧x=.int .i64 q∧Hid (dB l F q)∧Blk wx w.heap.size 176 (T fun k=>cn l k+iq l k q)∧aB wx w.heap.size (w.heap.size+1) n n F∧Below w.heap.size w wx) (fun _ _ x _=>n - (intOf x).toNat)
 case atStart=>exact⟨0,fun _=>0,Nat.zero_le _,rfl,aa (fun s hs=>by omega),hh.out,hm.out,((Below.refl _ w).alloc (ah _) _).alloc (by simp) _⟩
 case round=>
  obtain⟨q,F,hq,rfl,h9,h6,h3,hb⟩:=hrel
  have H1:=aa h6
  have HB:=aa hb
  have HR:=aa h3
  have hI:=hb.size
  by_cases e:q<n
  ·have d0:decide ((q:Int)<(n:Int))=true:=ar (by omega)
   have ho:=hi.out q e
   have hw:=World.block_lt_of_cell? w _ ho
   have hD:=(HB.out.cell (p:=⟨b,off+q,none⟩) hw).trans ho
   have hr:=(HF.out.one (i:=q) (by rw[ha.out];exact e)).2
   have h0:=iV l (l.getD q 0) q (by rw[ha.out];exact e)
   rw[if_pos rfl]at h0
   have hp:=rB (l:=l) (s:=q) (by rw[ha.out];exact e)
   rw[ha.out]at hp
   have h2:iX l q=cn l (l.getD q 0)+iq l (l.getD q 0) q:=rfl
   obtain⟨k,hk⟩:∃k,k=l.getD q 0:=⟨_,rfl⟩
   rw[← hk]at hD hr h0 h2
   have he:k<21:=by omega
   have hc:=ac h6 k
   have hf:=ae h6 k
   rw[HG.out _ k he]at hc
   obtain⟨j,hj⟩:∃j,j=iX l q:=⟨_,rfl⟩
   rw[← h2,←hj]at hc
   rw[← hj]at hp h2
   have hC:=h3.cell j hp
   have hG:=h3.frozen j
   have h5:dB l (fun i=>if i=j then q else F i) (q+1):=by
    have h:=h9.out.step (by rw[ha.out];exact e)
    rw[← hj]at h
    exact h
   obtain⟨v0,hy⟩:∃v0,v0=F j:=⟨_,rfl⟩
   rw[← hy]at hC
   have hE:(wr.setCell ⟨w.heap.size+1,j,none⟩ (.int .i64 (q:Nat))).cell? ⟨w.heap.size,k,none⟩=some (.int .i64 (j:Nat)):=by
    have h:=ac (eO h6 (k:=w.heap.size+1) (by omega) j (.int .i64 (q:Nat))) k
    rw[HG.out _ k he,←h2]at h
    exact h
   have hF:=ae (eO h6 (k:=w.heap.size+1) (by omega) j (.int .i64 (q:Nat))) k
   have h4:=(h3.set j q).other (g2:=w.heap.size) (by omega) k (.int .i64 ((j+1:Nat):Int))
   have hz:=aa h4
   have hB:=aa h5
   have HK:=aa hk
   have hA:=aa h0
   have HJ:=aa h2
   have ht:j≤258:=by omega
   clear h6 hb ho hw hk h0 h3 h4 h9 h5 h2 hj hy hx hm hh
   go_wp2_with fail
   go_roundw
   case rel=>
    refine⟨q+1,_,by omega,by go_num,hB,?_,hz.out,(HB.out.setCell (p:=⟨w.heap.size+1,j,none⟩) (by show _≤w.heap.size+1;omega) _).setCell (p:=⟨w.heap.size,k,none⟩) (ah _) _⟩
    have h1:=au (eO H1.out (k:=w.heap.size+1) (by omega) j (.int .i64 (q:Nat))) k (.int .i64 ((j+1:Nat):Int))
    rw[hn.out]at h1
    have e2:(fun i=>if i=k then j+1 else cn l i+iq l i q)=fun i=>cn l i+iq l i (q+1):=by
     funext i
     by_cases ei:i=k
     ·rw[if_pos ei,ei,hA.out,HJ.out,Nat.add_assoc]
     ·rw[if_neg ei,iV l i q (by rw[ha.out];exact e),if_neg (by rw[← HK.out];exact fun h=>ei h.symm)]
      rfl
    rw[e2]at h1
    exact h1
   case measure=>simp[intOf];omega
  ·obtain rfl:q=n:=by omega
   have d0:decide ((q:Int)<(q:Int))=false:=ao (by omega)
   clear h6 hb h3 hx hm hh
   go_wp2_with fail
   go_ret
   exact⟨_,F,rfl,HR.out,h9.out,HB.out⟩
def tbF(s0:Value)(K F P:Nat→Nat)(s4:Value)(i:Nat):Value:=if i=0 then s0 else if i<22 then .int .i64 (K (i - 1))else if i<43 then .int .i64 (F (i - 22))else if i<64 then .int .i64 (P (i - 43))else s4
def tb(s0:Value)(K F P:Nat→Nat)(s4:Value):Array Value:=(Array.range 65).map (tbF s0 K F P s4)
theorem dQ(s0:Value)(K F P:Nat→Nat)(s4:Value):(tb s0 K F P s4).size=65:=by simp[tb]
theorem kR(s0:Value)(K F P:Nat→Nat)(s4:Value)(i:Nat)(h:i<65):(tb s0 K F P s4)[i]? =some (tbF s0 K F P s4 i):=by simp[tb,h]
theorem qk(s0:Value)(K F P:Nat→Nat)(s4:Value):(tb s0 K F P s4)[0]? =some s0:=by rw[kR _ _ _ _ _ 0 (by omega)];rfl
theorem uV(s0:Value)(K F P:Nat→Nat)(s4:Value)(k:Nat)(h:k<21):(tb s0 K F P s4)[1+k]? =some (.int .i64 (K k:Nat)):=by
 rw[kR _ _ _ _ _ _ (by omega),tbF,if_neg (by omega),if_pos (by omega),show 1+k - 1=k by omega]
theorem lq(s0:Value)(K F P:Nat→Nat)(s4:Value)(k:Nat)(h:k<21):(tb s0 K F P s4)[22+k]? =some (.int .i64 (F k:Nat)):=by
 rw[kR _ _ _ _ _ _ (by omega),tbF,if_neg (by omega),if_neg (by omega),if_pos (by omega),show 22+k - 22=k by omega]
theorem lz(s0:Value)(K F P:Nat→Nat)(s4:Value)(k:Nat)(h:k<21):(tb s0 K F P s4)[43+k]? =some (.int .i64 (P k:Nat)):=by
 rw[kR _ _ _ _ _ _ (by omega),tbF,if_neg (by omega),if_neg (by omega),if_neg (by omega),if_pos (by omega),show 43+k - 43=k by omega]
theorem vu(s0:Value)(K F P:Nat→Nat)(s4:Value):(tb s0 K F P s4)[64]? =some s4:=by rw[kR _ _ _ _ _ 64 (by omega)];rfl
theorem rn(s0:Value)(K F P:Nat→Nat)(s4:Value)(h0:s0.oneCell'=true)(h4:s4.oneCell'=true):(tb s0 K F P s4).all (·.oneCell')=true:=by
 rw[Array.all_eq_true]
 intro i h
 have:(tb s0 K F P s4)[i]=tbF s0 K F P s4 i:=by simp[tb]
 rw[this,tbF]
 repeat' split
 all_goals first
  | exact h0
  | exact h4
  | rfl
theorem qT{cs:Array Value}{s0:Value}{K F P:Nat→Nat}{s4:Value}(hs:cs.size=65)(h:∀i,i<65→cs[i]? =some (tbF s0 K F P s4 i)):cs=tb s0 K F P s4:=by
 apply Array.ext_getElem?
 intro i
 by_cases hi:i<65
 ·rw[h i hi,kR _ _ _ _ _ i hi]
 ·rw[Array.getElem?_eq_none (by omega),Array.getElem?_eq_none (by rw[dQ];omega)]
theorem Ig{s0:Value}{K F P K2 F2 P2:Nat→Nat}{s4:Value}(hK:∀i,i<21→K i=K2 i)(hF:∀i,i<21→F i=F2 i)(hP:∀i,i<21→P i=P2 i):tb s0 K F P s4=tb s0 K2 F2 P2 s4:=by
 refine qT (dQ ..) fun i hi=> ?_
 rw[kR _ _ _ _ _ i hi,tbF,tbF]
 congr 1
 split
 ·rfl
 ·split
  ·rw[hK _ (by omega)]
  ·split
   ·rw[hF _ (by omega)]
   ·split
    ·rw[hP _ (by omega)]
    ·rfl
theorem uI(s0:Value)(K F P:Nat→Nat)(s4:Value)(k x:Nat)(hk:k<21):(tb s0 K F P s4).setIfInBounds (22+k) (.int .i64 x)=tb s0 K (fun i=>if i=k then x else F i) P s4:=by
 refine qT (by rw[Array.size_setIfInBounds,dQ]) fun i hi=> ?_
 rw[Array.getElem?_setIfInBounds,kR _ _ _ _ _ i hi,dQ]
 by_cases e:22+k=i
 ·subst e
  rw[if_pos rfl,if_pos hi,tbF,if_neg (by omega),if_neg (by omega),if_pos (by omega),if_pos (by omega)]
 ·rw[if_neg e,tbF,tbF]
  congr 1
  split
  ·rfl
  ·split
   ·rfl
   ·split
    ·rw[if_neg (by omega)]
    ·rfl
theorem vj(s0:Value)(K F P:Nat→Nat)(s4:Value)(k x:Nat)(hk:k<21):(tb s0 K F P s4).setIfInBounds (43+k) (.int .i64 x)=tb s0 K F (fun i=>if i=k then x else P i) s4:=by
 refine qT (by rw[Array.size_setIfInBounds,dQ]) fun i hi=> ?_
 rw[Array.getElem?_setIfInBounds,kR _ _ _ _ _ i hi,dQ]
 by_cases e:43+k=i
 ·subst e
  rw[if_pos rfl,if_pos hi,tbF,if_neg (by omega),if_neg (by omega),if_neg (by omega),if_pos (by omega),if_pos (by omega)]
 ·rw[if_neg e,tbF,tbF]
  congr 1
  split
  ·rfl
  ·split
   ·rfl
   ·split
    ·rfl
    ·split
     ·rw[if_neg (by omega)]
     ·rfl
theorem xL(s0:Value)(K F P:Nat→Nat)(s4 v:Value):(tb s0 K F P s4).setIfInBounds 64 v=tb s0 K F P v:=by
 refine qT (by rw[Array.size_setIfInBounds,dQ]) fun i hi=> ?_
 rw[Array.getElem?_setIfInBounds,kR _ _ _ _ _ i hi,dQ]
 by_cases e:64=i
 ·subst e
  rw[if_pos rfl,if_pos hi]
  rfl
 ·rw[if_neg e,tbF,tbF]
  congr 1
  split
  ·rfl
  ·split
   ·rfl
   ·split
    ·rfl
    ·rw[if_pos (by omega),if_pos (by omega)]
def it(cs:Array Value):Nat→List Value→Array Value
 | _, []=>cs
 | o,v :: vs=>it (cs.setIfInBounds o v) (o+1) vs
theorem mZ:∀(vs:List Value) (cs:Array Value) (o:Nat),(it cs o vs).size=cs.size
 | [],_,_=>rfl
 | v :: vs,cs,o=>by rw[it,mZ vs,Array.size_setIfInBounds]
theorem pz:∀(vs:List Value) (cs:Array Value) (o i:Nat),i<cs.size→(it cs o vs)[i]? =if o≤i∧i<o+vs.length then vs[i - o]? else cs[i]?
 | [],cs,o,i,_=>by
   rw[it,if_neg (by simp)]
 | v :: vs,cs,o,i,h=>by
   rw[it,pz vs _ _ i (by rw[Array.size_setIfInBounds];exact h),Array.getElem?_setIfInBounds]
   by_cases e:o=i
   ·subst e
    rw[if_neg (by omega),if_pos rfl,if_pos h,if_pos (by simp),Nat.sub_self]
    rfl
   ·rw[if_neg e]
    by_cases e2:o+1≤i∧i<o+1+vs.length
    ·rw[if_pos e2,if_pos (by simp;omega),show i - o=(i - (o+1))+1 by omega]
     rfl
    ·rw[if_neg e2,if_neg (by simp;omega)]
theorem nx{g:Nat}{t:TypeId}:∀(vs:List Value) (cs:Array Value) (o:Nat) (w:World),Blk w g t cs→Blk (w.setCells g o vs) g t (it cs o vs)
 | [],_,_,_,h=>h
 | v :: vs,cs,o,w,h=>by
   rw[World.setCells,it]
   exact nx vs _ _ _ (au h o v)
theorem i8{B:Nat}{w:World}{g:Nat}(hg:B≤g):∀(vs:List Value) (o:Nat) (w':World),Below B w w'→Below B w (w'.setCells g o vs)
 | [],_,_,h=>h
 | v :: vs,o,w',h=>by
   rw[World.setCells]
   exact i8 hg vs _ _ (h.setCell (p:=⟨g,o,none⟩) hg v)
theorem zB(s0:Value)(K F P K2:Nat→Nat)(s4:Value):it (tb s0 K F P s4) 1 (eE K2).toList=tb s0 K2 F P s4:=by
 have hl:(eE K2).toList.length=21:=fD K2
 refine qT (by rw[mZ,dQ]) fun i hi=> ?_
 rw[pz _ _ _ i (by rw[dQ];exact hi),hl]
 by_cases e:1≤i∧i<1+21
 ·rw[if_pos e,Array.getElem?_toList,nS _ _ (by omega),tbF,if_neg (by omega),if_pos (by omega)]
 ·rw[if_neg e,kR _ _ _ _ _ i hi,tbF,tbF]
  congr 1
  split
  ·rfl
  ·rw[if_neg (c:=i<22) (by omega),if_neg (c:=i<22) (by omega)]
theorem Ep{w:World}{g:Nat}{t:TypeId}{s0:Value}{K F P:Nat→Nat}{s4:Value}(h:Blk w g t (tb s0 K F P s4)):w.rangeAt g 43 (eE P).toList:=by
 intro j v hv
 rw[ac h]
 have hj:j<21:=by
  have:=(List.getElem?_eq_some_iff.1 hv).1
  have hl:(eE P).toList.length=21:=fD P
  omega
 rw[lz _ _ _ _ _ j hj,←hv,Array.getElem?_toList,nS _ _ hj]
theorem FH{w:World}{g:Nat}{t:TypeId}{s0:Value}{K F P:Nat→Nat}{s4:Value}(h:Blk w g t (tb s0 K F P s4))(o n:Nat)(hn:o+n≤65):w.there g o n:=by
 intro j hj
 refine⟨?_,ae h _⟩
 rw[ac h,kR _ _ _ _ _ _ (by omega)]
 rfl
theorem mH:(∀ w,(zeroValue 178).run Tryz.prog w=.ok (.agg (tb (.slice none 0 0) (fun _=>0) (fun _=>0) (fun _=>0) (.slice none 0 0))) w)∧(Tryz.prog.info? 178).map (·.size)=some 65:=zero_of_info (by kernel_rfl)
theorem Gb:Tryz.prog.built 178 []=some (tb (.slice none 0 0) (fun _=>0) (fun _=>0) (fun _=>0) (.slice none 0 0)):=by kernel_rfl
theorem IH(A:Option Addr)(n c:Nat):Tryz.prog.built 178 [(0,.slice A n c)]=some (tb (.slice A n c) (fun _=>0) (fun _=>0) (fun _=>0) (.slice none 0 0)):=by kernel_rfl
theorem aB.setRow{w:World}{B g c n:Nat}{f:Nat→Nat}(h:aB w B g c n f){k:Nat}(h0:g≠k)(cs:Array Value):aB (w.setRow k cs) B g c n f:=by
 refine⟨h.1,?_⟩
 rcases h.2 with⟨h1,h2⟩ | ⟨g',cap,cur,hv,hB,hh,r⟩
 ·exact .inl ⟨h1,h2⟩
 ·have hg:g'=g:=by
   simp only[Value.slice.injEq,Option.some.injEq,Addr.mk.injEq]at hv
   exact hv.1.1.symm
  refine .inr ⟨g',cap,cur,hv,hB,?_,r⟩
  rw[setRow_other _ _ _ _ (by omega)]
  exact hh
theorem iS{g k:Nat}{t:TypeId}{cs:Array Value}(h0:g≠k):∀(vs:List Value) (o:Nat) (w:World),Blk w g t cs→Blk (w.setCells k o vs) g t cs
 | [],_,_,h=>h
 | v :: vs,o,w,h=>by
   rw[World.setCells]
   exact iS h0 vs _ _ (eO h h0 o v)
def tb0:Array Value:=tb (.slice none 0 0) (fun _=>0) (fun _=>0) (fun _=>0) (.slice none 0 0)
theorem iJ:tb0.size=65:=dQ ..
theorem qy:tb0.all (·.oneCell')=true:=rn _ _ _ _ _ rfl rfl
theorem setRow_self(w:World)(g:Nat)(cs:Array Value)(t:TypeId)(h:Blk w g t cs):Blk (w.setRow g cs) g t cs:=setRow_heap _ _ _ _ _ _ h
theorem kU{P:Program}{fn:Func}{p u:Tmp}{ty:TypeId}(h:fn.results=#[.cell p ty,.tmp u])(tmps:Array Value)(w:World)(g:Nat)(t:TypeId)(cs:Array Value)(fr:Nat×Nat)(d:TypeDesc)
 (hp:tmps.getD p undef=.pointer (some ⟨g,0,none⟩)) (hg:w.heap[g]? =some (.cells cs t fr)) (hu:P.underlying ty=some d) (hd:d.isRow=true) (hi:(P.info? ty).map (·.size)=some cs.size) (v:Value) (hv:tmps.getD u undef=v):
 (results fn tmps).run P w=.ok (.tuple #[.agg cs,v]) w:=by
 rw[results_cell_tmp h,hp,hv]
 have:=run_loadVar_mid (P:=P) w g 0 ty cs.toList d (fun j v hv=>by rw[Nat.zero_add,cell_of_row w g j cs t fr hg];simpa using hv) hu hd (by simpa using hi)
 simp[asAddr,this,Result.andThen]
theorem gu{P:Program}{ops:Array Oper}{rest:List Oper}{o:Oper}{a:Act}{w:World}{Q:Exit→Act→World→Prop}{x:Operand}
 (hw:Region.wanted o (yielded ops a.tmps)=true) (h0:o.op=.move x) (hn:wpList P ops Q rest (a.put o.dst (a.eval x)) w):wpList P ops Q (o :: rest) a w:=by
 unfold wpList
 rw[if_pos hw]
 left
 unfold Oper.wp
 simp[execOp,h0]
 exact hn
theorem mX{P:Program}{ops:Array Oper}{rest:List Oper}{o:Oper}{a:Act}{w:World}{Q:Exit→Act→World→Prop}(hg:o.guard=none)(t:TypeId)(parts:Array (Nat×Operand))(ho:o.op=.build t parts)
 (ps:List (Nat×Value)) (h0:(parts.map fun(i,x)=>(i,a.eval x)).toList=ps) (cs:Array Value) (hb:P.built t ps=some cs)
 (h:wpList P ops Q rest (a.put o.dst (.agg cs)) w):wpList P ops Q (o :: rest) a w:=by
 refine wpList_build hg t parts ho ?_ ?_
 ·rw[h0,hb]
  rfl
 ·rw[h0,hb]
  exact h
theorem rE(w:World)(A:Option Addr)(n c:Nat)(L:List Int)(hL:ZIn w A n L)(hn:n≤maxLen)(h:¬aY L):Calls Tryz.prog 129 #[.slice A n c] w fun e w'=>e=.returned (.tuple #[.agg tb0,.int .i64 80])∧Below w.heap.size w w':=by
 have hz:=mH.1
 have hi:=mH.2
 have h1:=Gb
 rw[show tb (.slice none 0 0) (fun _=>0) (fun _=>0) (fun _=>0) (.slice none 0 0)=tb0 from rfl]at hz h1
 have h0:Below w.heap.size w (w.alloc (.cells tb0 178)):=(Below.refl _ w).alloc (ah _) _
 have HC:=aa (kN (w.alloc (.cells tb0 178)) A n c L (hL.below h0) hn)
 rw[if_neg h]at HC
 have hk:=ag w 178 tb0
 have HK:=aa hk
 have HS:=aa iJ
 have HO:=aa qy
 have HI:=aa hi
 have h4:=aa h1
 generalize tb0=Z at*
 have h3:=aa h0
 clear hL h h0 hk hi h1
 go_enter Tryz.func129,Tryz.ntmps129
 go_wp2_with fail
 clear hz
 refine HC.out.mono ?_
 rintro e w2 ⟨rfl,rfl⟩
 generalize w.alloc (.cells Z 178)=w1 at*
 have h2:Hid ((Tryz.prog.info? 178).map (·.size)=some Z.size):=aa (by rw[HS.out];exact HI.out)
 go_upto_region 3 with fail
 refine wp_region_lit (mX rfl _ _ rfl [] (by simp) Z h4.out ?_)
 have h5:=bV (P:=Tryz.prog) HK.out h2.out rfl HO.out
 go_wp2_with fail
 exact bodyPost_ret (v:=.tuple #[.agg Z,.int .i64 80]) (kU rfl _ _ _ _ _ _ _ rfl (setRow_self _ _ _ _ HK.out) Tryz.underlying178 rfl h2.out _ rfl) rfl ⟨rfl,below_setRow h3.out (ah _) _⟩
theorem sA(f:Nat→Nat)(k x:Nat)(h:x=f (k+1)):(fun i=>if i=k+1 then x else if i≤k then f i else 0)=fun i=>if i≤k+1 then f i else 0:=by
 funext i
 by_cases e:i=k+1
 ·rw[if_pos e,if_pos (by omega),e,h]
 ·rw[if_neg e]
  by_cases e2:i≤k
  ·rw[if_pos e2,if_pos (by omega)]
  ·rw[if_neg e2,if_neg (by omega)]
theorem rk(f:Nat→Nat)(h:f 0=0):(fun i=>if i≤0 then f i else 0)=fun _=>0:=by
 funext i
 by_cases e:i≤0
 ·rw[if_pos e,show i=0 by omega,h]
 ·rw[if_neg e]
theorem pp(w:World)(A:Option Addr)(n c:Nat)(L:List Int)(hL:ZIn w A n L)(hn:n≤maxLen)(h:aY L):Calls Tryz.prog 129 #[.slice A n c] w fun e w'=>
 ∃g F,e=.returned (.tuple #[.agg (tb (.slice A n c) (bu (nl L)) (fun k=>cd (nl L) k 0) (cn (nl L)) (.slice (some ⟨g,0,none⟩) n n)),.int .i64 0])∧aB w' w.heap.size g n n F∧dB (nl L) F n∧Below w.heap.size w w':=by
 have hz:=mH.1
 have hi:=mH.2
 rw[show tb (.slice none 0 0) (fun _=>0) (fun _=>0) (fun _=>0) (.slice none 0 0)=tb0 from rfl]at hz
 have h0:Below w.heap.size w (w.alloc (.cells tb0 178)):=(Below.refl _ w).alloc (ah _) _
 have HC:=aa (kN (w.alloc (.cells tb0 178)) A n c L (hL.below h0) hn)
 rw[if_pos h]at HC
 have hk:=ag w 178 tb0
 have HK:=aa hk
 have HS:=aa iJ
 have HO:=aa qy
 have HI:=aa hi
 have hT:=aa (IH A n c)
 have p0:=aa h0
 have hH:=aa (hL.below h0)
 have hI:=aa h
 have H3:=aa hL
 obtain⟨l,hl⟩:∃l,l=nl L:=⟨_,rfl⟩
 have h6:=fq hI.out
 have pn:l.length=n:=by rw[hl,bz,hH.out.1]
 have s8:n≤258:=by
  have:=hI.out.2.1
  rw[hH.out.1]at this
  exact this
 rw[← hl]at h6
 rw[← hl]
 have hV:=aa h6
 have qs:=aa pn
 have HL:=aa hl
 clear h6 pn hl
 generalize tb0=Z at*
 clear hL h h0 hk hi
 go_enter Tryz.func129,Tryz.ntmps129
 go_wp2_with fail
 refine HC.out.mono ?_
 rintro e w2 ⟨rfl,rfl⟩
 obtain⟨T0,hJ⟩:∃T0,T0=tb (.slice A n c) (fun _=>0) (fun _=>0) (fun _=>0) (.slice none 0 0):=⟨_,rfl⟩
 rw[← hJ]at hT
 have h8:T0.size=65:=by rw[hJ,dQ]
 have HA:=aa hJ
 clear hJ
 have hB:(w.alloc (.cells Z 178)).heap.size=w.heap.size+1:=by simp
 have h1:=aa hB
 clear hB
 generalize w.alloc (.cells Z 178)=w1 at*
 go_upto_region 4 with fail
 refine wp_region_lit (gu rfl rfl (mX rfl _ _ rfl [(0,.slice A n c)] (by simp;rfl) T0 hT.out ?_))
 have q4:T0.all (·.oneCell')=true:=by rw[HA.out];exact rn _ _ _ _ _ rfl rfl
 have pk:(Tryz.prog.info? 178).map (·.size)=some T0.size:=by rw[h8];exact HI.out
 have HQ:=bV (P:=Tryz.prog) (ag w1 178 Z) pk (by rw[HS.out,h8]) q4
 have HJ:Blk ((w1.alloc (.cells Z 178)).setRow w1.heap.size T0) w1.heap.size 178 T0:=setRow_heap _ _ _ _ _ _ (ag w1 178 Z)
 have ho:Below w1.heap.size w1 ((w1.alloc (.cells Z 178)).setRow w1.heap.size T0):=below_setRow ((Below.refl _ _).alloc (ah _) _) (ah _) _
 have pb:=aa HJ
 have q9:=aa ho
 have ps:((w1.alloc (.cells Z 178)).setRow w1.heap.size T0).cell? ⟨w1.heap.size,0,none⟩=some (.slice A n c):=by
  rw[ac HJ,HA.out,qk]
 have hw:=aL ho HK.out
 have hc:=aa hw
 have hf:=aa (hH.out.below ho)
 have p2:=aa (p0.out.trans (ho.mono (by have:=h1.out;omega)))
 have hD:w1.heap.size<((w1.alloc (.cells Z 178)).setRow w1.heap.size T0).heap.size:=by rw[size_setRow];simp
 clear q4 pk HJ ho hw
 go_upto_region 5 with fail
 clear HQ
 generalize (w1.alloc (.cells Z 178)).setRow w1.heap.size T0=w5 at*
 have h4:=aa (EL w5 A n c L hf.out hI.out)
 rw[← HL.out]at h4
 clear hz
 go_wp2_with fail
 refine h4.out.mono ?_
 rintro e w6 ⟨rfl,hp⟩
 have hP:=aL hp pb.out
 have hx:=aL hp hc.out
 have hr:=ap p2.out hp
 have hE:w1.heap.size<w6.heap.size:=Nat.lt_of_lt_of_le hD hp.size
 rw[HA.out]at hP
 have HT:=FH hP 1 21 (by omega)
 have hA:=run_storeCells_cells (P:=Tryz.prog) w1.heap.size 1 (eE (bu l)).toList 0 w6 (fun j hj=>by
  have:(eE (bu l)).toList.length=21:=fD _
  have:=(HT j (by omega)).1
  simpa using this) (fun j hj=>by
  have:(eE (bu l)).toList.length=21:=fD _
  have:=(HT j (by omega)).2
  simpa using this) (fun v hv=>(Array.all_eq_true_iff_forall_mem.1 (yE (bu l))) v (by simpa using hv))
 simp only[Nat.add_zero]at hA
 have HM:=nx (eE (bu l)).toList _ 1 w6 hP
 rw[zB]at HM
 have hG:=aa HM
 have he:=aa (iS (k:=w1.heap.size) (by have:=h1.out;omega) (eE (bu l)).toList 1 w6 hx)
 have p1:=aa (i8 (g:=w1.heap.size) (by have:=h1.out;omega) (eE (bu l)).toList 1 w6 hr)
 have q0:(eE (bu l)).size=21:=fD _
 clear hP hx hr hp HT HM h4 pb hc q9 p2 ps
 generalize eE (bu l)=TK at*
 go_upto_region 6 with fail
 clear hA
 have h9:w1.heap.size<(w6.setCells w1.heap.size 1 TK.toList).heap.size:=Nat.lt_of_lt_of_le hE (i8 (g:=w1.heap.size) (ah _) TK.toList 1 w6 (Below.refl w1.heap.size w6 |>.mono (ah _))).size
 generalize w6.setCells w1.heap.size 1 TK.toList=w7 at*
 obtain⟨g5,pj⟩:∃g5,g5=w1.heap.size:=⟨_,rfl⟩
 rw[← pj]at hG h9 ⊢
 have s5:w.heap.size<g5:=by have:=h1.out;omega
 clear hD hE h1 HK hH hf p0 hT HO HC h8 pj
 obtain⟨K,hK⟩:∃K,K=bu l:=⟨_,rfl⟩
 rw[← hK]at hG
 go_wp2_with fail
 go_loopw [6,19] (fun s6 x wx=>∃k:Nat,k≤20∧x=.int .i64 k∧Blk wx g5 178 (tb (.slice A n c) K (fun i=>if i≤k then cd l i 0 else 0) (fun i=>if i≤k then cn l i else 0) (.slice none 0 0))∧Blk wx w.heap.size 178 Z∧Below w.heap.size w wx∧g5<wx.heap.size) (fun _ x _=>20 - (intOf x).toNat)
 case atStart=>
  refine⟨0,Nat.zero_le _,rfl,?_,he.out,p1.out,h9⟩
  have e1:=rk (fun i=>cd l i 0) (Df l)
  have e2:=rk (cn l) (Hf l)
  rw[e1,e2]
  exact hG.out
 case round=>
  obtain⟨k,hk,rfl,h0,HF,hb,HR⟩:=hrel
  have H1:=aa h0
  have HZ:=aa HF
  have HB:=aa hb
  by_cases e:k<20
  ·have d0:decide ((k:Int)<20)=true:=ar (by omega)
   obtain⟨k1,HH⟩:∃k1,k1=k+1:=⟨_,rfl⟩
   have s7:(k:Int)+1=(k1:Int):=by omega
   have q1:=(ac h0 (22+k)).trans (lq _ _ _ _ _ k (by omega))
   rw[if_pos (ah _)]at q1
   have q2:=(ac h0 (1+k)).trans (uV _ _ _ _ _ k (by omega))
   have q3:=(ac h0 (22+k1)).trans (lq _ _ _ _ _ k1 (by omega))
   have f3:=ae h0 (22+k1)
   have ht:=Ie l e
   rw[← HH,←hK]at ht
   have HG:=I9 hV.out (show k1≤20 by omega) 0
   have hs:=rW l k
   rw[← hK]at hs
   obtain⟨x1,HU⟩:∃x1,x1=cd l k 0:=⟨_,rfl⟩
   obtain⟨y1,HV⟩:∃y1,y1=K k:=⟨_,rfl⟩
   obtain⟨z1,HW⟩:∃z1,z1=cd l k1 0:=⟨_,rfl⟩
   rw[← HU]at q1 ht
   rw[← HV]at q2 ht hs
   rw[← HW]at ht HG
   have s2:((x1:Int)+(y1:Int))*2=(z1:Int):=by omega
   have s0:x1≤1048576:=by omega
   have s9:y1≤1048576:=by omega
   have s3:=aa HU
   have pg:=aa HV
   have r7:=aa HW
   clear h0 HF hb ht HU HV HW
   have rv:(k:Int)<21:=by omega
   have pl:(k1:Int)<21:=by omega
   go_upto_region 9 with fail
   have hh:Blk wr.drew g5 178 (tb (.slice A n c) K (fun i=>if i≤k then cd l i 0 else 0) (fun i=>if i≤k then cn l i else 0) (.slice none 0 0)):=H1.out
   have hF:Blk wr.drew w.heap.size 178 Z:=HZ.out
   have hq:Below w.heap.size w wr.drew:=HB.out.drew
   have p3:=aa hh
   have p5:=aa hF
   have p4:=aa hq
   have h2:g5<wr.drew.heap.size:=HR
   have pf:=aa h2
   clear hh hF hq h2
   have q3d:wr.drew.cell? ⟨g5,22+k1,none⟩=some (.int .i64 ((if k1≤k then cd l k1 0 else 0:Nat):Int)):=q3
   have f3d:wr.drew.frozen? ⟨g5,22+k1,none⟩=false:=f3
   have t1:({ heap:=wr.heap,tape:=wr.tape,drawn:=wr.drawn+1,os:=wr.os,output:=wr.output }:World).cell? ⟨g5,22+k,none⟩=some (.int .i64 (x1:Nat)):=q1
   have t2:({ heap:=wr.heap,tape:=wr.tape,drawn:=wr.drawn+1,os:=wr.os,output:=wr.output }:World).cell? ⟨g5,1+k,none⟩=some (.int .i64 (y1:Nat)):=q2
   obtain⟨s1,rM⟩:∃s1,s1=x1+y1:=⟨_,rfl⟩
   have pM:(x1:Int)+(y1:Int)=(s1:Int):=by omega
   have rO:(s1:Int)*2=(z1:Int):=by omega
   have w1':IntKind.i64.wrap (k1:Int)=(k1:Int):=by rw[IntKind.wrap_i64];omega
   have w2':IntKind.i64.wrap (s1:Int)=(s1:Int):=by rw[IntKind.wrap_i64];omega
   have w3':IntKind.i64.wrap (z1:Int)=(z1:Int):=by rw[IntKind.wrap_i64];omega
   have h5:=aa HH
   clear s2 rM HH
   go_still_tail 14,(by kernel_rfl)
   change wpList _ _ _ _ _ wr.drew
   generalize wr.drew=wy at*
   clear q1 q2 q3 f3 t1 t2
   have hM:=au p3.out (22+k1) (.int .i64 (z1:Nat))
   rw[uI _ _ _ _ _ k1 z1 (by omega)]at hM
   have hS:(fun i=>if i=k1 then z1 else if i≤k then cd l i 0 else 0)=fun i=>if i≤k1 then cd l i 0 else 0:=by
    rw[h5.out]
    exact sA (fun i=>cd l i 0) k z1 (by rw[r7.out,h5.out])
   rw[hS]at hM
   have ha:=aa hM
   have hY:=aa (eO p5.out (k:=g5) (by omega) (22+k1) (.int .i64 (z1:Nat)))
   have hW:=aa (p4.out.setCell (p:=⟨g5,22+k1,none⟩) (by show _≤g5;omega) (.int .i64 (z1:Nat)))
   have H4:Hid (g5<(wy.setCell ⟨g5,22+k1,none⟩ (.int .i64 (z1:Nat))).heap.size):=aa (by simpa using pf.out)
   clear hM hS
   go_upto_region 10 with fail
   generalize wy.setCell ⟨g5,22+k1,none⟩ (.int .i64 (z1:Nat))=wz at*
   clear q3d f3d p3 p5 p4 pf H1 HZ HB s0 pM rO w2' w3'
   have r1:=(ac ha.out (43+k)).trans (lz _ _ _ _ _ k (by omega))
   rw[if_pos (ah _)]at r1
   have r2:=(ac ha.out (1+k)).trans (uV _ _ _ _ _ k (by omega))
   have r3:=(ac ha.out (43+k1)).trans (lz _ _ _ _ _ k1 (by omega))
   have g3:=ae ha.out (43+k1)
   have hR:=vh l k
   rw[← h5.out,←hK,←pg.out]at hR
   have hy:=uS l k1
   rw[qs.out]at hy
   obtain⟨x2,q5⟩:∃x2,x2=cn l k:=⟨_,rfl⟩
   obtain⟨z2,HX⟩:∃z2,z2=cn l k1:=⟨_,rfl⟩
   rw[← q5]at r1 hR
   rw[← HX]at hR hy
   rw[← pg.out]at r2
   have pM:(x2:Int)+(y1:Int)=(z2:Int):=by omega
   have w2':IntKind.i64.wrap (z2:Int)=(z2:Int):=by rw[IntKind.wrap_i64];omega
   have rb:=aa HX
   clear hR q5 HX
   have hh:Blk wz.drew g5 178 (tb (.slice A n c) K (fun i=>if i≤k1 then cd l i 0 else 0) (fun i=>if i≤k then cn l i else 0) (.slice none 0 0)):=ha.out
   have hF:Blk wz.drew w.heap.size 178 Z:=hY.out
   have hq:Below w.heap.size w wz.drew:=hW.out.drew
   have qb:=aa hh
   have hZ:=aa hF
   have hX:=aa hq
   have h2:g5<wz.drew.heap.size:=H4.out
   have H5:=aa h2
   clear hh hF hq h2
   have q3d:wz.drew.cell? ⟨g5,43+k1,none⟩=some (.int .i64 ((if k1≤k then cn l k1 else 0:Nat):Int)):=r3
   have f3d:wz.drew.frozen? ⟨g5,43+k1,none⟩=false:=g3
   have t1:({ heap:=wz.heap,tape:=wz.tape,drawn:=wz.drawn+1,os:=wz.os,output:=wz.output }:World).cell? ⟨g5,43+k,none⟩=some (.int .i64 (x2:Nat)):=r1
   have t2:({ heap:=wz.heap,tape:=wz.tape,drawn:=wz.drawn+1,os:=wz.os,output:=wz.output }:World).cell? ⟨g5,1+k,none⟩=some (.int .i64 (y1:Nat)):=r2
   go_still_tail 13,(by kernel_rfl)
   change wpList _ _ _ _ _ wz.drew
   generalize wz.drew=wq at*
   clear r1 r2 r3 g3 t1 t2
   go_wp2_with fail
   go_roundw
   case rel=>
    refine⟨k1,by have:=h5.out;omega,by first | rfl | go_num,?_,eO hZ.out (k:=g5) (by omega) _ _,hX.out.setCell (p:=⟨g5,43+k1,none⟩) (by show _≤g5;omega) _,by simpa using H5.out⟩
    have HE:=au qb.out (43+k1) (.int .i64 (z2:Nat))
    rw[vj _ _ _ _ _ k1 z2 (by omega)]at HE
    have hS:(fun i=>if i=k1 then z2 else if i≤k then cn l i else 0)=fun i=>if i≤k1 then cn l i else 0:=by
     rw[h5.out]
     exact sA (cn l) k z2 (by rw[rb.out,h5.out])
    rw[hS]at HE
    exact HE
   case measure=>
    have:=h5.out
    simp[intOf]
    omega
  ·obtain rfl:k=20:=by omega
   have d0:decide ((20:Int)<20)=false:=ao (by omega)
   have h3:tb (.slice A n c) K (fun i=>if i≤20 then cd l i 0 else 0) (fun i=>if i≤20 then cn l i else 0) (.slice none 0 0)=tb (.slice A n c) K (fun i=>cd l i 0) (cn l) (.slice none 0 0):=Ig (fun _ _=>rfl) (fun i hi=>if_pos (by omega)) (fun i hi=>if_pos (by omega))
   rw[h3]at h0
   have H2:=aa h0
   have ps:=(ac h0 0).trans (qk _ _ _ _ _)
   have HD:=aa (H3.out.below hb)
   have hg:=aa (oD wr A n c L HD.out hI.out)
   rw[← HL.out]at hg
   have hit:(Tryz.prog.info? 176).map (·.size)=some (eE (cn l)).toList.length:=by
    rw[show (eE (cn l)).toList.length=21 from fD _]
    exact Je.2
   have qm:=aa hit
   have r0:=aa (Ep h0)
   clear h3 H1 h0 hb HF hit he p1 hG h9
   go_upto_region 12 with fail
   apply wp_region_lit
   iterate 9 go_step
   refine wpList_load_mid rfl _ _ rfl g5 43 rfl (eE (cn l)).toList _ r0.out Tryz.underlying176 rfl qm.out ?_
   rw[Array.toArray_toList]
   go_wp2_with fail
   refine hg.out.mono ?_
   rintro e w8 ⟨g,F,rfl,h7,hC,hN⟩
   have s4:g5<g:=by have:=h7.lt.1;omega
   have hQ:=aL hN H2.out
   have q7:=aL hN HZ.out
   have q8:=(ac hQ 64).trans (vu _ _ _ _ _)
   have f8:=ae hQ 64
   obtain⟨T9,hm⟩:∃T9,T9=tb (.slice A n c) K (fun i=>cd l i 0) (cn l) (.slice (some ⟨g,0,none⟩) n n):=⟨_,rfl⟩
   have HN:=au hQ 64 (.slice (some ⟨g,0,none⟩) n n)
   rw[xL,←hm]at HN
   have pv:T9.size=65:=by rw[hm,dQ]
   have po:T9.all (·.oneCell')=true:=by rw[hm];exact rn _ _ _ _ _ rfl rfl
   have hO:(Tryz.prog.info? 178).map (·.size)=some T9.size:=by rw[pv];exact HI.out
   have hu:(Tryz.prog.info? 178).map (·.size)=some T9.toList.length:=hO
   have qo:=aa HN
   have HY:=eO q7 (k:=g5) (by omega) 64 (.slice (some ⟨g,0,none⟩) n n)
   have qv:=aa ((h7.other (g2:=g5) (by omega) 64 (.slice (some ⟨g,0,none⟩) n n)).setRow (k:=w.heap.size) (by omega) T9)
   have qa:=aa (below_setRow ((ap HB.out hN).setCell (p:=⟨g5,64,none⟩) (by show _≤g5;omega) (.slice (some ⟨g,0,none⟩) n n)) (ah _) T9)
   have rR:=bV (P:=Tryz.prog) HY hO (by rw[HS.out,pv]) po
   have rs:=aa HY
   have ql:=aa hu
   have H0:=aa hO
   have r6:=aa hm
   have H8:=aa hC
   have HP:=HB.out.size
   clear hQ q7 HN hO hu HY h7 hC hm po hN
   go_upto_region 13 with fail
   refine wp_region_lit (wpList_load_mid rfl _ _ rfl g5 0 rfl T9.toList _ (la qo.out) Tryz.underlying178 rfl ql.out ?_)
   rw[Array.toArray_toList]
   go_wp2_with fail
   refine bodyPost_ret (v:=.tuple #[.agg T9,.int .i64 0]) (kU rfl _ _ _ _ _ _ _ rfl (setRow_heap _ _ _ _ _ _ rs.out) Tryz.underlying178 rfl H0.out _ rfl) rfl ⟨g,F,by rw[r6.out,hK],World.ownsRow.mono qv.out HP,H8.out,qa.out⟩
def fM(w:World)(g:Nat)(A:Option Addr)(n c:Nat)(l:List Nat):Prop:=∃gs F B,Blk w g 178 (tb (.slice A n c) (bu l) (fun k=>cd l k 0) (cn l) (.slice (some ⟨gs,0,none⟩) n n))∧aB w B gs n n F∧dB l F n
theorem fM.below{w w':World}{g:Nat}{A:Option Addr}{n c:Nat}{l:List Nat}(h:fM w g A n c l)(hb:Below w.heap.size w w'):fM w' g A n c l:=by
 obtain⟨gs,F,B,h1,h2,h3⟩:=h
 exact⟨gs,F,B,aL hb h1,aB.below h2 hb h2.lt.2,h3⟩
theorem yJ(w:World)(g:Nat)(A:Option Addr)(n c:Nat)(l:List Nat)(hT:fM w g A n c l)(h0:eu l)(x k:Nat)(hk:k≤20)(hx:x<2 ^ k):Calls Tryz.prog 220 #[.pointer (some ⟨g,0,none⟩),.int .i64 x,.int .i64 k] w fun e w'=>e=.returned (.bool (decide (x*pw k<jD l)))∧∃d,w'=w.drewN d:=by
 obtain⟨gs,F,B,hb,_,_⟩:=hT
 have q1:=(ac hb (22+20)).trans (lq _ _ _ _ _ 20 (by omega))
 have q2:=(ac hb (1+20)).trans (uV _ _ _ _ _ 20 (by omega))
 have hl:=Iz h0
 have h2:=h0.sum
 obtain⟨a,ha⟩:∃a,a=cd l 20 0:=⟨_,rfl⟩
 obtain⟨b,h4⟩:∃b,b=bu l 20:=⟨_,rfl⟩
 rw[← ha]at q1 hl
 rw[← h4]at q2 hl
 obtain⟨S,hS⟩:∃S,S=jD l:=⟨_,rfl⟩
 rw[← hS]at hl h2 ⊢
 have h8:(a:Int)+(b:Int)=(S:Int):=by omega
 have hw:IntKind.i64.wrap (S:Int)=(S:Int):=by rw[IntKind.wrap_i64];omega
 have h3:x*pw k<1048576:=by
  rw[← yN hk]
  exact Nat.mul_lt_mul_of_pos_right hx (fA k)
 obtain⟨j,hj⟩:∃j,j=20 - k:=⟨_,rfl⟩
 have h9:(20:Int) - (k:Int)=(j:Int):=by omega
 have h5:pw k=2 ^ j:=by rw[hj];rfl
 rw[h5]at h3 ⊢
 have h6:=aa h3
 clear hb ha h4 hS hl h5 hx h0 h2 hj h3 hk
 go_enter Tryz.func220,Tryz.ntmps220
 go_upto_region 1 with fail
 go_quiet (fail)
 go_wp2_with fail
 have h7:wrap64 ((x:Int)*2 ^ j)=((x*2 ^ j:Nat):Int):=by
  have h1:((x:Int)*2 ^ j)=((x*2 ^ j:Nat):Int):=by
   rw[Int.natCast_mul,Int.natCast_pow]
   rfl
  rw[h1]
  have:=h6.out
  generalize x*2 ^ j=y at*
  unfold wrap64
  omega
 rw[h7]
 have hd:decide (((x*2 ^ j:Nat):Int)<(S:Int))=decide (x*2 ^ j<S):=by
  generalize x*2 ^ j=y
  by_cases h:y<S
  ·rw[decide_eq_true h,ar (by omega)]
  ·rw[decide_eq_false h,ao (by omega)]
 rw[hd]
 go_ret
 exact⟨rfl,_,rfl⟩
theorem AQ(w:World)(g:Nat)(A:Option Addr)(n c:Nat)(L:List Int)(hT:fM w g A n c (nl L))(hL:ZIn w A n L)(ho:aY L):Calls Tryz.prog 130 #[.pointer (some ⟨g,0,none⟩)] w fun e w'=>∃gc,e=.returned (.slice (some ⟨gc,0,none⟩) n n)∧aB w' w.heap.size gc n n (cP (nl L))∧Below w.heap.size w w':=by
 have hE:=hL.1
 have hO:n≤258:=by have:=ho.2.1;omega
 obtain⟨b,off,rfl,h7⟩:=l4 hL ho
 have h6:=fq ho
 obtain⟨l,hl⟩:∃l,l=nl L:=⟨_,rfl⟩
 have hD:l.length=n:=by rw[hl,bz,hE]
 rw[← hl]at h7 h6 hT ⊢
 obtain⟨gs,F,B,hb,hi,hm⟩:=hT
 have HF:=aa h6
 have h5:=aa hD
 have hv:=aa h7
 have hu:=aa hb
 have hw:=aa hi
 have hc:=aa hm
 have q4:=(ac hb 64).trans (vu _ _ _ _ _)
 have hM:=bA w n (by omega)
 have hI:=aa (a9 w w.heap.size n (ah _) (by omega))
 clear hl ho hL hE h6 hD h7 hb hi hm
 go_enter Tryz.func130,Tryz.ntmps130
 go_upto_region 2 with fail
 have q5:(w.alloc (.cells (madeCells #[.int .i64 0] n) 3)).cell? ⟨g,64,none⟩=some (.slice (some ⟨gs,0,none⟩) n n):=by
  rw[World.cell?_alloc_lt _ _ _ (World.block_lt_of_cell? w _ q4)]
  exact q4
 clear hM
 go_wp2_with fail
 clear q4 q5
 go_loopw [4,5,6,18] (fun s4 s5 s6 x wx=>∃(q:Nat) (G:Nat→Nat),q≤n∧x=.int .i64 q∧Hid (∀ j,j<q→G (F j)=cP l (F j))∧aB wx w.heap.size w.heap.size n n G∧Below w.heap.size w wx) (fun _ _ _ x _=>n - (intOf x).toNat)
 case atStart=>exact⟨0,fun _=>0,Nat.zero_le _,rfl,aa (fun s hs=>by omega),hI.out,(Below.refl _ w).alloc (ah _) _⟩
 case round=>
  obtain⟨q,G,hq,rfl,hG,hr,hz⟩:=hrel
  have HR:=aa hr
  have HB:=aa hz
  by_cases e:q<n
  ·have d0:decide ((q:Int)<(n:Int))=true:=ar (by omega)
   have hB:=hc.out
   rw[← h5.out]at hB
   obtain⟨h4,hF⟩:=hB.get (i:=q) (by rw[h5.out];exact e)
   have h0:=xM h4
   rw[hF]at h0
   have h8:=HF.out.one h4
   have hh:=sI HF.out h4
   have hn:=(hw.out).cell q e
   have hf:=hv.out (F q) (by rw[← h5.out];exact h4)
   rw[h5.out]at h4
   obtain⟨s,hs⟩:∃s,s=F q:=⟨_,rfl⟩
   rw[← hs]at h0 hn hf h4 h8 hh
   obtain⟨k,hk⟩:∃k,k=l.getD s 0:=⟨_,rfl⟩
   rw[← hk]at h0 hf h8
   have q0:=(ac hu.out 0).trans (qk _ _ _ _ _)
   have q1:=(ac hu.out (22+k)).trans (lq _ _ _ _ _ k (by omega))
   have q2:=(ac hu.out (43+k)).trans (lz _ _ _ _ _ k (by omega))
   obtain⟨x1,hC⟩:∃x1,x1=cd l k 0:=⟨_,rfl⟩
   obtain⟨p1,hp⟩:∃p1,p1=cn l k:=⟨_,rfl⟩
   obtain⟨v1,ht⟩:∃v1,v1=cP l s:=⟨_,rfl⟩
   have hA:=uS l k
   rw[h5.out,←hp]at hA
   rw[← hC]at q1
   rw[← hp]at q2
   rw[← hC,←hp,←ht]at h0
   rw[← ht]at hh
   have qcw:=(HB.out.cell (p:=⟨gs,q,none⟩) (World.block_lt_of_cell? w _ hn)).trans hn
   have qcs:=(HB.out.cell (p:=⟨b,off+s,none⟩) (World.block_lt_of_cell? w _ hf)).trans hf
   have q0':=(HB.out.cell (p:=⟨g,0,none⟩) (World.block_lt_of_cell? w _ q0)).trans q0
   have q1':=(HB.out.cell (p:=⟨g,22+k,none⟩) (World.block_lt_of_cell? w _ q1)).trans q1
   have q2':=(HB.out.cell (p:=⟨g,43+k,none⟩) (World.block_lt_of_cell? w _ q2)).trans q2
   have h9:=aa (rU wr b off n c s k h4 qcs)
   obtain⟨y1,hN⟩:∃y1,y1=x1+q:=⟨_,rfl⟩
   have hQ:(x1:Int)+(q:Int)=(y1:Int):=by omega
   have hP:(y1:Int) - (p1:Int)=(v1:Int):=by omega
   have w1':IntKind.i64.wrap (y1:Int)=(y1:Int):=by rw[IntKind.wrap_i64];omega
   have w2':IntKind.i64.wrap (v1:Int)=(v1:Int):=by rw[IntKind.wrap_i64];omega
   have hK:(k:Int)<21:=by omega
   have HS:=aa hs
   have HV:=aa ht
   have hg:=(HR.out).cell s h4
   have he:=(HR.out).frozen s
   clear hn hf q0 q1 q2 hF hB h0 hC hp hN h8 hk hr hz hs ht qcs
   have t1:({ heap:=wr.heap,tape:=wr.tape,drawn:=wr.drawn+1,os:=wr.os,output:=wr.output }:World).cell? ⟨g,22+k,none⟩=some (.int .i64 (x1:Nat)):=q1'
   have t2:({ heap:=wr.heap,tape:=wr.tape,drawn:=wr.drawn+1,os:=wr.os,output:=wr.output }:World).cell? ⟨g,43+k,none⟩=some (.int .i64 (p1:Nat)):=q2'
   have hx:=aa t1
   have hy:=aa t2
   clear t1 t2 q1' q2'
   go_upto_region 6 with(go_at_call 132;refine h9.out.mono ?_;rintro e w4 ⟨rfl,rfl⟩)
   have t1:=hx.out
   have t2:=hy.out
   have u1:wr.drew.cell? ⟨w.heap.size,s,none⟩=some (.int .i64 (G s:Nat)):=hg
   have u2:wr.drew.frozen? ⟨w.heap.size,s,none⟩=false:=he
   have u3:wr.drew.cell? ⟨g,22+k,none⟩=some (.int .i64 (x1:Nat)):=hx.out
   have u4:wr.drew.cell? ⟨g,43+k,none⟩=some (.int .i64 (p1:Nat)):=hy.out
   have hJ:Hid (aB wr.drew w.heap.size w.heap.size n n G):=HR
   have hH:=aa (HB.out.drew)
   go_still_tail 18,(by kernel_rfl)
   change wpList _ _ _ _ _ wr.drew
   generalize wr.drew=wy at*
   clear t1 t2 u3 u4 hx hy hg he qcw q0' h9
   go_wp2_with fail
   go_roundw
   case rel=>
    refine⟨q+1,fun j=>if j=s then v1 else G j,by omega,by go_num,aa fun j hj=> ?_,hJ.out.set s v1,hH.out.setCell (p:=⟨w.heap.size,s,none⟩) (ah _) _⟩
    show(if F j=s then v1 else G (F j))=cP l (F j)
    by_cases ej:F j=s
    ·rw[if_pos ej,ej,HV.out]
    ·rw[if_neg ej]
     refine hG.out j ?_
     by_cases e2:j=q
     ·exact absurd (by rw[e2,HS.out]) ej
     ·omega
   case measure=>simp[intOf];omega
  ·obtain rfl:q=n:=by omega
   have d0:decide ((q:Int)<(q:Int))=false:=ao (by omega)
   have h3:aB wr w.heap.size w.heap.size q q (cP l):=by
    have h:=hr
    unfold aB at h ⊢
    rw[← bN q G (cP l) fun s hs=>by
     have h1:=hG.out (iX l s) (by rw[← h5.out];exact rB (by rw[h5.out];exact hs))
     have h2:=hc.out s hs
     rw[h2]at h1
     exact h1]
    exact h
   have ha:=aa h3
   clear hr hz h3 hG
   go_wp2_with fail
   go_ret
   exact⟨_,rfl,ha.out,HB.out⟩
end Go.Proofs.YthakcjehhlpjnaaGreat
