import Derived.Test.YthakcjehhlpjnaaGreatA15
import Derived.Test.YthakcjehhlpjnaaGreatA04
import Derived.Deep.MidRow
import Derived.Deep.CutBlock
import Derived.Deep.RegionWith
set_option maxHeartbeats 1600000
set_option maxRecDepth 100000
namespace Go.Proofs.YthakcjehhlpjnaaGreat
def bp(l:List Nat)(k:Nat):Nat:=l.countP fun x=>x==k
def b9(l:List Nat)(k:Nat):Nat:=l.countP fun x=>decide (x<k)
def gR(l:List Nat)(k i:Nat):Nat:=(l.take i).countP fun x=>x==k
def iP(l:List Nat)(s:Nat):Nat:=b9 l (l.getD s 0)+gR l (l.getD s 0) s
theorem sG(l:List Nat)(q:Nat)(h:q<l.length):l.take (q+1)=l.take q++ [l.getD q 0]:=by
 rw[List.take_add_one,List.getElem?_eq_getElem h,List.getD_eq_getElem?_getD,List.getElem?_eq_getElem h]
 rfl
theorem iD(l:List Nat)(k i:Nat)(h:i<l.length):gR l k (i+1)=gR l k i+if l.getD i 0=k then 1 else 0:=by
 unfold gR
 rw[sG l i h,List.countP_append]
 congr 1
 rw[List.countP_cons,List.countP_nil,Nat.zero_add]
 by_cases e:l.getD i 0=k
 ·rw[if_pos e,if_pos (by rw[e];exact beq_self_eq_true k)]
 ·rw[if_neg e,if_neg (by rw[beq_iff_eq];exact e)]
theorem mR(l:List Nat)(k:Nat):gR l k l.length=bp l k:=by
 unfold gR bp
 rw[List.take_length]
theorem F3(l:List Nat)(k:Nat){i j:Nat}(h:i≤j)(hj:j≤l.length):gR l k i≤gR l k j:=by
 induction j with
 | zero=>
   rw[show i=0 by omega]
   exact Nat.le_refl _
 | succ j ih=>
   by_cases e:i=j+1
   ·rw[e]
    exact Nat.le_refl _
   ·have h1:=ih (by omega) (by omega)
    rw[iD l k j (by omega)]
    omega
theorem uV(l:List Nat){i j:Nat}(h:i<j)(hj:j≤l.length):gR l (l.getD i 0) i<gR l (l.getD i 0) j:=by
 have h1:=iD l (l.getD i 0) i (by omega)
 rw[if_pos rfl]at h1
 have h2:=F3 l (l.getD i 0) (show i+1≤j by omega) hj
 omega
theorem IE(l:List Nat)(k i:Nat):gR l k i≤l.length:=by
 unfold gR
 have h1:=List.countP_le_length (p:=fun x=>x==k) (l:=l.take i)
 rw[List.length_take]at h1
 omega
theorem EG(l:List Nat):b9 l 0=0:=by
 unfold b9
 rw[List.countP_eq_zero]
 intro x _
 rw[decide_eq_true_iff]
 omega
theorem uQ(l:List Nat)(k:Nat):b9 l (k+1)=b9 l k+bp l k:=by
 unfold b9 bp
 induction l with
 | nil=>rfl
 | cons x l ih=>
   rw[List.countP_cons,List.countP_cons,List.countP_cons,ih]
   by_cases h1:x<k
   ·rw[if_pos (aC (by omega)),if_pos (decide_eq_true h1),if_neg (by rw[beq_iff_eq];omega)]
    omega
   ·by_cases h2:x=k
    ·rw[if_pos (aC (by omega)),if_neg (by rw[decide_eq_true_iff];omega),if_pos (by rw[beq_iff_eq];exact h2)]
     omega
    ·rw[if_neg (by rw[decide_eq_true_iff];omega),if_neg (by rw[decide_eq_true_iff];omega),if_neg (by rw[beq_iff_eq];exact h2)]
     omega
theorem nh(l:List Nat){a b:Nat}(h:a≤b):b9 l a≤b9 l b:=by
 induction h with
 | refl=>exact Nat.le_refl _
 | step h ih=>
   rw[uQ]
   omega
theorem uP(l:List Nat)(k:Nat):b9 l k≤l.length:=List.countP_le_length
theorem uF(l:List Nat)(k:Nat):bp l k≤l.length:=List.countP_le_length
theorem pH{l:List Nat}{s:Nat}(h:s<l.length):b9 l (l.getD s 0)≤iP l s∧iP l s<b9 l (l.getD s 0+1):=by
 have h1:=uV l h (ah _)
 rw[mR]at h1
 rw[uQ]
 unfold iP
 omega
theorem zR{l:List Nat}{s:Nat}(h:s<l.length):iP l s<l.length:=by
 have h1:=(pH h).2
 have h2:=uP l (l.getD s 0+1)
 omega
theorem Ax{l:List Nat}{s t:Nat}(hs:s<l.length)(ht:t<l.length)(h:iP l s=iP l t):s=t:=by
 have a:=pH hs
 have b:=pH ht
 by_cases e:l.getD s 0=l.getD t 0
 ·by_cases e1:s<t
  ·have h1:=uV l e1 (Nat.le_of_lt ht)
   unfold iP at h
   rw[← e]at h
   omega
  ·by_cases e2:t<s
   ·have h1:=uV l e2 (Nat.le_of_lt hs)
    unfold iP at h
    rw[e]at h
    omega
   ·omega
 ·by_cases e1:l.getD s 0<l.getD t 0
  ·have:=nh l (show l.getD s 0+1≤l.getD t 0 by omega)
   omega
  ·have:=nh l (show l.getD t 0+1≤l.getD s 0 by omega)
   omega
theorem Fx{l:List Nat}{i:Nat}(h:i<l.length):∃s,s<l.length∧iP l s=i:=by
 have hp:=lZ ((List.range l.length).map (iP l)) l.length (by
  unfold List.Nodup
  rw[List.pairwise_map]
  refine List.Pairwise.imp_of_mem ?_ (List.nodup_range (n:=l.length))
  intro a b ha hb h0 e
  exact h0 (Ax (List.mem_range.1 ha) (List.mem_range.1 hb) e)) (by
  intro x hx
  obtain⟨s,hs,rfl⟩:=List.mem_map.1 hx
  exact zR (List.mem_range.1 hs)) (by rw[List.length_map,List.length_range])
 obtain⟨s,hs,e⟩:=List.mem_map.1 (hp.mem_iff.2 (List.mem_range.2 h))
 exact⟨s,List.mem_range.1 hs,e⟩
theorem yC{l:List Nat}{s k:Nat}(hs:s<l.length)(h1:b9 l k≤iP l s)(h2:iP l s<b9 l (k+1)):l.getD s 0=k:=by
 have a:=pH hs
 by_cases e1:l.getD s 0<k
 ·have:=nh l (show l.getD s 0+1≤k by omega)
  omega
 ·by_cases e2:k<l.getD s 0
  ·have:=nh l (show k+1≤l.getD s 0 by omega)
   omega
  ·omega
def dh(l:List Nat)(F:Nat→Nat)(i:Nat):Prop:=∀s,s<i→F (iP l s)=s
theorem dh.step{l:List Nat}{F:Nat→Nat}{i:Nat}(h:dh l F i)(hi:i<l.length):dh l (fun j=>if j=iP l i then i else F j) (i+1):=by
 intro s hs
 show(if iP l s=iP l i then i else F (iP l s))=s
 by_cases e:s=i
 ·subst e
  rw[if_pos rfl]
 ·rw[if_neg (fun h2=>e (Ax (by omega) hi h2))]
  exact h s (by omega)
theorem dh.get{l:List Nat}{F:Nat→Nat}(h:dh l F l.length){i:Nat}(hi:i<l.length):F i<l.length∧iP l (F i)=i:=by
 obtain⟨s,hs,rfl⟩:=Fx hi
 rw[h s hs]
 exact⟨hs,rfl⟩
theorem uq(l:List Nat)(k:Nat):∀i,i≤l.length→cd l k i=cd l k 0+gR l k i
 | 0,_=>rfl
 | i+1,h=>by
   have ih:=uq l k i (by omega)
   rw[iD l k i (by omega)]
   by_cases e:l.getD i 0=k
   ·rw[Ij (by omega) e,if_pos e,ih]
    omega
   ·rw[G1 (by omega) e,if_neg e,ih]
    rfl
theorem GL(l:List Nat){k:Nat}(hk:k<20):cd l (k+1) 0=(cd l k 0+bp l k)*2:=by
 rw[IT (Nat.le_refl l.length) hk,uq l k l.length (ah _),mR]
 omega
theorem CE(l:List Nat):cd l 0 0=0:=by
 unfold cd
 rw[rC,Nat.zero_div]
theorem vI{l:List Nat}{s:Nat}(hs:s<l.length):dw l s=cd l (l.getD s 0) 0+gR l (l.getD s 0) s:=by
 rw[← GF (n:=l.getD s 0) (i:=s) rfl,uq l _ s (by omega)]
theorem wS{l:List Nat}{s:Nat}(hs:s<l.length):dw l s+b9 l (l.getD s 0)=cd l (l.getD s 0) 0+iP l s:=by
 rw[vI hs]
 unfold iP
 omega
theorem G6{l:List Nat}(h:fd l):cd l 20 0+bp l 20=jo l:=by
 rw[← mR,←uq l 20 l.length (ah _)]
 unfold cd
 rw[k6 20 l l.length (ah _),pS 21 l fun x hx=>by have:=h.high x hx;omega]
 show jo l / 2 ^ (20 - 20)=_
 rw[Nat.sub_self,Nat.pow_zero,Nat.div_one]
theorem rI{l bs:List Nat}(h:fd l)(hb:aw bs){n:Nat}(hn:n≤bs.length)(h0:n≤20)(hc:tT l bs n)(hs:val (bs.take n)*pw n<jo l):cd l n 0≤val (bs.take n):=by
 obtain⟨i,hi⟩:=(o4 h hb hn h0 hc).2 hs
 have a:=it h hi
 have b:pos n 0 l≤lie l i:=by
  unfold lie
  rcases Nat.lt_or_ge n (l.getD i 0)with h1 | h1
  ·exact Nat.le_trans (n6 l h1 0) (lQ _ l (Nat.zero_le _))
  ·have:=hi.2.1
   rw[show l.getD i 0=n by omega]
   exact lQ n l (Nat.zero_le _)
 have hp:=eU (l.getD i 0)
 have hd:cd l n 0*pw n=pos n 0 l:=Nat.div_mul_cancel (mT n h0 l 0)
 have h3:cd l n 0*pw n<(val (bs.take n)+1)*pw n:=by omega
 have:=Nat.lt_of_mul_lt_mul_right h3
 omega
theorem IB{l:List Nat}{F:Nat→Nat}(h:fd l)(hF:dh l F l.length){n v:Nat}(h1:cd l n 0≤v)(h2:v - cd l n 0<bp l n):b9 l n+(v - cd l n 0)<l.length∧lW l n v=some (F (b9 l n+(v - cd l n 0))):=by
 have hp:=uQ l n
 have h4:=uP l (n+1)
 have h3:b9 l n+(v - cd l n 0)<l.length:=by omega
 refine⟨h3,tL h ?_⟩
 obtain⟨hs,hi⟩:=hF.get h3
 generalize F (b9 l n+(v - cd l n 0))=s at*
 have hk:l.getD s 0=n:=yC hs (by omega) (by omega)
 have h0:=wS hs
 rw[hk]at h0
 exact⟨hs,hk,by omega⟩
theorem Hi{l:List Nat}{n v:Nat}(h2:bp l n≤v - cd l n 0):lW l n v=none:=by
 cases e:lW l n v with
 | none=>rfl
 | some s=>
   exfalso
   obtain⟨h3,h4,h5⟩:=kh e
   have h6:=vI h3
   have h7:=uV l h3 (ah _)
   rw[mR]at h7
   rw[h4]at h6 h7
   omega
theorem B9{l:List Nat}(h:fd l){n v:Nat}(hs:¬v*pw n<jo l):lW l n v=none:=by
 cases e:lW l n v with
 | none=>rfl
 | some s=>
   exfalso
   have h3:=kh e
   have h4:=it h h3.begin
   have h5:=uk h h3.1
   have:=eU (l.getD s 0)
   omega
open Go.RowKit
def dW(f:Nat→Nat):Array Value:=(Array.range 21).map fun i=>.int .i64 (f i)
theorem eX(f:Nat→Nat):(dW f).size=21:=by simp[dW]
theorem Do:dW (fun _=>0)=Array.replicate 21 (.int .i64 0):=by
 apply Array.ext
 ·simp[dW]
 ·intro i h1 h2
  simp[dW]
theorem Hu:(∀ w,(zeroValue 176).run Tryz.prog w=.ok (.agg (dW fun _=>0)) w)∧(Tryz.prog.info? 176).map (·.size)=some 21:=by
 rw[Do]
 exact zero_of_info (by kernel_rfl)
theorem vZ(f:Nat→Nat)(b x:Nat):(dW f).setIfInBounds b (.int .i64 x)=dW fun i=>if i=b then x else f i:=by
 apply Array.ext
 ·simp[dW]
 ·intro i h1 h2
  rw[Array.getElem_setIfInBounds (by simpa [dW]using h2)]
  by_cases e:b=i
  ·subst e
   simp[dW]
  ·rw[if_neg e]
   have e2:¬i=b:=fun h=>e h.symm
   simp[dW,e2]
theorem xB(f:Nat→Nat):(dW f).all (·.oneCell')=true:=by
 rw[Array.all_eq_true]
 intro i h
 simp[dW,Value.oneCell']
theorem mU(f:Nat→Nat)(i:Nat)(h:i<21):(dW f)[i]? =some (.int .i64 (f i:Nat)):=by
 simp[dW,h]
theorem Gu(w:World)(a b:Array Value)(t:TypeId):Blk ((w.alloc (.cells a t)).alloc (.cells b t)) w.heap.size t a∧Blk ((w.alloc (.cells a t)).alloc (.cells b t)) (w.heap.size+1) t b:=by
 have e1:(w.alloc (.cells a t)).heap.size=w.heap.size+1:=by simp
 refine⟨?_,?_⟩
 ·show(World.alloc _ _).heap[_]? =_
  rw[bj _ _ _ (by simp)]
  exact ag w t a
 ·rw[← e1]
  exact ag _ t b
theorem dZ{w:World}{g k:Nat}{t:TypeId}{cs:Array Value}(h:Blk w g t cs)(h0:g≠k)(i:Nat)(u:Value):Blk (w.setCell ⟨k,i,none⟩ u) g t cs:=by
 show(w.setCell ⟨k,i,none⟩ u).heap[g]? =_
 rw[Below.heap_setCell w ⟨k,i,none⟩ u g h0]
 exact h
theorem kQ{w:World}{g:Nat}{t:TypeId}{cs:Array Value}(h:Blk w g t cs):w.rangeAt g 0 cs.toList:=by
 intro j v hv
 rw[Nat.zero_add,ac h]
 simpa using hv
theorem lJ{w:World}{A:Option Addr}{n:Nat}{L:List Int}(hL:ZIn w A n L)(h0:bL L):∃b off,A=some ⟨b,off,none⟩∧∀i,i<n→w.cell? ⟨b,off+i,none⟩=some (.int .i64 ((nl L).getD i 0:Nat)):=by
 have h1:=hL.1
 have h2:2≤n:=by have:=h0.1;omega
 obtain⟨b,off,rfl,hc⟩:=hL.2 (by omega)
 refine⟨b,off,rfl,fun i hi=> ?_⟩
 rw[hc i hi,qY]
 have:0≤L.getD i 0:=by
  rw[List.getD_eq_getElem?_getD,List.getElem?_eq_getElem (by omega)]
  have:=(h0.2.2.1 L[i] (List.getElem_mem ..)).1
  show(0:Int)≤L[i]
  omega
 rw[Int.toNat_of_nonneg this]
theorem C6(w:World)(A:Option Addr)(n c:Nat)(L:List Int)(hL:ZIn w A n L)(h7:bL L):Calls Tryz.prog 179 #[.slice A n c] w fun e w'=>e=.returned (.agg (dW (bp (nl L))))∧Below w.heap.size w w':=by
 have hp:=hL.1
 have hw:n≤258:=by have:=h7.2.1;omega
 obtain⟨b,off,rfl,h5⟩:=lJ hL h7
 have h4:=fU h7
 obtain⟨l,hl⟩:∃l,l=nl L:=⟨_,rfl⟩
 have ho:l.length=n:=by rw[hl,bI,hp]
 rw[← hl]at h5 h4 ⊢
 have HF:=aa h4
 have h6:=aa ho
 have h8:=aa h5
 obtain⟨hz,hi⟩:=Hu
 have HI:=aa hi
 have HS:=aa eX
 have ha:=aa vZ
 have HO:=aa xB
 have HG:=aa mU
 generalize dW=T at*
 clear hi hl h7 hL hp h4 ho h5
 go_enter Tryz.func179,Tryz.ntmps179
 go_wp2_with fail
 go_loopw [5,8] (fun s5 x wx=>∃q:Nat,q≤n∧x=.int .i64 q∧Blk wx w.heap.size 176 (T fun _=>0)∧Blk wx (w.heap.size+1) 176 (T fun k=>gR l k q)∧Below w.heap.size w wx) (fun _ x _=>n - (intOf x).toNat)
 case atStart=>
  obtain⟨h1,h2⟩:=Gu w (T fun _=>0) (T fun _=>0) 176
  exact⟨0,Nat.zero_le _,rfl,h1,h2,((Below.refl _ w).alloc (ah _) _).alloc (by simp) _⟩
 case round=>
  obtain⟨q,hq,rfl,he,h3,hb⟩:=hrel
  have H0:=aa he
  have H1:=aa h3
  have HB:=aa hb
  have hy:=hb.size
  by_cases e:q<n
  ·have d0:decide ((q:Int)<(n:Int))=true:=aC (by omega)
   have hh:=h8.out q e
   have hr:=World.block_lt_of_cell? w _ hh
   have ht:=(HB.out.cell (p:=⟨b,off+q,none⟩) hr).trans hh
   have hj:=(HF.out.one (i:=q) (by rw[h6.out];exact e)).2
   have h0:=iD l (l.getD q 0) q (by rw[h6.out];exact e)
   rw[if_pos rfl]at h0
   obtain⟨k,hk⟩:∃k,k=l.getD q 0:=⟨_,rfl⟩
   rw[← hk]at ht hj h0
   have hm:k<21:=by omega
   have hc:=ac h3 k
   have hf:=ae h3 k
   rw[HG.out _ k hm]at hc
   have hn:=IE l k q
   rw[h6.out]at hn
   obtain⟨c1,hg⟩:∃c1,c1=gR l k q:=⟨_,rfl⟩
   rw[← hg]at hc hn h0
   have HK:=aa hk
   have hs:=aa h0
   have hv:=aa hg
   have hu:=HS.out fun k=>gR l k q
   clear he h3 hb hh hr hk h0 hg hz
   go_wp2_with fail
   go_roundw
   case rel=>
    refine⟨q+1,by omega,by go_num,dZ H0.out (by omega) _ _,?_,HB.out.setCell (by show _≤w.heap.size+1;omega) _⟩
    have h1:=ay H1.out k (.int .i64 ((c1+1:Nat):Int))
    rw[ha.out]at h1
    have e2:(fun i=>if i=k then c1+1 else gR l i q)=fun i=>gR l i (q+1):=by
     funext i
     by_cases ei:i=k
     ·rw[if_pos ei,ei,hs.out]
     ·rw[if_neg ei,iD l i q (by rw[h6.out];exact e),if_neg (by rw[← HK.out];exact fun h=>ei h.symm)]
      rfl
    rw[e2]at h1
    exact h1
   case measure=>simp[intOf];omega
  ·obtain rfl:q=n:=by omega
   have d0:decide ((q:Int)<(q:Int))=false:=au (by omega)
   have e2:(fun k=>gR l k q)=bp l:=by
    funext k
    rw[← h6.out,mR]
   rw[e2]at h3
   have h9:Hid ((Tryz.prog.info? 176).map (·.size)=some (T (bp l)).size):=aa (by rw[HS.out];exact HI.out)
   have H1:=aa h3
   have hu:=HS.out (bp l)
   clear he h3 hb hz e2
   have hx:=bQ (P:=Tryz.prog) H0.out h9.out (by rw[HS.out,HS.out]) (HO.out _)
   go_upto_region 7 with fail
   refine wp_region_lit (wpList_load_mid rfl _ _ rfl _ _ rfl (T (bp l)).toList _ (kQ H1.out) Tryz.underlying176 rfl h9.out ?_)
   rw[Array.toArray_toList]
   go_wp2_with fail
   refine bodyPost_ret (v:=.agg (T (bp l))) (gV rfl rfl (setRow_heap _ _ _ _ _ _ H0.out) Tryz.underlying176 h9.out) rfl ⟨rfl,?_⟩
   exact below_setRow HB.out (ah _) _
theorem Hd(w:World)(A:Option Addr)(n c:Nat)(x:Int):Calls Tryz.prog 131 #[.slice A n c,.int .i64 x] w fun e w'=>e=.returned (.bool (decide (0≤x∧x<(n:Int))))∧w=w':=by
 by_cases h0:0≤x
 ·have d0:decide (0≤x)=true:=decide_eq_true h0
  by_cases h1:x<(n:Int)
  ·have d1:decide (x<(n:Int))=true:=decide_eq_true h1
   have d2:decide (0≤x∧x<(n:Int))=true:=decide_eq_true ⟨h0,h1⟩
   rw[d2]
   go_enter Tryz.func131,Tryz.ntmps131
   go_wp2_with fail
   go_ret
   exact⟨rfl,rfl⟩
  ·have d1:decide (x<(n:Int))=false:=decide_eq_false h1
   have d2:decide (0≤x∧x<(n:Int))=false:=decide_eq_false (fun h=>h1 h.2)
   rw[d2]
   go_enter Tryz.func131,Tryz.ntmps131
   go_wp2_with fail
   go_ret
   exact⟨rfl,rfl⟩
 ·have d0:decide (0≤x)=false:=decide_eq_false h0
  have d2:decide (0≤x∧x<(n:Int))=false:=decide_eq_false (fun h=>h0 h.1)
  rw[d2]
  go_enter Tryz.func131,Tryz.ntmps131
  go_wp2_with fail
  go_ret
  exact⟨rfl,rfl⟩
theorem rn(w:World)(b off n c s x:Nat)(hs:s<n)(hx:w.cell? ⟨b,off+s,none⟩=some (.int .i64 (x:Nat))):Calls Tryz.prog 132 #[.slice (some ⟨b,off,none⟩) n c,.int .i64 s] w fun e w'=>e=.returned (.int .i64 (x:Nat))∧w=w':=by
 go_enter Tryz.func132,Tryz.ntmps132
 go_wp2_with fail
 go_ret
 exact⟨rfl,rfl⟩
theorem nW(w:World)(A:Option Addr)(n c:Nat)(L:List Int)(hL:ZIn w A n L)(hg:bL L):Calls Tryz.prog 180 #[.slice A n c,.agg (dW (b9 (nl L)))] w fun e w'=>∃g F,e=.returned (.slice (some ⟨g,0,none⟩) n n)∧aB w' w.heap.size g n n F∧dh (nl L) F n∧Below w.heap.size w w':=by
 have hv:=hL.1
 have hH:n≤258:=by have:=hg.2.1;omega
 obtain⟨b,off,rfl,h8⟩:=lJ hL hg
 have h7:=fU hg
 obtain⟨l,hl⟩:∃l,l=nl L:=⟨_,rfl⟩
 have hu:l.length=n:=by rw[hl,bI,hv]
 rw[← hl]at h8 h7 ⊢
 have HF:=aa h7
 have ha:=aa hu
 have hi:=aa h8
 have HS:=aa eX
 have hn:=aa vZ
 have HG:=aa mU
 generalize dW=T at*
 have hx:=bq (w.alloc (.cells (T (b9 l)) 176)) n (by omega)
 clear hl hg hL hv h7 hu h8
 have hm:Hid (aB ((w.alloc (.cells (T (b9 l)) 176)).alloc (.cells (madeCells #[.int .i64 0] n) 3)) w.heap.size (w.heap.size+1) n n fun _=>0):=aa (by
  have h:=a9 (w.alloc (.cells (T (b9 l)) 176)) w.heap.size n (by simp) (by omega)
  simpa using h)
 have hh:Hid (Blk ((w.alloc (.cells (T (b9 l)) 176)).alloc (.cells (madeCells #[.int .i64 0] n) 3)) w.heap.size 176 (T (b9 l))):=aa (by
  show(World.alloc _ _).heap[_]? =_
  rw[bj _ _ _ (by simp)]
  exact ag w _ _)
 go_enter Tryz.func180,Tryz.ntmps180
 go_wp2_with fail
 go_loopw [6,7,13] (fun s6 s7 x wx=>∃(q:Nat) (F:Nat→Nat),q≤n∧x=.int .i64 q∧Hid (dh l F q)∧Blk wx w.heap.size 176 (T fun k=>b9 l k+gR l k q)∧aB wx w.heap.size (w.heap.size+1) n n F∧Below w.heap.size w wx) (fun _ _ x _=>n - (intOf x).toNat)
 case atStart=>exact⟨0,fun _=>0,Nat.zero_le _,rfl,aa (fun s hs=>by omega),hh.out,hm.out,((Below.refl _ w).alloc (ah _) _).alloc (by simp) _⟩
 case round=>
  obtain⟨q,F,hq,rfl,h9,h6,h3,hb⟩:=hrel
  have H1:=aa h6
  have HB:=aa hb
  have HR:=aa h3
  have hI:=hb.size
  by_cases e:q<n
  ·have d0:decide ((q:Int)<(n:Int))=true:=aC (by omega)
   have ho:=hi.out q e
   have hw:=World.block_lt_of_cell? w _ ho
   have hD:=(HB.out.cell (p:=⟨b,off+q,none⟩) hw).trans ho
   have hr:=(HF.out.one (i:=q) (by rw[ha.out];exact e)).2
   have h0:=iD l (l.getD q 0) q (by rw[ha.out];exact e)
   rw[if_pos rfl]at h0
   have hp:=zR (l:=l) (s:=q) (by rw[ha.out];exact e)
   rw[ha.out]at hp
   have h2:iP l q=b9 l (l.getD q 0)+gR l (l.getD q 0) q:=rfl
   obtain⟨k,hk⟩:∃k,k=l.getD q 0:=⟨_,rfl⟩
   rw[← hk]at hD hr h0 h2
   have he:k<21:=by omega
   have hc:=ac h6 k
   have hf:=ae h6 k
   rw[HG.out _ k he]at hc
   obtain⟨j,hj⟩:∃j,j=iP l q:=⟨_,rfl⟩
   rw[← h2,←hj]at hc
   rw[← hj]at hp h2
   have hC:=h3.cell j hp
   have hG:=h3.frozen j
   have h5:dh l (fun i=>if i=j then q else F i) (q+1):=by
    have h:=h9.out.step (by rw[ha.out];exact e)
    rw[← hj]at h
    exact h
   obtain⟨v0,hy⟩:∃v0,v0=F j:=⟨_,rfl⟩
   rw[← hy]at hC
   have hE:(wr.setCell ⟨w.heap.size+1,j,none⟩ (.int .i64 (q:Nat))).cell? ⟨w.heap.size,k,none⟩=some (.int .i64 (j:Nat)):=by
    have h:=ac (dZ h6 (k:=w.heap.size+1) (by omega) j (.int .i64 (q:Nat))) k
    rw[HG.out _ k he,←h2]at h
    exact h
   have hF:=ae (dZ h6 (k:=w.heap.size+1) (by omega) j (.int .i64 (q:Nat))) k
   have h4:=(h3.set j q).other (g2:=w.heap.size) (by omega) k (.int .i64 ((j+1:Nat):Int))
   have hz:=aa h4
   have hB:=aa h5
   have HK:=aa hk
   have hA:=aa h0
   have HJ:=aa h2
   have ht:j≤258:=by omega
   clear h6 hb ho hw hk h0 h3 h4 h9 h5 h2 hj hy hx hm hh
   go_wp2_with fail
   go_roundw
   case rel=>
    refine⟨q+1,_,by omega,by go_num,hB,?_,hz.out,(HB.out.setCell (p:=⟨w.heap.size+1,j,none⟩) (by show _≤w.heap.size+1;omega) _).setCell (p:=⟨w.heap.size,k,none⟩) (ah _) _⟩
    have h1:=ay (dZ H1.out (k:=w.heap.size+1) (by omega) j (.int .i64 (q:Nat))) k (.int .i64 ((j+1:Nat):Int))
    rw[hn.out]at h1
    have e2:(fun i=>if i=k then j+1 else b9 l i+gR l i q)=fun i=>b9 l i+gR l i (q+1):=by
     funext i
     by_cases ei:i=k
     ·rw[if_pos ei,ei,hA.out,HJ.out,Nat.add_assoc]
     ·rw[if_neg ei,iD l i q (by rw[ha.out];exact e),if_neg (by rw[← HK.out];exact fun h=>ei h.symm)]
      rfl
    rw[e2]at h1
    exact h1
   case measure=>simp[intOf];omega
  ·obtain rfl:q=n:=by omega
   have d0:decide ((q:Int)<(q:Int))=false:=au (by omega)
   clear h6 hb h3 hx hm hh
   go_wp2_with fail
   go_ret
   exact⟨_,F,rfl,HR.out,h9.out,HB.out⟩
def tbF(s0:Value)(K F P:Nat→Nat)(s4:Value)(i:Nat):Value:=if i=0 then s0 else if i<22 then .int .i64 (K (i - 1))else if i<43 then .int .i64 (F (i - 22))else if i<64 then .int .i64 (P (i - 43))else s4
def tb(s0:Value)(K F P:Nat→Nat)(s4:Value):Array Value:=(Array.range 65).map (tbF s0 K F P s4)
theorem dJ(s0:Value)(K F P:Nat→Nat)(s4:Value):(tb s0 K F P s4).size=65:=by simp[tb]
theorem kA(s0:Value)(K F P:Nat→Nat)(s4:Value)(i:Nat)(h:i<65):(tb s0 K F P s4)[i]? =some (tbF s0 K F P s4 i):=by simp[tb,h]
theorem pR(s0:Value)(K F P:Nat→Nat)(s4:Value):(tb s0 K F P s4)[0]? =some s0:=by rw[kA _ _ _ _ _ 0 (by omega)];rfl
theorem uO(s0:Value)(K F P:Nat→Nat)(s4:Value)(k:Nat)(h:k<21):(tb s0 K F P s4)[1+k]? =some (.int .i64 (K k:Nat)):=by
 rw[kA _ _ _ _ _ _ (by omega),tbF,if_neg (by omega),if_pos (by omega),show 1+k - 1=k by omega]
theorem lf(s0:Value)(K F P:Nat→Nat)(s4:Value)(k:Nat)(h:k<21):(tb s0 K F P s4)[22+k]? =some (.int .i64 (F k:Nat)):=by
 rw[kA _ _ _ _ _ _ (by omega),tbF,if_neg (by omega),if_neg (by omega),if_pos (by omega),show 22+k - 22=k by omega]
theorem lj(s0:Value)(K F P:Nat→Nat)(s4:Value)(k:Nat)(h:k<21):(tb s0 K F P s4)[43+k]? =some (.int .i64 (P k:Nat)):=by
 rw[kA _ _ _ _ _ _ (by omega),tbF,if_neg (by omega),if_neg (by omega),if_neg (by omega),if_pos (by omega),show 43+k - 43=k by omega]
theorem uT(s0:Value)(K F P:Nat→Nat)(s4:Value):(tb s0 K F P s4)[64]? =some s4:=by rw[kA _ _ _ _ _ 64 (by omega)];rfl
theorem rD(s0:Value)(K F P:Nat→Nat)(s4:Value)(h0:s0.oneCell'=true)(h4:s4.oneCell'=true):(tb s0 K F P s4).all (·.oneCell')=true:=by
 rw[Array.all_eq_true]
 intro i h
 have:(tb s0 K F P s4)[i]=tbF s0 K F P s4 i:=by simp[tb]
 rw[this,tbF]
 repeat' split
 all_goals first
  | exact h0
  | exact h4
  | rfl
theorem rK{cs:Array Value}{s0:Value}{K F P:Nat→Nat}{s4:Value}(hs:cs.size=65)(h:∀i,i<65→cs[i]? =some (tbF s0 K F P s4 i)):cs=tb s0 K F P s4:=by
 apply Array.ext_getElem?
 intro i
 by_cases hi:i<65
 ·rw[h i hi,kA _ _ _ _ _ i hi]
 ·rw[Array.getElem?_eq_none (by omega),Array.getElem?_eq_none (by rw[dJ];omega)]
theorem G2{s0:Value}{K F P K2 F2 P2:Nat→Nat}{s4:Value}(hK:∀i,i<21→K i=K2 i)(hF:∀i,i<21→F i=F2 i)(hP:∀i,i<21→P i=P2 i):tb s0 K F P s4=tb s0 K2 F2 P2 s4:=by
 refine rK (dJ ..) fun i hi=> ?_
 rw[kA _ _ _ _ _ i hi,tbF,tbF]
 congr 1
 split
 ·rfl
 ·split
  ·rw[hK _ (by omega)]
  ·split
   ·rw[hF _ (by omega)]
   ·split
    ·rw[hP _ (by omega)]
    ·rfl
theorem uJ(s0:Value)(K F P:Nat→Nat)(s4:Value)(k x:Nat)(hk:k<21):(tb s0 K F P s4).setIfInBounds (22+k) (.int .i64 x)=tb s0 K (fun i=>if i=k then x else F i) P s4:=by
 refine rK (by rw[Array.size_setIfInBounds,dJ]) fun i hi=> ?_
 rw[Array.getElem?_setIfInBounds,kA _ _ _ _ _ i hi,dJ]
 by_cases e:22+k=i
 ·subst e
  rw[if_pos rfl,if_pos hi,tbF,if_neg (by omega),if_neg (by omega),if_pos (by omega),if_pos (by omega)]
 ·rw[if_neg e,tbF,tbF]
  congr 1
  split
  ·rfl
  ·split
   ·rfl
   ·split
    ·rw[if_neg (by omega)]
    ·rfl
theorem uo(s0:Value)(K F P:Nat→Nat)(s4:Value)(k x:Nat)(hk:k<21):(tb s0 K F P s4).setIfInBounds (43+k) (.int .i64 x)=tb s0 K F (fun i=>if i=k then x else P i) s4:=by
 refine rK (by rw[Array.size_setIfInBounds,dJ]) fun i hi=> ?_
 rw[Array.getElem?_setIfInBounds,kA _ _ _ _ _ i hi,dJ]
 by_cases e:43+k=i
 ·subst e
  rw[if_pos rfl,if_pos hi,tbF,if_neg (by omega),if_neg (by omega),if_neg (by omega),if_pos (by omega),if_pos (by omega)]
 ·rw[if_neg e,tbF,tbF]
  congr 1
  split
  ·rfl
  ·split
   ·rfl
   ·split
    ·rfl
    ·split
     ·rw[if_neg (by omega)]
     ·rfl
theorem yd(s0:Value)(K F P:Nat→Nat)(s4 v:Value):(tb s0 K F P s4).setIfInBounds 64 v=tb s0 K F P v:=by
 refine rK (by rw[Array.size_setIfInBounds,dJ]) fun i hi=> ?_
 rw[Array.getElem?_setIfInBounds,kA _ _ _ _ _ i hi,dJ]
 by_cases e:64=i
 ·subst e
  rw[if_pos rfl,if_pos hi]
  rfl
 ·rw[if_neg e,tbF,tbF]
  congr 1
  split
  ·rfl
  ·split
   ·rfl
   ·split
    ·rfl
    ·rw[if_pos (by omega),if_pos (by omega)]
def ia(cs:Array Value):Nat→List Value→Array Value
 | _, []=>cs
 | o,v :: vs=>ia (cs.setIfInBounds o v) (o+1) vs
theorem nm:∀(vs:List Value) (cs:Array Value) (o:Nat),(ia cs o vs).size=cs.size
 | [],_,_=>rfl
 | v :: vs,cs,o=>by rw[ia,nm vs,Array.size_setIfInBounds]
theorem o8:∀(vs:List Value) (cs:Array Value) (o i:Nat),i<cs.size→(ia cs o vs)[i]? =if o≤i∧i<o+vs.length then vs[i - o]? else cs[i]?
 | [],cs,o,i,_=>by
   rw[ia,if_neg (by simp)]
 | v :: vs,cs,o,i,h=>by
   rw[ia,o8 vs _ _ i (by rw[Array.size_setIfInBounds];exact h),Array.getElem?_setIfInBounds]
   by_cases e:o=i
   ·subst e
    rw[if_neg (by omega),if_pos rfl,if_pos h,if_pos (by simp),Nat.sub_self]
    rfl
   ·rw[if_neg e]
    by_cases e2:o+1≤i∧i<o+1+vs.length
    ·rw[if_pos e2,if_pos (by simp;omega),show i - o=(i - (o+1))+1 by omega]
     rfl
    ·rw[if_neg e2,if_neg (by simp;omega)]
theorem na{g:Nat}{t:TypeId}:∀(vs:List Value) (cs:Array Value) (o:Nat) (w:World),Blk w g t cs→Blk (w.setCells g o vs) g t (ia cs o vs)
 | [],_,_,_,h=>h
 | v :: vs,cs,o,w,h=>by
   rw[World.setCells,ia]
   exact na vs _ _ _ (ay h o v)
theorem ix{B:Nat}{w:World}{g:Nat}(hg:B≤g):∀(vs:List Value) (o:Nat) (w':World),Below B w w'→Below B w (w'.setCells g o vs)
 | [],_,_,h=>h
 | v :: vs,o,w',h=>by
   rw[World.setCells]
   exact ix hg vs _ _ (h.setCell (p:=⟨g,o,none⟩) hg v)
theorem Ae(s0:Value)(K F P K2:Nat→Nat)(s4:Value):ia (tb s0 K F P s4) 1 (dW K2).toList=tb s0 K2 F P s4:=by
 have hl:(dW K2).toList.length=21:=eX K2
 refine rK (by rw[nm,dJ]) fun i hi=> ?_
 rw[o8 _ _ _ i (by rw[dJ];exact hi),hl]
 by_cases e:1≤i∧i<1+21
 ·rw[if_pos e,Array.getElem?_toList,mU _ _ (by omega),tbF,if_neg (by omega),if_pos (by omega)]
 ·rw[if_neg e,kA _ _ _ _ _ i hi,tbF,tbF]
  congr 1
  split
  ·rfl
  ·rw[if_neg (c:=i<22) (by omega),if_neg (c:=i<22) (by omega)]
theorem BO{w:World}{g:Nat}{t:TypeId}{s0:Value}{K F P:Nat→Nat}{s4:Value}(h:Blk w g t (tb s0 K F P s4)):w.rangeAt g 43 (dW P).toList:=by
 intro j v hv
 rw[ac h]
 have hj:j<21:=by
  have:=(List.getElem?_eq_some_iff.1 hv).1
  have hl:(dW P).toList.length=21:=eX P
  omega
 rw[lj _ _ _ _ _ j hj,←hv,Array.getElem?_toList,mU _ _ hj]
theorem Eb{w:World}{g:Nat}{t:TypeId}{s0:Value}{K F P:Nat→Nat}{s4:Value}(h:Blk w g t (tb s0 K F P s4))(o n:Nat)(hn:o+n≤65):w.there g o n:=by
 intro j hj
 refine⟨?_,ae h _⟩
 rw[ac h,kA _ _ _ _ _ _ (by omega)]
 rfl
theorem mn:(∀ w,(zeroValue 178).run Tryz.prog w=.ok (.agg (tb (.slice none 0 0) (fun _=>0) (fun _=>0) (fun _=>0) (.slice none 0 0))) w)∧(Tryz.prog.info? 178).map (·.size)=some 65:=zero_of_info (by kernel_rfl)
theorem DZ:Tryz.prog.built 178 []=some (tb (.slice none 0 0) (fun _=>0) (fun _=>0) (fun _=>0) (.slice none 0 0)):=by kernel_rfl
theorem GQ(A:Option Addr)(n c:Nat):Tryz.prog.built 178 [(0,.slice A n c)]=some (tb (.slice A n c) (fun _=>0) (fun _=>0) (fun _=>0) (.slice none 0 0)):=by kernel_rfl
theorem aB.setRow{w:World}{B g c n:Nat}{f:Nat→Nat}(h:aB w B g c n f){k:Nat}(h0:g≠k)(cs:Array Value):aB (w.setRow k cs) B g c n f:=by
 refine⟨h.1,?_⟩
 rcases h.2 with⟨h1,h2⟩ | ⟨g',cap,cur,hv,hB,hh,r⟩
 ·exact .inl ⟨h1,h2⟩
 ·have hg:g'=g:=by
   simp only[Value.slice.injEq,Option.some.injEq,Addr.mk.injEq]at hv
   exact hv.1.1.symm
  refine .inr ⟨g',cap,cur,hv,hB,?_,r⟩
  rw[setRow_other _ _ _ _ (by omega)]
  exact hh
theorem iN{g k:Nat}{t:TypeId}{cs:Array Value}(h0:g≠k):∀(vs:List Value) (o:Nat) (w:World),Blk w g t cs→Blk (w.setCells k o vs) g t cs
 | [],_,_,h=>h
 | v :: vs,o,w,h=>by
   rw[World.setCells]
   exact iN h0 vs _ _ (dZ h h0 o v)
def tb0:Array Value:=tb (.slice none 0 0) (fun _=>0) (fun _=>0) (fun _=>0) (.slice none 0 0)
theorem iB:tb0.size=65:=dJ ..
theorem pG:tb0.all (·.oneCell')=true:=rD _ _ _ _ _ rfl rfl
theorem setRow_self(w:World)(g:Nat)(cs:Array Value)(t:TypeId)(h:Blk w g t cs):Blk (w.setRow g cs) g t cs:=setRow_heap _ _ _ _ _ _ h
theorem kz{P:Program}{fn:Func}{p u:Tmp}{ty:TypeId}(h:fn.results=#[.cell p ty,.tmp u])(tmps:Array Value)(w:World)(g:Nat)(t:TypeId)(cs:Array Value)(fr:Nat×Nat)(d:TypeDesc)
 (hp:tmps.getD p undef=.pointer (some ⟨g,0,none⟩)) (hg:w.heap[g]? =some (.cells cs t fr)) (hu:P.underlying ty=some d) (hd:d.isRow=true) (hi:(P.info? ty).map (·.size)=some cs.size) (v:Value) (hv:tmps.getD u undef=v):
 (results fn tmps).run P w=.ok (.tuple #[.agg cs,v]) w:=by
 rw[results_cell_tmp h,hp,hv]
 have:=run_loadVar_mid (P:=P) w g 0 ty cs.toList d (fun j v hv=>by rw[Nat.zero_add,cell_of_row w g j cs t fr hg];simpa using hv) hu hd (by simpa using hi)
 simp[asAddr,this,Result.andThen]
theorem fE{P:Program}{ops:Array Oper}{rest:List Oper}{o:Oper}{a:Act}{w:World}{Q:Exit→Act→World→Prop}{x:Operand}
 (hw:Region.wanted o (yielded ops a.tmps)=true) (h0:o.op=.move x) (hn:wpList P ops Q rest (a.put o.dst (a.eval x)) w):wpList P ops Q (o :: rest) a w:=by
 unfold wpList
 rw[if_pos hw]
 left
 unfold Oper.wp
 simp[execOp,h0]
 exact hn
theorem mW{P:Program}{ops:Array Oper}{rest:List Oper}{o:Oper}{a:Act}{w:World}{Q:Exit→Act→World→Prop}(hg:o.guard=none)(t:TypeId)(parts:Array (Nat×Operand))(ho:o.op=.build t parts)
 (ps:List (Nat×Value)) (h0:(parts.map fun(i,x)=>(i,a.eval x)).toList=ps) (cs:Array Value) (hb:P.built t ps=some cs)
 (h:wpList P ops Q rest (a.put o.dst (.agg cs)) w):wpList P ops Q (o :: rest) a w:=by
 refine wpList_build hg t parts ho ?_ ?_
 ·rw[h0,hb]
  rfl
 ·rw[h0,hb]
  exact h
theorem qc(w:World)(A:Option Addr)(n c:Nat)(L:List Int)(hL:ZIn w A n L)(hn:n≤maxLen)(h:¬bL L):Calls Tryz.prog 129 #[.slice A n c] w fun e w'=>e=.returned (.tuple #[.agg tb0,.int .i64 80])∧Below w.heap.size w w':=by
 have hz:=mn.1
 have hi:=mn.2
 have h1:=DZ
 rw[show tb (.slice none 0 0) (fun _=>0) (fun _=>0) (fun _=>0) (.slice none 0 0)=tb0 from rfl]at hz h1
 have h0:Below w.heap.size w (w.alloc (.cells tb0 178)):=(Below.refl _ w).alloc (ah _) _
 have HC:=aa (kd (w.alloc (.cells tb0 178)) A n c L (hL.below h0) hn)
 rw[if_neg h]at HC
 have hk:=ag w 178 tb0
 have HK:=aa hk
 have HS:=aa iB
 have HO:=aa pG
 have HI:=aa hi
 have h4:=aa h1
 generalize tb0=Z at*
 have h3:=aa h0
 clear hL h h0 hk hi h1
 go_enter Tryz.func129,Tryz.ntmps129
 go_wp2_with fail
 clear hz
 refine HC.out.mono ?_
 rintro e w2 ⟨rfl,rfl⟩
 generalize w.alloc (.cells Z 178)=w1 at*
 have h2:Hid ((Tryz.prog.info? 178).map (·.size)=some Z.size):=aa (by rw[HS.out];exact HI.out)
 go_upto_region 3 with fail
 refine wp_region_lit (mW rfl _ _ rfl [] (by simp) Z h4.out ?_)
 have h5:=bQ (P:=Tryz.prog) HK.out h2.out rfl HO.out
 go_wp2_with fail
 exact bodyPost_ret (v:=.tuple #[.agg Z,.int .i64 80]) (kz rfl _ _ _ _ _ _ _ rfl (setRow_self _ _ _ _ HK.out) Tryz.underlying178 rfl h2.out _ rfl) rfl ⟨rfl,below_setRow h3.out (ah _) _⟩
theorem qS(f:Nat→Nat)(k x:Nat)(h:x=f (k+1)):(fun i=>if i=k+1 then x else if i≤k then f i else 0)=fun i=>if i≤k+1 then f i else 0:=by
 funext i
 by_cases e:i=k+1
 ·rw[if_pos e,if_pos (by omega),e,h]
 ·rw[if_neg e]
  by_cases e2:i≤k
  ·rw[if_pos e2,if_pos (by omega)]
  ·rw[if_neg e2,if_neg (by omega)]
theorem sc(f:Nat→Nat)(h:f 0=0):(fun i=>if i≤0 then f i else 0)=fun _=>0:=by
 funext i
 by_cases e:i≤0
 ·rw[if_pos e,show i=0 by omega,h]
 ·rw[if_neg e]
theorem pd(w:World)(A:Option Addr)(n c:Nat)(L:List Int)(hL:ZIn w A n L)(hn:n≤maxLen)(h:bL L):Calls Tryz.prog 129 #[.slice A n c] w fun e w'=>
 ∃g F,e=.returned (.tuple #[.agg (tb (.slice A n c) (bp (nl L)) (fun k=>cd (nl L) k 0) (b9 (nl L)) (.slice (some ⟨g,0,none⟩) n n)),.int .i64 0])∧aB w' w.heap.size g n n F∧dh (nl L) F n∧Below w.heap.size w w':=by
 have hz:=mn.1
 have hi:=mn.2
 rw[show tb (.slice none 0 0) (fun _=>0) (fun _=>0) (fun _=>0) (.slice none 0 0)=tb0 from rfl]at hz
 have h0:Below w.heap.size w (w.alloc (.cells tb0 178)):=(Below.refl _ w).alloc (ah _) _
 have HC:=aa (kd (w.alloc (.cells tb0 178)) A n c L (hL.below h0) hn)
 rw[if_pos h]at HC
 have hk:=ag w 178 tb0
 have HK:=aa hk
 have HS:=aa iB
 have HO:=aa pG
 have HI:=aa hi
 have hT:=aa (GQ A n c)
 have HW:=aa h0
 have hH:=aa (hL.below h0)
 have hI:=aa h
 have H0:=aa hL
 obtain⟨l,hl⟩:∃l,l=nl L:=⟨_,rfl⟩
 have h6:=fU hI.out
 have pj:l.length=n:=by rw[hl,bI,hH.out.1]
 have s3:n≤258:=by
  have:=hI.out.2.1
  rw[hH.out.1]at this
  exact this
 rw[← hl]at h6
 rw[← hl]
 have hU:=aa h6
 have qm:=aa pj
 have HL:=aa hl
 clear h6 pj hl
 generalize tb0=Z at*
 clear hL h h0 hk hi
 go_enter Tryz.func129,Tryz.ntmps129
 go_wp2_with fail
 refine HC.out.mono ?_
 rintro e w2 ⟨rfl,rfl⟩
 obtain⟨T0,hJ⟩:∃T0,T0=tb (.slice A n c) (fun _=>0) (fun _=>0) (fun _=>0) (.slice none 0 0):=⟨_,rfl⟩
 rw[← hJ]at hT
 have h8:T0.size=65:=by rw[hJ,dJ]
 have H6:=aa hJ
 clear hJ
 have hB:(w.alloc (.cells Z 178)).heap.size=w.heap.size+1:=by simp
 have h1:=aa hB
 clear hB
 generalize w.alloc (.cells Z 178)=w1 at*
 go_upto_region 4 with fail
 refine wp_region_lit (fE rfl rfl (mW rfl _ _ rfl [(0,.slice A n c)] (by simp;rfl) T0 hT.out ?_))
 have ps:T0.all (·.oneCell')=true:=by rw[H6.out];exact rD _ _ _ _ _ rfl rfl
 have pf:(Tryz.prog.info? 178).map (·.size)=some T0.size:=by rw[h8];exact HI.out
 have HM:=bQ (P:=Tryz.prog) (ag w1 178 Z) pf (by rw[HS.out,h8]) ps
 have HF:Blk ((w1.alloc (.cells Z 178)).setRow w1.heap.size T0) w1.heap.size 178 T0:=setRow_heap _ _ _ _ _ _ (ag w1 178 Z)
 have ho:Below w1.heap.size w1 ((w1.alloc (.cells Z 178)).setRow w1.heap.size T0):=below_setRow ((Below.refl _ _).alloc (ah _) _) (ah _) _
 have p3:=aa HF
 have q4:=aa ho
 have pl:((w1.alloc (.cells Z 178)).setRow w1.heap.size T0).cell? ⟨w1.heap.size,0,none⟩=some (.slice A n c):=by
  rw[ac HF,H6.out,pR]
 have hw:=aM ho HK.out
 have hc:=aa hw
 have hf:=aa (hH.out.below ho)
 have HY:=aa (HW.out.trans (ho.mono (by have:=h1.out;omega)))
 have hD:w1.heap.size<((w1.alloc (.cells Z 178)).setRow w1.heap.size T0).heap.size:=by rw[size_setRow];simp
 clear ps pf HF ho hw
 go_upto_region 5 with fail
 clear HM
 generalize (w1.alloc (.cells Z 178)).setRow w1.heap.size T0=w5 at*
 have h4:=aa (C6 w5 A n c L hf.out hI.out)
 rw[← HL.out]at h4
 clear hz
 go_wp2_with fail
 refine h4.out.mono ?_
 rintro e w6 ⟨rfl,hp⟩
 have hP:=aM hp p3.out
 have hx:=aM hp hc.out
 have hr:=ao HY.out hp
 have hE:w1.heap.size<w6.heap.size:=Nat.lt_of_lt_of_le hD hp.size
 rw[H6.out]at hP
 have HP:=Eb hP 1 21 (by omega)
 have hA:=run_storeCells_cells (P:=Tryz.prog) w1.heap.size 1 (dW (bp l)).toList 0 w6 (fun j hj=>by
  have:(dW (bp l)).toList.length=21:=eX _
  have:=(HP j (by omega)).1
  simpa using this) (fun j hj=>by
  have:(dW (bp l)).toList.length=21:=eX _
  have:=(HP j (by omega)).2
  simpa using this) (fun v hv=>(Array.all_eq_true_iff_forall_mem.1 (xB (bp l))) v (by simpa using hv))
 simp only[Nat.add_zero]at hA
 have HG:=na (dW (bp l)).toList _ 1 w6 hP
 rw[Ae]at HG
 have hG:=aa HG
 have he:=aa (iN (k:=w1.heap.size) (by have:=h1.out;omega) (dW (bp l)).toList 1 w6 hx)
 have HX:=aa (ix (g:=w1.heap.size) (by have:=h1.out;omega) (dW (bp l)).toList 1 w6 hr)
 have pr:(dW (bp l)).size=21:=eX _
 clear hP hx hr hp HP HG h4 p3 hc q4 HY pl
 generalize dW (bp l)=TK at*
 go_upto_region 6 with fail
 clear hA
 have h9:w1.heap.size<(w6.setCells w1.heap.size 1 TK.toList).heap.size:=Nat.lt_of_lt_of_le hE (ix (g:=w1.heap.size) (ah _) TK.toList 1 w6 (Below.refl w1.heap.size w6 |>.mono (ah _))).size
 generalize w6.setCells w1.heap.size 1 TK.toList=w7 at*
 obtain⟨g5,pb⟩:∃g5,g5=w1.heap.size:=⟨_,rfl⟩
 rw[← pb]at hG h9 ⊢
 have s0:w.heap.size<g5:=by have:=h1.out;omega
 clear hD hE h1 HK hH hf HW hT HO HC h8 pb
 obtain⟨K,hK⟩:∃K,K=bp l:=⟨_,rfl⟩
 rw[← hK]at hG
 go_wp2_with fail
 go_loopw [6,19] (fun s6 x wx=>∃k:Nat,k≤20∧x=.int .i64 k∧Blk wx g5 178 (tb (.slice A n c) K (fun i=>if i≤k then cd l i 0 else 0) (fun i=>if i≤k then b9 l i else 0) (.slice none 0 0))∧Blk wx w.heap.size 178 Z∧Below w.heap.size w wx∧g5<wx.heap.size) (fun _ x _=>20 - (intOf x).toNat)
 case atStart=>
  refine⟨0,Nat.zero_le _,rfl,?_,he.out,HX.out,h9⟩
  have e1:=sc (fun i=>cd l i 0) (CE l)
  have e2:=sc (b9 l) (EG l)
  rw[e1,e2]
  exact hG.out
 case round=>
  obtain⟨k,hk,rfl,h0,HA,hb,HN⟩:=hrel
  have H1:=aa h0
  have HZ:=aa HA
  have HB:=aa hb
  by_cases e:k<20
  ·have d0:decide ((k:Int)<20)=true:=aC (by omega)
   obtain⟨k1,HE⟩:∃k1,k1=k+1:=⟨_,rfl⟩
   have s2:(k:Int)+1=(k1:Int):=by omega
   have q1:=(ac h0 (22+k)).trans (lf _ _ _ _ _ k (by omega))
   rw[if_pos (ah _)]at q1
   have q2:=(ac h0 (1+k)).trans (uO _ _ _ _ _ k (by omega))
   have q3:=(ac h0 (22+k1)).trans (lf _ _ _ _ _ k1 (by omega))
   have f3:=ae h0 (22+k1)
   have ht:=GL l e
   rw[← HE,←hK]at ht
   have HD:=IR hU.out (show k1≤20 by omega) 0
   have hs:=uF l k
   rw[← hK]at hs
   obtain⟨x1,HQ⟩:∃x1,x1=cd l k 0:=⟨_,rfl⟩
   obtain⟨y1,HR⟩:∃y1,y1=K k:=⟨_,rfl⟩
   obtain⟨z1,HT⟩:∃z1,z1=cd l k1 0:=⟨_,rfl⟩
   rw[← HQ]at q1 ht
   rw[← HR]at q2 ht hs
   rw[← HT]at ht HD
   have rM:((x1:Int)+(y1:Int))*2=(z1:Int):=by omega
   have rv:x1≤1048576:=by omega
   have s4:y1≤1048576:=by omega
   have rO:=aa HQ
   have p5:=aa HR
   have r4:=aa HT
   clear h0 HA hb ht HQ HR HT
   have r7:(k:Int)<21:=by omega
   have pg:(k1:Int)<21:=by omega
   go_upto_region 9 with fail
   have hh:Blk wr.drew g5 178 (tb (.slice A n c) K (fun i=>if i≤k then cd l i 0 else 0) (fun i=>if i≤k then b9 l i else 0) (.slice none 0 0)):=H1.out
   have hF:Blk wr.drew w.heap.size 178 Z:=HZ.out
   have hq:Below w.heap.size w wr.drew:=HB.out.drew
   have p0:=aa hh
   have p2:=aa hF
   have p1:=aa hq
   have h2:g5<wr.drew.heap.size:=HN
   have p4:=aa h2
   clear hh hF hq h2
   have q3d:wr.drew.cell? ⟨g5,22+k1,none⟩=some (.int .i64 ((if k1≤k then cd l k1 0 else 0:Nat):Int)):=q3
   have f3d:wr.drew.frozen? ⟨g5,22+k1,none⟩=false:=f3
   have t1:({ heap:=wr.heap,tape:=wr.tape,drawn:=wr.drawn+1,os:=wr.os,output:=wr.output }:World).cell? ⟨g5,22+k,none⟩=some (.int .i64 (x1:Nat)):=q1
   have t2:({ heap:=wr.heap,tape:=wr.tape,drawn:=wr.drawn+1,os:=wr.os,output:=wr.output }:World).cell? ⟨g5,1+k,none⟩=some (.int .i64 (y1:Nat)):=q2
   obtain⟨s1,rb⟩:∃s1,s1=x1+y1:=⟨_,rfl⟩
   have po:(x1:Int)+(y1:Int)=(s1:Int):=by omega
   have rl:(s1:Int)*2=(z1:Int):=by omega
   have w1':IntKind.i64.wrap (k1:Int)=(k1:Int):=by rw[IntKind.wrap_i64];omega
   have w2':IntKind.i64.wrap (s1:Int)=(s1:Int):=by rw[IntKind.wrap_i64];omega
   have w3':IntKind.i64.wrap (z1:Int)=(z1:Int):=by rw[IntKind.wrap_i64];omega
   have h5:=aa HE
   clear rM rb HE
   go_still_tail 14,(by kernel_rfl)
   change wpList _ _ _ _ _ wr.drew
   generalize wr.drew=wy at*
   clear q1 q2 q3 f3 t1 t2
   have hM:=ay p0.out (22+k1) (.int .i64 (z1:Nat))
   rw[uJ _ _ _ _ _ k1 z1 (by omega)]at hM
   have hS:(fun i=>if i=k1 then z1 else if i≤k then cd l i 0 else 0)=fun i=>if i≤k1 then cd l i 0 else 0:=by
    rw[h5.out]
    exact qS (fun i=>cd l i 0) k z1 (by rw[r4.out,h5.out])
   rw[hS]at hM
   have ha:=aa hM
   have hX:=aa (dZ p2.out (k:=g5) (by omega) (22+k1) (.int .i64 (z1:Nat)))
   have hV:=aa (p1.out.setCell (p:=⟨g5,22+k1,none⟩) (by show _≤g5;omega) (.int .i64 (z1:Nat)))
   have H3:Hid (g5<(wy.setCell ⟨g5,22+k1,none⟩ (.int .i64 (z1:Nat))).heap.size):=aa (by simpa using p4.out)
   clear hM hS
   go_upto_region 10 with fail
   generalize wy.setCell ⟨g5,22+k1,none⟩ (.int .i64 (z1:Nat))=wz at*
   clear q3d f3d p0 p2 p1 p4 H1 HZ HB rv po rl w2' w3'
   have r1:=(ac ha.out (43+k)).trans (lj _ _ _ _ _ k (by omega))
   rw[if_pos (ah _)]at r1
   have r2:=(ac ha.out (1+k)).trans (uO _ _ _ _ _ k (by omega))
   have r3:=(ac ha.out (43+k1)).trans (lj _ _ _ _ _ k1 (by omega))
   have g3:=ae ha.out (43+k1)
   have hR:=uQ l k
   rw[← h5.out,←hK,←p5.out]at hR
   have hy:=uP l k1
   rw[qm.out]at hy
   obtain⟨x2,pv⟩:∃x2,x2=b9 l k:=⟨_,rfl⟩
   obtain⟨z2,HU⟩:∃z2,z2=b9 l k1:=⟨_,rfl⟩
   rw[← pv]at r1 hR
   rw[← HU]at hR hy
   rw[← p5.out]at r2
   have po:(x2:Int)+(y1:Int)=(z2:Int):=by omega
   have w2':IntKind.i64.wrap (z2:Int)=(z2:Int):=by rw[IntKind.wrap_i64];omega
   have r5:=aa HU
   clear hR pv HU
   have hh:Blk wz.drew g5 178 (tb (.slice A n c) K (fun i=>if i≤k1 then cd l i 0 else 0) (fun i=>if i≤k then b9 l i else 0) (.slice none 0 0)):=ha.out
   have hF:Blk wz.drew w.heap.size 178 Z:=hX.out
   have hq:Below w.heap.size w wz.drew:=hV.out.drew
   have q9:=aa hh
   have hY:=aa hF
   have hW:=aa hq
   have h2:g5<wz.drew.heap.size:=H3.out
   have H4:=aa h2
   clear hh hF hq h2
   have q3d:wz.drew.cell? ⟨g5,43+k1,none⟩=some (.int .i64 ((if k1≤k then b9 l k1 else 0:Nat):Int)):=r3
   have f3d:wz.drew.frozen? ⟨g5,43+k1,none⟩=false:=g3
   have t1:({ heap:=wz.heap,tape:=wz.tape,drawn:=wz.drawn+1,os:=wz.os,output:=wz.output }:World).cell? ⟨g5,43+k,none⟩=some (.int .i64 (x2:Nat)):=r1
   have t2:({ heap:=wz.heap,tape:=wz.tape,drawn:=wz.drawn+1,os:=wz.os,output:=wz.output }:World).cell? ⟨g5,1+k,none⟩=some (.int .i64 (y1:Nat)):=r2
   go_still_tail 13,(by kernel_rfl)
   change wpList _ _ _ _ _ wz.drew
   generalize wz.drew=wq at*
   clear r1 r2 r3 g3 t1 t2
   go_wp2_with fail
   go_roundw
   case rel=>
    refine⟨k1,by have:=h5.out;omega,by first | rfl | go_num,?_,dZ hY.out (k:=g5) (by omega) _ _,hW.out.setCell (p:=⟨g5,43+k1,none⟩) (by show _≤g5;omega) _,by simpa using H4.out⟩
    have H8:=ay q9.out (43+k1) (.int .i64 (z2:Nat))
    rw[uo _ _ _ _ _ k1 z2 (by omega)]at H8
    have hS:(fun i=>if i=k1 then z2 else if i≤k then b9 l i else 0)=fun i=>if i≤k1 then b9 l i else 0:=by
     rw[h5.out]
     exact qS (b9 l) k z2 (by rw[r5.out,h5.out])
    rw[hS]at H8
    exact H8
   case measure=>
    have:=h5.out
    simp[intOf]
    omega
  ·obtain rfl:k=20:=by omega
   have d0:decide ((20:Int)<20)=false:=au (by omega)
   have h3:tb (.slice A n c) K (fun i=>if i≤20 then cd l i 0 else 0) (fun i=>if i≤20 then b9 l i else 0) (.slice none 0 0)=tb (.slice A n c) K (fun i=>cd l i 0) (b9 l) (.slice none 0 0):=G2 (fun _ _=>rfl) (fun i hi=>if_pos (by omega)) (fun i hi=>if_pos (by omega))
   rw[h3]at h0
   have H2:=aa h0
   have pl:=(ac h0 0).trans (pR _ _ _ _ _)
   have H7:=aa (H0.out.below hb)
   have hg:=aa (nW wr A n c L H7.out hI.out)
   rw[← HL.out]at hg
   have hit:(Tryz.prog.info? 176).map (·.size)=some (dW (b9 l)).toList.length:=by
    rw[show (dW (b9 l)).toList.length=21 from eX _]
    exact Hu.2
   have qb:=aa hit
   have qs:=aa (BO h0)
   clear h3 H1 h0 hb HA hit he HX hG h9
   go_upto_region 12 with fail
   apply wp_region_lit
   iterate 9 go_step
   refine wpList_load_mid rfl _ _ rfl g5 43 rfl (dW (b9 l)).toList _ qs.out Tryz.underlying176 rfl qb.out ?_
   rw[Array.toArray_toList]
   go_wp2_with fail
   refine hg.out.mono ?_
   rintro e w8 ⟨g,F,rfl,h7,hC,hN⟩
   have rR:g5<g:=by have:=h7.lt.1;omega
   have hQ:=aM hN H2.out
   have q0:=aM hN HZ.out
   have q8:=(ac hQ 64).trans (uT _ _ _ _ _)
   have f8:=ae hQ 64
   obtain⟨T9,hm⟩:∃T9,T9=tb (.slice A n c) K (fun i=>cd l i 0) (b9 l) (.slice (some ⟨g,0,none⟩) n n):=⟨_,rfl⟩
   have HH:=ay hQ 64 (.slice (some ⟨g,0,none⟩) n n)
   rw[yd,←hm]at HH
   have pm:T9.size=65:=by rw[hm,dJ]
   have pk:T9.all (·.oneCell')=true:=by rw[hm];exact rD _ _ _ _ _ rfl rfl
   have hO:(Tryz.prog.info? 178).map (·.size)=some T9.size:=by rw[pm];exact HI.out
   have hu:(Tryz.prog.info? 178).map (·.size)=some T9.toList.length:=hO
   have ql:=aa HH
   have HV:=dZ q0 (k:=g5) (by omega) 64 (.slice (some ⟨g,0,none⟩) n n)
   have qo:=aa ((h7.other (g2:=g5) (by omega) 64 (.slice (some ⟨g,0,none⟩) n n)).setRow (k:=w.heap.size) (by omega) T9)
   have q5:=aa (below_setRow ((ao HB.out hN).setCell (p:=⟨g5,64,none⟩) (by show _≤g5;omega) (.slice (some ⟨g,0,none⟩) n n)) (ah _) T9)
   have rs:=bQ (P:=Tryz.prog) HV hO (by rw[HS.out,pm]) pk
   have r6:=aa HV
   have qa:=aa hu
   have hZ:=aa hO
   have r0:=aa hm
   have H5:=aa hC
   have HJ:=HB.out.size
   clear hQ q0 HH hO hu HV h7 hC hm pk hN
   go_upto_region 13 with fail
   refine wp_region_lit (wpList_load_mid rfl _ _ rfl g5 0 rfl T9.toList _ (kQ ql.out) Tryz.underlying178 rfl qa.out ?_)
   rw[Array.toArray_toList]
   go_wp2_with fail
   refine bodyPost_ret (v:=.tuple #[.agg T9,.int .i64 0]) (kz rfl _ _ _ _ _ _ _ rfl (setRow_heap _ _ _ _ _ _ r6.out) Tryz.underlying178 rfl hZ.out _ rfl) rfl ⟨g,F,by rw[r0.out,hK],World.ownsRow.mono qo.out HJ,H5.out,q5.out⟩
end Go.Proofs.YthakcjehhlpjnaaGreat
