import Derived.Test.YtepokmggbfoakaaGreatDoorA09
import Derived.Test.YtepokmggbfoakaaGreatDoorA03
import Derived.Test.YtepokmggbfoakaaGreatDoorA06
import Derived.Deep.MidRow
import Derived.Deep.CutBlock
import Derived.Deep.RegionWith
set_option maxHeartbeats 3200000
set_option maxRecDepth 100000
namespace Go.Proofs.YtepokmggbfoakaaGreatDoor
def bA(l:List Nat)(k:Nat):Nat:=l.countP fun x=>x==k
def cP(l:List Nat)(k:Nat):Nat:=l.countP fun x=>decide (x<k)
def iU(l:List Nat)(k i:Nat):Nat:=(l.take i).countP fun x=>x==k
def jv(l:List Nat)(s:Nat):Nat:=cP l (l.getD s 0)+iU l (l.getD s 0) s
theorem uY(l:List Nat)(q:Nat)(h:q<l.length):l.take (q+1)=l.take q++ [l.getD q 0]:=by rw[List.take_add_one,LV h,LU,LV h];rfl
theorem jB(l:List Nat)(k i:Nat)(h:i<l.length):iU l k (i+1)=iU l k i+if l.getD i 0=k then 1 else 0:=by
 unfold iU;rw[uY l i h,PP];congr 1;rw[OC,List.countP_nil,MG];by_cases e:l.getD i 0=k;·rw[LX e,LX (by rw[e];exact Oi k)]
 ·rw[LW e,LW (by rw[NV];exact e)]
theorem o6(l:List Nat)(k:Nat):iU l k l.length=bA l k:=by unfold iU bA;rw[O3]
theorem Jf(l:List Nat)(k:Nat){i j:Nat}(h:i≤j)(hj:j≤l.length):iU l k i≤iU l k j:=by
 induction j with
 | zero=>rw[show i=0 by omega];exact L5 _
 | succ j ih=>
  by_cases e:i=j+1;·rw[e];exact L5 _
  ·have h1:=ih (by omega) (by omega);rw[jB l k j (by omega)];omega
theorem xG(l:List Nat){i j:Nat}(h:i<j)(hj:j≤l.length):iU l (l.getD i 0) i<iU l (l.getD i 0) j:=by have h1:=jB l (l.getD i 0) i (by omega);rw[LX rfl]at h1;have h2:=Jf l (l.getD i 0) (show i+1≤j by omega) hj;omega
theorem Lt(l:List Nat)(k i:Nat):iU l k i≤l.length:=by unfold iU;have h1:=OL (p:=fun x=>x==k) (l:=l.take i);rw[Mj]at h1;omega
theorem I7(l:List Nat):cP l 0=0:=by unfold cP;rw[List.countP_eq_zero];intro x _;rw[Nv];omega
theorem xC(l:List Nat)(k:Nat):cP l (k+1)=cP l k+bA l k:=by
 unfold cP bA
 induction l with
 | nil=>rfl
 | cons x l ih=>
  rw[OC,OC,OC,ih];by_cases h1:x<k;·rw[LX (bD (by omega)),LX (L8 h1),LW (by rw[NV];omega)];omega
  ·by_cases h2:x=k;·rw[LX (bD (by omega)),LW (by rw[Nv];omega),LX (by rw[NV];exact h2)];omega
   ·rw[LW (by rw[Nv];omega),LW (by rw[Nv];omega),LW (by rw[NV];exact h2)];omega
theorem oY(l:List Nat){a b:Nat}(h:a≤b):cP l a≤cP l b:=by
 induction h with
 | refl=>exact L5 _
 | step h ih=>rw[xC];omega
theorem xB(l:List Nat)(k:Nat):cP l k≤l.length:=OL
theorem wS(l:List Nat)(k:Nat):bA l k≤l.length:=OL
theorem rE{l:List Nat}{s:Nat}(h:s<l.length):cP l (l.getD s 0)≤jv l s∧jv l s<cP l (l.getD s 0+1):=by have h1:=xG l h (ag _);rw[o6]at h1;rw[xC];unfold jv;omega
theorem Cf{l:List Nat}{s:Nat}(h:s<l.length):jv l s<l.length:=by have h1:=(rE h).2;have h2:=xB l (l.getD s 0+1);omega
theorem DA{l:List Nat}{s t:Nat}(hs:s<l.length)(ht:t<l.length)(h:jv l s=jv l t):s=t:=by
 have a:=rE hs;have b:=rE ht;by_cases e:l.getD s 0=l.getD t 0
 ·by_cases e1:s<t;·have h1:=xG l e1 (MB ht);unfold jv at h;rw[← e]at h;omega
  ·by_cases e2:t<s;·have h1:=xG l e2 (MB hs);unfold jv at h;rw[e]at h;omega
   ·omega
 ·by_cases e1:l.getD s 0<l.getD t 0;·have:=oY l (show l.getD s 0+1≤l.getD t 0 by omega);omega
  ·have:=oY l (show l.getD t 0+1≤l.getD s 0 by omega);omega
theorem Iz{l:List Nat}{i:Nat}(h:i<l.length):∃s,s<l.length∧jv l s=i:=by
 have hp:=ng ((List.range l.length).map (jv l)) l.length (by
  unfold List.Nodup
  rw[Od]
  refine Nj ?_ (Nk (n:=l.length))
  intro a b ha hb h0 e
  exact h0 (DA (List.mem_range.1 ha) (List.mem_range.1 hb) e)) (by
  intro x hx
  obtain⟨s,hs,rfl⟩:=List.mem_map.1 hx
  exact Cf (List.mem_range.1 hs)) (by rw[Mi,Mt])
 obtain⟨s,hs,e⟩:=List.mem_map.1 (hp.mem_iff.2 (List.mem_range.2 h));exact⟨s,List.mem_range.1 hs,e⟩
theorem Cg{l:List Nat}{s k:Nat}(hs:s<l.length)(h1:cP l k≤jv l s)(h2:jv l s<cP l (k+1)):l.getD s 0=k:=by
 have a:=rE hs;by_cases e1:l.getD s 0<k;·have:=oY l (show l.getD s 0+1≤k by omega);omega
 ·by_cases e2:k<l.getD s 0;·have:=oY l (show k+1≤l.getD s 0 by omega);omega
  ·omega
def dE(l:List Nat)(F:Nat→Nat)(i:Nat):Prop:=∀s,s<i→F (jv l s)=s
theorem dE.step{l:List Nat}{F:Nat→Nat}{i:Nat}(h:dE l F i)(hi:i<l.length):dE l (fun j=>if j=jv l i then i else F j) (i+1):=by
 intro s hs;show(if jv l s=jv l i then i else F (jv l s))=s;by_cases e:s=i;·subst e;rw[LX rfl]
 ·rw[LW (fun h2=>e (DA (by omega) hi h2))];exact h s (by omega)
theorem dE.get{l:List Nat}{F:Nat→Nat}(h:dE l F l.length){i:Nat}(hi:i<l.length):F i<l.length∧jv l (F i)=i:=by obtain⟨s,hs,rfl⟩:=Iz hi;rw[h s hs];exact⟨hs,rfl⟩
theorem wQ(l:List Nat)(k:Nat):∀i,i≤l.length→cd l k i=cd l k 0+iU l k i
 | 0,_=>rfl
 | i+1,h=>by
  have ih:=wQ l k i (by omega);rw[jB l k i (by omega)];by_cases e:l.getD i 0=k;·rw[Lg (by omega) e,LX e,ih];omega
  ·rw[Ke (by omega) e,LW e,ih];rfl
theorem Kd(l:List Nat){k:Nat}(hk:k<20):cd l (k+1) 0=(cd l k 0+bA l k)*2:=by rw[LE (L5 l.length) hk,wQ l k l.length (ag _),o6];omega
theorem EA(l:List Nat):cd l 0 0=0:=by unfold cd;rw[t6,Nat.zero_div]
theorem yO{l:List Nat}{s:Nat}(hs:s<l.length):dR l s=cd l (l.getD s 0) 0+iU l (l.getD s 0) s:=by rw[← Kb (n:=l.getD s 0) (i:=s) rfl,wQ l _ s (by omega)]
theorem yN{l:List Nat}{s:Nat}(hs:s<l.length):dR l s+cP l (l.getD s 0)=cd l (l.getD s 0) 0+jv l s:=by rw[yO hs];unfold jv;omega
theorem Kc{l:List Nat}(h:fQ l):cd l 20 0+bA l 20=jI l:=by rw[← o6,←wQ l 20 l.length (ag _)];unfold cd;rw[mx 20 l l.length (ag _),rK 21 l fun x hx=>by have:=h.high x hx;omega];show jI l / 2 ^ (20 - 20)=_;rw[Ng,Pu,Qi]
theorem sR{l bs:List Nat}(h:fQ l)(hb:au bs){n:Nat}(hn:n≤bs.length)(h0:n≤20)(hc:u6 l bs n)(hs:val (bs.take n)*pw n<jI l):cd l n 0≤val (bs.take n):=by
 obtain⟨i,hi⟩:=(qE h hb hn h0 hc).2 hs;have a:=kD h hi;have b:pos n 0 l≤lie l i:=by
  unfold lie;rcases MF n (l.getD i 0)with h1 | h1;·exact Mk (qd l h1 0) (mY _ l (LY _))
  ·have:=hi.2.1;rw[show l.getD i 0=n by omega];exact mY n l (LY _)
 have hp:=ga (l.getD i 0);have hd:cd l n 0*pw n=pos n 0 l:=Nat.div_mul_cancel (oZ n h0 l 0);have h3:cd l n 0*pw n<(val (bs.take n)+1)*pw n:=by omega
 have:=OH h3;omega
theorem K8{l:List Nat}{F:Nat→Nat}(h:fQ l)(hF:dE l F l.length){n v:Nat}(h1:cd l n 0≤v)(h2:v - cd l n 0<bA l n):cP l n+(v - cd l n 0)<l.length∧ml l n v=some (F (cP l n+(v - cd l n 0))):=by have hp:=xC l n;have h4:=xB l (n+1);have h3:cP l n+(v - cd l n 0)<l.length:=(by omega);refine⟨h3,vJ h ?_⟩;obtain⟨hs,hi⟩:=hF.get h3;generalize F (cP l n+(v - cd l n 0))=s at*;have hk:l.getD s 0=n:=Cg hs (by omega) (by omega);have h0:=yN hs;rw[hk]at h0;exact⟨hs,hk,by omega⟩
theorem J7{l:List Nat}{n v:Nat}(h2:bA l n≤v - cd l n 0):ml l n v=none:=by
 cases e:ml l n v with
 | none=>rfl
 | some s=>exfalso;obtain⟨h3,h4,h5⟩:=jQ e;have h6:=yO h3;have h7:=xG l h3 (ag _);rw[o6]at h7;rw[h4]at h6 h7;omega
theorem Eh{l:List Nat}(h:fQ l){n v:Nat}(hs:¬v*pw n<jI l):ml l n v=none:=by
 cases e:ml l n v with
 | none=>rfl
 | some s=>exfalso;have h3:=jQ e;have h4:=kD h h3.begin;have h5:=xv h h3.1;have:=ga (l.getD s 0);omega
open Go.RowKit
def eK(f:Nat→Nat):Array Value:=(Array.range 21).map fun i=>.int .i64 (f i)
theorem gu(f:Nat→Nat):(eK f).size=21:=by simp[eK]
theorem Eg:eK (fun _=>0)=Array.replicate 21 (.int .i64 0):=by
 apply PU;·simp[eK]
 ·intro i h1 h2;simp[eK]
theorem K1:(∀ w,(zeroValue 201).run Tryz.prog w=.ok (.agg (eK fun _=>0)) w)∧(Tryz.prog.info? 201).map (·.size)=some 21:=by rw[Eg];exact Qy (by kernel_rfl)
theorem yr(f:Nat→Nat)(b x:Nat):(eK f).setIfInBounds b (.int .i64 x)=eK fun i=>if i=b then x else f i:=by
 apply PU;·simp[eK]
 ·intro i h1 h2;rw[Oz (by simpa [eK]using h2)];by_cases e:b=i;·subst e;simp[eK]
  ·rw[LW e];have e2:¬i=b:=fun h=>e h.symm;simp[eK,e2]
theorem yp(f:Nat→Nat):(eK f).all (·.oneCell')=true:=by rw[Pj];intro i h;simp[eK,Value.oneCell']
theorem oh(f:Nat→Nat)(i:Nat)(h:i<21):(eK f)[i]? =some (.int .i64 (f i:Nat)):=by simp[eK,h]
theorem KS(w:World)(a b:Array Value)(t:TypeId):Blk ((w.alloc (.cells a t)).alloc (.cells b t)) w.heap.size t a∧Blk ((w.alloc (.cells a t)).alloc (.cells b t)) (w.heap.size+1) t b:=by
 have e1:(w.alloc (.cells a t)).heap.size=w.heap.size+1:=by simp
 refine⟨?_,?_⟩;·show(World.alloc _ _).heap[_]? =_;rw[bw _ _ _ (by simp)];exact ah w t a
 ·rw[← e1];exact ah _ t b
theorem eN{w:World}{g k:Nat}{t:TypeId}{cs:Array Value}(h:Blk w g t cs)(h0:g≠k)(i:Nat)(u:Value):Blk (w.setCell ⟨k,i,none⟩ u) g t cs:=by show(w.setCell ⟨k,i,none⟩ u).heap[g]? =_;rw[NE w ⟨k,i,none⟩ u g h0];exact h
theorem mz{w:World}{g:Nat}{t:TypeId}{cs:Array Value}(h:Blk w g t cs):w.rangeAt g 0 cs.toList:=by intro j v hv;rw[MG,ac h];simpa using hv
theorem mS{w:World}{A:Option Addr}{n:Nat}{L:List Int}(hL:ZIn w A n L)(h0:bU L):∃b off,A=some ⟨b,off,none⟩∧∀i,i<n→w.cell? ⟨b,off+i,none⟩=some (.int .i64 ((nl L).getD i 0:Nat)):=by have h1:=hL.1;have h2:2≤n:=(by have:=h0.1;omega);obtain⟨b,off,rfl,hc⟩:=hL.2 (by omega);refine⟨b,off,rfl,fun i hi=> ?_⟩;rw[hc i hi,tI];have:0≤L.getD i 0:=(by rw[LU,LV (by omega)];have:=(h0.2.2.1 L[i] (Mu ..)).1;show(0:Int)≤L[i];omega);rw[OX this]
theorem EJ(w:World)(A:Option Addr)(n c:Nat)(L:List Int)(hL:ZIn w A n L)(h7:bU L):Calls Tryz.prog 209 #[.slice A n c] w fun e w'=>e=.returned (.agg (eK (bA (nl L))))∧Below w.heap.size w w':=by
 have hp:=hL.1;have hv:n≤258:=by have:=h7.2.1;omega
 obtain⟨b,off,rfl,h5⟩:=mS hL h7;have h4:=hU h7;obtain⟨l,hl⟩:∃l,l=nl L:=⟨_,rfl⟩;have ho:l.length=n:=by rw[hl,bV,hp]
 rw[← hl]at h5 h4 ⊢;have HF:=aa h4;have h6:=aa ho;have h8:=aa h5;obtain⟨hz,hi⟩:=K1;have HI:=aa hi;have HS:=aa gu;have ha:=aa yr;have HO:=aa yp;have HG:=aa oh;generalize eK=T at*;clear hi hl h7 hL hp h4 ho h5;go_enter Tryz.func209,Tryz.ntmps209;go_wp2_with fail;go_loopw [5,8] (fun s5 x wx=>∃q:Nat,q≤n∧x=.int .i64 q∧Blk wx w.heap.size 201 (T fun _=>0)∧Blk wx (w.heap.size+1) 201 (T fun k=>iU l k q)∧Below w.heap.size w wx) (fun _ x _=>n - (intOf x).toNat)
 case atStart=>obtain⟨h1,h2⟩:=KS w (T fun _=>0) (T fun _=>0) 201;exact⟨0,LY _,rfl,h1,h2,((L6 _ w).alloc (ag _) _).alloc (by simp) _⟩
 case round=>
  obtain⟨q,hq,rfl,he,h3,hb⟩:=hrel;have H0:=aa he;have H1:=aa h3;have HB:=aa hb;by_cases e:q<n
  ·have hg:=h8.out q e;have hr:=Md w _ hg;have ht:=(HB.out.cell (p:=⟨b,off+q,none⟩) hr).trans hg;have hh:=(HF.out.one (i:=q) (by rw[h6.out];exact e)).2;have h0:=jB l (l.getD q 0) q (by rw[h6.out];exact e);rw[LX rfl]at h0;obtain⟨k,hk⟩:∃k,k=l.getD q 0:=⟨_,rfl⟩;rw[← hk]at ht hh h0;have hj:k<21:=(by omega);have hc:=ac h3 k;have hf:=ae h3 k;rw[HG.out _ k hj]at hc;have hn:=Lt l k q;rw[h6.out]at hn;obtain⟨c1,hm⟩:∃c1,c1=iU l k q:=⟨_,rfl⟩;rw[← hm]at hc hn h0;have HK:=aa hk;have hs:=aa h0;have hu:=HS.out fun k=>iU l k q;clear he h3 hb hg hr hk h0 hm hz;go_wp2_with fail;go_roundw;case rel=>
    refine⟨q+1,by omega,by go_num,eN H0.out (by omega) _ _,?_,HB.out.setCell (by show _≤w.heap.size+1;omega) _⟩;have h1:=az H1.out k (.int .i64 ((c1+1:Nat):Int));rw[ha.out]at h1;have e2:(fun i=>if i=k then c1+1 else iU l i q)=fun i=>iU l i (q+1):=by
     funext i;by_cases ei:i=k;·rw[LX ei,ei,hs.out]
     ·rw[LW ei,jB l i q (by rw[h6.out];exact e),LW (by rw[← HK.out];exact fun h=>ei h.symm)];rfl
    rw[e2]at h1;exact h1
   case measure=>simp[intOf];omega
  ·obtain rfl:q=n:=(by omega);have e2:(fun k=>iU l k q)=bA l:=(by funext k;rw[← h6.out,o6]);rw[e2]at h3;have h9:Hid ((Tryz.prog.info? 201).map (·.size)=some (T (bA l)).size):=aa (by rw[HS.out];exact HI.out);have H1:=aa h3;have hu:=HS.out (bA l);clear he h3 hb hz e2;have hw:=cu (P:=Tryz.prog) H0.out h9.out (by rw[HS.out,HS.out]) (HO.out _);go_upto_region 7 with fail;refine OA (wpList_load_mid rfl _ _ rfl _ _ rfl (T (bA l)).toList _ (mz H1.out) Tryz.underlying201 rfl h9.out ?_);rw[Qj];go_wp2_with fail;refine Mm (v:=.agg (T (bA l))) (iT rfl rfl (O9 _ _ _ _ _ _ H0.out) Tryz.underlying201 h9.out) rfl ⟨rfl,?_⟩;exact below_setRow HB.out (ag _) _
theorem Kq(w:World)(A:Option Addr)(n c:Nat)(x:Int):Calls Tryz.prog 164 #[.slice A n c,.int .i64 x] w fun e w'=>e=.returned (.bool (decide (0≤x∧x<(n:Int))))∧w=w':=by
 by_cases h0:0≤x
 ·by_cases h1:x<(n:Int);·have d2:decide (0≤x∧x<(n:Int))=true:=L8 ⟨h0,h1⟩;rw[d2];go_enter Tryz.func164,Tryz.ntmps164;go_wp2_with fail;go_ret;exact⟨rfl,rfl⟩
  ·have d2:decide (0≤x∧x<(n:Int))=false:=L7 (fun h=>h1 h.2);rw[d2];go_enter Tryz.func164,Tryz.ntmps164;go_wp2_with fail;go_ret;exact⟨rfl,rfl⟩
 ·have d2:decide (0≤x∧x<(n:Int))=false:=L7 (fun h=>h0 h.1);rw[d2];go_enter Tryz.func164,Tryz.ntmps164;go_wp2_with fail;go_ret;exact⟨rfl,rfl⟩
theorem tx(w:World)(b off n c s x:Nat)(hs:s<n)(hx:w.cell? ⟨b,off+s,none⟩=some (.int .i64 (x:Nat))):Calls Tryz.prog 165 #[.slice (some ⟨b,off,none⟩) n c,.int .i64 s] w fun e w'=>e=.returned (.int .i64 (x:Nat))∧w=w':=by go_enter Tryz.func165,Tryz.ntmps165;go_wp2_with fail;go_ret;exact⟨rfl,rfl⟩
theorem p8(w:World)(A:Option Addr)(n c:Nat)(L:List Int)(hL:ZIn w A n L)(hf:bU L):Calls Tryz.prog 210 #[.slice A n c,.agg (eK (cP (nl L)))] w fun e w'=>∃g F,e=.returned (.slice (some ⟨g,0,none⟩) n n)∧aA w' w.heap.size g n n F∧dE (nl L) F n∧Below w.heap.size w w':=by
 have hu:=hL.1;have hG:n≤258:=by have:=hf.2.1;omega
 obtain⟨b,off,rfl,h7⟩:=mS hL hf;have h6:=hU hf;obtain⟨l,hl⟩:∃l,l=nl L:=⟨_,rfl⟩;have ht:l.length=n:=by rw[hl,bV,hu]
 rw[← hl]at h7 h6 ⊢;have HF:=aa h6;have h9:=aa ht;have hh:=aa h7;have hm:=aa yr;have HG:=aa oh;generalize eK=T at*;have hw:=bC (w.alloc (.cells (T (cP l)) 201)) n (by omega);clear hl hf hL hu h6 ht h7
 have hi:Hid (aA ((w.alloc (.cells (T (cP l)) 201)).alloc (.cells (madeCells #[.int .i64 0] n) 3)) w.heap.size (w.heap.size+1) n n fun _=>0):=aa (by
  have h:=bh (w.alloc (.cells (T (cP l)) 201)) w.heap.size n (by simp) (by omega)
  simpa using h)
 have hg:Hid (Blk ((w.alloc (.cells (T (cP l)) 201)).alloc (.cells (madeCells #[.int .i64 0] n) 3)) w.heap.size 201 (T (cP l))):=aa (by
  show(World.alloc _ _).heap[_]? =_
  rw[bw _ _ _ (by simp)]
  exact ah w _ _)
 go_enter Tryz.func210,Tryz.ntmps210;go_wp2_with fail;go_loopw [6,7,13] (fun s6 s7 x wx=>∃(q:Nat) (F:Nat→Nat),q≤n∧x=.int .i64 q∧Hid (dE l F q)∧Blk wx w.heap.size 201 (T fun k=>cP l k+iU l k q)∧aA wx w.heap.size (w.heap.size+1) n n F∧Below w.heap.size w wx) (fun _ _ x _=>n - (intOf x).toNat)
 case atStart=>exact⟨0,fun _=>0,LY _,rfl,aa (fun s hs=>by omega),hg.out,hi.out,((L6 _ w).alloc (ag _) _).alloc (by simp) _⟩
 case round=>
  obtain⟨q,F,hq,rfl,h8,ha,h3,hb⟩:=hrel;have H1:=aa ha;have HB:=aa hb;have HR:=aa h3;by_cases e:q<n
  ·have hn:=hh.out q e;have hv:=Md w _ hn;have hC:=(HB.out.cell (p:=⟨b,off+q,none⟩) hv).trans hn;have hp:=(HF.out.one (i:=q) (by rw[h9.out];exact e)).2;have h0:=jB l (l.getD q 0) q (by rw[h9.out];exact e);rw[LX rfl]at h0;have ho:=Cf (l:=l) (s:=q) (by rw[h9.out];exact e);rw[h9.out]at ho;have h2:jv l q=cP l (l.getD q 0)+iU l (l.getD q 0) q:=rfl;obtain⟨k,hk⟩:∃k,k=l.getD q 0:=⟨_,rfl⟩;rw[← hk]at hC hp h0 h2;have he:k<21:=(by omega);have hc:=ac ha k;rw[HG.out _ k he]at hc;obtain⟨j,hj⟩:∃j,j=jv l q:=⟨_,rfl⟩;rw[← h2,←hj]at hc;rw[← hj]at ho h2;have hB:=h3.cell j ho;have hF:=h3.frozen j;have h5:dE l (fun i=>if i=j then q else F i) (q+1):=(by have h:=h8.out.step (by rw[h9.out];exact e);rw[← hj]at h;exact h);obtain⟨v0,hx⟩:∃v0,v0=F j:=⟨_,rfl⟩;rw[← hx]at hB;have hD:(wr.setCell ⟨w.heap.size+1,j,none⟩ (.int .i64 (q:Nat))).cell? ⟨w.heap.size,k,none⟩=some (.int .i64 (j:Nat)):=(by have h:=ac (eN ha (k:=w.heap.size+1) (by omega) j (.int .i64 (q:Nat))) k;rw[HG.out _ k he,←h2]at h;exact h);have hE:=ae (eN ha (k:=w.heap.size+1) (by omega) j (.int .i64 (q:Nat))) k;have h4:=(h3.set j q).other (g2:=w.heap.size) (by omega) k (.int .i64 ((j+1:Nat):Int));have hy:=aa h4;have hA:=aa h5;have HK:=aa hk;have hz:=aa h0;have HJ:=aa h2;have hr:j≤258:=(by omega);clear ha hb hn hv hk h0 h3 h4 h8 h5 h2 hj hx hw hi hg;go_wp2_with fail;go_roundw;case rel=>
    refine⟨q+1,_,by omega,by go_num,hA,?_,hy.out,(HB.out.setCell (p:=⟨w.heap.size+1,j,none⟩) (by show _≤w.heap.size+1;omega) _).setCell (p:=⟨w.heap.size,k,none⟩) (ag _) _⟩;have h1:=az (eN H1.out (k:=w.heap.size+1) (by omega) j (.int .i64 (q:Nat))) k (.int .i64 ((j+1:Nat):Int));rw[hm.out]at h1;have e2:(fun i=>if i=k then j+1 else cP l i+iU l i q)=fun i=>cP l i+iU l i (q+1):=by
     funext i;by_cases ei:i=k;·rw[LX ei,ei,hz.out,HJ.out,Nu]
     ·rw[LW ei,jB l i q (by rw[h9.out];exact e),LW (by rw[← HK.out];exact fun h=>ei h.symm)];rfl
    rw[e2]at h1;exact h1
   case measure=>simp[intOf];omega
  ·obtain rfl:q=n:=(by omega);clear ha hb h3 hw hi hg;go_wp2_with fail;go_ret;exact⟨_,F,rfl,HR.out,h8.out,HB.out⟩
def tbF(s0:Value)(K F P:Nat→Nat)(s4:Value)(i:Nat):Value:=if i=0 then s0 else if i<22 then .int .i64 (K (i - 1))else if i<43 then .int .i64 (F (i - 22))else if i<64 then .int .i64 (P (i - 43))else s4
def tb(s0:Value)(K F P:Nat→Nat)(s4:Value):Array Value:=(Array.range 65).map (tbF s0 K F P s4)
theorem ee(s0:Value)(K F P:Nat→Nat)(s4:Value):(tb s0 K F P s4).size=65:=by simp[tb]
theorem lT(s0:Value)(K F P:Nat→Nat)(s4:Value)(i:Nat)(h:i<65):(tb s0 K F P s4)[i]? =some (tbF s0 K F P s4 i):=by simp[tb,h]
theorem rN(s0:Value)(K F P:Nat→Nat)(s4:Value):(tb s0 K F P s4)[0]? =some s0:=by rw[lT _ _ _ _ _ 0 (by omega)];rfl
theorem xV(s0:Value)(K F P:Nat→Nat)(s4:Value)(k:Nat)(h:k<21):(tb s0 K F P s4)[1+k]? =some (.int .i64 (K k:Nat)):=by rw[lT _ _ _ _ _ _ (by omega),tbF,LW (by omega),LX (by omega),show 1+k - 1=k by omega]
theorem mG(s0:Value)(K F P:Nat→Nat)(s4:Value)(k:Nat)(h:k<21):(tb s0 K F P s4)[22+k]? =some (.int .i64 (F k:Nat)):=by rw[lT _ _ _ _ _ _ (by omega),tbF,LW (by omega),LW (by omega),LX (by omega),show 22+k - 22=k by omega]
theorem mH(s0:Value)(K F P:Nat→Nat)(s4:Value)(k:Nat)(h:k<21):(tb s0 K F P s4)[43+k]? =some (.int .i64 (P k:Nat)):=by rw[lT _ _ _ _ _ _ (by omega),tbF,LW (by omega),LW (by omega),LW (by omega),LX (by omega),show 43+k - 43=k by omega]
theorem xW(s0:Value)(K F P:Nat→Nat)(s4:Value):(tb s0 K F P s4)[64]? =some s4:=by rw[lT _ _ _ _ _ 64 (by omega)];rfl
theorem ux(s0:Value)(K F P:Nat→Nat)(s4:Value)(h0:s0.oneCell'=true)(h4:s4.oneCell'=true):(tb s0 K F P s4).all (·.oneCell')=true:=by
 rw[Pj];intro i h;have:(tb s0 K F P s4)[i]=tbF s0 K F P s4 i:=by simp[tb]
 rw[this,tbF];repeat' split
 all_goals first
  | exact h0
  | exact h4
  | rfl
theorem uw{cs:Array Value}{s0:Value}{K F P:Nat→Nat}{s4:Value}(hs:cs.size=65)(h:∀i,i<65→cs[i]? =some (tbF s0 K F P s4 i)):cs=tb s0 K F P s4:=by
 apply Array.ext_getElem?;intro i;by_cases hi:i<65;·rw[h i hi,lT _ _ _ _ _ i hi]
 ·rw[P0 (by omega),P0 (by rw[ee];omega)]
theorem KP{s0:Value}{K F P K2 F2 P2:Nat→Nat}{s4:Value}(hK:∀i,i<21→K i=K2 i)(hF:∀i,i<21→F i=F2 i)(hP:∀i,i<21→P i=P2 i):tb s0 K F P s4=tb s0 K2 F2 P2 s4:=by
 refine uw (ee ..) fun i hi=> ?_;rw[lT _ _ _ _ _ i hi,tbF,tbF];congr 1;split;·rfl
 ·split;·rw[hK _ (by omega)]
  ·split;·rw[hF _ (by omega)]
   ·split;·rw[hP _ (by omega)]
    ·rfl
theorem xX(s0:Value)(K F P:Nat→Nat)(s4:Value)(k x:Nat)(hk:k<21):(tb s0 K F P s4).setIfInBounds (22+k) (.int .i64 x)=tb s0 K (fun i=>if i=k then x else F i) P s4:=by
 refine uw (by rw[Ok,ee]) fun i hi=> ?_;rw[NZ,lT _ _ _ _ _ i hi,ee];by_cases e:22+k=i;·subst e;rw[LX rfl,LX hi,tbF,LW (by omega),LW (by omega),LX (by omega),LX (by omega)]
 ·rw[LW e,tbF,tbF];congr 1;split;·rfl
  ·split;·rfl
   ·split;·rw[LW (by omega)]
    ·rfl
theorem xY(s0:Value)(K F P:Nat→Nat)(s4:Value)(k x:Nat)(hk:k<21):(tb s0 K F P s4).setIfInBounds (43+k) (.int .i64 x)=tb s0 K F (fun i=>if i=k then x else P i) s4:=by
 refine uw (by rw[Ok,ee]) fun i hi=> ?_;rw[NZ,lT _ _ _ _ _ i hi,ee];by_cases e:43+k=i;·subst e;rw[LX rfl,LX hi,tbF,LW (by omega),LW (by omega),LW (by omega),LX (by omega),LX (by omega)]
 ·rw[LW e,tbF,tbF];congr 1;split;·rfl
  ·split;·rfl
   ·split;·rfl
    ·split;·rw[LW (by omega)]
     ·rfl
theorem AL(s0:Value)(K F P:Nat→Nat)(s4 v:Value):(tb s0 K F P s4).setIfInBounds 64 v=tb s0 K F P v:=by
 refine uw (by rw[Ok,ee]) fun i hi=> ?_;rw[NZ,lT _ _ _ _ _ i hi,ee];by_cases e:64=i;·subst e;rw[LX rfl,LX hi];rfl
 ·rw[LW e,tbF,tbF];congr 1;split;·rfl
  ·split;·rfl
   ·split;·rfl
    ·rw[LX (by omega),LX (by omega)]
def iV(cs:Array Value):Nat→List Value→Array Value
 | _, []=>cs
 | o,v :: vs=>iV (cs.setIfInBounds o v) (o+1) vs
theorem o9:∀(vs:List Value) (cs:Array Value) (o:Nat),(iV cs o vs).size=cs.size
 | [],_,_=>rfl
 | v :: vs,cs,o=>by rw[iV,o9 vs,Ok]
theorem rd:∀(vs:List Value) (cs:Array Value) (o i:Nat),i<cs.size→(iV cs o vs)[i]? =if o≤i∧i<o+vs.length then vs[i - o]? else cs[i]?
 | [],cs,o,i,_=>by rw[iV,LW (by simp)]
 | v :: vs,cs,o,i,h=>by
  rw[iV,rd vs _ _ i (by rw[Ok];exact h),NZ];by_cases e:o=i;·subst e;rw[LW (by omega),LX rfl,LX h,LX (by simp),Ng];rfl
  ·rw[LW e];by_cases e2:o+1≤i∧i<o+1+vs.length;·rw[LX e2,LX (by simp;omega),show i - o=(i - (o+1))+1 by omega];rfl
   ·rw[LW e2,LW (by simp;omega)]
theorem oi{g:Nat}{t:TypeId}:∀(vs:List Value) (cs:Array Value) (o:Nat) (w:World),Blk w g t cs→Blk (w.setCells g o vs) g t (iV cs o vs)
 | [],_,_,_,h=>h
 | v :: vs,cs,o,w,h=>by rw[World.setCells,iV];exact oi vs _ _ _ (az h o v)
theorem jn{B:Nat}{w:World}{g:Nat}(hg:B≤g):∀(vs:List Value) (o:Nat) (w':World),Below B w w'→Below B w (w'.setCells g o vs)
 | [],_,_,h=>h
 | v :: vs,o,w',h=>by rw[World.setCells];exact jn hg vs _ _ (h.setCell (p:=⟨g,o,none⟩) hg v)
theorem C9(s0:Value)(K F P K2:Nat→Nat)(s4:Value):iV (tb s0 K F P s4) 1 (eK K2).toList=tb s0 K2 F P s4:=by
 have hl:(eK K2).toList.length=21:=gu K2;refine uw (by rw[o9,ee]) fun i hi=> ?_;rw[rd _ _ _ i (by rw[ee];exact hi),hl];by_cases e:1≤i∧i<1+21;·rw[LX e,Ph,oh _ _ (by omega),tbF,LW (by omega),LX (by omega)]
 ·rw[LW e,lT _ _ _ _ _ i hi,tbF,tbF];congr 1;split;·rfl
  ·rw[LW (c:=i<22) (by omega),LW (c:=i<22) (by omega)]
theorem GE{w:World}{g:Nat}{t:TypeId}{s0:Value}{K F P:Nat→Nat}{s4:Value}(h:Blk w g t (tb s0 K F P s4)):w.rangeAt g 43 (eK P).toList:=by intro j v hv;rw[ac h];have hj:j<21:=(by have:=(List.getElem?_eq_some_iff.1 hv).1;have hl:(eK P).toList.length=21:=gu P;omega);rw[mH _ _ _ _ _ j hj,←hv,Ph,oh _ _ hj]
theorem JE{w:World}{g:Nat}{t:TypeId}{s0:Value}{K F P:Nat→Nat}{s4:Value}(h:Blk w g t (tb s0 K F P s4))(o n:Nat)(hn:o+n≤65):w.there g o n:=by intro j hj;refine⟨?_,ae h _⟩;rw[ac h,lT _ _ _ _ _ _ (by omega)];rfl
theorem nX:(∀ w,(zeroValue 203).run Tryz.prog w=.ok (.agg (tb (.slice none 0 0) (fun _=>0) (fun _=>0) (fun _=>0) (.slice none 0 0))) w)∧(Tryz.prog.info? 203).map (·.size)=some 65:=Qy (by kernel_rfl)
theorem G4:Tryz.prog.built 203 []=some (tb (.slice none 0 0) (fun _=>0) (fun _=>0) (fun _=>0) (.slice none 0 0)):=by kernel_rfl
theorem Ka(A:Option Addr)(n c:Nat):Tryz.prog.built 203 [(0,.slice A n c)]=some (tb (.slice A n c) (fun _=>0) (fun _=>0) (fun _=>0) (.slice none 0 0)):=by kernel_rfl
theorem aA.setRow{w:World}{B g c n:Nat}{f:Nat→Nat}(h:aA w B g c n f){k:Nat}(h0:g≠k)(cs:Array Value):aA (w.setRow k cs) B g c n f:=by
 refine⟨h.1,?_⟩;rcases h.2 with⟨h1,h2⟩ | ⟨g',cap,cur,hv,hB,hh,r⟩;·exact .inl ⟨h1,h2⟩
 ·have hg:g'=g:=(by simp only[Ns,MS,OV]at hv;exact hv.1.1.symm);refine .inr ⟨g',cap,cur,hv,hB,?_,r⟩;rw[setRow_other _ _ _ _ (by omega)];exact hh
theorem jo{g k:Nat}{t:TypeId}{cs:Array Value}(h0:g≠k):∀(vs:List Value) (o:Nat) (w:World),Blk w g t cs→Blk (w.setCells k o vs) g t cs
 | [],_,_,h=>h
 | v :: vs,o,w,h=>by rw[World.setCells];exact jo h0 vs _ _ (eN h h0 o v)
def tb0:Array Value:=tb (.slice none 0 0) (fun _=>0) (fun _=>0) (fun _=>0) (.slice none 0 0)
theorem jE:tb0.size=65:=ee ..
theorem xU:tb0.all (·.oneCell')=true:=ux _ _ _ _ _ rfl rfl
theorem setRow_self(w:World)(g:Nat)(cs:Array Value)(t:TypeId)(h:Blk w g t cs):Blk (w.setRow g cs) g t cs:=O9 _ _ _ _ _ _ h
theorem lQ{P:Program}{fn:Func}{p u:Tmp}{ty:TypeId}(h:fn.results=#[.cell p ty,.tmp u])(tmps:Array Value)(w:World)(g:Nat)(t:TypeId)(cs:Array Value)(fr:Nat×Nat)(d:TypeDesc)
 (hp:tmps.getD p undef=.pointer (some ⟨g,0,none⟩)) (hg:w.heap[g]? =some (.cells cs t fr)) (hu:P.underlying ty=some d) (hd:d.isRow=true) (hi:(P.info? ty).map (·.size)=some cs.size) (v:Value) (hv:tmps.getD u undef=v):
 (results fn tmps).run P w=.ok (.tuple #[.agg cs,v]) w:=by rw[results_cell_tmp h,hp,hv];have:=run_loadVar_mid (P:=P) w g 0 ty cs.toList d (fun j v hv=>by rw[MG,cell_of_row w g j cs t fr hg];simpa using hv) hu hd (by simpa using hi);simp[asAddr,this,Result.andThen]
theorem gR{P:Program}{ops:Array Oper}{rest:List Oper}{o:Oper}{a:Act}{w:World}{Q:Exit→Act→World→Prop}{x:Operand}
 (hw:Region.wanted o (yielded ops a.tmps)=true) (h0:o.op=.move x) (hn:wpList P ops Q rest (a.put o.dst (a.eval x)) w):wpList P ops Q (o :: rest) a w:=by unfold wpList;rw[LX hw];left;unfold Oper.wp;simp[execOp,h0];exact hn
theorem pi{P:Program}{ops:Array Oper}{rest:List Oper}{o:Oper}{a:Act}{w:World}{Q:Exit→Act→World→Prop}(hg:o.guard=none)(t:TypeId)(parts:Array (Nat×Operand))(ho:o.op=.build t parts)
 (ps:List (Nat×Value)) (h0:(parts.map fun(i,x)=>(i,a.eval x)).toList=ps) (cs:Array Value) (hb:P.built t ps=some cs)
 (h:wpList P ops Q rest (a.put o.dst (.agg cs)) w):wpList P ops Q (o :: rest) a w:=by
 refine wpList_build hg t parts ho ?_ ?_;·rw[h0,hb];rfl
 ·rw[h0,hb];exact h
theorem um(w:World)(A:Option Addr)(n c:Nat)(L:List Int)(hL:ZIn w A n L)(hn:n≤maxLen)(h:¬bU L):Calls Tryz.prog 162 #[.slice A n c] w fun e w'=>e=.returned (.tuple #[.agg tb0,.int .i64 80])∧Below w.heap.size w w':=by have hz:=nX.1;have hi:=nX.2;have h1:=G4;rw[show tb (.slice none 0 0) (fun _=>0) (fun _=>0) (fun _=>0) (.slice none 0 0)=tb0 from rfl]at hz h1;have h0:Below w.heap.size w (w.alloc (.cells tb0 203)):=(L6 _ w).alloc (ag _) _;have HC:=aa (lp (w.alloc (.cells tb0 203)) A n c L (hL.below h0) hn);rw[LW h]at HC;have hk:=ah w 203 tb0;have HK:=aa hk;have HS:=aa jE;have HO:=aa xU;have HI:=aa hi;have h4:=aa h1;generalize tb0=Z at*;have h3:=aa h0;clear hL h h0 hk hi h1;go_enter Tryz.func162,Tryz.ntmps162;go_wp2_with fail;clear hz;refine HC.out.mono ?_;rintro e w2 ⟨rfl,rfl⟩;generalize w.alloc (.cells Z 203)=w1 at*;have h2:Hid ((Tryz.prog.info? 203).map (·.size)=some Z.size):=aa (by rw[HS.out];exact HI.out);go_upto_region 3 with fail;refine OA (pi rfl _ _ rfl [] (by simp) Z h4.out ?_);have h5:=cu (P:=Tryz.prog) HK.out h2.out rfl HO.out;go_wp2_with fail;exact Mm (v:=.tuple #[.agg Z,.int .i64 80]) (lQ rfl _ _ _ _ _ _ _ rfl (setRow_self _ _ _ _ HK.out) Tryz.underlying203 rfl h2.out _ rfl) rfl ⟨rfl,below_setRow h3.out (ag _) _⟩
theorem tX(f:Nat→Nat)(k x:Nat)(h:x=f (k+1)):(fun i=>if i=k+1 then x else if i≤k then f i else 0)=fun i=>if i≤k+1 then f i else 0:=by
 funext i;by_cases e:i=k+1;·rw[LX e,LX (by omega),e,h]
 ·rw[LW e];by_cases e2:i≤k;·rw[LX e2,LX (by omega)]
  ·rw[LW e2,LW (by omega)]
theorem tY(f:Nat→Nat)(h:f 0=0):(fun i=>if i≤0 then f i else 0)=fun _=>0:=by
 funext i;by_cases e:i≤0;·rw[LX e,show i=0 by omega,h]
 ·rw[LW e]
theorem ri(w:World)(A:Option Addr)(n c:Nat)(L:List Int)(hL:ZIn w A n L)(hn:n≤maxLen)(h:bU L):Calls Tryz.prog 162 #[.slice A n c] w fun e w'=>
 ∃g F,e=.returned (.tuple #[.agg (tb (.slice A n c) (bA (nl L)) (fun k=>cd (nl L) k 0) (cP (nl L)) (.slice (some ⟨g,0,none⟩) n n)),.int .i64 0])∧aA w' w.heap.size g n n F∧dE (nl L) F n∧Below w.heap.size w w':=by
 have hz:=nX.1;have hi:=nX.2;rw[show tb (.slice none 0 0) (fun _=>0) (fun _=>0) (fun _=>0) (.slice none 0 0)=tb0 from rfl]at hz;have h0:Below w.heap.size w (w.alloc (.cells tb0 203)):=(L6 _ w).alloc (ag _) _;have HC:=aa (lp (w.alloc (.cells tb0 203)) A n c L (hL.below h0) hn);rw[LX h]at HC;have hk:=ah w 203 tb0;have HK:=aa hk;have HS:=aa jE;have HI:=aa hi;have hT:=aa (Ka A n c);have HV:=aa h0;have hG:=aa (hL.below h0);have hH:=aa h;have H3:=aa hL;obtain⟨l,hl⟩:∃l,l=nl L:=⟨_,rfl⟩;have h6:=hU hH.out;have pb:l.length=n:=by rw[hl,bV,hG.out.1]
 have rv:n≤258:=by have:=hH.out.2.1;rw[hG.out.1]at this;exact this
 rw[← hl]at h6;rw[← hl];have hV:=aa h6;have qa:=aa pb;have HL:=aa hl;clear h6 pb hl;generalize tb0=Z at*;clear hL h h0 hk hi;go_enter Tryz.func162,Tryz.ntmps162;go_wp2_with fail;refine HC.out.mono ?_;rintro e w2 ⟨rfl,rfl⟩;obtain⟨T0,hI⟩:∃T0,T0=tb (.slice A n c) (fun _=>0) (fun _=>0) (fun _=>0) (.slice none 0 0):=⟨_,rfl⟩;rw[← hI]at hT;have h8:T0.size=65:=by rw[hI,ee]
 have H7:=aa hI;clear hI;have hA:(w.alloc (.cells Z 203)).heap.size=w.heap.size+1:=by simp
 have h1:=aa hA;clear hA;generalize w.alloc (.cells Z 203)=w1 at*;go_upto_region 4 with fail;refine OA (gR rfl rfl (pi rfl _ _ rfl [(0,.slice A n c)] (by simp;rfl) T0 hT.out ?_));have pm:T0.all (·.oneCell')=true:=by rw[H7.out];exact ux _ _ _ _ _ rfl rfl
 have p6:(Tryz.prog.info? 203).map (·.size)=some T0.size:=by rw[h8];exact HI.out
 have HN:=cu (P:=Tryz.prog) (ah w1 203 Z) p6 (by rw[HS.out,h8]) pm;have HG:Blk ((w1.alloc (.cells Z 203)).setRow w1.heap.size T0) w1.heap.size 203 T0:=O9 _ _ _ _ _ _ (ah w1 203 Z);have hM:Below w1.heap.size w1 ((w1.alloc (.cells Z 203)).setRow w1.heap.size T0):=below_setRow ((L6 _ _).alloc (ag _) _) (ag _) _;have p2:=aa HG;have pg:((w1.alloc (.cells Z 203)).setRow w1.heap.size T0).cell? ⟨w1.heap.size,0,none⟩=some (.slice A n c):=by rw[ac HG,H7.out,rN]
 have hu:=aP hM HK.out;have hc:=aa hu;have hf:=aa (hG.out.below hM);have HX:=aa (HV.out.trans (hM.mono (by have:=h1.out;omega)));have hC:w1.heap.size<((w1.alloc (.cells Z 203)).setRow w1.heap.size T0).heap.size:=by rw[size_setRow];simp
 clear pm p6 HG hM hu;go_upto_region 5 with fail;clear HN;generalize (w1.alloc (.cells Z 203)).setRow w1.heap.size T0=w5 at*;have h4:=aa (EJ w5 A n c L hf.out hH.out);rw[← HL.out]at h4;clear hz;go_wp2_with fail;refine h4.out.mono ?_;rintro e w6 ⟨rfl,ho⟩;have hP:=aP ho p2.out;have hw:=aP ho hc.out;have hq:=aq HX.out ho;have hD:w1.heap.size<w6.heap.size:=Np hC ho.size;rw[H7.out]at hP;have HP:=JE hP 1 21 (by omega)
 have hy:=run_storeCells_cells (P:=Tryz.prog) w1.heap.size 1 (eK (bA l)).toList 0 w6 (fun j hj=>by
  have:(eK (bA l)).toList.length=21:=gu _
  have:=(HP j (by omega)).1
  simpa using this) (fun j hj=>by
  have:(eK (bA l)).toList.length=21:=gu _
  have:=(HP j (by omega)).2
  simpa using this) (fun v hv=>(Array.all_eq_true_iff_forall_mem.1 (yp (bA l))) v (by simpa using hv))
 simp only[MM]at hy;have HH:=oi (eK (bA l)).toList _ 1 w6 hP;rw[C9]at HH;have hF:=aa HH;have he:=aa (jo (k:=w1.heap.size) (by have:=h1.out;omega) (eK (bA l)).toList 1 w6 hw);have HW:=aa (jn (g:=w1.heap.size) (by have:=h1.out;omega) (eK (bA l)).toList 1 w6 hq);have pl:(eK (bA l)).size=21:=gu _;clear hP hw hq ho HP HH h4 p2 hc HX pg;generalize eK (bA l)=TK at*;go_upto_region 6 with fail;clear hy;have h9:w1.heap.size<(w6.setCells w1.heap.size 1 TK.toList).heap.size:=Np hD (jn (g:=w1.heap.size) (ag _) TK.toList 1 w6 (L6 w1.heap.size w6 |>.mono (ag _))).size;generalize w6.setCells w1.heap.size 1 TK.toList=w7 at*;obtain⟨g5,p5⟩:∃g5,g5=w1.heap.size:=⟨_,rfl⟩;rw[← p5]at hF h9 ⊢;have rl:w.heap.size<g5:=by have:=h1.out;omega
 clear hC hD h1 HK hG hf HV hT HC h8 p5;obtain⟨K,hK⟩:∃K,K=bA l:=⟨_,rfl⟩;rw[← hK]at hF;go_wp2_with fail;go_loopw [6,19] (fun s6 x wx=>∃k:Nat,k≤20∧x=.int .i64 k∧Blk wx g5 203 (tb (.slice A n c) K (fun i=>if i≤k then cd l i 0 else 0) (fun i=>if i≤k then cP l i else 0) (.slice none 0 0))∧Blk wx w.heap.size 203 Z∧Below w.heap.size w wx∧g5<wx.heap.size) (fun _ x _=>20 - (intOf x).toNat)
 case atStart=>refine⟨0,LY _,rfl,?_,he.out,HW.out,h9⟩;have e1:=tY (fun i=>cd l i 0) (EA l);have e2:=tY (cP l) (I7 l);rw[e1,e2];exact hF.out
 case round=>
  obtain⟨k,hk,rfl,h0,HD,hb,HO⟩:=hrel;have H1:=aa h0;have HZ:=aa HD;have HB:=aa hb;by_cases e:k<20
  ·have d0:decide ((k:Int)<20)=true:=bD (by omega);obtain⟨k1,HF⟩:∃k1,k1=k+1:=⟨_,rfl⟩;have rs:(k:Int)+1=(k1:Int):=(by omega);have q1:=(ac h0 (22+k)).trans (mG _ _ _ _ _ k (by omega));rw[LX (ag _)]at q1;have q2:=(ac h0 (1+k)).trans (xV _ _ _ _ _ k (by omega));have q3:=(ac h0 (22+k1)).trans (mG _ _ _ _ _ k1 (by omega));have f3:=ae h0 (22+k1);have hs:=Kd l e;rw[← HF,←hK]at hs;have HE:=LD hV.out (show k1≤20 by omega) 0;have hr:=wS l k;rw[← hK]at hr;obtain⟨x1,po⟩:∃x1,x1=cd l k 0:=⟨_,rfl⟩;obtain⟨y1,HQ⟩:∃y1,y1=K k:=⟨_,rfl⟩;obtain⟨z1,HR⟩:∃z1,z1=cd l k1 0:=⟨_,rfl⟩;rw[← po]at q1 hs;rw[← HQ]at q2 hs hr;rw[← HR]at hs HE;have r8:((x1:Int)+(y1:Int))*2=(z1:Int):=(by omega);have r7:x1≤1048576:=(by omega);have p4:=aa HQ;have qo:=aa HR;clear h0 HD hb hs po HQ HR;have r0:(k:Int)<21:=(by omega);have p7:(k1:Int)<21:=(by omega);go_upto_region 9 with fail;have hh:Blk wr.drew g5 203 (tb (.slice A n c) K (fun i=>if i≤k then cd l i 0 else 0) (fun i=>if i≤k then cP l i else 0) (.slice none 0 0)):=H1.out;have hE:Blk wr.drew w.heap.size 203 Z:=HZ.out;have hp:Below w.heap.size w wr.drew:=HB.out.drew;have HY:=aa hh;have p1:=aa hE;have p0:=aa hp;have h2:g5<wr.drew.heap.size:=HO;have p3:=aa h2;clear hh hE hp h2;have q3d:wr.drew.cell? ⟨g5,22+k1,none⟩=some (.int .i64 ((if k1≤k then cd l k1 0 else 0:Nat):Int)):=q3;have f3d:wr.drew.frozen? ⟨g5,22+k1,none⟩=false:=f3;obtain⟨s1,r4⟩:∃s1,s1=x1+y1:=⟨_,rfl⟩;have pk:(x1:Int)+(y1:Int)=(s1:Int):=(by omega);have r5:(s1:Int)*2=(z1:Int):=(by omega);have w1':IntKind.i64.wrap (k1:Int)=(k1:Int):=(by rw[MV];omega);have w2':IntKind.i64.wrap (s1:Int)=(s1:Int):=(by rw[MV];omega);have w3':IntKind.i64.wrap (z1:Int)=(z1:Int):=(by rw[MV];omega);have h5:=aa HF;clear r8 r4 HF;(go_still_tail 14,(by kernel_rfl));change wpList _ _ _ _ _ wr.drew;generalize wr.drew=wy at*;clear q1 q2 q3 f3;have hJ:=az HY.out (22+k1) (.int .i64 (z1:Nat));rw[xX _ _ _ _ _ k1 z1 (by omega)]at hJ;(have hS:(fun i=>if i=k1 then z1 else if i≤k then cd l i 0 else 0)=fun i=>if i≤k1 then cd l i 0 else 0:=by rw[h5.out];exact tX (fun i=>cd l i 0) k z1 (by rw[qo.out,h5.out]));rw[hS]at hJ;have ha:=aa hJ;have hY:=aa (eN p1.out (k:=g5) (by omega) (22+k1) (.int .i64 (z1:Nat)));have hW:=aa (p0.out.setCell (p:=⟨g5,22+k1,none⟩) (by show _≤g5;omega) (.int .i64 (z1:Nat)));have H4:Hid (g5<(wy.setCell ⟨g5,22+k1,none⟩ (.int .i64 (z1:Nat))).heap.size):=aa (by simpa using p3.out);clear hJ hS;go_upto_region 10 with fail;generalize wy.setCell ⟨g5,22+k1,none⟩ (.int .i64 (z1:Nat))=wz at*;clear q3d f3d HY p1 p0 p3 H1 HZ HB r7 pk r5 w2' w3';have r1:=(ac ha.out (43+k)).trans (mH _ _ _ _ _ k (by omega));rw[LX (ag _)]at r1;have r2:=(ac ha.out (1+k)).trans (xV _ _ _ _ _ k (by omega));have r3:=(ac ha.out (43+k1)).trans (mH _ _ _ _ _ k1 (by omega));have g3:=ae ha.out (43+k1);have hR:=xC l k;rw[← h5.out,←hK,←p4.out]at hR;have hx:=xB l k1;rw[qa.out]at hx;obtain⟨x2,pr⟩:∃x2,x2=cP l k:=⟨_,rfl⟩;obtain⟨z2,HT⟩:∃z2,z2=cP l k1:=⟨_,rfl⟩;rw[← pr]at r1 hR;rw[← HT]at hR hx;rw[← p4.out]at r2;have pk:(x2:Int)+(y1:Int)=(z2:Int):=(by omega);have w2':IntKind.i64.wrap (z2:Int)=(z2:Int):=(by rw[MV];omega);have qq:=aa HT;clear hR pr HT;have hh:Blk wz.drew g5 203 (tb (.slice A n c) K (fun i=>if i≤k1 then cd l i 0 else 0) (fun i=>if i≤k then cP l i else 0) (.slice none 0 0)):=ha.out;have hE:Blk wz.drew w.heap.size 203 Z:=hY.out;have hp:Below w.heap.size w wz.drew:=hW.out.drew;have q0:=aa hh;have hZ:=aa hE;have hX:=aa hp;have h2:g5<wz.drew.heap.size:=H4.out;have H5:=aa h2;clear hh hE hp h2;have q3d:wz.drew.cell? ⟨g5,43+k1,none⟩=some (.int .i64 ((if k1≤k then cP l k1 else 0:Nat):Int)):=r3;have f3d:wz.drew.frozen? ⟨g5,43+k1,none⟩=false:=g3;(go_still_tail 13,(by kernel_rfl));change wpList _ _ _ _ _ wz.drew;generalize wz.drew=wq at*;clear r1 r2 r3 g3;go_wp2_with fail;go_roundw;case rel=>refine⟨k1,by have:=h5.out;omega,by first | rfl | go_num,?_,eN hZ.out (k:=g5) (by omega) _ _,hX.out.setCell (p:=⟨g5,43+k1,none⟩) (by show _≤g5;omega) _,by simpa using H5.out⟩;have HA:=az q0.out (43+k1) (.int .i64 (z2:Nat));rw[xY _ _ _ _ _ k1 z2 (by omega)]at HA;(have hS:(fun i=>if i=k1 then z2 else if i≤k then cP l i else 0)=fun i=>if i≤k1 then cP l i else 0:=by rw[h5.out];exact tX (cP l) k z2 (by rw[qq.out,h5.out]));rw[hS]at HA;exact HA
   case measure=>have:=h5.out;simp[intOf];omega
  ·obtain rfl:k=20:=(by omega);have d0:decide ((20:Int)<20)=false:=aN (by omega);have h3:tb (.slice A n c) K (fun i=>if i≤20 then cd l i 0 else 0) (fun i=>if i≤20 then cP l i else 0) (.slice none 0 0)=tb (.slice A n c) K (fun i=>cd l i 0) (cP l) (.slice none 0 0):=KP (fun _ _=>rfl) (fun i hi=>LX (by omega)) (fun i hi=>LX (by omega));rw[h3]at h0;have H2:=aa h0;have pg:=(ac h0 0).trans (rN _ _ _ _ _);have H8:=aa (H3.out.below hb);have hg:=aa (p8 wr A n c L H8.out hH.out);rw[← HL.out]at hg;have hit:(Tryz.prog.info? 201).map (·.size)=some (eK (cP l)).toList.length:=(by rw[show (eK (cP l)).toList.length=21 from gu _];exact K1.2);have q5:=aa hit;have ql:=aa (GE h0);clear h3 H1 h0 hb HD hit he HW hF h9;go_upto_region 12 with fail;apply OA;(iterate 9 go_step);refine wpList_load_mid rfl _ _ rfl g5 43 rfl (eK (cP l)).toList _ ql.out Tryz.underlying201 rfl q5.out ?_;rw[Qj];go_wp2_with fail;refine hg.out.mono ?_;rintro e w8 ⟨g,F,rfl,h7,hB,hN⟩;have rb:g5<g:=(by have:=h7.lt.1;omega);have hQ:=aP hN H2.out;have ps:=aP hN HZ.out;have q8:=(ac hQ 64).trans (xW _ _ _ _ _);have f8:=ae hQ 64;obtain⟨T9,hm⟩:∃T9,T9=tb (.slice A n c) K (fun i=>cd l i 0) (cP l) (.slice (some ⟨g,0,none⟩) n n):=⟨_,rfl⟩;have HJ:=az hQ 64 (.slice (some ⟨g,0,none⟩) n n);rw[AL,←hm]at HJ;have pj:T9.size=65:=(by rw[hm,ee]);have pf:T9.all (·.oneCell')=true:=(by rw[hm];exact ux _ _ _ _ _ rfl rfl);have hO:(Tryz.prog.info? 203).map (·.size)=some T9.size:=(by rw[pj];exact HI.out);have ht:(Tryz.prog.info? 203).map (·.size)=some T9.toList.length:=hO;have q9:=aa HJ;have HU:=eN ps (k:=g5) (by omega) 64 (.slice (some ⟨g,0,none⟩) n n);have qb:=aa ((h7.other (g2:=g5) (by omega) 64 (.slice (some ⟨g,0,none⟩) n n)).setRow (k:=w.heap.size) (by omega) T9);have pv:=aa (below_setRow ((aq HB.out hN).setCell (p:=⟨g5,64,none⟩) (by show _≤g5;omega) (.slice (some ⟨g,0,none⟩) n n)) (ag _) T9);have r6:=cu (P:=Tryz.prog) HU hO (by rw[HS.out,pj]) pf;have qs:=aa HU;have q4:=aa ht;have H0:=aa hO;have qm:=aa hm;have H6:=aa hB;have HM:=HB.out.size;clear hQ ps HJ hO ht HU h7 hB hm pf hN;go_upto_region 13 with fail;refine OA (wpList_load_mid rfl _ _ rfl g5 0 rfl T9.toList _ (mz q9.out) Tryz.underlying203 rfl q4.out ?_);rw[Qj];go_wp2_with fail;refine Mm (v:=.tuple #[.agg T9,.int .i64 0]) (lQ rfl _ _ _ _ _ _ _ rfl (O9 _ _ _ _ _ _ qs.out) Tryz.underlying203 rfl H0.out _ rfl) rfl ⟨g,F,by rw[qm.out,hK],World.ownsRow.mono qb.out HM,H6.out,pv.out⟩
def fT(w:World)(g:Nat)(A:Option Addr)(n c:Nat)(l:List Nat):Prop:=∃gs F B,Blk w g 203 (tb (.slice A n c) (bA l) (fun k=>cd l k 0) (cP l) (.slice (some ⟨gs,0,none⟩) n n))∧aA w B gs n n F∧dE l F n
theorem fT.below{w w':World}{g:Nat}{A:Option Addr}{n c:Nat}{l:List Nat}(h:fT w g A n c l)(hb:Below w.heap.size w w'):fT w' g A n c l:=by obtain⟨gs,F,B,h1,h2,h3⟩:=h;exact⟨gs,F,B,aP hb h1,aA.below h2 hb h2.lt.2,h3⟩
theorem yC(w:World)(g:Nat)(A:Option Addr)(n c:Nat)(l:List Nat)(hT:fT w g A n c l)(h0:fQ l)(x k:Nat)(hk:k≤20)(hx:x<2 ^ k):Calls Tryz.prog 278 #[.pointer (some ⟨g,0,none⟩),.int .i64 x,.int .i64 k] w fun e w'=>e=.returned (.bool (decide (x*pw k<jI l)))∧∃d,w'=w.drewN d:=by
 obtain⟨gs,F,B,hb,_,_⟩:=hT;have q1:=(ac hb (22+20)).trans (mG _ _ _ _ _ 20 (by omega));have q2:=(ac hb (1+20)).trans (xV _ _ _ _ _ 20 (by omega));have hl:=Kc h0;have h2:=h0.sum;obtain⟨a,ha⟩:∃a,a=cd l 20 0:=⟨_,rfl⟩;obtain⟨b,h4⟩:∃b,b=bA l 20:=⟨_,rfl⟩;rw[← ha]at q1 hl;rw[← h4]at q2 hl;obtain⟨S,hS⟩:∃S,S=jI l:=⟨_,rfl⟩;rw[← hS]at hl h2 ⊢;have h8:(a:Int)+(b:Int)=(S:Int):=by omega
 have hw:IntKind.i64.wrap (S:Int)=(S:Int):=by rw[MV];omega
 have h3:x*pw k<1048576:=by rw[← Ak hk];exact Nw hx (ga k)
 obtain⟨j,hj⟩:∃j,j=20 - k:=⟨_,rfl⟩;have h9:(20:Int) - (k:Int)=(j:Int):=by omega
 have h5:pw k=2 ^ j:=by rw[hj];rfl
 rw[h5]at h3 ⊢;have h6:=aa h3;clear hb ha h4 hS hl h5 hx h0 h2 hj h3 hk;go_enter Tryz.func278,Tryz.ntmps278;go_upto_region 1 with fail;go_quiet (fail);go_wp2_with fail;have h7:wrap64 ((x:Int)*2 ^ j)=((x*2 ^ j:Nat):Int):=by have h1:((x:Int)*2 ^ j)=((x*2 ^ j:Nat):Int):=(by rw[PJ,PI];rfl);rw[h1];have:=h6.out;generalize x*2 ^ j=y at*;unfold wrap64;omega
 rw[h7];have hd:decide (((x*2 ^ j:Nat):Int)<(S:Int))=decide (x*2 ^ j<S):=by
  generalize x*2 ^ j=y;by_cases h:y<S;·rw[L8 h,bD (by omega)]
  ·rw[L7 h,aN (by omega)]
 rw[hd];go_ret;exact⟨rfl,_,rfl⟩
theorem Bu(w:World)(g:Nat)(A:Option Addr)(n c:Nat)(L:List Int)(hT:fT w g A n c (nl L))(hL:ZIn w A n L)(ho:bU L):Calls Tryz.prog 163 #[.pointer (some ⟨g,0,none⟩)] w fun e w'=>∃gc,e=.returned (.slice (some ⟨gc,0,none⟩) n n)∧aA w' w.heap.size gc n n (dR (nl L))∧Below w.heap.size w w':=by
 have hE:=hL.1;have hO:n≤258:=by have:=ho.2.1;omega
 obtain⟨b,off,rfl,h7⟩:=mS hL ho;have h6:=hU ho;obtain⟨l,hl⟩:∃l,l=nl L:=⟨_,rfl⟩;have hD:l.length=n:=by rw[hl,bV,hE]
 rw[← hl]at h7 h6 hT ⊢;obtain⟨gs,F,B,hb,hi,hm⟩:=hT;have HF:=aa h6;have h5:=aa hD;have hv:=aa h7;have hu:=aa hb;have hw:=aa hi;have hc:=aa hm;have q4:=(ac hb 64).trans (xW _ _ _ _ _);have hM:=bC w n (by omega);have hI:=aa (bh w w.heap.size n (ag _) (by omega));clear hl ho hL hE h6 hD h7 hb hi hm;go_enter Tryz.func163,Tryz.ntmps163;go_upto_region 2 with fail;have q5:(w.alloc (.cells (madeCells #[.int .i64 0] n) 3)).cell? ⟨g,64,none⟩=some (.slice (some ⟨gs,0,none⟩) n n):=by rw[World.cell?_alloc_lt _ _ _ (Md w _ q4)];exact q4
 clear hM;go_wp2_with fail;clear q4 q5;go_loopw [4,5,6,18] (fun s4 s5 s6 x wx=>∃(q:Nat) (G:Nat→Nat),q≤n∧x=.int .i64 q∧Hid (∀ j,j<q→G (F j)=dR l (F j))∧aA wx w.heap.size w.heap.size n n G∧Below w.heap.size w wx) (fun _ _ _ x _=>n - (intOf x).toNat)
 case atStart=>exact⟨0,fun _=>0,LY _,rfl,aa (fun s hs=>by omega),hI.out,(L6 _ w).alloc (ag _) _⟩
 case round=>
  obtain⟨q,G,hq,rfl,hG,hr,hz⟩:=hrel;have HR:=aa hr;have HB:=aa hz;by_cases e:q<n
  ·have hB:=hc.out;rw[← h5.out]at hB;obtain⟨h4,hF⟩:=hB.get (i:=q) (by rw[h5.out];exact e);have h0:=yN h4;rw[hF]at h0;have h8:=HF.out.one h4;have hh:=sC HF.out h4;have hn:=(hw.out).cell q e;have hf:=hv.out (F q) (by rw[← h5.out];exact h4);rw[h5.out]at h4;obtain⟨s,hs⟩:∃s,s=F q:=⟨_,rfl⟩;rw[← hs]at h0 hn hf h4 h8 hh;obtain⟨k,hk⟩:∃k,k=l.getD s 0:=⟨_,rfl⟩;rw[← hk]at h0 hf h8;have q0:=(ac hu.out 0).trans (rN _ _ _ _ _);have q1:=(ac hu.out (22+k)).trans (mG _ _ _ _ _ k (by omega));have q2:=(ac hu.out (43+k)).trans (mH _ _ _ _ _ k (by omega));obtain⟨x1,hC⟩:∃x1,x1=cd l k 0:=⟨_,rfl⟩;obtain⟨p1,hp⟩:∃p1,p1=cP l k:=⟨_,rfl⟩;obtain⟨v1,ht⟩:∃v1,v1=dR l s:=⟨_,rfl⟩;have hA:=xB l k;rw[h5.out,←hp]at hA;rw[← hC]at q1;rw[← hp]at q2;rw[← hC,←hp,←ht]at h0;rw[← ht]at hh;have qcw:=(HB.out.cell (p:=⟨gs,q,none⟩) (Md w _ hn)).trans hn;have qcs:=(HB.out.cell (p:=⟨b,off+s,none⟩) (Md w _ hf)).trans hf;have q0':=(HB.out.cell (p:=⟨g,0,none⟩) (Md w _ q0)).trans q0;have q1':=(HB.out.cell (p:=⟨g,22+k,none⟩) (Md w _ q1)).trans q1;have q2':=(HB.out.cell (p:=⟨g,43+k,none⟩) (Md w _ q2)).trans q2;have h9:=aa (tx wr b off n c s k h4 qcs);obtain⟨y1,hN⟩:∃y1,y1=x1+q:=⟨_,rfl⟩;have hQ:(x1:Int)+(q:Int)=(y1:Int):=(by omega);have hP:(y1:Int) - (p1:Int)=(v1:Int):=(by omega);have w1':IntKind.i64.wrap (y1:Int)=(y1:Int):=(by rw[MV];omega);have w2':IntKind.i64.wrap (v1:Int)=(v1:Int):=(by rw[MV];omega);have hK:(k:Int)<21:=(by omega);have HS:=aa hs;have HV:=aa ht;have hg:=(HR.out).cell s h4;have he:=(HR.out).frozen s;clear hn hf q0 q1 q2 hF hB h0 hC hp hN h8 hk hr hz hs ht qcs;have t1:({ heap:=wr.heap,tape:=wr.tape,drawn:=wr.drawn+1,os:=wr.os,output:=wr.output }:World).cell? ⟨g,22+k,none⟩=some (.int .i64 (x1:Nat)):=q1';have t2:({ heap:=wr.heap,tape:=wr.tape,drawn:=wr.drawn+1,os:=wr.os,output:=wr.output }:World).cell? ⟨g,43+k,none⟩=some (.int .i64 (p1:Nat)):=q2';have hx:=aa t1;have hy:=aa t2;clear t1 t2 q1' q2';(go_upto_region 6 with(go_at_call 165;refine h9.out.mono ?_;rintro e w4 ⟨rfl,rfl⟩));have t1:=hx.out;have t2:=hy.out;have u1:wr.drew.cell? ⟨w.heap.size,s,none⟩=some (.int .i64 (G s:Nat)):=hg;have u2:wr.drew.frozen? ⟨w.heap.size,s,none⟩=false:=he;have u3:wr.drew.cell? ⟨g,22+k,none⟩=some (.int .i64 (x1:Nat)):=hx.out;have u4:wr.drew.cell? ⟨g,43+k,none⟩=some (.int .i64 (p1:Nat)):=hy.out;have hJ:Hid (aA wr.drew w.heap.size w.heap.size n n G):=HR;have hH:=aa (HB.out.drew);(go_still_tail 18,(by kernel_rfl));change wpList _ _ _ _ _ wr.drew;generalize wr.drew=wy at*;clear t1 t2 u3 u4 hx hy hg he qcw q0' h9;go_wp2_with fail;go_roundw;case rel=>
    refine⟨q+1,fun j=>if j=s then v1 else G j,by omega,by go_num,aa fun j hj=> ?_,hJ.out.set s v1,hH.out.setCell (p:=⟨w.heap.size,s,none⟩) (ag _) _⟩;show(if F j=s then v1 else G (F j))=dR l (F j);by_cases ej:F j=s;·rw[LX ej,ej,HV.out]
    ·rw[LW ej];refine hG.out j ?_;by_cases e2:j=q;·exact absurd (by rw[e2,HS.out]) ej
     ·omega
   case measure=>simp[intOf];omega
  ·obtain rfl:q=n:=(by omega);have h3:aA wr w.heap.size w.heap.size q q (dR l):=by
    have h:=hr;unfold aA at h ⊢
    rw[← bW q G (dR l) fun s hs=>by
     have h1:=hG.out (jv l s) (by rw[← h5.out];exact Cf (by rw[h5.out];exact hs))
     have h2:=hc.out s hs
     rw[h2]at h1
     exact h1]
    exact h
   have ha:=aa h3;clear hr hz h3 hG;go_wp2_with fail;go_ret;exact⟨_,rfl,ha.out,HB.out⟩
theorem KD(x b:Nat)(hx:x<1073741824)(hb:b<2):bits BinOp.or IntKind.i64 ((x:Int)*2) (b:Int)=((2*x+b:Nat):Int):=by have e:(x:Int)*2=((2*x:Nat):Int):=(by omega);rw[e];show IntKind.i64.wrap ((BitVec.ofInt 64 ((2*x:Nat):Int) ||| BitVec.ofInt 64 (b:Int)).toNat:Int)=_;have h:2*x ||| b=2*x+b:=(by have h:=nat_join 1 (2*x) b (by omega) (by omega);exact h);rw[BitVec.toNat_or,BitVec.ofInt_natCast,BitVec.ofInt_natCast,BitVec.toNat_ofNat,BitVec.toNat_ofNat,Ms (show 2*x<2 ^ 64 by omega),Ms (show b<2 ^ 64 by omega),h,MV];omega
def nxV:Nx→Nat×Nat
 | .hit i=>(i,0)
 | .short=>(0,10)
 | .code=>(0,90)
def AY(w:World)(p:Nat)(s:ByteArray)(at':Nat)(l:List Nat)(x:Nx)(e:Ending)(w':World):Prop:=
 e=.returned (.tuple #[.int .i64 (nxV x).1,.int .i64 (nxV x).2])∧(∀ i,x=.hit i→IsR p w' p s (at'+l.getD i 0))∧ak p [p] [] w w'
theorem qw{w:World}{g p:Nat}{t u:TypeId}{cs ds:Array Value}(h:Blk w g t cs)(k:Blk w p u ds)(h0:t≠u):g≠p:=by rintro rfl;unfold Blk at h k;rw[h]at k;simp only[MS,Qm]at k;exact h0 k.2.1
theorem Ec{w:World}{B g c n p:Nat}{f:Nat→Nat}{u:TypeId}{ds:Array Value}(h:aA w B g c n f)(k:Blk w p u ds)(h0:(3:TypeId)≠u):g≠p:=by
 rintro rfl;rcases h.2 with⟨h1,h2⟩ | ⟨g',cap,cur,hv,hB,hh,r⟩;·cases h1
 ·simp only[Ns,MS,OV]at hv;have hg:g'=g:=hv.1.1.symm;rw[hg]at hh;unfold Blk at k;rw[hh]at k;simp only[MS,Qm]at k;exact h0 k.2.1
theorem aA.step{w w':World}{B gs C p k:Nat}{n:Nat}{F:Nat→Nat}{ts:List TypeId}{u:TypeId}{ds:Array Value}(h:aA w B gs k n F)(hs:ak C [p] ts w w')(hp:Blk w p u ds)(h3:(3:TypeId)≠u)(t3:(3:TypeId)∉ts):aA w' B gs k n F:=by
 have n2:=Ec h hp h3
 exact hs.row h (fun k hk=>by
  have e:k=gs:=by simpa [Value.ownBlock]using hk.symm
  rw[e]
  simpa using n2) t3
theorem fT.steps{w w':World}{g p C:Nat}{A:Option Addr}{n c:Nat}{l:List Nat}{ts:List TypeId}{u:TypeId}{ds:Array Value}(h:fT w g A n c l)(hs:ak C [p] ts w w')(hp:Blk w p u ds)(h3:(3:TypeId)≠u)(h0:(203:TypeId)≠u)(t3:(3:TypeId)∉ts)(t57:(203:TypeId)∉ts):fT w' g A n c l:=by obtain⟨gs,F,B,h1,h2,h4⟩:=h;have n1:=qw h1 hp h0;exact⟨gs,F,B,hs.blk h1 (by simpa using n1) t57,h2.step hs hp h3 t3,h4⟩
theorem fT.step{w w':World}{g p C:Nat}{A:Option Addr}{n c:Nat}{l:List Nat}{ds:Array Value}(h:fT w g A n c l)(hs:ak C [p] [] w w')(hp:Blk w p 120 ds):fT w' g A n c l:=
 h.steps hs hp (by decide) (by decide) ay ay
theorem fT.drewN{w:World}{g:Nat}{A:Option Addr}{n c:Nat}{l:List Nat}(h:fT w g A n c l)(d:Nat):fT (w.drewN d) g A n c l:=h
theorem IsR.drewN{B:Nat}{w:World}{p:Nat}{s:ByteArray}{n:Nat}(h:IsR B w p s n)(d:Nat):IsR B (w.drewN d) p s n:=⟨h.lo,h.blk⟩
theorem EH(w:World)(g p:Nat)(A:Option Addr)(n c:Nat)(L:List Int)(s:ByteArray)(at':Nat)(hT:fT w g A n c (nl L))(H8:L.length=n)(hW:bU L)(hR:IsR p w p s at')(hs:s.size≤281474976710656)(h4:at'≤8*s.size):
 Calls Tryz.prog 246 #[.pointer (some ⟨g,0,none⟩),.pointer (some ⟨p,0,none⟩)] w (AY w p s at' (nl L) (iI (nl L) ((ai s.data.toList).drop at'))):=by
 have HU:n≤258:=by have:=hW.2.1;omega
 have he:=hU hW;obtain⟨l,hl⟩:∃l,l=nl L:=⟨_,rfl⟩;have H7:l.length=n:=by rw[hl,bV,H8]
 rw[← hl]at he hT ⊢;obtain⟨Bs,ht⟩:∃Bs,Bs=ai s.data.toList:=⟨_,rfl⟩;obtain⟨bs,hF⟩:∃bs,bs=Bs.drop at':=⟨_,rfl⟩;rw[← ht,←hF];have hO:Bs.length=8*s.size:=by rw[ht,aw];rfl
 have H6:bs.length=8*s.size - at':=by rw[hF,Mc,hO]
 have hE:au bs:=by rw[hF,ht];exact(aI _).drop _
 have hD:au Bs:=by rw[ht];exact aI _
 have HF:=aa he;have hL:=aa H7;have hA:=aa H6;have HC:=aa hF;have hK:=aa ht;have hc:=aa hE;have HB:=aa hD;have hB:=aa hO;have HR:=aa hR;have HT:=aa hT;have HP:Hid (∀ (x:Nx) (w':World),iI l bs=x→(∀ i,x=.hit i→IsR p w' p s (at'+l.getD i 0))→ak p [p] [] w w'→AY w p s at' l (iI l bs) (.returned (.tuple #[.int .i64 (nxV x).1,.int .i64 (nxV x).2])) w'):=aa fun x w' h h2 h3=>⟨by rw[h],by rw[h];exact h2,h3⟩;generalize AY w p s at' l (iI l bs)=PO at*;clear hT hR hW H8 hl he H7 ht hF hO H6 hE hD;go_enter Tryz.func246,Tryz.ntmps246;go_wp2_with fail;go_loopw [6,7] (fun cv kv wx=>∃k x:Nat,1≤k∧k≤20∧kv=.int .i64 k∧cv=.int .i64 x∧Hid (k - 1≤bs.length∧x=val (bs.take (k - 1)))∧Hid (u6 l bs k)∧Hid (iI l bs=fp l bs (21 - k) k)∧IsR p wx p s (at'+(k - 1))∧fT wx g A n c l∧ak p [p] [] w wx) (fun _ kv _=>22 - (intOf kv).toNat)
 case atStart=>exact⟨1,0,L5 _,by omega,rfl,rfl,aa ⟨LY _,by simp[val]⟩,aa (fun k h1 h2=>by omega),aa rfl,HR.out,HT.out,ak.refl _ _ _ _⟩
 case round=>
  obtain⟨k,x,HS,h8,rfl,rfl,hx,h0,hV,hR,hT,hS⟩:=hrel;have hY:=aa hR;have H2:=aa hT;have hM:=aa hS;have h7:=hV.out;rw[show 21 - k=(20 - k)+1 by omega]at h7;by_cases es:bs.length<k;·rw[zY es]at h7;have hC:=aa (dL p wr p s (at'+(k - 1)) 1 hR hs (by omega) (by have:=hx.out.1;have:=hA.out;omega) (by have:=hx.out.1;have:=hA.out;omega));have hp:=aa h7;clear h7 hV h0 hR hT hS;go_wp2_with fail;refine hC.out.mono ?_;rintro e w3 ⟨rfl,hJ,hu⟩;have h9:=aa (HP.out _ w3 hp.out (fun i h=>by cases h) (hM.out.trans hu));clear hJ hu;go_wp2_with fail;first | exact h9.out | (go_ret2;exact h9.out)
  ·have hC:=aa (fA p wr p s (at'+(k - 1)) 1 hR hs (by omega) (by have:=hA.out;omega));obtain⟨b,hb⟩:∃b,b=Bs.getD (at'+(k - 1)) 0:=⟨_,rfl⟩;have HI:b<2:=(by rw[hb];exact Lc _ _ HB.out);have HA:val (((ai s.data.toList).drop (at'+(k - 1))).take 1)=b:=(by have h:=mK Bs (at'+(k - 1)) 0 (by rw[hB.out];have:=hA.out;omega);rw[← hK.out];rw[MG]at h;rw[h,hb,MM];simp[val]);rw[HA]at hC;obtain⟨v,hv⟩:∃v,v=2*x+b:=⟨_,rfl⟩;have hX:v=val (bs.take k):=(by have h:=mK Bs at' (k - 1) (by rw[hB.out];have:=hA.out;omega);rw[← HC.out,show k - 1+1=k by omega]at h;rw[h,←hx.out.2,hv,hb]);have htl:(bs.take k).length=k:=(by rw[Mj];omega);have hH:v<2 ^ k:=(by have h:=iE _ (hc.out.take k);rw[htl]at h;rw[hX];exact h);have HV:v<2097152:=(by have h3:2 ^ k≤2 ^ 20:=MW (by decide) h8;omega);have HM:=KD x b (by omega) HI;rw[← hv]at HM;have HW:x<2097152:=(by omega);have hr:=aa hX;have HH:=aa hH;have ho:=aa es;have hp:=aa h7;clear h7 hV HA hv hX htl hH es hb hT hS hR;go_wp2_with fail;refine hC.out.mono ?_;rintro e w3 ⟨rfl,hJ,hu⟩;have H5:=hM.out.trans hu;have hP:=H2.out.step hu hY.out.blk;have hZ:=aa hJ;have hN:=aa H5;have H3:=aa hP;have hz:=aa (yC w3 g A n c l hP HF.out v k h8 HH.out);clear hJ hu H5 hP hC hY H2 hM;by_cases eb:v*pw k<jI l
   ·rw[L8 eb]at hz;have HD:=aa eb;clear eb;go_wp2_with fail;refine hz.out.mono ?_;rintro e w5 ⟨rfl,d,rfl⟩;have H0:Hid (IsR p (w3.drewN d) p s (at'+(k - 1)+1)):=aa (hZ.out.drewN d);have H4:=aa (H3.out.drewN d);have H1:=aa (hN.out.drewN d);generalize w3.drewN d=w5 at*;clear hZ H3 hN hz;obtain⟨gs,F,B,hw,hh,hk⟩:=H4.out;have hI:val (bs.take k)*pw k<jI l:=(by rw[← hr.out];exact HD.out);have hG:=sR HF.out hc.out (n:=k) (by have:=ho.out;omega) h8 h0.out hI;rw[← hr.out]at hG;obtain⟨f,hf⟩:∃f,f=cd l k 0:=⟨_,rfl⟩;obtain⟨m,hm⟩:∃m,m=bA l k:=⟨_,rfl⟩;have q1:=(ac hw (22+k)).trans (mG _ _ _ _ _ k (by omega));have q2:=(ac hw (1+k)).trans (xV _ _ _ _ _ k (by omega));rw[← hf]at q1 hG;rw[← hm]at q2;obtain⟨j,hj⟩:∃j,j=v - f:=⟨_,rfl⟩;have HQ:(v:Int) - (f:Int)=(j:Int):=(by omega);have hQ:=wS l k;rw[hL.out,←hm]at hQ;have HL:(k:Int)<21:=(by omega);have HN:=aa hp.out;by_cases ej:j<m
    ·have h4:=K8 HF.out (F:=F) (by rw[hL.out];exact hk) (n:=k) (v:=v) (by rw[← hf];exact hG) (by rw[← hf,←hm,←hj];exact ej);rw[← hf,←hj,hL.out]at h4;have q3:=(ac hw (43+k)).trans (mH _ _ _ _ _ k (by omega));have q4:=(ac hw 64).trans (xW _ _ _ _ _);obtain⟨q,hq⟩:∃q,q=cP l k:=⟨_,rfl⟩;rw[← hq]at h4 q3;obtain⟨i,hi⟩:∃i,i=q+j:=⟨_,rfl⟩;rw[← hi]at h4;have HJ:=h4.1;have HO:(q:Int)+(j:Int)=(i:Int):=(by omega);have q5:=hh.cell i HJ;obtain⟨y,hy⟩:∃y,y=F i:=⟨_,rfl⟩;rw[← hy]at q5 h4;have hg:=HN.out;have h2:=h4.2;rw[hr.out]at h2;rw[IU ho.out h2]at hg;have ha:=(jQ h2).2.1
     have h9:=aa fun d=>HP.out _ (w5.drewN d) hg (fun i' h'=>by
      have e:y=i':=by injection h'
      rw[← e,ha,show at'+k=at'+(k - 1)+1 by omega]
      exact H0.out.drewN d) (H1.out.drewN d)
     have w1':IntKind.i64.wrap (i:Int)=(i:Int):=(by rw[MV];omega);clear hw hh hk hI hG hf hm hj hQ h4 hq hi hy hg h2 ha HP HN hp h0;go_upto_region 12 with fail;go_quiet (fail);go_wp2_with fail;first | exact h9.out _ | (go_ret2;exact h9.out _)
    ·have h4:ml l k v=none:=J7 (by rw[← hm,←hf,←hj];omega);rw[hr.out]at h4;have hn:=HN.out;rw[tH ho.out h4,LX hI]at hn;have HK:k<20:=by
      rcases MF k 20 with h | h;·exact h
      ·exfalso;obtain⟨i,hi⟩:=(qE HF.out hc.out (n:=k) (by have:=ho.out;omega) h8 h0.out).2 hI;have h5:=(HF.out.one hi.1).2;have h6:=hi.2.1;exact pW h4 i (hi.is (by omega))
     have HG:=aa (h0.out.up h4);have HE:=aa hn;clear hw hh hk hI hG hf hm hj hQ h4 hn HP HN hp h0;go_wp2_with fail;go_roundw;case rel=>refine⟨k+1,v,by omega,by omega,by go_num,rfl,aa ⟨by have:=ho.out;omega,by rw[hr.out];rfl⟩,HG,aa (by rw[HE.out,show 21 - (k+1)=20 - k by omega]),?_,H4.out,H1.out⟩;rw[show at'+(k+1 - 1)=at'+(k - 1)+1 by omega];exact H0.out
     case measure=>simp[intOf];omega
   ·rw[L7 eb]at hz;have hn:=hp.out;have h4:=Eh HF.out eb;rw[hr.out]at h4 eb;rw[tH ho.out h4,LW eb]at hn;have HN:=aa hn;clear hn h4 eb;go_wp2_with fail;refine hz.out.mono ?_;rintro e w5 ⟨rfl,d,rfl⟩;have h9:=aa (HP.out _ (w3.drewN d) HN.out (fun i h=>by cases h) (hN.out.drewN d));go_wp2_with fail;first | exact h9.out | (go_ret2;exact h9.out)
theorem uk(w:World)(T:Array Value)(hs:T.size=65)(h1:T.all (·.oneCell')=true):(storeCells ⟨w.heap.size,0,none⟩ T.toList 0).run Tryz.prog (w.alloc (.cells tb0 203))=.ok () ((w.alloc (.cells tb0 203)).setRow w.heap.size T)∧
 Blk ((w.alloc (.cells tb0 203)).setRow w.heap.size T) w.heap.size 203 T∧Below w.heap.size w ((w.alloc (.cells tb0 203)).setRow w.heap.size T):=by refine⟨cu (ah w 203 tb0) (by rw[hs];exact nX.2) (by rw[jE,hs]) h1,O9 _ _ _ _ _ _ (ah w 203 tb0),?_⟩;exact below_setRow ((L6 _ _).alloc (ag _) _) (ag _) _
theorem Jy(w w2:World)(A:Option Addr)(n c g B:Nat)(l:List Nat)(F:Nat→Nat)(T:Array Value)(hT:T=tb (.slice A n c) (bA l) (fun k=>cd l k 0) (cP l) (.slice (some ⟨g,0,none⟩) n n))(hk:Blk w2 w.heap.size 203 T)(hb:Below w.heap.size w w2)(hr:aA w B g n n F)(hs:dE l F n):fT w2 w.heap.size A n c l:=by subst hT;exact⟨g,F,B,hk,hr.below hb hr.lt.2,hs⟩
theorem Kj(s:ByteArray):(ai s.data.toList).length=8*s.size:=by rw[aw];rfl
theorem FP{w:World}{B e n p:Nat}{v:Value}{xs:List Value}{u:TypeId}{ds:Array Value}(h:w.ownsRow B e 1 v n xs)(k:Blk w p u ds)(h0:e≠u):∀j,v.ownBlock=some j→j∉ [p]:=by intro j hj hm;rw[MK]at hm;subst hm;obtain⟨c1,f1,e1⟩:=Lib.ownsRow_kind h j hj;unfold Blk at k;rw[e1]at k;simp only[MS,Qm]at k;exact h0 k.2.1
theorem yB(w:World)(A:Option Addr)(n c:Nat)(L:List Int)(s:ByteArray)(at' k en:Int)(hL:ZIn w A n L)(hn:n≤maxLen)(hs:s.size≤2000000)(_: -9223372036854775808≤at')(_:at'≤9223372036854775807)(_: -9223372036854775808≤k)(_:k≤9223372036854775807)(_: -9223372036854775808≤en)(_:en≤9223372036854775807):
 Calls Tryz.prog 218 #[.slice A n c,.string s,.int .i64 at',.int .i64 k,.int .i64 en] w (bz w (fD L (ai s.data.toList) at' k en)):=by
 have hz:=nX.1;rw[show tb (.slice none 0 0) (fun _=>0) (fun _=>0) (fun _=>0) (.slice none 0 0)=tb0 from rfl]at hz;have H7:=aa uk;have H4:=aa (Kj s);have HP:Hid (∀ (v:Value) (a:List Nat×Nat×Nat) (w':World),fD L (ai s.data.toList) at' k en=a→w'.ownsRow w.heap.size 3 1 v a.1.length (a.1.map iv)→Below w.heap.size w w'→bz w (fD L (ai s.data.toList) at' k en) (.returned (.tuple #[v,.int .i64 a.2.1,.int .i64 a.2.2])) w'):=aa fun v a w' h1 h2 h3=>⟨v,by rw[h1],by rw[h1];exact h2,h3⟩;by_cases h:bU L
 ·have HT:=aa (ri w A n c L hL hn h);have hf:fD L (ai s.data.toList) at' k en=(if at'<0∨(8*(s.size:Int))<at'∨k<0 then([],0,2)else fU (nl L) (ai s.data.toList) en k.toNat at'.toNat []):=by rw[fD,LX h,H4.out];rfl
  generalize bz w (fD L (ai s.data.toList) at' k en)=PO at*;generalize fD L (ai s.data.toList) at' k en=ans at*;have HO:=aa jE;have HW:=aa hL.1;have HK:=aa h;have p1:=aa fun(K F P:Nat→Nat) (s4:Value)=>ee (.slice A n c) K F P s4;have HV:=aa Jy;have hc:=aa hf;obtain⟨i3,h3,pg,pj,pk⟩:=MT Tryz.info3;clear hL h hf;go_enter Tryz.func218,Tryz.ntmps218;generalize tb0=Z at*;go_wp2_with fail;refine HT.out.mono ?_;rintro e w2 ⟨g,F,rfl,hE,hG,hb⟩;obtain⟨T9,hB⟩:∃T9,T9=tb (.slice A n c) (bA (nl L)) (fun k=>cd (nl L) k 0) (cP (nl L)) (.slice (some ⟨g,0,none⟩) n n):=⟨_,rfl⟩;have H1:T9.size=65:=by rw[hB,p1.out]
  have HH:T9.all (·.oneCell')=true:=by rw[hB];exact ux _ _ _ _ _ rfl rfl
  obtain⟨HI,hM,hw⟩:=H7.out w2 T9 H1 HH;have HD:=HV.out w2 _ A n c g _ _ F T9 hB hM hw hE hG;have hh:=aa (aq hb hw);have p0:=aa HD;rw[← hB];clear hB HH hM hw HD hE hG hb HT;go_upto_region 2 with fail;generalize (w2.alloc (.cells Z 203)).setRow w2.heap.size T9=w3 at*;generalize w2.heap.size=g2 at*;clear HI hz;by_cases hj:at'<0∨(8*(s.size:Int))<at';·have hA:=aa (kR w3 s at' (by omega) hj);have ha:=hc.out;rw[LX (by omega)]at ha;have h6:=aa (HP.out (.slice none 0 0) _ w3 ha (Ml _ _ _ _) hh.out);clear ha hj;go_wp2_with fail;refine hA.out.mono ?_;rintro e w4 ⟨rfl,rfl⟩;go_wp2_with fail;first | exact h6.out | (go_ret3;exact h6.out)
  ·obtain⟨a0,rfl⟩:∃a0:Nat,at'=a0:=⟨at'.toNat,by omega⟩;have p3:a0≤8*s.size:=(by omega);have hA:=aa (eU w3 s a0 (by omega) (by omega) (by omega));by_cases hY:k<0;·have dk:decide (k<0)=true:=L8 hY;have ha:=hc.out;rw[LX (by omega)]at ha;have HA:=aa ha;clear ha hj hc;go_wp2_with fail;refine hA.out.mono ?_;rintro e w4 ⟨rfl,ht⟩;have hC:Below w3.heap.size w3 w4:=b9 ht;have h6:=aa (HP.out (.slice none 0 0) _ w4 HA.out (Ml _ _ _ _) (aq hh.out hC));clear ht hC;go_wp2_with fail;first | exact h6.out | (go_ret3;exact h6.out)
   ·obtain⟨k0,rfl⟩:∃k0:Nat,k=k0:=⟨k.toNat,by omega⟩;have dk:decide ((k0:Int)<0)=false:=L7 hY;have ha:=hc.out;rw[LW (by omega),L9,L9]at ha;have HA:=aa ha;clear ha hj hc hY;go_wp2_with fail;refine hA.out.mono ?_;rintro e w4 ⟨rfl,ht⟩;have hC:Below w3.heap.size w3 w4:=b9 ht;have H8:IsR w3.heap.size w4 w3.heap.size s a0:=(by rw[ht];exact iQ w3 _ (ag _) s a0);have hD:w3.heap.size<w4.heap.size:=(by rw[ht];simp);have HQ:=aa hC;have H6:=aa H8;have HY:=aa EH;clear ht hC H8 hA;obtain⟨l,hl⟩:∃l,l=nl L:=⟨_,rfl⟩;rw[← hl]at HA;have HL:=aa hl;have hP:Hid (fQ l):=aa (by rw[hl];exact hU HK.out);obtain⟨bs,hK⟩:∃bs,bs=ai s.data.toList:=⟨_,rfl⟩;rw[← hK]at HA;have HU:=aa hK;have HS:Hid (bs.length=8*s.size):=aa (by rw[hK];exact H4.out);clear hl hK;obtain⟨p,hp⟩:∃p,p=w3.heap.size:=⟨_,rfl⟩;rw[← hp]at H6 hD ⊢;have ho:=aa hp;clear hp;go_wp2_with fail;(go_loopw [16,17,18] (fun lv sv ev wx=>∃(a:Nat) (o:List Nat),a≤8*s.size∧o.length≤k0∧o.length≤a∧Hid (ans=fU l bs en (k0 - o.length) a o)∧wx.ownsRow p 3 1 lv o.length (o.map iv)∧IsR p wx p s a∧Below w3.heap.size w3 wx∧p<wx.heap.size) (fun lv _ _ wx=>k0 - (match lv with | .slice _ n _=>n | _=>0)));case atStart=>exact⟨a0, [],p3,LY _,LY _,HA,Ml _ _ _ _,H6.out,HQ.out,hD⟩
    case round=>
     obtain⟨a,o,ha,pf,pb,h7,he,hR,hb,p5⟩:=hrel;obtain⟨A0,c5,rfl,p7,p6,p2⟩:=ao he;clear p2;unfold maxLen at p6;have hI:=aa he;have HR:=aa hR;have HB:=aa hb;have h5:=aa (HY.out wr g2 p A n c L s a (p0.out.below hb) HW.out HK.out hR (by omega) ha);rw[← HL.out,←HU.out]at h5;obtain⟨N,hN⟩:∃N,N=o.length:=⟨_,rfl⟩;have HN:=aa hN;rw[← hN]at pf pb p7 ⊢;by_cases e:N<k0
     ·have h0:=h7.out;rw[← hN,show k0 - N=(k0 - N - 1)+1 by omega,pz]at h0
      cases hx:iI l (bs.drop a)with
      | hit i=>
       rw[hx]at h0 h5;have hW:=tF 20 1 (show fp l (bs.drop a) 20 1=.hit i from hx);have HF:=hW.2.1;have H0:=hP.out.one HF;have p4:l.length≤258:=(by have:=HK.out.2.1;rw[HL.out,bV];exact this);have HG:a+l.getD i 0≤8*s.size:=(by have:=hW.1;rw[Mc,HS.out]at this;omega);obtain⟨a2,hJ⟩:∃a2,a2=a+l.getD i 0:=⟨_,rfl⟩;(have hF:ans=if(i:Int)=en then(o++ [i],a2,0)else fU l bs en (k0 - N - 1) a2 (o++ [i]):=by rw[h0,hJ]);have h9:=aa hF;rw[← hJ]at HG;have pl:a<a2:=(by omega);have HJ:=aa hJ;obtain⟨X,hX⟩:∃X,X=o.map iv:=⟨_,rfl⟩;rw[← hX,←hN]at hI;have HX:=aa hX;clear h0 hF hW HF H0 p4 h7 he hb hX hN hJ;go_wp2_with fail;refine h5.out.mono ?_;rintro e w5 ⟨rfl,hv,hi⟩;have hq:=hv i rfl;rw[← HJ.out]at hq;have HZ:=aa hq;have H2:=aa (HB.out.trans (by rw[← ho.out];exact hi.below));have hQ:Hid (w5.ownsRow p 3 1 (.slice A0 N c5) N X):=aa (hi.row hI.out (FP hI.out HR.out.blk (by decide)) ay);have hZ:p<w5.heap.size:=Np p5 hi.size;clear hv hq hi hR hx h5;simp only[nxV];(go_wp2_with (at_builtin;refine No _ rfl _ _ 57 rfl p 3 i3 (.int .i64 0) 1 8 Tryz.underlying57 h3 pg pj pk rfl (by decide) _ _ _ rfl (hQ.out.alloc _) ⟨w5.heap.size,0,none⟩ 1 1 [.int .i64 i] rfl rfl ?c1 ?c2 ?c3 ?c4 ?c5 ?_));case c1=>exact cQ _ _ _
       case c2=>intro u hu;simp at hu;subst hu;rfl
       case c3=>unfold maxLen;omega
       case c4=>omega
       case c5=>simp;omega
       intro v6 w6 hg h8 _;have HE:Below w3.heap.size w3 w6:=(H2.out.alloc (by have:=H2.out.size;exact this) _).grown h8 (by simp;have:=ho.out;omega) (fun k hk=>by have:=(hQ.out.lt k hk).1;have:=ho.out;omega);have HC:IsR p w6 p s a2:=⟨L5 _,pI HZ.out.blk hQ.out (by decide) h8⟩;have hH:p<w6.heap.size:=Np hZ (by have:=h8.size;simp at this;omega);obtain⟨A6,c6,rfl,po,pm,_⟩:=ao hg;have H5:=aa hg;have H3:=aa HE;have hT:=aa HC;have hV:=aa hH;clear hg h8 HE HC hH;by_cases een:(i:Int)=en
       ·have d4:((i:Int)==en)=true:=(by rw[een];exact Oi _);have h4:=h9.out;rw[LX een]at h4;have c0:w6.cell? ⟨p,0,none⟩=some (.bool true):=ac hT.out.blk 0;have c2:w6.cell? ⟨p,2,none⟩=some (.int .i64 (a2:Nat)):=ac hT.out.blk 2;have hO:=aa (jU w6 p (a2:Nat) c0 c2)
        have hy:=HP.out (.slice A6 (N+1) c6) (o++ [i],a2,0) w6 h4 (by
         rw[LR,←HN.out,Mw,←HX.out]
         exact World.ownsRow.mono H5.out (by rw[ho.out];exact hh.out.size)) (aq hh.out H3.out)
        have h6:=aa hy;subst een;clear h4 c0 c2 hy h9 HP HA;go_wp2_with fail;refine hO.out.mono ?_;rintro e w7 ⟨rfl,rfl⟩;go_wp2_with fail;first | exact h6.out | (go_ret3;exact h6.out)
       ·have d4:((i:Int)==en)=false:=(by rw[Mr];exact een);have h4:=h9.out;rw[LW een]at h4;have HM:=aa h4;clear h4 h9 een;go_wp2_with fail;go_roundw;case rel=>
         refine⟨a2,o++ [i],HG,by rw[LR,←HN.out];show N+1≤k0;omega,by rw[LR,←HN.out];show N+1≤a2;omega,aa ?_,?_,hT.out,H3.out,hV.out⟩;·rw[LR,←HN.out,show k0 - (N+ [i].length)=k0 - N - 1 by simp;omega];exact HM.out
         ·rw[LR,←HN.out,Mw,←HX.out];exact H5.out
        case measure=>simp;omega
      | short=>rw[hx]at h0 h5;have h9:=aa h0;clear h0 hx h7 he hb hR hN;go_wp2_with fail;refine h5.out.mono ?_;rintro e w5 ⟨rfl,hv,hi⟩;have h6:=aa (HP.out (.slice none 0 0) _ w5 h9.out (Ml _ _ _ _) (hh.out.trans ((HB.out.trans (by rw[← ho.out];exact hi.below)).mono hh.out.size)));clear hv hi h5;simp only[nxV];go_wp2_with fail;first | exact h6.out | (go_ret3;exact h6.out)
      | code=>rw[hx]at h0 h5;have h9:=aa h0;clear h0 hx h7 he hb hR hN;go_wp2_with fail;refine h5.out.mono ?_;rintro e w5 ⟨rfl,hv,hi⟩;have h6:=aa (HP.out (.slice none 0 0) _ w5 h9.out (Ml _ _ _ _) (hh.out.trans ((HB.out.trans (by rw[← ho.out];exact hi.below)).mono hh.out.size)));clear hv hi h5;simp only[nxV];go_wp2_with fail;first | exact h6.out | (go_ret3;exact h6.out)
     ·have hr:=h7.out;rw[← hN,show k0 - N=0 by omega]at hr;have hm:ans=(o,a,0):=hr;have hy:=HP.out (.slice A0 o.length c5) (o,a,0) wr hm (World.ownsRow.mono hI.out (by rw[ho.out];exact hh.out.size)) (aq hh.out HB.out);rw[← hN]at hy;have h6:=aa hy;have c0:wr.cell? ⟨p,0,none⟩=some (.bool true):=ac HR.out.blk 0;have c2:wr.cell? ⟨p,2,none⟩=some (.int .i64 (a:Nat)):=ac HR.out.blk 2;have hO:=aa (jU wr p (a:Nat) c0 c2);clear hr hm hy h7 he hb hR hN c0 c2;go_wp2_with fail;refine hO.out.mono ?_;rintro e w7 ⟨rfl,rfl⟩;go_wp2_with fail;first | exact h6.out | (go_ret3;exact h6.out)
 ·have HT:=aa (um w A n c L hL hn h);have hf:fD L (ai s.data.toList) at' k en=([],0,80):=(by rw[fD,LW h]);generalize bz w (fD L (ai s.data.toList) at' k en)=PO at*;generalize fD L (ai s.data.toList) at' k en=ans at*;have HO:=aa jE;have hS:=aa xU;have hc:=aa hf;clear hL h hf;go_enter Tryz.func218,Tryz.ntmps218;generalize tb0=Z at*;go_wp2_with fail;refine HT.out.mono ?_;rintro e w2 ⟨rfl,hb⟩;have H1:Z.size=65:=HO.out;obtain⟨HI,hM,hw⟩:=H7.out w2 Z H1 hS.out;have h6:=aa (HP.out (.slice none 0 0) _ _ hc.out (Ml _ _ _ _) (aq hb hw));clear hM hw hb HT;go_wp2_with fail;first | exact h6.out | (go_ret3;exact h6.out)
theorem zQ(w:World)(b off n c s x:Nat)(hs:s<n)(hx:w.cell? ⟨b,off+s,none⟩=some (.int .i64 (x:Nat))):Calls Tryz.prog 165 #[.slice (some ⟨b,off,none⟩) n c,.int .i64 s] w fun e w'=>e=.returned (.int .i64 (x:Nat))∧w'=w:=
 (tx w b off n c s x hs hx).mono fun _ _ h=>⟨h.1,h.2.symm⟩
def GS(w wx:World)(g gc p:Nat)(A:Option Addr)(n c:Nat)(l:List Nat)(v:Value)(o:List Nat):Prop:=
 fT wx g A n c l∧aA wx w.heap.size gc n n (dR l)∧IsW w.heap.size wx p v o∧Blk wx w.heap.size 43 #[.string ⟨#[]⟩,.int .i64 0]∧Below w.heap.size w wx
theorem kG(w:World)(A B:Option Addr)(n c m d:Nat)(L list:List Int)(hL:ZIn w A n L)(hn:n≤maxLen)(hB:ZIn w B m list)(q8:m≤d)(hm:m≤2000):Calls Tryz.prog 106 #[.slice A n c,.slice B m d] w (aS w (my L list)):=by
 have hz:=nX.1;rw[show tb (.slice none 0 0) (fun _=>0) (fun _=>0) (fun _=>0) (.slice none 0 0)=tb0 from rfl]at hz;have HX:=aa uk;have hw:Below w.heap.size w (w.alloc (.cells #[.string ⟨#[]⟩,.int .i64 0] 43)):=(L6 _ _).alloc (ag _) _;have H6:Blk (w.alloc (.cells #[.string ⟨#[]⟩,.int .i64 0] 43)) w.heap.size 43 #[.string ⟨#[]⟩,.int .i64 0]:=ah w 43 _;have hY:=aa H6;have hV:=aa hw;have HL:=aa hL;have ps:=aa hB;by_cases h:bU L
 ·have HT:=aa (ri (w.alloc (.cells #[.string ⟨#[]⟩,.int .i64 0] 43)) A n c L (hL.below hw) hn h);have H7:=hL.1;have hC:=hU h;have pf:(nl L).length=n:=by rw[bV,H7]
  have HF:=aa hC;have H0:=aa pf;have h3:my L list=(if ∀x∈list,0≤x∧x<(n:Int)then(lW (nl L) list,0)else([],60)):=by rw[my,LX h,H7]
  have h2:=aa h3;have HQ:=aa hB.1;have HO:=aa jE;have HK:=aa h;have q2:=aa fun(K F P:Nat→Nat) (s4:Value)=>ee (.slice A n c) K F P s4;have pr:=aa Jy;have HP:=aa Bu;have h4:(w.alloc (.cells #[.string ⟨#[]⟩,.int .i64 0] 43)).heap.size=w.heap.size+1:=by simp
  have h9:=aa h4;have po:=aa (mS hL h);clear hL hB h hw H6 hC pf h3 H7 h4;go_enter Tryz.func106,Tryz.ntmps106;generalize tb0=Z at*;go_wp2_with fail;refine HT.out.mono ?_;rintro e w2 ⟨g,F,rfl,hG,hH,hb⟩;have hF:=aP hb hY.out;have hy:=hV.out.trans (hb.mono (by have:=h9.out;omega));generalize w.alloc (.cells #[.string ⟨#[]⟩,.int .i64 0] 43)=w1 at*;obtain⟨T9,hu⟩:∃T9,T9=tb (.slice A n c) (bA (nl L)) (fun k=>cd (nl L) k 0) (cP (nl L)) (.slice (some ⟨g,0,none⟩) n n):=⟨_,rfl⟩;have HD:T9.size=65:=by rw[hu,q2.out]
  have pk:T9.all (·.oneCell')=true:=by rw[hu];exact ux _ _ _ _ _ rfl rfl
  obtain⟨HE,hQ,h7⟩:=HX.out w2 T9 HD pk;have H4:=pr.out w2 _ A n c g _ _ F T9 hu hQ h7 hG hH;have h0:=aP h7 hF;have H3:=aq hy h7;have HC:=aa (HP.out _ w2.heap.size A n c L H4 (HL.out.below H3) HK.out);have hh:=aa H3;have HY:=aa H4;have hj:=aa h0;rw[← hu];clear hu pk hQ h7 H4 H3 hG hH hb HT hF hy h0 hY hV;go_upto_region 4 with fail;generalize (w2.alloc (.cells Z 203)).setRow w2.heap.size T9=w3 at*;generalize w2.heap.size=g2 at*;clear HE hz;go_wp2_with fail;refine HC.out.mono ?_;rintro e w4 ⟨gc,rfl,h8,hI⟩;have HZ:=aa (HY.out.below hI);have hl:=aa (aP hI hj.out);have HU:=aa (World.ownsRow.mono h8 hh.out.size);have hX:=aa (aq hh.out hI);clear h8 hI HY hj hh HC HP;go_wp2_with fail;refine(Cu w4).mono ?_;rintro e w5 ⟨rfl,HI⟩;have hJ:Below w4.heap.size w4 w5:=b9 HI;have p4:IsW w.heap.size w5 w4.heap.size (.slice none 0 0) []:=by rw[HI];exact ly w4 _ hX.out.size
  have he:=an hJ;have pm:Hid (GS w w5 g2 gc w4.heap.size A n c (nl L) (.slice none 0 0) []):=aa ⟨HZ.out.below hJ,he.row HU.out (fun _ _=>ay) ay,p4,he.blk hl.out ay ay,aq hX.out hJ⟩;generalize nl L=l at*;generalize my L list=ans at*;clear HI hJ p4 he HZ hl HU hX;generalize w4.heap.size=p at*;go_wp2_with fail;go_loopw [11,25] (fun s11 x wx=>∃(q:Nat) (v:Value) (o:List Nat),q≤m∧x=.int .i64 q∧Hid (o=lW l (list.take q))∧Hid (o.length≤20*q)∧Hid (∀ x∈list.take q,0≤x∧x<(n:Int))∧Hid (GS w wx g2 gc p A n c l v o)) (fun _ x _=>m - (intOf x).toNat)
  case atStart=>exact⟨0,_, [],LY _,rfl,aa rfl,aa (LY _),aa (by simp),pm⟩
  case round=>
   obtain⟨q,v,o,hq,rfl,ho,HA,hf,p6⟩:=hrel;obtain⟨hT,hR,hW,hK,hB⟩:=p6.out;have HT:=aa hT;have HR:=aa hR;have HW:=aa hW;have h5:=aa hK;have HB:=aa hB;clear p6 hT hR hW hK hB;by_cases e:q<m
   ·obtain⟨b,off,rfl,hc⟩:=ps.out.2 (by omega);have hO:=hc q e;have HG:=fw list q (by rw[HQ.out];exact e);obtain⟨x,hx⟩:∃x,x=list.getD q 0:=⟨_,rfl⟩;rw[← hx]at hO HG;have q4:=(HB.out.cell (p:=⟨b,off+q,none⟩) (Md w _ hO)).trans hO;have H2:=aa HG;obtain⟨gs,F,B2,p7,_,_⟩:=HT.out;have q0:=(ac p7 0).trans (rN _ _ _ _ _);have HH:=aa (Kq wr A n c x);clear hc hx hO HG p7;by_cases e1:0≤x∧x<n
    ·rw[L8 e1]at HH;obtain⟨y,rfl⟩:∃y:Nat,x=y:=⟨x.toNat,by omega⟩;have hg:y<n:=(by omega);obtain⟨ba,oa,hA,hE⟩:=po.out;have hP:=hE y hg;have ha:=HF.out.one (i:=y) (by rw[H0.out];exact hg);have hM:=wT HF.out (i:=y) (by rw[H0.out];exact hg);have pb:=sC HF.out (i:=y) (by rw[H0.out];exact hg);obtain⟨k,hk⟩:∃k,k=l.getD y 0:=⟨_,rfl⟩;obtain⟨x1,HJ⟩:∃x1,x1=dR l y:=⟨_,rfl⟩;have q1:=(HR.out).cell y hg;rw[← hk]at ha hM hP;rw[← HJ]at hM pb q1;have hD:=(HB.out.cell (p:=⟨ba,oa+y,none⟩) (Md w _ hP)).trans hP;have wu:IntKind.u64.wrap (x1:Int)=(x1:Int):=(by rw[Qb];omega);subst hA;have hi:Hid (aj x1 k=eO l y):=aa (by rw[hk,HJ];rfl);have hs:Hid (IsW w.heap.size wr.drew p v o):=aa ⟨HW.out.lo,HW.out.blk,HW.out.row,HW.out.bit⟩;have q5:k≤20:=ha.2;have hr:=aa (eV w.heap.size wr.drew p v o x1 k hs.out (by have:=HA.out;omega) (by omega) hM);have hp:=aa (zQ wr.drew ba oa n c y k hg hD);have q0d:wr.drew.cell? ⟨g2,0,none⟩=some (.slice (some ⟨ba,oa,none⟩) n c):=q0;have q1d:wr.drew.cell? ⟨gc,y,none⟩=some (.int .i64 (x1:Nat)):=q1;have p0:Hid (fT wr.drew g2 (some ⟨ba,oa,none⟩) n c l):=HT;have HV:Hid (aA wr.drew w.heap.size gc n n (dR l)):=HR;have hZ:Hid (Blk wr.drew w.heap.size 43 #[.string ⟨#[]⟩,.int .i64 0]):=h5;have HM:=aa HB.out.drew;clear hP hD ha hM hk HJ hE pb;(go_upto_region 10 with(go_at_call 164;refine HH.out.mono ?_;rintro e w9 ⟨rfl,rfl⟩));(go_still_tail 10,(by kernel_rfl));still_call (hp.out)
     refine wpStill_nil ?_;change wpList _ _ _ _ _ wr.drew;generalize wr.drew=wd at*;clear q0d q1d q0 q1 HT HR h5 HB HH hp q4 HW;go_wp2_with fail;refine hr.out.mono ?_;rintro e w6 ⟨rfl,v6,p5,ht⟩;have p3:=p0.out.steps ht hs.out.blk (by decide) (by decide) (by decide) (by decide);have p2:=HV.out.step ht hs.out.blk (by decide) (by decide);have pg:=qw hZ.out hs.out.blk (by decide);have p1:=ht.blk hZ.out (by simpa using pg) (by decide);have hS:Hid (GS w w6 g2 gc p (some ⟨ba,oa,none⟩) n c l v6 (o++aj x1 k)):=aa ⟨p3,p2,p5,p1,HM.out.trans ht.below⟩;clear p3 p2 pg p1 p5 ht hr hs p0 HV hZ HM;go_wp2_with fail;go_roundw;case rel=>
      refine⟨q+1,v6,o++aj x1 k,by omega,by go_num,aa ?_,aa ?_,aa ?_,hS⟩;·rw[H2.out,F0,←ho.out,L9,hi.out]
      ·have:=HA.out;rw[LR,af];omega
      ·rw[H2.out];intro x hx;rcases List.mem_append.1 hx with hx | hx;·exact hf.out x hx
       ·rw[List.mem_singleton.1 hx];exact e1
     case measure=>simp[intOf];omega
    ·rw[L7 e1]at HH;have pj:ans=([],60):=(by rw[h2.out,LW];intro H5;have:x∈list:=(by have h1:x∈list.take (q+1):=(by rw[H2.out];exact OK _ (List.mem_singleton.2 rfl));exact NO h1);exact e1 (H5 x this));have pv:=aa pj;have k0:wr.cell? ⟨w.heap.size,0,none⟩=some (.string ⟨#[]⟩):=ac h5.out 0;have k1:wr.cell? ⟨w.heap.size,1,none⟩=some (.int .i64 0):=ac h5.out 1;have f0:=ae h5.out 0;have f1:=ae h5.out 1;clear pj e1 h2;go_wp2_with fail;refine HH.out.mono ?_;rintro e w9 ⟨rfl,rfl⟩;go_wp2_with fail;refine Mm (v:=.tuple #[.agg #[.string ⟨#[]⟩,.int .i64 0],.int .i64 60]) ?_ rfl ?_;·simp[results,Tryz.results106,go_sem,k0,k1]
     ·rw[pv.out];exact⟨rfl,(HB.out.setCell (p:=⟨w.heap.size,0,none⟩) (ag _) _).setCell (p:=⟨w.heap.size,1,none⟩) (ag _) _⟩
   ·obtain rfl:q=m:=(by omega);have htl:list.take q=list:=Mh (Nr HQ.out);have hv:=hf.out;have H8:=ho.out;rw[htl]at hv H8;have h6:ans=(o,0):=(by rw[h2.out,LX hv,H8]);have pl:=aa h6;have k0:wr.cell? ⟨w.heap.size,0,none⟩=some (.string ⟨#[]⟩):=ac h5.out 0;have k1:wr.cell? ⟨w.heap.size,1,none⟩=some (.int .i64 0):=ac h5.out 1;have f0:=ae h5.out 0;have f1:=ae h5.out 1;have c0:wr.cell? ⟨p,0,none⟩=some (.bool true):=ac HW.out.blk 0;have c2:wr.cell? ⟨p,2,none⟩=some (.int .i64 (o.length:Nat)):=ac HW.out.blk 2;have q3:=aa (gU w.heap.size wr p v o HW.out);have HS:=aa (jG wr p (o.length:Nat) c0 c2);obtain⟨N,hN⟩:∃N,N=o.length:=⟨_,rfl⟩;rw[← hN]at HS;have HN:=aa hN;clear htl hv H8 h6 hN c0 c2 h2 ho hf HA HT HR HW;go_wp2_with fail;refine q3.out.mono ?_;rintro e w6 ⟨rfl,rfl⟩;go_wp2_with fail;refine HS.out.mono ?_;rintro e w6 ⟨rfl,rfl⟩;go_wp2_with fail;refine Mm (v:=.tuple #[.agg #[.string ⟨(pack o).toArray⟩,.int .i64 N],.int .i64 0]) ?_ rfl ?_;·simp[results,Tryz.results106,go_sem,k0,k1]
    ·rw[pl.out,HN.out];exact⟨rfl,(HB.out.setCell (p:=⟨w.heap.size,0,none⟩) (ag _) _).setCell (p:=⟨w.heap.size,1,none⟩) (ag _) _⟩
 ·have HT:=aa (um (w.alloc (.cells #[.string ⟨#[]⟩,.int .i64 0] 43)) A n c L (hL.below hw) hn h);have h3:my L list=([],80):=by rw[my,LW h]
  have h2:=aa h3;have HO:=aa jE;have H1:=aa xU;have h4:(w.alloc (.cells #[.string ⟨#[]⟩,.int .i64 0] 43)).heap.size=w.heap.size+1:=by simp
  have h9:=aa h4;clear hL hB h hw H6 h3 h4;go_enter Tryz.func106,Tryz.ntmps106;generalize tb0=Z at*;go_wp2_with fail;refine HT.out.mono ?_;rintro e w2 ⟨rfl,hb⟩;have hF:=aP hb hY.out;have hy:=hV.out.trans (hb.mono (by have:=h9.out;omega));generalize w.alloc (.cells #[.string ⟨#[]⟩,.int .i64 0] 43)=w1 at*;have HD:Z.size=65:=HO.out;obtain⟨HE,hQ,h7⟩:=HX.out w2 Z HD H1.out;have h0:=aP h7 hF;have hh:=aa (aq hy h7);have k0:=ac h0 0;have k1:=ac h0 1;have f0:=ae h0 0;have f1:=ae h0 1;simp only[List.getElem?_toArray,List.getElem?_cons_zero,PT]at k0 k1;clear hQ h7 hb HT hF hy h0;go_upto_region 2 with fail;generalize (w2.alloc (.cells Z 203)).setRow w2.heap.size Z=w3 at*;clear HE hz;go_wp2_with fail;refine Mm (v:=.tuple #[.agg #[.string ⟨#[]⟩,.int .i64 0],.int .i64 80]) ?_ rfl ?_;·simp[results,Tryz.results106,go_sem,k0,k1]
  ·rw[h2.out];exact⟨rfl,(hh.out.setCell (p:=⟨w.heap.size,0,none⟩) (ag _) _).setCell (p:=⟨w.heap.size,1,none⟩) (ag _) _⟩
end Go.Proofs.YtepokmggbfoakaaGreatDoor
