import Derived.Test.YtepokmggbfoakaaGreatDoorT09
import Derived.Test.YtepokmggbfoakaaGreatDoorT03
import Derived.Test.YtepokmggbfoakaaGreatDoorT06
import Derived.Deep.MidRow
import Derived.Deep.CutBlock
import Derived.Deep.RegionWith
set_option maxHeartbeats 3200000
set_option maxRecDepth 100000
namespace Go.Proofs.YtepokmggbfoakaaGreatDoor
open _root_.Go.Proofs.Tryz
def bI(l:List Nat)(k:Nat):Nat:=l.countP fun x=>x==k
def cQ(l:List Nat)(k:Nat):Nat:=l.countP fun x=>decide (x<k)
def i7(l:List Nat)(k i:Nat):Nat:=(l.take i).countP fun x=>x==k
def jx(l:List Nat)(s:Nat):Nat:=cQ l (l.getD s 0)+i7 l (l.getD s 0) s
theorem vC(l:List Nat)(q:Nat)(h:q<l.length):l.take (q+1)=l.take q++ [l.getD q 0]:=by rw[List.take_add_one,Nd h,Nb,Nd h];rfl
theorem jF(l:List Nat)(k i:Nat)(h:i<l.length):i7 l k (i+1)=i7 l k i+if l.getD i 0=k then 1 else 0:=by
 unfold i7;rw[vC l i h,Rj];congr 1;rw[Ql,List.countP_nil,N8];by_cases e:l.getD i 0=k;·rw[Ng e,Ng (by rw[e];exact OK k)]
 ·rw[Nf e,Nf (by rw[O0];exact e)]
theorem pt(l:List Nat)(k:Nat):i7 l k l.length=bI l k:=by unfold i7 bI;rw[Qm]
theorem Kd(l:List Nat)(k:Nat){i j:Nat}(h:i<=j)(hj:j<=l.length):i7 l k i<=i7 l k j:=by
 induction j with
 | zero=>rw[show i=0 by omega];exact Nm _
 | succ j ih=>
  by_cases e:i=j+1;·rw[e];exact Nm _
  ·have h1:=ih (by omega) (by omega);rw[jF l k j (by omega)];omega
theorem yo(l:List Nat){i j:Nat}(h:i<j)(hj:j<=l.length):i7 l (l.getD i 0) i<i7 l (l.getD i 0) j:=by have h1:=jF l (l.getD i 0) i (by omega);rw[Ng rfl]at h1;have h2:=Kd l (l.getD i 0) (show i+1<=j by omega) hj;omega
theorem MK(l:List Nat)(k i:Nat):i7 l k i<=l.length:=by unfold i7;have h1:=Qt (p:=fun x=>x==k) (l:=l.take i);rw[Nz]at h1;omega
theorem J2(l:List Nat):cQ l 0=0:=by unfold cQ;rw[List.countP_eq_zero];intro x _;rw[OU];omega
theorem yk(l:List Nat)(k:Nat):cQ l (k+1)=cQ l k+bI l k:=by
 unfold cQ bI
 induction l with
 | nil=>rfl
 | cons x l ih=>
  rw[Ql,Ql,Ql,ih];by_cases h1:x<k;·rw[Ng (aX (by omega)),Ng (No h1),Nf (by rw[O0];omega)];omega
  ·by_cases h2:x=k;·rw[Ng (aX (by omega)),Nf (by rw[OU];omega),Ng (by rw[O0];exact h2)];omega
   ·rw[Nf (by rw[OU];omega),Nf (by rw[OU];omega),Nf (by rw[O0];exact h2)];omega
theorem pm(l:List Nat){a b:Nat}(h:a<=b):cQ l a<=cQ l b:=by
 induction h with
 | refl=>exact Nm _
 | step h ih=>rw[yk];omega
theorem yj(l:List Nat)(k:Nat):cQ l k<=l.length:=Qt
theorem tf(l:List Nat)(k:Nat):bI l k<=l.length:=Qt
theorem se{l:List Nat}{s:Nat}(h:s<l.length):cQ l (l.getD s 0)<=jx l s/\jx l s<cQ l (l.getD s 0+1):=by have h1:=yo l h (ah _);rw[pt]at h1;rw[yk];unfold jx;omega
theorem tZ{l:List Nat}{s:Nat}(h:s<l.length):jx l s<l.length:=by have h1:=(se h).2;have h2:=yj l (l.getD s 0+1);omega
theorem Eo{l:List Nat}{s t:Nat}(hs:s<l.length)(ht:t<l.length)(h:jx l s=jx l t):s=t:=by
 have a:=se hs;have b:=se ht;by_cases e:l.getD s 0=l.getD t 0
 ·by_cases e1:s<t;·have h1:=yo l e1 (NV ht);unfold jx at h;rw[<- e]at h;omega
  ·by_cases e2:t<s;·have h1:=yo l e2 (NV hs);unfold jx at h;rw[e]at h;omega
   ·omega
 ·by_cases e1:l.getD s 0<l.getD t 0;·have:=pm l (show l.getD s 0+1<=l.getD t 0 by omega);omega
  ·have:=pm l (show l.getD t 0+1<=l.getD s 0 by omega);omega
theorem Ju{l:List Nat}{i:Nat}(h:i<l.length):∃s,s<l.length/\jx l s=i:=by
 have hp:=nC ((List.range l.length).map (jx l)) l.length (by
  unfold List.Nodup
  rw[PJ]
  refine OQ ?_ (OS (n:=l.length))
  intro a b ha hb h0 e
  exact h0 (Eo (List.mem_range.1 ha) (List.mem_range.1 hb) e)) (by
  intro x hx
  obtain⟨s,hs,rfl⟩:=List.mem_map.1 hx
  exact tZ (List.mem_range.1 hs)) (by rw[NC,NK])
 obtain⟨s,hs,e⟩:=List.mem_map.1 (hp.mem_iff.2 (List.mem_range.2 h));exact⟨s,List.mem_range.1 hs,e⟩
theorem CR{l:List Nat}{s k:Nat}(hs:s<l.length)(h1:cQ l k<=jx l s)(h2:jx l s<cQ l (k+1)):l.getD s 0=k:=by
 have a:=se hs;by_cases e1:l.getD s 0<k;·have:=pm l (show l.getD s 0+1<=k by omega);omega
 ·by_cases e2:k<l.getD s 0;·have:=pm l (show k+1<=l.getD s 0 by omega);omega
  ·omega
def dM(l:List Nat)(F:Nat->Nat)(i:Nat):Prop:=∀s,s<i->F (jx l s)=s
theorem dM.step{l:List Nat}{F:Nat->Nat}{i:Nat}(h:dM l F i)(hi:i<l.length):dM l (fun j=>if j=jx l i then i else F j) (i+1):=by
 intro s hs;show(if jx l s=jx l i then i else F (jx l s))=s;by_cases e:s=i;·subst e;rw[Ng rfl]
 ·rw[Nf (fun h2=>e (Eo (by omega) hi h2))];exact h s (by omega)
theorem dM.get{l:List Nat}{F:Nat->Nat}(h:dM l F l.length){i:Nat}(hi:i<l.length):F i<l.length/\jx l (F i)=i:=by obtain⟨s,hs,rfl⟩:=Ju hi;rw[h s hs];exact⟨hs,rfl⟩
theorem xH(l:List Nat)(k:Nat):∀i,i<=l.length->cd l k i=cd l k 0+i7 l k i
 | 0,_=>rfl
 | i+1,h=>by
  have ih:=xH l k i (by omega);rw[jF l k i (by omega)];by_cases e:l.getD i 0=k;·rw[IF (by omega) e,Ng e,ih];omega
  ·rw[Ed (by omega) e,Nf e,ih];rfl
theorem Li(l:List Nat){k:Nat}(hk:k<20):cd l (k+1) 0=(cd l k 0+bI l k)*2:=by rw[Mc (Nm l.length) hk,xH l k l.length (ah _),pt];omega
theorem Fq(l:List Nat):cd l 0 0=0:=by unfold cd;rw[uB,Nat.zero_div]
theorem zv{l:List Nat}{s:Nat}(hs:s<l.length):dE l s=cd l (l.getD s 0) 0+i7 l (l.getD s 0) s:=by rw[<- Ec (n:=l.getD s 0) (i:=s) rfl,xH l _ s (by omega)]
theorem zu{l:List Nat}{s:Nat}(hs:s<l.length):dE l s+cQ l (l.getD s 0)=cd l (l.getD s 0) 0+jx l s:=by rw[zv hs];unfold jx;omega
theorem Lh{l:List Nat}(h:eW l):cd l 20 0+bI l 20=jP l:=by rw[<- pt,<-xH l 20 l.length (ah _)];unfold cd;rw[mK 20 l l.length (ah _),si 21 l fun x hx=>by have:=h.high x hx;omega];show jP l/2^(20-20)=_;rw[Ow,Q6,RN]
theorem oU{l bs:List Nat}(h:eW l)(hb:am bs){n:Nat}(hn:n<=bs.length)(h0:n<=20)(hc:sz l bs n)(hs:val (bs.take n)*pw n<jP l):cd l n 0<=val (bs.take n):=by
 obtain⟨i,hi⟩:=(ml h hb hn h0 hc).2 hs;have a:=kN h hi;have b:pos n 0 l<=lie l i:=by
  unfold lie;rcases NZ n (l.getD i 0)with h1|h1;·exact NH (qz l h1 0) (ni _ l (Nh _))
  ·have:=hi.2.1;rw[show l.getD i 0=n by omega];exact ni n l (Nh _)
 have hp:=gz (l.getD i 0);have hd:cd l n 0*pw n=pos n 0 l:=Nat.div_mul_cancel (pp n h0 l 0);have h3:cd l n 0*pw n<(val (bs.take n)+1)*pw n:=by omega
 have:=Qo h3;omega
theorem Mo{l:List Nat}{F:Nat->Nat}(h:eW l)(hF:dM l F l.length){n v:Nat}(h1:cd l n 0<=v)(h2:v-cd l n 0<bI l n):cQ l n+(v-cd l n 0)<l.length/\lA l n v=some (F (cQ l n+(v-cd l n 0))):=by have hp:=yk l n;have h4:=yj l (n+1);have h3:cQ l n+(v-cd l n 0)<l.length:=(by omega);refine⟨h3,qn h ?_⟩;obtain⟨hs,hi⟩:=hF.get h3;generalize F (cQ l n+(v-cd l n 0))=s at*;have hk:l.getD s 0=n:=CR hs (by omega) (by omega);have h0:=zu hs;rw[hk]at h0;exact⟨hs,hk,by omega⟩
theorem Lc{l:List Nat}{n v:Nat}(h2:bI l n<=v-cd l n 0):lA l n v=none:=by
 cases e:lA l n v with
 | none=>rfl
 | some s=>exfalso;obtain⟨h3,h4,h5⟩:=iX e;have h6:=zv h3;have h7:=yo l h3 (ah _);rw[pt]at h7;rw[h4]at h6 h7;omega
theorem E9{l:List Nat}(h:eW l){n v:Nat}(hs:¬v*pw n<jP l):lA l n v=none:=by
 cases e:lA l n v with
 | none=>rfl
 | some s=>exfalso;have h3:=iX e;have h4:=kN h h3.begin;have h5:=ya h h3.1;have:=gz (l.getD s 0);omega
open Go.RowKit
def eZ(f:Nat->Nat):Array Value:=(Array.range 21).map fun i=>.int .i64 (f i)
theorem gK(f:Nat->Nat):(eZ f).size=21:=by simp[eZ]
theorem E8:eZ (fun _=>0)=Array.replicate 21 (.int .i64 0):=by
 apply Ro;·simp[eZ]
 ·intro i h1 h2;simp[eZ]
theorem Mi:(∀ w,(zeroValue 201).run prog w=.ok (.agg (eZ fun _=>0)) w)/\(prog.info? 201).map (·.size)=some 21:=by rw[E8];exact R2 (by kernel_rfl)
theorem y5(f:Nat->Nat)(b x:Nat):(eZ f).setIfInBounds b (.int .i64 x)=eZ fun i=>if i=b then x else f i:=by
 apply Ro;·simp[eZ]
 ·intro i h1 h2;rw[Qh (by simpa [eZ]using h2)];by_cases e:b=i;·subst e;simp[eZ]
  ·rw[Nf e];have e2:¬i=b:=fun h=>e h.symm;simp[eZ,e2]
theorem y4(f:Nat->Nat):(eZ f).all (·.oneCell')=true:=by rw[QS];intro i h;simp[eZ,Value.oneCell']
theorem oB(f:Nat->Nat)(i:Nat)(h:i<21):(eZ f)[i]? =some (.int .i64 (f i:Nat)):=by simp[eZ,h]
theorem L8(w:World)(a b:Array Value)(t:TypeId):Blk ((w.alloc (.cells a t)).alloc (.cells b t)) w.heap.size t a/\Blk ((w.alloc (.cells a t)).alloc (.cells b t)) (w.heap.size+1) t b:=by
 have e1:(w.alloc (.cells a t)).heap.size=w.heap.size+1:=by simp
 refine⟨?_,?_⟩;·show(World.alloc _ _).heap[_]? =_;rw[bH _ _ _ (by simp)];exact aj w t a
 ·rw[<- e1];exact aj _ t b
theorem fb{w:World}{g k:Nat}{t:TypeId}{cs:Array Value}(h:Blk w g t cs)(h0:g≠k)(i:Nat)(u:Value):Blk (w.setCell ⟨k,i,none⟩ u) g t cs:=by show(w.setCell ⟨k,i,none⟩ u).heap[g]? =_;rw[OZ w ⟨k,i,none⟩ u g h0];exact h
theorem mM{w:World}{g:Nat}{t:TypeId}{cs:Array Value}(h:Blk w g t cs):w.rangeAt g 0 cs.toList:=by intro j v hv;rw[N8,ac h];simpa using hv
theorem na{w:World}{A:Option Addr}{n:Nat}{L:List Int}(hL:ZIn w A n L)(h0:a6 L):∃b off,A=some ⟨b,off,none⟩/\∀i,i<n->w.cell? ⟨b,off+i,none⟩=some (.int .i64 ((nl L).getD i 0:Nat)):=by have h1:=hL.1;have h2:2<=n:=(by have:=h0.1;omega);obtain⟨b,off,rfl,hc⟩:=hL.2 (by omega);refine⟨b,off,rfl,fun i hi=> ?_⟩;rw[hc i hi,qt];have:0<=L.getD i 0:=(by rw[Nb,Nd (by omega)];have:=(h0.2.2.1 L[i] (NL ..)).1;show(0:Int)<=L[i];omega);rw[Qc this]
theorem Fz(w:World)(A:Option Addr)(n c:Nat)(L:List Int)(hL:ZIn w A n L)(h7:a6 L):Calls prog 209 #[.slice A n c] w fun e w'=>e=.returned (.agg (eZ (bI (nl L))))/\Below w.heap.size w w':=by
 have hp:=hL.1;have hv:n<=258:=by have:=h7.2.1;omega
 obtain⟨b,off,rfl,h5⟩:=na hL h7;have h4:=fO h7;obtain⟨l,hl⟩:∃l,l=nl L:=⟨_,rfl⟩;have ho:l.length=n:=by rw[hl,bL,hp]
 rw[<- hl]at h5 h4 |-;have HF:=aa h4;have h6:=aa ho;have h8:=aa h5;obtain⟨hz,hi⟩:=Mi;have HI:=aa hi;have HS:=aa gK;have ha:=aa y5;have HO:=aa y4;have HG:=aa oB;generalize eZ=T at*;clear hi hl h7 hL hp h4 ho h5;go_enter func209,ntmps209;go_wp2_with fail;go_loopw [5,8] (fun s5 x wx=>∃q:Nat,q<=n/\x=.int .i64 q/\Blk wx w.heap.size 201 (T fun _=>0)/\Blk wx (w.heap.size+1) 201 (T fun k=>i7 l k q)/\Below w.heap.size w wx) (fun _ x _=>n-(intOf x).toNat)
 case atStart=>obtain⟨h1,h2⟩:=L8 w (T fun _=>0) (T fun _=>0) 201;exact⟨0,Nh _,rfl,h1,h2,((Nj _ w).alloc (ah _) _).alloc (by simp) _⟩
 case round=>
  obtain⟨q,hq,rfl,he,h3,hb⟩:=hrel;have H0:=aa he;have H1:=aa h3;have HB:=aa hb;by_cases e:q<n
  ·have hg:=h8.out q e;have hr:=Nr w _ hg;have ht:=(HB.out.cell (p:=⟨b,off+q,none⟩) hr).trans hg;have hh:=(HF.out.one (i:=q) (by rw[h6.out];exact e)).2;have h0:=jF l (l.getD q 0) q (by rw[h6.out];exact e);rw[Ng rfl]at h0;obtain⟨k,hk⟩:∃k,k=l.getD q 0:=⟨_,rfl⟩;rw[<- hk]at ht hh h0;have hj:k<21:=(by omega);have hc:=ac h3 k;have hf:=ae h3 k;rw[HG.out _ k hj]at hc;have hn:=MK l k q;rw[h6.out]at hn;obtain⟨c1,hm⟩:∃c1,c1=i7 l k q:=⟨_,rfl⟩;rw[<- hm]at hc hn h0;have HK:=aa hk;have hs:=aa h0;have hu:=HS.out fun k=>i7 l k q;clear he h3 hb hg hr hk h0 hm hz;go_wp2_with fail;go_roundw;case rel=>
    refine⟨q+1,by omega,by go_num,fb H0.out (by omega) _ _,?_,HB.out.setCell (by show _<=w.heap.size+1;omega) _⟩;have h1:=au H1.out k (.int .i64 ((c1+1:Nat):Int));rw[ha.out]at h1;have e2:(fun i=>if i=k then c1+1 else i7 l i q)=fun i=>i7 l i (q+1):=by
     funext i;by_cases ei:i=k;·rw[Ng ei,ei,hs.out]
     ·rw[Nf ei,jF l i q (by rw[h6.out];exact e),Nf (by rw[<- HK.out];exact fun h=>ei h.symm)];rfl
    rw[e2]at h1;exact h1
   case measure=>simp[intOf];omega
  ·obtain rfl:q=n:=(by omega);have e2:(fun k=>i7 l k q)=bI l:=(by funext k;rw[<- h6.out,pt]);rw[e2]at h3;have h9:Hid ((prog.info? 201).map (·.size)=some (T (bI l)).size):=aa (by rw[HS.out];exact HI.out);have H1:=aa h3;have hu:=HS.out (bI l);clear he h3 hb hz e2;have hw:=cE (P:=prog) H0.out h9.out (by rw[HS.out,HS.out]) (HO.out _);go_upto_region 7 with fail;refine Qj (wpList_load_mid rfl _ _ rfl _ _ rfl (T (bI l)).toList _ (mM H1.out) underlying201 rfl h9.out ?_);rw[RO];go_wp2_with fail;refine ND (v:=.agg (T (bI l))) (i6 rfl rfl (QJ _ _ _ _ _ _ H0.out) underlying201 h9.out) rfl ⟨rfl,?_⟩;exact below_setRow HB.out (ah _) _
theorem Lu(w:World)(A:Option Addr)(n c:Nat)(x:Int):Calls prog 164 #[.slice A n c,.int .i64 x] w fun e w'=>e=.returned (.bool (decide (0<=x/\x<(n:Int))))/\w=w':=by
 by_cases h0:0<=x
 ·by_cases h1:x<(n:Int);·have d2:decide (0<=x/\x<(n:Int))=true:=No ⟨h0,h1⟩;rw[d2];go_enter func164,ntmps164;go_wp2_with fail;go_ret;exact⟨rfl,rfl⟩
  ·have d2:decide (0<=x/\x<(n:Int))=false:=Nk (fun h=>h1 h.2);rw[d2];go_enter func164,ntmps164;go_wp2_with fail;go_ret;exact⟨rfl,rfl⟩
 ·have d2:decide (0<=x/\x<(n:Int))=false:=Nk (fun h=>h0 h.1);rw[d2];go_enter func164,ntmps164;go_wp2_with fail;go_ret;exact⟨rfl,rfl⟩
theorem ub(w:World)(b off n c s x:Nat)(hs:s<n)(hx:w.cell? ⟨b,off+s,none⟩=some (.int .i64 (x:Nat))):Calls prog 165 #[.slice (some ⟨b,off,none⟩) n c,.int .i64 s] w fun e w'=>e=.returned (.int .i64 (x:Nat))/\w=w':=by go_enter func165,ntmps165;go_wp2_with fail;go_ret;exact⟨rfl,rfl⟩
theorem qw(w:World)(A:Option Addr)(n c:Nat)(L:List Int)(hL:ZIn w A n L)(hf:a6 L):Calls prog 210 #[.slice A n c,.agg (eZ (cQ (nl L)))] w fun e w'=>∃g F,e=.returned (.slice (some ⟨g,0,none⟩) n n)/\aA w' w.heap.size g n n F/\dM (nl L) F n/\Below w.heap.size w w':=by
 have hu:=hL.1;have hG:n<=258:=by have:=hf.2.1;omega
 obtain⟨b,off,rfl,h7⟩:=na hL hf;have h6:=fO hf;obtain⟨l,hl⟩:∃l,l=nl L:=⟨_,rfl⟩;have ht:l.length=n:=by rw[hl,bL,hu]
 rw[<- hl]at h7 h6 |-;have HF:=aa h6;have h9:=aa ht;have hh:=aa h7;have hm:=aa y5;have HG:=aa oB;generalize eZ=T at*;have hw:=bK (w.alloc (.cells (T (cQ l)) 201)) n (by omega);clear hl hf hL hu h6 ht h7
 have hi:Hid (aA ((w.alloc (.cells (T (cQ l)) 201)).alloc (.cells (madeCells #[.int .i64 0] n) 3)) w.heap.size (w.heap.size+1) n n fun _=>0):=aa (by
  have h:=bz (w.alloc (.cells (T (cQ l)) 201)) w.heap.size n (by simp) (by omega)
  simpa using h)
 have hg:Hid (Blk ((w.alloc (.cells (T (cQ l)) 201)).alloc (.cells (madeCells #[.int .i64 0] n) 3)) w.heap.size 201 (T (cQ l))):=aa (by
  show(World.alloc _ _).heap[_]? =_
  rw[bH _ _ _ (by simp)]
  exact aj w _ _)
 go_enter func210,ntmps210;go_wp2_with fail;go_loopw [6,7,13] (fun s6 s7 x wx=>∃(q:Nat) (F:Nat->Nat),q<=n/\x=.int .i64 q/\Hid (dM l F q)/\Blk wx w.heap.size 201 (T fun k=>cQ l k+i7 l k q)/\aA wx w.heap.size (w.heap.size+1) n n F/\Below w.heap.size w wx) (fun _ _ x _=>n-(intOf x).toNat)
 case atStart=>exact⟨0,fun _=>0,Nh _,rfl,aa (fun s hs=>by omega),hg.out,hi.out,((Nj _ w).alloc (ah _) _).alloc (by simp) _⟩
 case round=>
  obtain⟨q,F,hq,rfl,h8,ha,h3,hb⟩:=hrel;have H1:=aa ha;have HB:=aa hb;have HR:=aa h3;by_cases e:q<n
  ·have hn:=hh.out q e;have hv:=Nr w _ hn;have hC:=(HB.out.cell (p:=⟨b,off+q,none⟩) hv).trans hn;have hp:=(HF.out.one (i:=q) (by rw[h9.out];exact e)).2;have h0:=jF l (l.getD q 0) q (by rw[h9.out];exact e);rw[Ng rfl]at h0;have ho:=tZ (l:=l) (s:=q) (by rw[h9.out];exact e);rw[h9.out]at ho;have h2:jx l q=cQ l (l.getD q 0)+i7 l (l.getD q 0) q:=rfl;obtain⟨k,hk⟩:∃k,k=l.getD q 0:=⟨_,rfl⟩;rw[<- hk]at hC hp h0 h2;have he:k<21:=(by omega);have hc:=ac ha k;rw[HG.out _ k he]at hc;obtain⟨j,hj⟩:∃j,j=jx l q:=⟨_,rfl⟩;rw[<- h2,<-hj]at hc;rw[<- hj]at ho h2;have hB:=h3.cell j ho;have hF:=h3.frozen j;have h5:dM l (fun i=>if i=j then q else F i) (q+1):=(by have h:=h8.out.step (by rw[h9.out];exact e);rw[<- hj]at h;exact h);obtain⟨v0,hx⟩:∃v0,v0=F j:=⟨_,rfl⟩;rw[<- hx]at hB;have hD:(wr.setCell ⟨w.heap.size+1,j,none⟩ (.int .i64 (q:Nat))).cell? ⟨w.heap.size,k,none⟩=some (.int .i64 (j:Nat)):=(by have h:=ac (fb ha (k:=w.heap.size+1) (by omega) j (.int .i64 (q:Nat))) k;rw[HG.out _ k he,<-h2]at h;exact h);have hE:=ae (fb ha (k:=w.heap.size+1) (by omega) j (.int .i64 (q:Nat))) k;have h4:=(h3.set j q).other (g2:=w.heap.size) (by omega) k (.int .i64 ((j+1:Nat):Int));have hy:=aa h4;have hA:=aa h5;have HK:=aa hk;have hz:=aa h0;have HJ:=aa h2;have hr:j<=258:=(by omega);clear ha hb hn hv hk h0 h3 h4 h8 h5 h2 hj hx hw hi hg;go_wp2_with fail;go_roundw;case rel=>
    refine⟨q+1,_,by omega,by go_num,hA,?_,hy.out,(HB.out.setCell (p:=⟨w.heap.size+1,j,none⟩) (by show _<=w.heap.size+1;omega) _).setCell (p:=⟨w.heap.size,k,none⟩) (ah _) _⟩;have h1:=au (fb H1.out (k:=w.heap.size+1) (by omega) j (.int .i64 (q:Nat))) k (.int .i64 ((j+1:Nat):Int));rw[hm.out]at h1;have e2:(fun i=>if i=k then j+1 else cQ l i+i7 l i q)=fun i=>cQ l i+i7 l i (q+1):=by
     funext i;by_cases ei:i=k;·rw[Ng ei,ei,hz.out,HJ.out,OL]
     ·rw[Nf ei,jF l i q (by rw[h9.out];exact e),Nf (by rw[<- HK.out];exact fun h=>ei h.symm)];rfl
    rw[e2]at h1;exact h1
   case measure=>simp[intOf];omega
  ·obtain rfl:q=n:=(by omega);clear ha hb h3 hw hi hg;go_wp2_with fail;go_ret;exact⟨_,F,rfl,HR.out,h8.out,HB.out⟩
def tbF(s0:Value)(K F P:Nat->Nat)(s4:Value)(i:Nat):Value:=if i=0 then s0 else if i<22 then .int .i64 (K (i-1))else if i<43 then .int .i64 (F (i-22))else if i<64 then .int .i64 (P (i-43))else s4
def tb(s0:Value)(K F P:Nat->Nat)(s4:Value):Array Value:=(Array.range 65).map (tbF s0 K F P s4)
theorem eI(s0:Value)(K F P:Nat->Nat)(s4:Value):(tb s0 K F P s4).size=65:=by simp[tb]
theorem l8(s0:Value)(K F P:Nat->Nat)(s4:Value)(i:Nat)(h:i<65):(tb s0 K F P s4)[i]? =some (tbF s0 K F P s4 i):=by simp[tb,h]
theorem sq(s0:Value)(K F P:Nat->Nat)(s4:Value):(tb s0 K F P s4)[0]? =some s0:=by rw[l8 _ _ _ _ _ 0 (by omega)];rfl
theorem yE(s0:Value)(K F P:Nat->Nat)(s4:Value)(k:Nat)(h:k<21):(tb s0 K F P s4)[1+k]? =some (.int .i64 (K k:Nat)):=by rw[l8 _ _ _ _ _ _ (by omega),tbF,Nf (by omega),Ng (by omega),show 1+k-1=k by omega]
theorem mT(s0:Value)(K F P:Nat->Nat)(s4:Value)(k:Nat)(h:k<21):(tb s0 K F P s4)[22+k]? =some (.int .i64 (F k:Nat)):=by rw[l8 _ _ _ _ _ _ (by omega),tbF,Nf (by omega),Nf (by omega),Ng (by omega),show 22+k-22=k by omega]
theorem mU(s0:Value)(K F P:Nat->Nat)(s4:Value)(k:Nat)(h:k<21):(tb s0 K F P s4)[43+k]? =some (.int .i64 (P k:Nat)):=by rw[l8 _ _ _ _ _ _ (by omega),tbF,Nf (by omega),Nf (by omega),Nf (by omega),Ng (by omega),show 43+k-43=k by omega]
theorem yF(s0:Value)(K F P:Nat->Nat)(s4:Value):(tb s0 K F P s4)[64]? =some s4:=by rw[l8 _ _ _ _ _ 64 (by omega)];rfl
theorem u6q(s0:Value)(K F P:Nat->Nat)(s4:Value)(h0:s0.oneCell'=true)(h4:s4.oneCell'=true):(tb s0 K F P s4).all (·.oneCell')=true:=by
 rw[QS];intro i h;have:(tb s0 K F P s4)[i]=tbF s0 K F P s4 i:=by simp[tb]
 rw[this,tbF];repeat' split
 all_goals first
  | exact h0
  | exact h4
  | rfl
theorem uZ{cs:Array Value}{s0:Value}{K F P:Nat->Nat}{s4:Value}(hs:cs.size=65)(h:∀i,i<65->cs[i]? =some (tbF s0 K F P s4 i)):cs=tb s0 K F P s4:=by
 apply Array.ext_getElem?;intro i;by_cases hi:i<65;·rw[h i hi,l8 _ _ _ _ _ i hi]
 ·rw[Rx (by omega),Rx (by rw[eI];omega)]
theorem L5{s0:Value}{K F P K2 F2 P2:Nat->Nat}{s4:Value}(hK:∀i,i<21->K i=K2 i)(hF:∀i,i<21->F i=F2 i)(hP:∀i,i<21->P i=P2 i):tb s0 K F P s4=tb s0 K2 F2 P2 s4:=by
 refine uZ (eI ..) fun i hi=> ?_;rw[l8 _ _ _ _ _ i hi,tbF,tbF];congr 1;split;·rfl
 ·split;·rw[hK _ (by omega)]
  ·split;·rw[hF _ (by omega)]
   ·split;·rw[hP _ (by omega)]
    ·rfl
theorem yG(s0:Value)(K F P:Nat->Nat)(s4:Value)(k x:Nat)(hk:k<21):(tb s0 K F P s4).setIfInBounds (22+k) (.int .i64 x)=tb s0 K (fun i=>if i=k then x else F i) P s4:=by
 refine uZ (by rw[PZ,eI]) fun i hi=> ?_;rw[Py,l8 _ _ _ _ _ i hi,eI];by_cases e:22+k=i;·subst e;rw[Ng rfl,Ng hi,tbF,Nf (by omega),Nf (by omega),Ng (by omega),Ng (by omega)]
 ·rw[Nf e,tbF,tbF];congr 1;split;·rfl
  ·split;·rfl
   ·split;·rw[Nf (by omega)]
    ·rfl
theorem yH(s0:Value)(K F P:Nat->Nat)(s4:Value)(k x:Nat)(hk:k<21):(tb s0 K F P s4).setIfInBounds (43+k) (.int .i64 x)=tb s0 K F (fun i=>if i=k then x else P i) s4:=by
 refine uZ (by rw[PZ,eI]) fun i hi=> ?_;rw[Py,l8 _ _ _ _ _ i hi,eI];by_cases e:43+k=i;·subst e;rw[Ng rfl,Ng hi,tbF,Nf (by omega),Nf (by omega),Nf (by omega),Ng (by omega),Ng (by omega)]
 ·rw[Nf e,tbF,tbF];congr 1;split;·rfl
  ·split;·rfl
   ·split;·rfl
    ·split;·rw[Nf (by omega)]
     ·rfl
theorem Bx(s0:Value)(K F P:Nat->Nat)(s4 v:Value):(tb s0 K F P s4).setIfInBounds 64 v=tb s0 K F P v:=by
 refine uZ (by rw[PZ,eI]) fun i hi=> ?_;rw[Py,l8 _ _ _ _ _ i hi,eI];by_cases e:64=i;·subst e;rw[Ng rfl,Ng hi];rfl
 ·rw[Nf e,tbF,tbF];congr 1;split;·rfl
  ·split;·rfl
   ·split;·rfl
    ·rw[Ng (by omega),Ng (by omega)]
def i8(cs:Array Value):Nat->List Value->Array Value
 | _, []=>cs
 | o,v::vs=>i8 (cs.setIfInBounds o v) (o+1) vs
theorem pz:∀(vs:List Value) (cs:Array Value) (o:Nat),(i8 cs o vs).size=cs.size
 | [],_,_=>rfl
 | v::vs,cs,o=>by rw[i8,pz vs,PZ]
theorem rG:∀(vs:List Value) (cs:Array Value) (o i:Nat),i<cs.size->(i8 cs o vs)[i]? =if o<=i/\i<o+vs.length then vs[i-o]? else cs[i]?
 | [],cs,o,i,_=>by rw[i8,Nf (by simp)]
 | v::vs,cs,o,i,h=>by
  rw[i8,rG vs _ _ i (by rw[PZ];exact h),Py];by_cases e:o=i;·subst e;rw[Nf (by omega),Ng rfl,Ng h,Ng (by simp),Ow];rfl
  ·rw[Nf e];by_cases e2:o+1<=i/\i<o+1+vs.length;·rw[Ng e2,Ng (by simp;omega),show i-o=(i-(o+1))+1 by omega];rfl
   ·rw[Nf e2,Nf (by simp;omega)]
theorem oC{g:Nat}{t:TypeId}:∀(vs:List Value) (cs:Array Value) (o:Nat) (w:World),Blk w g t cs->Blk (w.setCells g o vs) g t (i8 cs o vs)
 | [],_,_,_,h=>h
 | v::vs,cs,o,w,h=>by rw[World.setCells,i8];exact oC vs _ _ _ (au h o v)
theorem jp{B:Nat}{w:World}{g:Nat}(hg:B<=g):∀(vs:List Value) (o:Nat) (w':World),Below B w w'->Below B w (w'.setCells g o vs)
 | [],_,_,h=>h
 | v::vs,o,w',h=>by rw[World.setCells];exact jp hg vs _ _ (h.setCell (p:=⟨g,o,none⟩) hg v)
theorem DX(s0:Value)(K F P K2:Nat->Nat)(s4:Value):i8 (tb s0 K F P s4) 1 (eZ K2).toList=tb s0 K2 F P s4:=by
 have hl:(eZ K2).toList.length=21:=gK K2;refine uZ (by rw[pz,eI]) fun i hi=> ?_;rw[rG _ _ _ i (by rw[eI];exact hi),hl];by_cases e:1<=i/\i<1+21;·rw[Ng e,QP,oB _ _ (by omega),tbF,Nf (by omega),Ng (by omega)]
 ·rw[Nf e,l8 _ _ _ _ _ i hi,tbF,tbF];congr 1;split;·rfl
  ·rw[Nf (c:=i<22) (by omega),Nf (c:=i<22) (by omega)]
theorem Hy{w:World}{g:Nat}{t:TypeId}{s0:Value}{K F P:Nat->Nat}{s4:Value}(h:Blk w g t (tb s0 K F P s4)):w.rangeAt g 43 (eZ P).toList:=by intro j v hv;rw[ac h];have hj:j<21:=(by have:=(List.getElem?_eq_some_iff.1 hv).1;have hl:(eZ P).toList.length=21:=gK P;omega);rw[mU _ _ _ _ _ j hj,<-hv,QP,oB _ _ hj]
theorem KH{w:World}{g:Nat}{t:TypeId}{s0:Value}{K F P:Nat->Nat}{s4:Value}(h:Blk w g t (tb s0 K F P s4))(o n:Nat)(hn:o+n<=65):w.there g o n:=by intro j hj;refine⟨?_,ae h _⟩;rw[ac h,l8 _ _ _ _ _ _ (by omega)];rfl
theorem oj:(∀ w,(zeroValue 203).run prog w=.ok (.agg (tb (.slice none 0 0) (fun _=>0) (fun _=>0) (fun _=>0) (.slice none 0 0))) w)/\(prog.info? 203).map (·.size)=some 65:=R2 (by kernel_rfl)
theorem Ix:prog.built 203 []=some (tb (.slice none 0 0) (fun _=>0) (fun _=>0) (fun _=>0) (.slice none 0 0)):=by kernel_rfl
theorem Lg(A:Option Addr)(n c:Nat):prog.built 203 [(0,.slice A n c)]=some (tb (.slice A n c) (fun _=>0) (fun _=>0) (fun _=>0) (.slice none 0 0)):=by kernel_rfl
theorem aA.setRow{w:World}{B g c n:Nat}{f:Nat->Nat}(h:aA w B g c n f){k:Nat}(h0:g≠k)(cs:Array Value):aA (w.setRow k cs) B g c n f:=by
 refine⟨h.1,?_⟩;rcases h.2 with⟨h1,h2⟩|⟨g',cap,cur,hv,hB,hh,r⟩;·exact .inl ⟨h1,h2⟩
 ·have hg:g'=g:=(by simp only[Ou,On,Qi]at hv;exact hv.1.1.symm);refine .inr ⟨g',cap,cur,hv,hB,?_,r⟩;rw[setRow_other _ _ _ _ (by omega)];exact hh
theorem jq{g k:Nat}{t:TypeId}{cs:Array Value}(h0:g≠k):∀(vs:List Value) (o:Nat) (w:World),Blk w g t cs->Blk (w.setCells k o vs) g t cs
 | [],_,_,h=>h
 | v::vs,o,w,h=>by rw[World.setCells];exact jq h0 vs _ _ (fb h h0 o v)
def tb0:Array Value:=tb (.slice none 0 0) (fun _=>0) (fun _=>0) (fun _=>0) (.slice none 0 0)
theorem jJ:tb0.size=65:=eI ..
theorem yD:tb0.all (·.oneCell')=true:=u6q _ _ _ _ _ rfl rfl
theorem setRow_self(w:World)(g:Nat)(cs:Array Value)(t:TypeId)(h:Blk w g t cs):Blk (w.setRow g cs) g t cs:=QJ _ _ _ _ _ _ h
theorem l7{P:Program}{fn:Func}{p u:Tmp}{ty:TypeId}(h:fn.results=#[.cell p ty,.tmp u])(tmps:Array Value)(w:World)(g:Nat)(t:TypeId)(cs:Array Value)(fr:Nat×Nat)(d:TypeDesc)
 (hp:tmps.getD p undef=.pointer (some ⟨g,0,none⟩)) (hg:w.heap[g]? =some (.cells cs t fr)) (hu:P.underlying ty=some d) (hd:d.isRow=true) (hi:(P.info? ty).map (·.size)=some cs.size) (v:Value) (hv:tmps.getD u undef=v):
 (results fn tmps).run P w=.ok (.tuple #[.agg cs,v]) w:=by rw[results_cell_tmp h,hp,hv];have:=run_loadVar_mid (P:=P) w g 0 ty cs.toList d (fun j v hv=>by rw[N8,cell_of_row w g j cs t fr hg];simpa using hv) hu hd (by simpa using hi);simp[asAddr,this,Result.andThen]
theorem il{P:Program}{ops:Array Oper}{rest:List Oper}{o:Oper}{a:Act}{w:World}{Q:Exit->Act->World->Prop}{x:Operand}
 (hw:Region.wanted o (yielded ops a.tmps)=true) (h0:o.op=.move x) (hn:wpList P ops Q rest (a.put o.dst (a.eval x)) w):wpList P ops Q (o::rest) a w:=by unfold wpList;rw[Ng hw];left;unfold Oper.wp;simp[execOp,h0];exact hn
theorem pE{P:Program}{ops:Array Oper}{rest:List Oper}{o:Oper}{a:Act}{w:World}{Q:Exit->Act->World->Prop}(hg:o.guard=none)(t:TypeId)(parts:Array (Nat×Operand))(ho:o.op=.build t parts)
 (ps:List (Nat×Value)) (h0:(parts.map fun(i,x)=>(i,a.eval x)).toList=ps) (cs:Array Value) (hb:P.built t ps=some cs)
 (h:wpList P ops Q rest (a.put o.dst (.agg cs)) w):wpList P ops Q (o::rest) a w:=by
 refine wpList_build hg t parts ho ?_ ?_;·rw[h0,hb];rfl
 ·rw[h0,hb];exact h
theorem uT(w:World)(A:Option Addr)(n c:Nat)(L:List Int)(hL:ZIn w A n L)(hn:n<=maxLen)(h:¬a6 L):Calls prog 162 #[.slice A n c] w fun e w'=>e=.returned (.tuple #[.agg tb0,.int .i64 80])/\Below w.heap.size w w':=by have hz:=oj.1;have hi:=oj.2;have h1:=Ix;rw[show tb (.slice none 0 0) (fun _=>0) (fun _=>0) (fun _=>0) (.slice none 0 0)=tb0 from rfl]at hz h1;have h0:Below w.heap.size w (w.alloc (.cells tb0 203)):=(Nj _ w).alloc (ah _) _;have HC:=aa (lu (w.alloc (.cells tb0 203)) A n c L (hL.below h0) hn);rw[Nf h]at HC;have hk:=aj w 203 tb0;have HK:=aa hk;have HS:=aa jJ;have HO:=aa yD;have HI:=aa hi;have h4:=aa h1;generalize tb0=Z at*;have h3:=aa h0;clear hL h h0 hk hi h1;go_enter func162,ntmps162;go_wp2_with fail;clear hz;refine HC.out.mono ?_;rintro e w2 ⟨rfl,rfl⟩;generalize w.alloc (.cells Z 203)=w1 at*;have h2:Hid ((prog.info? 203).map (·.size)=some Z.size):=aa (by rw[HS.out];exact HI.out);go_upto_region 3 with fail;refine Qj (pE rfl _ _ rfl [] (by simp) Z h4.out ?_);have h5:=cE (P:=prog) HK.out h2.out rfl HO.out;go_wp2_with fail;exact ND (v:=.tuple #[.agg Z,.int .i64 80]) (l7 rfl _ _ _ _ _ _ _ rfl (setRow_self _ _ _ _ HK.out) underlying203 rfl h2.out _ rfl) rfl ⟨rfl,below_setRow h3.out (ah _) _⟩
theorem uy(f:Nat->Nat)(k x:Nat)(h:x=f (k+1)):(fun i=>if i=k+1 then x else if i<=k then f i else 0)=fun i=>if i<=k+1 then f i else 0:=by
 funext i;by_cases e:i=k+1;·rw[Ng e,Ng (by omega),e,h]
 ·rw[Nf e];by_cases e2:i<=k;·rw[Ng e2,Ng (by omega)]
  ·rw[Nf e2,Nf (by omega)]
theorem uz(f:Nat->Nat)(h:f 0=0):(fun i=>if i<=0 then f i else 0)=fun _=>0:=by
 funext i;by_cases e:i<=0;·rw[Ng e,show i=0 by omega,h]
 ·rw[Nf e]
theorem rL(w:World)(A:Option Addr)(n c:Nat)(L:List Int)(hL:ZIn w A n L)(hn:n<=maxLen)(h:a6 L):Calls prog 162 #[.slice A n c] w fun e w'=>
 ∃g F,e=.returned (.tuple #[.agg (tb (.slice A n c) (bI (nl L)) (fun k=>cd (nl L) k 0) (cQ (nl L)) (.slice (some ⟨g,0,none⟩) n n)),.int .i64 0])/\aA w' w.heap.size g n n F/\dM (nl L) F n/\Below w.heap.size w w':=by
 have hz:=oj.1;have hi:=oj.2;rw[show tb (.slice none 0 0) (fun _=>0) (fun _=>0) (fun _=>0) (.slice none 0 0)=tb0 from rfl]at hz;have h0:Below w.heap.size w (w.alloc (.cells tb0 203)):=(Nj _ w).alloc (ah _) _;have HC:=aa (lu (w.alloc (.cells tb0 203)) A n c L (hL.below h0) hn);rw[Ng h]at HC;have hk:=aj w 203 tb0;have HK:=aa hk;have HS:=aa jJ;have HI:=aa hi;have hT:=aa (Lg A n c);have HX:=aa h0;have hG:=aa (hL.below h0);have hH:=aa h;have H3:=aa hL;obtain⟨l,hl⟩:∃l,l=nl L:=⟨_,rfl⟩;have h6:=fO hH.out;have pg:l.length=n:=by rw[hl,bL,hG.out.1]
 have rR:n<=258:=by have:=hH.out.2.1;rw[hG.out.1]at this;exact this
 rw[<- hl]at h6;rw[<- hl];have hV:=aa h6;have ql:=aa pg;have HL:=aa hl;clear h6 pg hl;generalize tb0=Z at*;clear hL h h0 hk hi;go_enter func162,ntmps162;go_wp2_with fail;refine HC.out.mono ?_;rintro e w2 ⟨rfl,rfl⟩;obtain⟨T0,hI⟩:∃T0,T0=tb (.slice A n c) (fun _=>0) (fun _=>0) (fun _=>0) (.slice none 0 0):=⟨_,rfl⟩;rw[<- hI]at hT;have h8:T0.size=65:=by rw[hI,eI]
 have HA:=aa hI;clear hI;have hA:(w.alloc (.cells Z 203)).heap.size=w.heap.size+1:=by simp
 have h1:=aa hA;clear hA;generalize w.alloc (.cells Z 203)=w1 at*;go_upto_region 4 with fail;refine Qj (il rfl rfl (pE rfl _ _ rfl [(0,.slice A n c)] (by simp;rfl) T0 hT.out ?_));have ps:T0.all (·.oneCell')=true:=by rw[HA.out];exact u6q _ _ _ _ _ rfl rfl
 have pb:(prog.info? 203).map (·.size)=some T0.size:=by rw[h8];exact HI.out
 have HP:=cE (P:=prog) (aj w1 203 Z) pb (by rw[HS.out,h8]) ps;have HJ:Blk ((w1.alloc (.cells Z 203)).setRow w1.heap.size T0) w1.heap.size 203 T0:=QJ _ _ _ _ _ _ (aj w1 203 Z);have hM:Below w1.heap.size w1 ((w1.alloc (.cells Z 203)).setRow w1.heap.size T0):=below_setRow ((Nj _ _).alloc (ah _) _) (ah _) _;have p4:=aa HJ;have pk:((w1.alloc (.cells Z 203)).setRow w1.heap.size T0).cell? ⟨w1.heap.size,0,none⟩=some (.slice A n c):=by rw[ac HJ,HA.out,sq]
 have hu:=aO hM HK.out;have hc:=aa hu;have hf:=aa (hG.out.below hM);have p0:=aa (HX.out.trans (hM.mono (by have:=h1.out;omega)));have hC:w1.heap.size<((w1.alloc (.cells Z 203)).setRow w1.heap.size T0).heap.size:=by rw[size_setRow];simp
 clear ps pb HJ hM hu;go_upto_region 5 with fail;clear HP;generalize (w1.alloc (.cells Z 203)).setRow w1.heap.size T0=w5 at*;have h4:=aa (Fz w5 A n c L hf.out hH.out);rw[<- HL.out]at h4;clear hz;go_wp2_with fail;refine h4.out.mono ?_;rintro e w6 ⟨rfl,ho⟩;have hP:=aO ho p4.out;have hw:=aO ho hc.out;have hq:=ap p0.out ho;have hD:w1.heap.size<w6.heap.size:=OM hC ho.size;rw[HA.out]at hP;have HR:=KH hP 1 21 (by omega)
 have hy:=run_storeCells_cells (P:=prog) w1.heap.size 1 (eZ (bI l)).toList 0 w6 (fun j hj=>by
  have:(eZ (bI l)).toList.length=21:=gK _
  have:=(HR j (by omega)).1
  simpa using this) (fun j hj=>by
  have:(eZ (bI l)).toList.length=21:=gK _
  have:=(HR j (by omega)).2
  simpa using this) (fun v hv=>(Array.all_eq_true_iff_forall_mem.1 (y4 (bI l))) v (by simpa using hv))
 simp only[Og]at hy;have HM:=oC (eZ (bI l)).toList _ 1 w6 hP;rw[DX]at HM;have hF:=aa HM;have he:=aa (jq (k:=w1.heap.size) (by have:=h1.out;omega) (eZ (bI l)).toList 1 w6 hw);have HY:=aa (jp (g:=w1.heap.size) (by have:=h1.out;omega) (eZ (bI l)).toList 1 w6 hq);have po:(eZ (bI l)).size=21:=gK _;clear hP hw hq ho HR HM h4 p4 hc p0 pk;generalize eZ (bI l)=TK at*;go_upto_region 6 with fail;clear hy;have h9:w1.heap.size<(w6.setCells w1.heap.size 1 TK.toList).heap.size:=OM hD (jp (g:=w1.heap.size) (ah _) TK.toList 1 w6 (Nj w1.heap.size w6 |>.mono (ah _))).size;generalize w6.setCells w1.heap.size 1 TK.toList=w7 at*;obtain⟨g5,p7⟩:∃g5,g5=w1.heap.size:=⟨_,rfl⟩;rw[<- p7]at hF h9 |-;have rM:w.heap.size<g5:=by have:=h1.out;omega
 clear hC hD h1 HK hG hf HX hT HC h8 p7;obtain⟨K,hK⟩:∃K,K=bI l:=⟨_,rfl⟩;rw[<- hK]at hF;go_wp2_with fail;go_loopw [6,19] (fun s6 x wx=>∃k:Nat,k<=20/\x=.int .i64 k/\Blk wx g5 203 (tb (.slice A n c) K (fun i=>if i<=k then cd l i 0 else 0) (fun i=>if i<=k then cQ l i else 0) (.slice none 0 0))/\Blk wx w.heap.size 203 Z/\Below w.heap.size w wx/\g5<wx.heap.size) (fun _ x _=>20-(intOf x).toNat)
 case atStart=>refine⟨0,Nh _,rfl,?_,he.out,HY.out,h9⟩;have e1:=uz (fun i=>cd l i 0) (Fq l);have e2:=uz (cQ l) (J2 l);rw[e1,e2];exact hF.out
 case round=>
  obtain⟨k,hk,rfl,h0,HF,hb,HQ⟩:=hrel;have H1:=aa h0;have HZ:=aa HF;have HB:=aa hb;by_cases e:k<20
  ·have d0:decide ((k:Int)<20)=true:=aX (by omega);obtain⟨k1,HH⟩:∃k1,k1=k+1:=⟨_,rfl⟩;have rO:(k:Int)+1=(k1:Int):=(by omega);have q1:=(ac h0 (22+k)).trans (mT _ _ _ _ _ k (by omega));rw[Ng (ah _)]at q1;have q2:=(ac h0 (1+k)).trans (yE _ _ _ _ _ k (by omega));have q3:=(ac h0 (22+k1)).trans (mT _ _ _ _ _ k1 (by omega));have f3:=ae h0 (22+k1);have hs:=Li l e;rw[<- HH,<-hK]at hs;have HG:=Mb hV.out (show k1<=20 by omega) 0;have hr:=tf l k;rw[<- hK]at hr;obtain⟨x1,pv⟩:∃x1,x1=cd l k 0:=⟨_,rfl⟩;obtain⟨y1,HT⟩:∃y1,y1=K k:=⟨_,rfl⟩;obtain⟨z1,HU⟩:∃z1,z1=cd l k1 0:=⟨_,rfl⟩;rw[<- pv]at q1 hs;rw[<- HT]at q2 hs hr;rw[<- HU]at hs HG;have rv:((x1:Int)+(y1:Int))*2=(z1:Int):=(by omega);have rs:x1<=1048576:=(by omega);have p6:=aa HT;have qs:=aa HU;clear h0 HF hb hs pv HT HU;have r6:(k:Int)<21:=(by omega);have pf:(k1:Int)<21:=(by omega);go_upto_region 9 with fail;have hh:Blk wr.drew g5 203 (tb (.slice A n c) K (fun i=>if i<=k then cd l i 0 else 0) (fun i=>if i<=k then cQ l i else 0) (.slice none 0 0)):=H1.out;have hE:Blk wr.drew w.heap.size 203 Z:=HZ.out;have hp:Below w.heap.size w wr.drew:=HB.out.drew;have p1:=aa hh;have p3:=aa hE;have p2:=aa hp;have h2:g5<wr.drew.heap.size:=HQ;have p5:=aa h2;clear hh hE hp h2;have q3d:wr.drew.cell? ⟨g5,22+k1,none⟩=some (.int .i64 ((if k1<=k then cd l k1 0 else 0:Nat):Int)):=q3;have f3d:wr.drew.frozen? ⟨g5,22+k1,none⟩=false:=f3;obtain⟨s1,r7⟩:∃s1,s1=x1+y1:=⟨_,rfl⟩;have pn:(x1:Int)+(y1:Int)=(s1:Int):=(by omega);have r8:(s1:Int)*2=(z1:Int):=(by omega);have w1':IntKind.i64.wrap (k1:Int)=(k1:Int):=(by rw[Oe];omega);have w2':IntKind.i64.wrap (s1:Int)=(s1:Int):=(by rw[Oe];omega);have w3':IntKind.i64.wrap (z1:Int)=(z1:Int):=(by rw[Oe];omega);have h5:=aa HH;clear rv r7 HH;(go_still_tail 14,(by kernel_rfl));change wpList _ _ _ _ _ wr.drew;generalize wr.drew=wy at*;clear q1 q2 q3 f3;have hJ:=au p1.out (22+k1) (.int .i64 (z1:Nat));rw[yG _ _ _ _ _ k1 z1 (by omega)]at hJ;(have hS:(fun i=>if i=k1 then z1 else if i<=k then cd l i 0 else 0)=fun i=>if i<=k1 then cd l i 0 else 0:=by rw[h5.out];exact uy (fun i=>cd l i 0) k z1 (by rw[qs.out,h5.out]));rw[hS]at hJ;have ha:=aa hJ;have hY:=aa (fb p3.out (k:=g5) (by omega) (22+k1) (.int .i64 (z1:Nat)));have hW:=aa (p2.out.setCell (p:=⟨g5,22+k1,none⟩) (by show _<=g5;omega) (.int .i64 (z1:Nat)));have H4:Hid (g5<(wy.setCell ⟨g5,22+k1,none⟩ (.int .i64 (z1:Nat))).heap.size):=aa (by simpa using p5.out);clear hJ hS;go_upto_region 10 with fail;generalize wy.setCell ⟨g5,22+k1,none⟩ (.int .i64 (z1:Nat))=wz at*;clear q3d f3d p1 p3 p2 p5 H1 HZ HB rs pn r8 w2' w3';have r1:=(ac ha.out (43+k)).trans (mU _ _ _ _ _ k (by omega));rw[Ng (ah _)]at r1;have r2:=(ac ha.out (1+k)).trans (yE _ _ _ _ _ k (by omega));have r3:=(ac ha.out (43+k1)).trans (mU _ _ _ _ _ k1 (by omega));have g3:=ae ha.out (43+k1);have hR:=yk l k;rw[<- h5.out,<-hK,<-p6.out]at hR;have hx:=yj l k1;rw[ql.out]at hx;obtain⟨x2,q0⟩:∃x2,x2=cQ l k:=⟨_,rfl⟩;obtain⟨z2,HV⟩:∃z2,z2=cQ l k1:=⟨_,rfl⟩;rw[<- q0]at r1 hR;rw[<- HV]at hR hx;rw[<- p6.out]at r2;have pn:(x2:Int)+(y1:Int)=(z2:Int):=(by omega);have w2':IntKind.i64.wrap (z2:Int)=(z2:Int):=(by rw[Oe];omega);have qv:=aa HV;clear hR q0 HV;have hh:Blk wz.drew g5 203 (tb (.slice A n c) K (fun i=>if i<=k1 then cd l i 0 else 0) (fun i=>if i<=k then cQ l i else 0) (.slice none 0 0)):=ha.out;have hE:Blk wz.drew w.heap.size 203 Z:=hY.out;have hp:Below w.heap.size w wz.drew:=hW.out.drew;have q7:=aa hh;have hZ:=aa hE;have hX:=aa hp;have h2:g5<wz.drew.heap.size:=H4.out;have H5:=aa h2;clear hh hE hp h2;have q3d:wz.drew.cell? ⟨g5,43+k1,none⟩=some (.int .i64 ((if k1<=k then cQ l k1 else 0:Nat):Int)):=r3;have f3d:wz.drew.frozen? ⟨g5,43+k1,none⟩=false:=g3;(go_still_tail 13,(by kernel_rfl));change wpList _ _ _ _ _ wz.drew;generalize wz.drew=wq at*;clear r1 r2 r3 g3;go_wp2_with fail;go_roundw;case rel=>refine⟨k1,by have:=h5.out;omega,by first|rfl|go_num,?_,fb hZ.out (k:=g5) (by omega) _ _,hX.out.setCell (p:=⟨g5,43+k1,none⟩) (by show _<=g5;omega) _,by simpa using H5.out⟩;have HE:=au q7.out (43+k1) (.int .i64 (z2:Nat));rw[yH _ _ _ _ _ k1 z2 (by omega)]at HE;(have hS:(fun i=>if i=k1 then z2 else if i<=k then cQ l i else 0)=fun i=>if i<=k1 then cQ l i else 0:=by rw[h5.out];exact uy (cQ l) k z2 (by rw[qv.out,h5.out]));rw[hS]at HE;exact HE
   case measure=>have:=h5.out;simp[intOf];omega
  ·obtain rfl:k=20:=(by omega);have d0:decide ((20:Int)<20)=false:=aD (by omega);have h3:tb (.slice A n c) K (fun i=>if i<=20 then cd l i 0 else 0) (fun i=>if i<=20 then cQ l i else 0) (.slice none 0 0)=tb (.slice A n c) K (fun i=>cd l i 0) (cQ l) (.slice none 0 0):=L5 (fun _ _=>rfl) (fun i hi=>Ng (by omega)) (fun i hi=>Ng (by omega));rw[h3]at h0;have H2:=aa h0;have pk:=(ac h0 0).trans (sq _ _ _ _ _);have HD:=aa (H3.out.below hb);have hg:=aa (qw wr A n c L HD.out hH.out);rw[<- HL.out]at hg;have hit:(prog.info? 201).map (·.size)=some (eZ (cQ l)).toList.length:=(by rw[show (eZ (cQ l)).toList.length=21 from gK _];exact Mi.2);have qa:=aa hit;have qo:=aa (Hy h0);clear h3 H1 h0 hb HF hit he HY hF h9;go_upto_region 12 with fail;apply Qj;(iterate 9 go_step);refine wpList_load_mid rfl _ _ rfl g5 43 rfl (eZ (cQ l)).toList _ qo.out underlying201 rfl qa.out ?_;rw[RO];go_wp2_with fail;refine hg.out.mono ?_;rintro e w8 ⟨g,F,rfl,h7,hB,hN⟩;have rx:g5<g:=(by have:=h7.lt.1;omega);have hQ:=aO hN H2.out;have q4:=aO hN HZ.out;have q8:=(ac hQ 64).trans (yF _ _ _ _ _);have f8:=ae hQ 64;obtain⟨T9,hm⟩:∃T9,T9=tb (.slice A n c) K (fun i=>cd l i 0) (cQ l) (.slice (some ⟨g,0,none⟩) n n):=⟨_,rfl⟩;have HN:=au hQ 64 (.slice (some ⟨g,0,none⟩) n n);rw[Bx,<-hm]at HN;have pl:T9.size=65:=(by rw[hm,eI]);have pj:T9.all (·.oneCell')=true:=(by rw[hm];exact u6q _ _ _ _ _ rfl rfl);have hO:(prog.info? 203).map (·.size)=some T9.size:=(by rw[pl];exact HI.out);have ht:(prog.info? 203).map (·.size)=some T9.toList.length:=hO;have qb:=aa HN;have HW:=fb q4 (k:=g5) (by omega) 64 (.slice (some ⟨g,0,none⟩) n n);have qm:=aa ((h7.other (g2:=g5) (by omega) 64 (.slice (some ⟨g,0,none⟩) n n)).setRow (k:=w.heap.size) (by omega) T9);have q5:=aa (below_setRow ((ap HB.out hN).setCell (p:=⟨g5,64,none⟩) (by show _<=g5;omega) (.slice (some ⟨g,0,none⟩) n n)) (ah _) T9);have rb:=cE (P:=prog) HW hO (by rw[HS.out,pl]) pj;have r0:=aa HW;have q9:=aa ht;have H0:=aa hO;have qq:=aa hm;have H8:=aa hB;have HO:=HB.out.size;clear hQ q4 HN hO ht HW h7 hB hm pj hN;go_upto_region 13 with fail;refine Qj (wpList_load_mid rfl _ _ rfl g5 0 rfl T9.toList _ (mM qb.out) underlying203 rfl q9.out ?_);rw[RO];go_wp2_with fail;refine ND (v:=.tuple #[.agg T9,.int .i64 0]) (l7 rfl _ _ _ _ _ _ _ rfl (QJ _ _ _ _ _ _ r0.out) underlying203 rfl H0.out _ rfl) rfl ⟨g,F,by rw[qq.out,hK],World.ownsRow.mono qm.out HO,H8.out,q5.out⟩
def gi(w:World)(g:Nat)(A:Option Addr)(n c:Nat)(l:List Nat):Prop:=∃gs F B,Blk w g 203 (tb (.slice A n c) (bI l) (fun k=>cd l k 0) (cQ l) (.slice (some ⟨gs,0,none⟩) n n))/\aA w B gs n n F/\dM l F n
theorem gi.below{w w':World}{g:Nat}{A:Option Addr}{n c:Nat}{l:List Nat}(h:gi w g A n c l)(hb:Below w.heap.size w w'):gi w' g A n c l:=by obtain⟨gs,F,B,h1,h2,h3⟩:=h;exact⟨gs,F,B,aO hb h1,aA.below h2 hb h2.lt.2,h3⟩
theorem ze(w:World)(g:Nat)(A:Option Addr)(n c:Nat)(l:List Nat)(hT:gi w g A n c l)(h0:eW l)(x k:Nat)(hk:k<=20)(hx:x<2^k):Calls prog 278 #[.pointer (some ⟨g,0,none⟩),.int .i64 x,.int .i64 k] w fun e w'=>e=.returned (.bool (decide (x*pw k<jP l)))/\∃d,w'=w.drewN d:=by
 obtain⟨gs,F,B,hb,_,_⟩:=hT;have q1:=(ac hb (22+20)).trans (mT _ _ _ _ _ 20 (by omega));have q2:=(ac hb (1+20)).trans (yE _ _ _ _ _ 20 (by omega));have hl:=Lh h0;have h2:=h0.sum;obtain⟨a,ha⟩:∃a,a=cd l 20 0:=⟨_,rfl⟩;obtain⟨b,h4⟩:∃b,b=bI l 20:=⟨_,rfl⟩;rw[<- ha]at q1 hl;rw[<- h4]at q2 hl;obtain⟨S,hS⟩:∃S,S=jP l:=⟨_,rfl⟩;rw[<- hS]at hl h2 |-;have h8:(a:Int)+(b:Int)=(S:Int):=by omega
 have hw:IntKind.i64.wrap (S:Int)=(S:Int):=by rw[Oe];omega
 have h3:x*pw k<1048576:=by rw[<- AQ hk];exact O3 hx (gz k)
 obtain⟨j,hj⟩:∃j,j=20-k:=⟨_,rfl⟩;have h9:(20:Int)-(k:Int)=(j:Int):=by omega
 have h5:pw k=2^j:=by rw[hj];rfl
 rw[h5]at h3 |-;have h6:=aa h3;clear hb ha h4 hS hl h5 hx h0 h2 hj h3 hk;go_enter func278,ntmps278;go_upto_region 1 with fail;go_quiet (fail);go_wp2_with fail;have h7:wrap64 ((x:Int)*2^j)=((x*2^j:Nat):Int):=by have h1:((x:Int)*2^j)=((x*2^j:Nat):Int):=(by rw[Rf,QK];rfl);rw[h1];have:=h6.out;generalize x*2^j=y at*;unfold wrap64;omega
 rw[h7];have hd:decide (((x*2^j:Nat):Int)<(S:Int))=decide (x*2^j<S):=by
  generalize x*2^j=y;by_cases h:y<S;·rw[No h,aX (by omega)]
  ·rw[Nk h,aD (by omega)]
 rw[hd];go_ret;exact⟨rfl,_,rfl⟩
theorem B6(w:World)(g:Nat)(A:Option Addr)(n c:Nat)(L:List Int)(hT:gi w g A n c (nl L))(hL:ZIn w A n L)(ho:a6 L):Calls prog 163 #[.pointer (some ⟨g,0,none⟩)] w fun e w'=>∃gc,e=.returned (.slice (some ⟨gc,0,none⟩) n n)/\aA w' w.heap.size gc n n (dE (nl L))/\Below w.heap.size w w':=by
 have hE:=hL.1;have hO:n<=258:=by have:=ho.2.1;omega
 obtain⟨b,off,rfl,h7⟩:=na hL ho;have h6:=fO ho;obtain⟨l,hl⟩:∃l,l=nl L:=⟨_,rfl⟩;have hD:l.length=n:=by rw[hl,bL,hE]
 rw[<- hl]at h7 h6 hT |-;obtain⟨gs,F,B,hb,hi,hm⟩:=hT;have HF:=aa h6;have h5:=aa hD;have hv:=aa h7;have hu:=aa hb;have hw:=aa hi;have hc:=aa hm;have q4:=(ac hb 64).trans (yF _ _ _ _ _);have hM:=bK w n (by omega);have hI:=aa (bz w w.heap.size n (ah _) (by omega));clear hl ho hL hE h6 hD h7 hb hi hm;go_enter func163,ntmps163;go_upto_region 2 with fail;have q5:(w.alloc (.cells (madeCells #[.int .i64 0] n) 3)).cell? ⟨g,64,none⟩=some (.slice (some ⟨gs,0,none⟩) n n):=by rw[World.cell?_alloc_lt _ _ _ (Nr w _ q4)];exact q4
 clear hM;go_wp2_with fail;clear q4 q5;go_loopw [4,5,6,18] (fun s4 s5 s6 x wx=>∃(q:Nat) (G:Nat->Nat),q<=n/\x=.int .i64 q/\Hid (∀ j,j<q->G (F j)=dE l (F j))/\aA wx w.heap.size w.heap.size n n G/\Below w.heap.size w wx) (fun _ _ _ x _=>n-(intOf x).toNat)
 case atStart=>exact⟨0,fun _=>0,Nh _,rfl,aa (fun s hs=>by omega),hI.out,(Nj _ w).alloc (ah _) _⟩
 case round=>
  obtain⟨q,G,hq,rfl,hG,hr,hz⟩:=hrel;have HR:=aa hr;have HB:=aa hz;by_cases e:q<n
  ·have hB:=hc.out;rw[<- h5.out]at hB;obtain⟨h4,hF⟩:=hB.get (i:=q) (by rw[h5.out];exact e);have h0:=zu h4;rw[hF]at h0;have h8:=HF.out.one h4;have hh:=th HF.out h4;have hn:=(hw.out).cell q e;have hf:=hv.out (F q) (by rw[<- h5.out];exact h4);rw[h5.out]at h4;obtain⟨s,hs⟩:∃s,s=F q:=⟨_,rfl⟩;rw[<- hs]at h0 hn hf h4 h8 hh;obtain⟨k,hk⟩:∃k,k=l.getD s 0:=⟨_,rfl⟩;rw[<- hk]at h0 hf h8;have q0:=(ac hu.out 0).trans (sq _ _ _ _ _);have q1:=(ac hu.out (22+k)).trans (mT _ _ _ _ _ k (by omega));have q2:=(ac hu.out (43+k)).trans (mU _ _ _ _ _ k (by omega));obtain⟨x1,hC⟩:∃x1,x1=cd l k 0:=⟨_,rfl⟩;obtain⟨p1,hp⟩:∃p1,p1=cQ l k:=⟨_,rfl⟩;obtain⟨v1,ht⟩:∃v1,v1=dE l s:=⟨_,rfl⟩;have hA:=yj l k;rw[h5.out,<-hp]at hA;rw[<- hC]at q1;rw[<- hp]at q2;rw[<- hC,<-hp,<-ht]at h0;rw[<- ht]at hh;have qcw:=(HB.out.cell (p:=⟨gs,q,none⟩) (Nr w _ hn)).trans hn;have qcs:=(HB.out.cell (p:=⟨b,off+s,none⟩) (Nr w _ hf)).trans hf;have q0':=(HB.out.cell (p:=⟨g,0,none⟩) (Nr w _ q0)).trans q0;have q1':=(HB.out.cell (p:=⟨g,22+k,none⟩) (Nr w _ q1)).trans q1;have q2':=(HB.out.cell (p:=⟨g,43+k,none⟩) (Nr w _ q2)).trans q2;have h9:=aa (ub wr b off n c s k h4 qcs);obtain⟨y1,hN⟩:∃y1,y1=x1+q:=⟨_,rfl⟩;have hQ:(x1:Int)+(q:Int)=(y1:Int):=(by omega);have hP:(y1:Int)-(p1:Int)=(v1:Int):=(by omega);have w1':IntKind.i64.wrap (y1:Int)=(y1:Int):=(by rw[Oe];omega);have w2':IntKind.i64.wrap (v1:Int)=(v1:Int):=(by rw[Oe];omega);have hK:(k:Int)<21:=(by omega);have HS:=aa hs;have HV:=aa ht;have hg:=(HR.out).cell s h4;have he:=(HR.out).frozen s;clear hn hf q0 q1 q2 hF hB h0 hC hp hN h8 hk hr hz hs ht qcs;have t1:({ heap:=wr.heap,tape:=wr.tape,drawn:=wr.drawn+1,os:=wr.os,output:=wr.output }:World).cell? ⟨g,22+k,none⟩=some (.int .i64 (x1:Nat)):=q1';have t2:({ heap:=wr.heap,tape:=wr.tape,drawn:=wr.drawn+1,os:=wr.os,output:=wr.output }:World).cell? ⟨g,43+k,none⟩=some (.int .i64 (p1:Nat)):=q2';have hx:=aa t1;have hy:=aa t2;clear t1 t2 q1' q2';(go_upto_region 6 with(go_at_call 165;refine h9.out.mono ?_;rintro e w4 ⟨rfl,rfl⟩));have t1:=hx.out;have t2:=hy.out;have u1:wr.drew.cell? ⟨w.heap.size,s,none⟩=some (.int .i64 (G s:Nat)):=hg;have u2:wr.drew.frozen? ⟨w.heap.size,s,none⟩=false:=he;have u3:wr.drew.cell? ⟨g,22+k,none⟩=some (.int .i64 (x1:Nat)):=hx.out;have u4:wr.drew.cell? ⟨g,43+k,none⟩=some (.int .i64 (p1:Nat)):=hy.out;have hJ:Hid (aA wr.drew w.heap.size w.heap.size n n G):=HR;have hH:=aa (HB.out.drew);(go_still_tail 18,(by kernel_rfl));change wpList _ _ _ _ _ wr.drew;generalize wr.drew=wy at*;clear t1 t2 u3 u4 hx hy hg he qcw q0' h9;go_wp2_with fail;go_roundw;case rel=>
    refine⟨q+1,fun j=>if j=s then v1 else G j,by omega,by go_num,aa fun j hj=> ?_,hJ.out.set s v1,hH.out.setCell (p:=⟨w.heap.size,s,none⟩) (ah _) _⟩;show(if F j=s then v1 else G (F j))=dE l (F j);by_cases ej:F j=s;·rw[Ng ej,ej,HV.out]
    ·rw[Nf ej];refine hG.out j ?_;by_cases e2:j=q;·exact absurd (by rw[e2,HS.out]) ej
     ·omega
   case measure=>simp[intOf];omega
  ·obtain rfl:q=n:=(by omega);have h3:aA wr w.heap.size w.heap.size q q (dE l):=by
    have h:=hr;unfold aA at h |-
    rw[<- b9 q G (dE l) fun s hs=>by
     have h1:=hG.out (jx l s) (by rw[<- h5.out];exact tZ (by rw[h5.out];exact hs))
     have h2:=hc.out s hs
     rw[h2]at h1
     exact h1]
    exact h
   have ha:=aa h3;clear hr hz h3 hG;go_wp2_with fail;go_ret;exact⟨_,rfl,ha.out,HB.out⟩
theorem LH(x b:Nat)(hx:x<1073741824)(hb:b<2):bits BinOp.or IntKind.i64 ((x:Int)*2) (b:Int)=((2*x+b:Nat):Int):=by have e:(x:Int)*2=((2*x:Nat):Int):=(by omega);rw[e];show IntKind.i64.wrap ((BitVec.ofInt 64 ((2*x:Nat):Int) ||| BitVec.ofInt 64 (b:Int)).toNat:Int)=_;have h:2*x ||| b=2*x+b:=(by have h:=nat_join 1 (2*x) b (by omega) (by omega);exact h);rw[BitVec.toNat_or,RL,RL,R8,R8,NJ (show 2*x<2^64 by omega),NJ (show b<2^64 by omega),h,Oe];omega
def nxV:Nx->Nat×Nat
 | .hit i=>(i,0)
 | .short=>(0,10)
 | .code=>(0,90)
def BH(w:World)(p:Nat)(s:ByteArray)(at':Nat)(l:List Nat)(x:Nx)(e:Ending)(w':World):Prop:=
 e=.returned (.tuple #[.int .i64 (nxV x).1,.int .i64 (nxV x).2])/\(∀ i,x=.hit i->IsR p w' p s (at'+l.getD i 0))/\al p [p] [] w w'
theorem qQ{w:World}{g p:Nat}{t u:TypeId}{cs ds:Array Value}(h:Blk w g t cs)(k:Blk w p u ds)(h0:t≠u):g≠p:=by rintro rfl;unfold Blk at h k;rw[h]at k;simp only[On,RR]at k;exact h0 k.2.1
theorem E4{w:World}{B g c n p:Nat}{f:Nat->Nat}{u:TypeId}{ds:Array Value}(h:aA w B g c n f)(k:Blk w p u ds)(h0:(3:TypeId)≠u):g≠p:=by
 rintro rfl;rcases h.2 with⟨h1,h2⟩|⟨g',cap,cur,hv,hB,hh,r⟩;·cases h1
 ·simp only[Ou,On,Qi]at hv;have hg:g'=g:=hv.1.1.symm;rw[hg]at hh;unfold Blk at k;rw[hh]at k;simp only[On,RR]at k;exact h0 k.2.1
theorem aA.step{w w':World}{B gs C p k:Nat}{n:Nat}{F:Nat->Nat}{ts:List TypeId}{u:TypeId}{ds:Array Value}(h:aA w B gs k n F)(hs:al C [p] ts w w')(hp:Blk w p u ds)(h3:(3:TypeId)≠u)(t3:(3:TypeId)∉ts):aA w' B gs k n F:=by
 have n2:=E4 h hp h3
 exact hs.row h (fun k hk=>by
  have e:k=gs:=by simpa [Value.ownBlock]using hk.symm
  rw[e]
  simpa using n2) t3
theorem gi.steps{w w':World}{g p C:Nat}{A:Option Addr}{n c:Nat}{l:List Nat}{ts:List TypeId}{u:TypeId}{ds:Array Value}(h:gi w g A n c l)(hs:al C [p] ts w w')(hp:Blk w p u ds)(h3:(3:TypeId)≠u)(h0:(203:TypeId)≠u)(t3:(3:TypeId)∉ts)(t57:(203:TypeId)∉ts):gi w' g A n c l:=by obtain⟨gs,F,B,h1,h2,h4⟩:=h;have n1:=qQ h1 hp h0;exact⟨gs,F,B,hs.blk h1 (by simpa using n1) t57,h2.step hs hp h3 t3,h4⟩
theorem gi.step{w w':World}{g p C:Nat}{A:Option Addr}{n c:Nat}{l:List Nat}{ds:Array Value}(h:gi w g A n c l)(hs:al C [p] [] w w')(hp:Blk w p 120 ds):gi w' g A n c l:=
 h.steps hs hp (by decide) (by decide) ar ar
theorem gi.drewN{w:World}{g:Nat}{A:Option Addr}{n c:Nat}{l:List Nat}(h:gi w g A n c l)(d:Nat):gi (w.drewN d) g A n c l:=h
theorem IsR.drewN{B:Nat}{w:World}{p:Nat}{s:ByteArray}{n:Nat}(h:IsR B w p s n)(d:Nat):IsR B (w.drewN d) p s n:=⟨h.lo,h.blk⟩
theorem Fx(w:World)(g p:Nat)(A:Option Addr)(n c:Nat)(L:List Int)(s:ByteArray)(at':Nat)(hT:gi w g A n c (nl L))(HB:L.length=n)(hW:a6 L)(hR:IsR p w p s at')(hs:s.size<=281474976710656)(h4:at'<=8*s.size):
 Calls prog 246 #[.pointer (some ⟨g,0,none⟩),.pointer (some ⟨p,0,none⟩)] w (BH w p s at' (nl L) (fm (nl L) ((ai s.data.toList).drop at'))):=by
 have HW:n<=258:=by have:=hW.2.1;omega
 have he:=fO hW;obtain⟨l,hl⟩:∃l,l=nl L:=⟨_,rfl⟩;have HA:l.length=n:=by rw[hl,bL,HB]
 rw[<- hl]at he hT |-;obtain⟨Bs,ht⟩:∃Bs,Bs=ai s.data.toList:=⟨_,rfl⟩;obtain⟨bs,hF⟩:∃bs,bs=Bs.drop at':=⟨_,rfl⟩;rw[<- ht,<-hF];have hO:Bs.length=8*s.size:=by rw[ht,aq];rfl
 have H8:bs.length=8*s.size-at':=by rw[hF,Nq,hO]
 have hE:am bs:=by rw[hF,ht];exact(aG _).drop _
 have hD:am Bs:=by rw[ht];exact aG _
 have HF:=aa he;have hL:=aa HA;have hA:=aa H8;have HE:=aa hF;have hK:=aa ht;have hc:=aa hE;have HD:=aa hD;have hB:=aa hO;have HR:=aa hR;have HT:=aa hT;have HP:Hid (∀ (x:Nx) (w':World),fm l bs=x->(∀ i,x=.hit i->IsR p w' p s (at'+l.getD i 0))->al p [p] [] w w'->BH w p s at' l (fm l bs) (.returned (.tuple #[.int .i64 (nxV x).1,.int .i64 (nxV x).2])) w'):=aa fun x w' h h2 h3=>⟨by rw[h],by rw[h];exact h2,h3⟩;generalize BH w p s at' l (fm l bs)=PO at*;clear hT hR hW HB hl he HA ht hF hO H8 hE hD;go_enter func246,ntmps246;go_wp2_with fail;go_loopw [6,7] (fun cv kv wx=>∃k x:Nat,1<=k/\k<=20/\kv=.int .i64 k/\cv=.int .i64 x/\Hid (k-1<=bs.length/\x=val (bs.take (k-1)))/\Hid (sz l bs k)/\Hid (fm l bs=fk l bs (21-k) k)/\IsR p wx p s (at'+(k-1))/\gi wx g A n c l/\al p [p] [] w wx) (fun _ kv _=>22-(intOf kv).toNat)
 case atStart=>exact⟨1,0,Nm _,by omega,rfl,rfl,aa ⟨Nh _,by simp[val]⟩,aa (fun k h1 h2=>by omega),aa rfl,HR.out,HT.out,al.refl _ _ _ _⟩
 case round=>
  obtain⟨k,x,HV,h8,rfl,rfl,hx,h0,hV,hR,hT,hS⟩:=hrel;have hY:=aa hR;have H2:=aa hT;have hM:=aa hS;have h7:=hV.out;rw[show 21-k=(20-k)+1 by omega]at h7;by_cases es:bs.length<k;·rw[rr es]at h7;have hC:=aa (dX p wr p s (at'+(k-1)) 1 hR hs (by omega) (by have:=hx.out.1;have:=hA.out;omega) (by have:=hx.out.1;have:=hA.out;omega));have hp:=aa h7;clear h7 hV h0 hR hT hS;go_wp2_with fail;refine hC.out.mono ?_;rintro e w3 ⟨rfl,hJ,hu⟩;have h9:=aa (HP.out _ w3 hp.out (fun i h=>by cases h) (hM.out.trans hu));clear hJ hu;go_wp2_with fail;first|exact h9.out|(go_ret2;exact h9.out)
  ·have hC:=aa (fS p wr p s (at'+(k-1)) 1 hR hs (by omega) (by have:=hA.out;omega));obtain⟨b,hb⟩:∃b,b=Bs.getD (at'+(k-1)) 0:=⟨_,rfl⟩;have HK:b<2:=(by rw[hb];exact pU _ _ HD.out);have HC:val (((ai s.data.toList).drop (at'+(k-1))).take 1)=b:=(by have h:=mW Bs (at'+(k-1)) 0 (by rw[hB.out];have:=hA.out;omega);rw[<- hK.out];rw[N8]at h;rw[h,hb,Og];simp[val]);rw[HC]at hC;obtain⟨v,hv⟩:∃v,v=2*x+b:=⟨_,rfl⟩;have hX:v=val (bs.take k):=(by have h:=mW Bs at' (k-1) (by rw[hB.out];have:=hA.out;omega);rw[<- HE.out,show k-1+1=k by omega]at h;rw[h,<-hx.out.2,hv,hb]);have htl:(bs.take k).length=k:=(by rw[Nz];omega);have hH:v<2^k:=(by have h:=fu _ (hc.out.take k);rw[htl]at h;rw[hX];exact h);have HX:v<2097152:=(by have h3:2^k<=2^20:=Oj (by decide) h8;omega);have HQ:=LH x b (by omega) HK;rw[<- hv]at HQ;have HY:x<2097152:=(by omega);have hr:=aa hX;have HJ:=aa hH;have ho:=aa es;have hp:=aa h7;clear h7 hV HC hv hX htl hH es hb hT hS hR;go_wp2_with fail;refine hC.out.mono ?_;rintro e w3 ⟨rfl,hJ,hu⟩;have H5:=hM.out.trans hu;have hP:=H2.out.step hu hY.out.blk;have hZ:=aa hJ;have hN:=aa H5;have H3:=aa hP;have hz:=aa (ze w3 g A n c l hP HF.out v k h8 HJ.out);clear hJ hu H5 hP hC hY H2 hM;by_cases eb:v*pw k<jP l
   ·rw[No eb]at hz;have HG:=aa eb;clear eb;go_wp2_with fail;refine hz.out.mono ?_;rintro e w5 ⟨rfl,d,rfl⟩;have H0:Hid (IsR p (w3.drewN d) p s (at'+(k-1)+1)):=aa (hZ.out.drewN d);have H4:=aa (H3.out.drewN d);have H1:=aa (hN.out.drewN d);generalize w3.drewN d=w5 at*;clear hZ H3 hN hz;obtain⟨gs,F,B,hw,hh,hk⟩:=H4.out;have hI:val (bs.take k)*pw k<jP l:=(by rw[<- hr.out];exact HG.out);have hG:=oU HF.out hc.out (n:=k) (by have:=ho.out;omega) h8 h0.out hI;rw[<- hr.out]at hG;obtain⟨f,hf⟩:∃f,f=cd l k 0:=⟨_,rfl⟩;obtain⟨m,hm⟩:∃m,m=bI l k:=⟨_,rfl⟩;have q1:=(ac hw (22+k)).trans (mT _ _ _ _ _ k (by omega));have q2:=(ac hw (1+k)).trans (yE _ _ _ _ _ k (by omega));rw[<- hf]at q1 hG;rw[<- hm]at q2;obtain⟨j,hj⟩:∃j,j=v-f:=⟨_,rfl⟩;have HU:(v:Int)-(f:Int)=(j:Int):=(by omega);have hQ:=tf l k;rw[hL.out,<-hm]at hQ;have HO:(k:Int)<21:=(by omega);have HN:=aa hp.out;by_cases ej:j<m
    ·have h4:=Mo HF.out (F:=F) (by rw[hL.out];exact hk) (n:=k) (v:=v) (by rw[<- hf];exact hG) (by rw[<- hf,<-hm,<-hj];exact ej);rw[<- hf,<-hj,hL.out]at h4;have q3:=(ac hw (43+k)).trans (mU _ _ _ _ _ k (by omega));have q4:=(ac hw 64).trans (yF _ _ _ _ _);obtain⟨q,hq⟩:∃q,q=cQ l k:=⟨_,rfl⟩;rw[<- hq]at h4 q3;obtain⟨i,hi⟩:∃i,i=q+j:=⟨_,rfl⟩;rw[<- hi]at h4;have HL:=h4.1;have HS:(q:Int)+(j:Int)=(i:Int):=(by omega);have q5:=hh.cell i HL;obtain⟨y,hy⟩:∃y,y=F i:=⟨_,rfl⟩;rw[<- hy]at q5 h4;have hg:=HN.out;have h2:=h4.2;rw[hr.out]at h2;rw[Az ho.out h2]at hg;have ha:=(iX h2).2.1
     have h9:=aa fun d=>HP.out _ (w5.drewN d) hg (fun i' h'=>by
      have e:y=i':=by injection h'
      rw[<- e,ha,show at'+k=at'+(k-1)+1 by omega]
      exact H0.out.drewN d) (H1.out.drewN d)
     have w1':IntKind.i64.wrap (i:Int)=(i:Int):=(by rw[Oe];omega);clear hw hh hk hI hG hf hm hj hQ h4 hq hi hy hg h2 ha HP HN hp h0;go_upto_region 12 with fail;go_quiet (fail);go_wp2_with fail;first|exact h9.out _|(go_ret2;exact h9.out _)
    ·have h4:lA l k v=none:=Lc (by rw[<- hm,<-hf,<-hj];omega);rw[hr.out]at h4;have hn:=HN.out;rw[nW ho.out h4,Ng hI]at hn;have HM:k<20:=by
      rcases NZ k 20 with h|h;·exact h
      ·exfalso;obtain⟨i,hi⟩:=(ml HF.out hc.out (n:=k) (by have:=ho.out;omega) h8 h0.out).2 hI;have h5:=(HF.out.one hi.1).2;have h6:=hi.2.1;exact qk h4 i (hi.is (by omega))
     have HI:=aa (h0.out.up h4);have HH:=aa hn;clear hw hh hk hI hG hf hm hj hQ h4 hn HP HN hp h0;go_wp2_with fail;go_roundw;case rel=>refine⟨k+1,v,by omega,by omega,by go_num,rfl,aa ⟨by have:=ho.out;omega,by rw[hr.out];rfl⟩,HI,aa (by rw[HH.out,show 21-(k+1)=20-k by omega]),?_,H4.out,H1.out⟩;rw[show at'+(k+1-1)=at'+(k-1)+1 by omega];exact H0.out
     case measure=>simp[intOf];omega
   ·rw[Nk eb]at hz;have hn:=hp.out;have h4:=E9 HF.out eb;rw[hr.out]at h4 eb;rw[nW ho.out h4,Nf eb]at hn;have HN:=aa hn;clear hn h4 eb;go_wp2_with fail;refine hz.out.mono ?_;rintro e w5 ⟨rfl,d,rfl⟩;have h9:=aa (HP.out _ (w3.drewN d) HN.out (fun i h=>by cases h) (hN.out.drewN d));go_wp2_with fail;first|exact h9.out|(go_ret2;exact h9.out)
theorem uS(w:World)(T:Array Value)(hs:T.size=65)(h1:T.all (·.oneCell')=true):(storeCells ⟨w.heap.size,0,none⟩ T.toList 0).run prog (w.alloc (.cells tb0 203))=.ok () ((w.alloc (.cells tb0 203)).setRow w.heap.size T)/\
 Blk ((w.alloc (.cells tb0 203)).setRow w.heap.size T) w.heap.size 203 T/\Below w.heap.size w ((w.alloc (.cells tb0 203)).setRow w.heap.size T):=by refine⟨cE (aj w 203 tb0) (by rw[hs];exact oj.2) (by rw[jJ,hs]) h1,QJ _ _ _ _ _ _ (aj w 203 tb0),?_⟩;exact below_setRow ((Nj _ _).alloc (ah _) _) (ah _) _
theorem KB(w w2:World)(A:Option Addr)(n c g B:Nat)(l:List Nat)(F:Nat->Nat)(T:Array Value)(hT:T=tb (.slice A n c) (bI l) (fun k=>cd l k 0) (cQ l) (.slice (some ⟨g,0,none⟩) n n))(hk:Blk w2 w.heap.size 203 T)(hb:Below w.heap.size w w2)(hr:aA w B g n n F)(hs:dM l F n):gi w2 w.heap.size A n c l:=by subst hT;exact⟨g,F,B,hk,hr.below hb hr.lt.2,hs⟩
theorem Ln(s:ByteArray):(ai s.data.toList).length=8*s.size:=by rw[aq];rfl
theorem GE{w:World}{B e n p:Nat}{v:Value}{xs:List Value}{u:TypeId}{ds:Array Value}(h:w.ownsRow B e 1 v n xs)(k:Blk w p u ds)(h0:e≠u):∀j,v.ownBlock=some j->j∉ [p]:=by intro j hj hm;rw[Ok]at hm;subst hm;obtain⟨c1,f1,e1⟩:=Lib.ownsRow_kind h j hj;unfold Blk at k;rw[e1]at k;simp only[On,RR]at k;exact h0 k.2.1
theorem zd(w:World)(A:Option Addr)(n c:Nat)(L:List Int)(s:ByteArray)(at' k en:Int)(hL:ZIn w A n L)(hn:n<=maxLen)(hs:s.size<=2000000)(_: -9223372036854775808<=at')(_:at'<=9223372036854775807)(_: -9223372036854775808<=k)(_:k<=9223372036854775807)(_: -9223372036854775808<=en)(_:en<=9223372036854775807):
 Calls prog 218 #[.slice A n c,.string s,.int .i64 at',.int .i64 k,.int .i64 en] w (aL w (fV L (ai s.data.toList) at' k en)):=by
 have hz:=oj.1;rw[show tb (.slice none 0 0) (fun _=>0) (fun _=>0) (fun _=>0) (.slice none 0 0)=tb0 from rfl]at hz;have HC:=aa uS;have H4:=aa (Ln s);have HP:Hid (∀ (v:Value) (a:List Nat×Nat×Nat) (w':World),fV L (ai s.data.toList) at' k en=a->w'.ownsRow w.heap.size 3 1 v a.1.length (a.1.map iv)->Below w.heap.size w w'->aL w (fV L (ai s.data.toList) at' k en) (.returned (.tuple #[v,.int .i64 a.2.1,.int .i64 a.2.2])) w'):=aa fun v a w' h1 h2 h3=>⟨v,by rw[h1],by rw[h1];exact h2,h3⟩;by_cases h:a6 L
 ·have HT:=aa (rL w A n c L hL hn h);have hf:fV L (ai s.data.toList) at' k en=(if at'<0\/(8*(s.size:Int))<at'\/k<0 then([],0,2)else gj (nl L) (ai s.data.toList) en k.toNat at'.toNat []):=by rw[fV,Ng h,H4.out];rfl
  generalize aL w (fV L (ai s.data.toList) at' k en)=PO at*;generalize fV L (ai s.data.toList) at' k en=ans at*;have HO:=aa jJ;have HZ:=aa hL.1;have HK:=aa h;have p3:=aa fun(K F P:Nat->Nat) (s4:Value)=>eI (.slice A n c) K F P s4;have HY:=aa KB;have hc:=aa hf;obtain⟨i3,h3,pk,pl,pn⟩:=NY Tryz.info3;clear hL h hf;go_enter func218,ntmps218;generalize tb0=Z at*;go_wp2_with fail;refine HT.out.mono ?_;rintro e w2 ⟨g,F,rfl,hE,hG,hb⟩;obtain⟨T9,hB⟩:∃T9,T9=tb (.slice A n c) (bI (nl L)) (fun k=>cd (nl L) k 0) (cQ (nl L)) (.slice (some ⟨g,0,none⟩) n n):=⟨_,rfl⟩;have H1:T9.size=65:=by rw[hB,p3.out]
  have HJ:T9.all (·.oneCell')=true:=by rw[hB];exact u6q _ _ _ _ _ rfl rfl
  obtain⟨HM,hM,hw⟩:=HC.out w2 T9 H1 HJ;have HF:=HY.out w2 _ A n c g _ _ F T9 hB hM hw hE hG;have hh:=aa (ap hb hw);have p2:=aa HF;rw[<- hB];clear hB HJ hM hw HF hE hG hb HT;go_upto_region 2 with fail;generalize (w2.alloc (.cells Z 203)).setRow w2.heap.size T9=w3 at*;generalize w2.heap.size=g2 at*;clear HM hz;by_cases hj:at'<0\/(8*(s.size:Int))<at';·have hA:=aa (kY w3 s at' (by omega) hj);have ha:=hc.out;rw[Ng (by omega)]at ha;have h6:=aa (HP.out (.slice none 0 0) _ w3 ha (Ns _ _ _ _) hh.out);clear ha hj;go_wp2_with fail;refine hA.out.mono ?_;rintro e w4 ⟨rfl,rfl⟩;go_wp2_with fail;first|exact h6.out|(go_ret3;exact h6.out)
  ·obtain⟨a0,rfl⟩:∃a0:Nat,at'=a0:=⟨at'.toNat,by omega⟩;have p5:a0<=8*s.size:=(by omega);have hA:=aa (fh w3 s a0 (by omega) (by omega) (by omega));by_cases hY:k<0;·have dk:decide (k<0)=true:=No hY;have ha:=hc.out;rw[Ng (by omega)]at ha;have HA:=aa ha;clear ha hj hc;go_wp2_with fail;refine hA.out.mono ?_;rintro e w4 ⟨rfl,ht⟩;have hC:Below w3.heap.size w3 w4:=bQ ht;have h6:=aa (HP.out (.slice none 0 0) _ w4 HA.out (Ns _ _ _ _) (ap hh.out hC));clear ht hC;go_wp2_with fail;first|exact h6.out|(go_ret3;exact h6.out)
   ·obtain⟨k0,rfl⟩:∃k0:Nat,k=k0:=⟨k.toNat,by omega⟩;have dk:decide ((k0:Int)<0)=false:=Nk hY;have ha:=hc.out;rw[Nf (by omega),Nn,Nn]at ha;have HA:=aa ha;clear ha hj hc hY;go_wp2_with fail;refine hA.out.mono ?_;rintro e w4 ⟨rfl,ht⟩;have hC:Below w3.heap.size w3 w4:=bQ ht;have HD:IsR w3.heap.size w4 w3.heap.size s a0:=(by rw[ht];exact iY w3 _ (ah _) s a0);have hD:w3.heap.size<w4.heap.size:=(by rw[ht];simp);have HU:=aa hC;have H8:=aa HD;have p0:=aa Fx;clear ht hC HD hA;obtain⟨l,hl⟩:∃l,l=nl L:=⟨_,rfl⟩;rw[<- hl]at HA;have HL:=aa hl;have hP:Hid (eW l):=aa (by rw[hl];exact fO HK.out);obtain⟨bs,hK⟩:∃bs,bs=ai s.data.toList:=⟨_,rfl⟩;rw[<- hK]at HA;have HW:=aa hK;have HV:Hid (bs.length=8*s.size):=aa (by rw[hK];exact H4.out);clear hl hK;obtain⟨p,hp⟩:∃p,p=w3.heap.size:=⟨_,rfl⟩;rw[<- hp]at H8 hD |-;have ho:=aa hp;clear hp;go_wp2_with fail;(go_loopw [16,17,18] (fun lv sv ev wx=>∃(a:Nat) (o:List Nat),a<=8*s.size/\o.length<=k0/\o.length<=a/\Hid (ans=gj l bs en (k0-o.length) a o)/\wx.ownsRow p 3 1 lv o.length (o.map iv)/\IsR p wx p s a/\Below w3.heap.size w3 wx/\p<wx.heap.size) (fun lv _ _ wx=>k0-(match lv with | .slice _ n _=>n|_=>0)));case atStart=>exact⟨a0, [],p5,Nh _,Nh _,HA,Ns _ _ _ _,H8.out,HU.out,hD⟩
    case round=>
     obtain⟨a,o,ha,pj,pg,h7,he,hR,hb,p7⟩:=hrel;obtain⟨A0,c5,rfl,pf,pb,p4⟩:=ak he;clear p4;unfold maxLen at pb;have hI:=aa he;have HR:=aa hR;have HB:=aa hb;have h5:=aa (p0.out wr g2 p A n c L s a (p2.out.below hb) HZ.out HK.out hR (by omega) ha);rw[<- HL.out,<-HW.out]at h5;obtain⟨N,hN⟩:∃N,N=o.length:=⟨_,rfl⟩;have HN:=aa hN;rw[<- hN]at pj pg pf |-;by_cases e:N<k0
     ·have h0:=h7.out;rw[<- hN,show k0-N=(k0-N-1)+1 by omega,pO]at h0
      cases hx:fm l (bs.drop a)with
      | hit i=>
       rw[hx]at h0 h5;have hW:=o8 20 1 (show fk l (bs.drop a) 20 1=.hit i from hx);have HH:=hW.2.1;have H0:=hP.out.one HH;have p6:l.length<=258:=(by have:=HK.out.2.1;rw[HL.out,bL];exact this);have HI:a+l.getD i 0<=8*s.size:=(by have:=hW.1;rw[Nq,HV.out]at this;omega);obtain⟨a2,hJ⟩:∃a2,a2=a+l.getD i 0:=⟨_,rfl⟩;(have hF:ans=if(i:Int)=en then(o++ [i],a2,0)else gj l bs en (k0-N-1) a2 (o++ [i]):=by rw[h0,hJ]);have h9:=aa hF;rw[<- hJ]at HI;have po:a<a2:=(by omega);have HQ:=aa hJ;obtain⟨X,hX⟩:∃X,X=o.map iv:=⟨_,rfl⟩;rw[<- hX,<-hN]at hI;have HX:=aa hX;clear h0 hF hW HH H0 p6 h7 he hb hX hN hJ;go_wp2_with fail;refine h5.out.mono ?_;rintro e w5 ⟨rfl,hv,hi⟩;have hq:=hv i rfl;rw[<- HQ.out]at hq;have p1:=aa hq;have H2:=aa (HB.out.trans (by rw[<- ho.out];exact hi.below));have hQ:Hid (w5.ownsRow p 3 1 (.slice A0 N c5) N X):=aa (hi.row hI.out (GE hI.out HR.out.blk (by decide)) ar);have hZ:p<w5.heap.size:=OM p7 hi.size;clear hv hq hi hR hx h5;simp only[nxV];(go_wp2_with (at_builtin;refine Ob _ rfl _ _ 57 rfl p 3 i3 (.int .i64 0) 1 8 underlying57 h3 pk pl pn rfl (by decide) _ _ _ rfl (hQ.out.alloc _) ⟨w5.heap.size,0,none⟩ 1 1 [.int .i64 i] rfl rfl ?c1 ?c2 ?c3 ?c4 ?c5 ?_));case c1=>exact bn _ _ _
       case c2=>intro u hu;simp at hu;subst hu;rfl
       case c3=>unfold maxLen;omega
       case c4=>omega
       case c5=>simp;omega
       intro v6 w6 hg h8 _;have HG:Below w3.heap.size w3 w6:=(H2.out.alloc (by have:=H2.out.size;exact this) _).grown h8 (by simp;have:=ho.out;omega) (fun k hk=>by have:=(hQ.out.lt k hk).1;have:=ho.out;omega);have HE:IsR p w6 p s a2:=⟨Nm _,pX p1.out.blk hQ.out (by decide) h8⟩;have hH:p<w6.heap.size:=OM hZ (by have:=h8.size;simp at this;omega);obtain⟨A6,c6,rfl,pv,ps,_⟩:=ak hg;have H5:=aa hg;have H3:=aa HG;have hT:=aa HE;have hV:=aa hH;clear hg h8 HG HE hH;by_cases een:(i:Int)=en
       ·have d4:((i:Int)==en)=true:=(by rw[een];exact OK _);have h4:=h9.out;rw[Ng een]at h4;have c0:w6.cell? ⟨p,0,none⟩=some (.bool true):=ac hT.out.blk 0;have c2:w6.cell? ⟨p,2,none⟩=some (.int .i64 (a2:Nat)):=ac hT.out.blk 2;have hO:=aa (j7 w6 p (a2:Nat) c0 c2)
        have hy:=HP.out (.slice A6 (N+1) c6) (o++ [i],a2,0) w6 h4 (by
         rw[Nc,<-HN.out,NF,<-HX.out]
         exact World.ownsRow.mono H5.out (by rw[ho.out];exact hh.out.size)) (ap hh.out H3.out)
        have h6:=aa hy;subst een;clear h4 c0 c2 hy h9 HP HA;go_wp2_with fail;refine hO.out.mono ?_;rintro e w7 ⟨rfl,rfl⟩;go_wp2_with fail;first|exact h6.out|(go_ret3;exact h6.out)
       ·have d4:((i:Int)==en)=false:=(by rw[NA];exact een);have h4:=h9.out;rw[Nf een]at h4;have HS:=aa h4;clear h4 h9 een;go_wp2_with fail;go_roundw;case rel=>
         refine⟨a2,o++ [i],HI,by rw[Nc,<-HN.out];show N+1<=k0;omega,by rw[Nc,<-HN.out];show N+1<=a2;omega,aa ?_,?_,hT.out,H3.out,hV.out⟩;·rw[Nc,<-HN.out,show k0-(N+ [i].length)=k0-N-1 by simp;omega];exact HS.out
         ·rw[Nc,<-HN.out,NF,<-HX.out];exact H5.out
        case measure=>simp;omega
      | short=>rw[hx]at h0 h5;have h9:=aa h0;clear h0 hx h7 he hb hR hN;go_wp2_with fail;refine h5.out.mono ?_;rintro e w5 ⟨rfl,hv,hi⟩;have h6:=aa (HP.out (.slice none 0 0) _ w5 h9.out (Ns _ _ _ _) (hh.out.trans ((HB.out.trans (by rw[<- ho.out];exact hi.below)).mono hh.out.size)));clear hv hi h5;simp only[nxV];go_wp2_with fail;first|exact h6.out|(go_ret3;exact h6.out)
      | code=>rw[hx]at h0 h5;have h9:=aa h0;clear h0 hx h7 he hb hR hN;go_wp2_with fail;refine h5.out.mono ?_;rintro e w5 ⟨rfl,hv,hi⟩;have h6:=aa (HP.out (.slice none 0 0) _ w5 h9.out (Ns _ _ _ _) (hh.out.trans ((HB.out.trans (by rw[<- ho.out];exact hi.below)).mono hh.out.size)));clear hv hi h5;simp only[nxV];go_wp2_with fail;first|exact h6.out|(go_ret3;exact h6.out)
     ·have hr:=h7.out;rw[<- hN,show k0-N=0 by omega]at hr;have hm:ans=(o,a,0):=hr;have hy:=HP.out (.slice A0 o.length c5) (o,a,0) wr hm (World.ownsRow.mono hI.out (by rw[ho.out];exact hh.out.size)) (ap hh.out HB.out);rw[<- hN]at hy;have h6:=aa hy;have c0:wr.cell? ⟨p,0,none⟩=some (.bool true):=ac HR.out.blk 0;have c2:wr.cell? ⟨p,2,none⟩=some (.int .i64 (a:Nat)):=ac HR.out.blk 2;have hO:=aa (j7 wr p (a:Nat) c0 c2);clear hr hm hy h7 he hb hR hN c0 c2;go_wp2_with fail;refine hO.out.mono ?_;rintro e w7 ⟨rfl,rfl⟩;go_wp2_with fail;first|exact h6.out|(go_ret3;exact h6.out)
 ·have HT:=aa (uT w A n c L hL hn h);have hf:fV L (ai s.data.toList) at' k en=([],0,80):=(by rw[fV,Nf h]);generalize aL w (fV L (ai s.data.toList) at' k en)=PO at*;generalize fV L (ai s.data.toList) at' k en=ans at*;have HO:=aa jJ;have hS:=aa yD;have hc:=aa hf;clear hL h hf;go_enter func218,ntmps218;generalize tb0=Z at*;go_wp2_with fail;refine HT.out.mono ?_;rintro e w2 ⟨rfl,hb⟩;have H1:Z.size=65:=HO.out;obtain⟨HM,hM,hw⟩:=HC.out w2 Z H1 hS.out;have h6:=aa (HP.out (.slice none 0 0) _ _ hc.out (Ns _ _ _ _) (ap hb hw));clear hM hw hb HT;go_wp2_with fail;first|exact h6.out|(go_ret3;exact h6.out)
theorem Aq(w:World)(b off n c s x:Nat)(hs:s<n)(hx:w.cell? ⟨b,off+s,none⟩=some (.int .i64 (x:Nat))):Calls prog 165 #[.slice (some ⟨b,off,none⟩) n c,.int .i64 s] w fun e w'=>e=.returned (.int .i64 (x:Nat))/\w'=w:=
 (ub w b off n c s x hs hx).mono fun _ _ h=>⟨h.1,h.2.symm⟩
def Ij(w wx:World)(g gc p:Nat)(A:Option Addr)(n c:Nat)(l:List Nat)(v:Value)(o:List Nat):Prop:=
 gi wx g A n c l/\aA wx w.heap.size gc n n (dE l)/\IsW w.heap.size wx p v o/\Blk wx w.heap.size 43 #[.string ⟨#[]⟩,.int .i64 0]/\Below w.heap.size w wx
theorem kQ(w:World)(A B:Option Addr)(n c m d:Nat)(L list:List Int)(hL:ZIn w A n L)(hn:n<=maxLen)(hB:ZIn w B m list)(qa:m<=d)(hm:m<=2000):Calls prog 106 #[.slice A n c,.slice B m d] w (aZ w (mL L list)):=by
 have hz:=oj.1;rw[show tb (.slice none 0 0) (fun _=>0) (fun _=>0) (fun _=>0) (.slice none 0 0)=tb0 from rfl]at hz;have HZ:=aa uS;have hw:Below w.heap.size w (w.alloc (.cells #[.string ⟨#[]⟩,.int .i64 0] 43)):=(Nj _ _).alloc (ah _) _;have H8:Blk (w.alloc (.cells #[.string ⟨#[]⟩,.int .i64 0] 43)) w.heap.size 43 #[.string ⟨#[]⟩,.int .i64 0]:=aj w 43 _;have hY:=aa H8;have hV:=aa hw;have HL:=aa hL;have q3:=aa hB;by_cases h:a6 L
 ·have HT:=aa (rL (w.alloc (.cells #[.string ⟨#[]⟩,.int .i64 0] 43)) A n c L (hL.below hw) hn h);have HA:=hL.1;have hC:=fO h;have pj:(nl L).length=n:=by rw[bL,HA]
  have HF:=aa hC;have H0:=aa pj;have h3:mL L list=(if ∀x∈list,0<=x/\x<(n:Int)then(mc (nl L) list,0)else([],60)):=by rw[mL,Ng h,HA]
  have h2:=aa h3;have HU:=aa hB.1;have HO:=aa jJ;have HK:=aa h;have q5:=aa fun(K F P:Nat->Nat) (s4:Value)=>eI (.slice A n c) K F P s4;have q2:=aa KB;have HS:=aa B6;have h4:(w.alloc (.cells #[.string ⟨#[]⟩,.int .i64 0] 43)).heap.size=w.heap.size+1:=by simp
  have h9:=aa h4;have pv:=aa (na hL h);clear hL hB h hw H8 hC pj h3 HA h4;go_enter func106,ntmps106;generalize tb0=Z at*;go_wp2_with fail;refine HT.out.mono ?_;rintro e w2 ⟨g,F,rfl,hG,hH,hb⟩;have hF:=aO hb hY.out;have hy:=hV.out.trans (hb.mono (by have:=h9.out;omega));generalize w.alloc (.cells #[.string ⟨#[]⟩,.int .i64 0] 43)=w1 at*;obtain⟨T9,hu⟩:∃T9,T9=tb (.slice A n c) (bI (nl L)) (fun k=>cd (nl L) k 0) (cQ (nl L)) (.slice (some ⟨g,0,none⟩) n n):=⟨_,rfl⟩;have HG:T9.size=65:=by rw[hu,q5.out]
  have pn:T9.all (·.oneCell')=true:=by rw[hu];exact u6q _ _ _ _ _ rfl rfl
  obtain⟨HI,hQ,h7⟩:=HZ.out w2 T9 HG pn;have H4:=q2.out w2 _ A n c g _ _ F T9 hu hQ h7 hG hH;have h0:=aO h7 hF;have H3:=ap hy h7;have HC:=aa (HS.out _ w2.heap.size A n c L H4 (HL.out.below H3) HK.out);have hh:=aa H3;have p0:=aa H4;have hj:=aa h0;rw[<- hu];clear hu pn hQ h7 H4 H3 hG hH hb HT hF hy h0 hY hV;go_upto_region 4 with fail;generalize (w2.alloc (.cells Z 203)).setRow w2.heap.size T9=w3 at*;generalize w2.heap.size=g2 at*;clear HI hz;go_wp2_with fail;refine HC.out.mono ?_;rintro e w4 ⟨gc,rfl,h8,hI⟩;have p1:=aa (p0.out.below hI);have hl:=aa (aO hI hj.out);have HX:=aa (World.ownsRow.mono h8 hh.out.size);have hX:=aa (ap hh.out hI);clear h8 hI p0 hj hh HC HS;go_wp2_with fail;refine(C7 w4).mono ?_;rintro e w5 ⟨rfl,HM⟩;have hJ:Below w4.heap.size w4 w5:=bQ HM;have p6:IsW w.heap.size w5 w4.heap.size (.slice none 0 0) []:=by rw[HM];exact lB w4 _ hX.out.size
  have he:=an hJ;have ps:Hid (Ij w w5 g2 gc w4.heap.size A n c (nl L) (.slice none 0 0) []):=aa ⟨p1.out.below hJ,he.row HX.out (fun _ _=>ar) ar,p6,he.blk hl.out ar ar,ap hX.out hJ⟩;generalize nl L=l at*;generalize mL L list=ans at*;clear HM hJ p6 he p1 hl HX hX;generalize w4.heap.size=p at*;go_wp2_with fail;go_loopw [11,25] (fun s11 x wx=>∃(q:Nat) (v:Value) (o:List Nat),q<=m/\x=.int .i64 q/\Hid (o=mc l (list.take q))/\Hid (o.length<=20*q)/\Hid (∀ x∈list.take q,0<=x/\x<(n:Int))/\Hid (Ij w wx g2 gc p A n c l v o)) (fun _ x _=>m-(intOf x).toNat)
  case atStart=>exact⟨0,_, [],Nh _,rfl,aa rfl,aa (Nh _),aa (by simp),ps⟩
  case round=>
   obtain⟨q,v,o,hq,rfl,ho,HE,hf,pb⟩:=hrel;obtain⟨hT,hR,hW,hK,hB⟩:=pb.out;have HT:=aa hT;have HR:=aa hR;have HW:=aa hW;have h5:=aa hK;have HB:=aa hB;clear pb hT hR hW hK hB;by_cases e:q<m
   ·obtain⟨b,off,rfl,hc⟩:=q3.out.2 (by omega);have hO:=hc q e;have HJ:=dY list q (by rw[HU.out];exact e);obtain⟨x,hx⟩:∃x,x=list.getD q 0:=⟨_,rfl⟩;rw[<- hx]at hO HJ;have q8:=(HB.out.cell (p:=⟨b,off+q,none⟩) (Nr w _ hO)).trans hO;have H2:=aa HJ;obtain⟨gs,F,B2,pf,_,_⟩:=HT.out;have q0:=(ac pf 0).trans (sq _ _ _ _ _);have HH:=aa (Lu wr A n c x);clear hc hx hO HJ pf;by_cases e1:0<=x/\x<n
    ·rw[No e1]at HH;obtain⟨y,rfl⟩:∃y:Nat,x=y:=⟨x.toNat,by omega⟩;have hg:y<n:=(by omega);obtain⟨ba,oa,hA,hE⟩:=pv.out;have hP:=hE y hg;have ha:=HF.out.one (i:=y) (by rw[H0.out];exact hg);have hM:=oG HF.out (i:=y) (by rw[H0.out];exact hg);have pg:=th HF.out (i:=y) (by rw[H0.out];exact hg);obtain⟨k,hk⟩:∃k,k=l.getD y 0:=⟨_,rfl⟩;obtain⟨x1,HP⟩:∃x1,x1=dE l y:=⟨_,rfl⟩;have q1:=(HR.out).cell y hg;rw[<- hk]at ha hM hP;rw[<- HP]at hM pg q1;have hD:=(HB.out.cell (p:=⟨ba,oa+y,none⟩) (Nr w _ hP)).trans hP;have wu:IntKind.u64.wrap (x1:Int)=(x1:Int):=(by rw[RE];omega);subst hA;have hi:Hid (ag x1 k=bC l y):=aa (by rw[hk,HP];rfl);have hs:Hid (IsW w.heap.size wr.drew p v o):=aa ⟨HW.out.lo,HW.out.blk,HW.out.row,HW.out.bit⟩;have q9:k<=20:=ha.2;have hr:=aa (fo w.heap.size wr.drew p v o x1 k hs.out (by have:=HE.out;omega) (by omega) hM);have hp:=aa (Aq wr.drew ba oa n c y k hg hD);have q0d:wr.drew.cell? ⟨g2,0,none⟩=some (.slice (some ⟨ba,oa,none⟩) n c):=q0;have q1d:wr.drew.cell? ⟨gc,y,none⟩=some (.int .i64 (x1:Nat)):=q1;have p2:Hid (gi wr.drew g2 (some ⟨ba,oa,none⟩) n c l):=HT;have HY:Hid (aA wr.drew w.heap.size gc n n (dE l)):=HR;have hZ:Hid (Blk wr.drew w.heap.size 43 #[.string ⟨#[]⟩,.int .i64 0]):=h5;have HQ:=aa HB.out.drew;clear hP hD ha hM hk HP hE pg;(go_upto_region 10 with(go_at_call 164;refine HH.out.mono ?_;rintro e w9 ⟨rfl,rfl⟩));(go_still_tail 10,(by kernel_rfl));still_call (hp.out)
     refine wpStill_nil ?_;change wpList _ _ _ _ _ wr.drew;generalize wr.drew=wd at*;clear q0d q1d q0 q1 HT HR h5 HB HH hp q8 HW;go_wp2_with fail;refine hr.out.mono ?_;rintro e w6 ⟨rfl,v6,p7,ht⟩;have p5:=p2.out.steps ht hs.out.blk (by decide) (by decide) (by decide) (by decide);have p4:=HY.out.step ht hs.out.blk (by decide) (by decide);have pk:=qQ hZ.out hs.out.blk (by decide);have p3:=ht.blk hZ.out (by simpa using pk) (by decide);have hS:Hid (Ij w w6 g2 gc p (some ⟨ba,oa,none⟩) n c l v6 (o++ag x1 k)):=aa ⟨p5,p4,p7,p3,HQ.out.trans ht.below⟩;clear p5 p4 pk p3 p7 ht hr hs p2 HY hZ HQ;go_wp2_with fail;go_roundw;case rel=>
      refine⟨q+1,v6,o++ag x1 k,by omega,by go_num,aa ?_,aa ?_,aa ?_,hS⟩;·rw[H2.out,GP,<-ho.out,Nn,hi.out]
      ·have:=HE.out;rw[Nc,af];omega
      ·rw[H2.out];intro x hx;rcases List.mem_append.1 hx with hx|hx;·exact hf.out x hx
       ·rw[List.mem_singleton.1 hx];exact e1
     case measure=>simp[intOf];omega
    ·rw[Nk e1]at HH;have pl:ans=([],60):=(by rw[h2.out,Nf];intro H5;have:x∈list:=(by have h1:x∈list.take (q+1):=(by rw[H2.out];exact Qr _ (List.mem_singleton.2 rfl));exact Po h1);exact e1 (H5 x this));have q4:=aa pl;have k0:wr.cell? ⟨w.heap.size,0,none⟩=some (.string ⟨#[]⟩):=ac h5.out 0;have k1:wr.cell? ⟨w.heap.size,1,none⟩=some (.int .i64 0):=ac h5.out 1;have f0:=ae h5.out 0;have f1:=ae h5.out 1;clear pl e1 h2;go_wp2_with fail;refine HH.out.mono ?_;rintro e w9 ⟨rfl,rfl⟩;go_wp2_with fail;refine ND (v:=.tuple #[.agg #[.string ⟨#[]⟩,.int .i64 0],.int .i64 60]) ?_ rfl ?_;·simp[results,results106,go_sem,k0,k1]
     ·rw[q4.out];exact⟨rfl,(HB.out.setCell (p:=⟨w.heap.size,0,none⟩) (ah _) _).setCell (p:=⟨w.heap.size,1,none⟩) (ah _) _⟩
   ·obtain rfl:q=m:=(by omega);have htl:list.take q=list:=Nt (Ox HU.out);have hv:=hf.out;have HD:=ho.out;rw[htl]at hv HD;have h6:ans=(o,0):=(by rw[h2.out,Ng hv,HD]);have po:=aa h6;have k0:wr.cell? ⟨w.heap.size,0,none⟩=some (.string ⟨#[]⟩):=ac h5.out 0;have k1:wr.cell? ⟨w.heap.size,1,none⟩=some (.int .i64 0):=ac h5.out 1;have f0:=ae h5.out 0;have f1:=ae h5.out 1;have c0:wr.cell? ⟨p,0,none⟩=some (.bool true):=ac HW.out.blk 0;have c2:wr.cell? ⟨p,2,none⟩=some (.int .i64 (o.length:Nat)):=ac HW.out.blk 2;have q7:=aa (im w.heap.size wr p v o HW.out);have HV:=aa (jM wr p (o.length:Nat) c0 c2);obtain⟨N,hN⟩:∃N,N=o.length:=⟨_,rfl⟩;rw[<- hN]at HV;have HN:=aa hN;clear htl hv HD h6 hN c0 c2 h2 ho hf HE HT HR HW;go_wp2_with fail;refine q7.out.mono ?_;rintro e w6 ⟨rfl,rfl⟩;go_wp2_with fail;refine HV.out.mono ?_;rintro e w6 ⟨rfl,rfl⟩;go_wp2_with fail;refine ND (v:=.tuple #[.agg #[.string ⟨(aF o).toArray⟩,.int .i64 N],.int .i64 0]) ?_ rfl ?_;·simp[results,results106,go_sem,k0,k1]
    ·rw[po.out,HN.out];exact⟨rfl,(HB.out.setCell (p:=⟨w.heap.size,0,none⟩) (ah _) _).setCell (p:=⟨w.heap.size,1,none⟩) (ah _) _⟩
 ·have HT:=aa (uT (w.alloc (.cells #[.string ⟨#[]⟩,.int .i64 0] 43)) A n c L (hL.below hw) hn h);have h3:mL L list=([],80):=by rw[mL,Nf h]
  have h2:=aa h3;have HO:=aa jJ;have H1:=aa yD;have h4:(w.alloc (.cells #[.string ⟨#[]⟩,.int .i64 0] 43)).heap.size=w.heap.size+1:=by simp
  have h9:=aa h4;clear hL hB h hw H8 h3 h4;go_enter func106,ntmps106;generalize tb0=Z at*;go_wp2_with fail;refine HT.out.mono ?_;rintro e w2 ⟨rfl,hb⟩;have hF:=aO hb hY.out;have hy:=hV.out.trans (hb.mono (by have:=h9.out;omega));generalize w.alloc (.cells #[.string ⟨#[]⟩,.int .i64 0] 43)=w1 at*;have HG:Z.size=65:=HO.out;obtain⟨HI,hQ,h7⟩:=HZ.out w2 Z HG H1.out;have h0:=aO h7 hF;have hh:=aa (ap hy h7);have k0:=ac h0 0;have k1:=ac h0 1;have f0:=ae h0 0;have f1:=ae h0 1;simp only[List.getElem?_toArray,List.getElem?_cons_zero,Rn]at k0 k1;clear hQ h7 hb HT hF hy h0;go_upto_region 2 with fail;generalize (w2.alloc (.cells Z 203)).setRow w2.heap.size Z=w3 at*;clear HI hz;go_wp2_with fail;refine ND (v:=.tuple #[.agg #[.string ⟨#[]⟩,.int .i64 0],.int .i64 80]) ?_ rfl ?_;·simp[results,results106,go_sem,k0,k1]
  ·rw[h2.out];exact⟨rfl,(hh.out.setCell (p:=⟨w.heap.size,0,none⟩) (ah _) _).setCell (p:=⟨w.heap.size,1,none⟩) (ah _) _⟩
