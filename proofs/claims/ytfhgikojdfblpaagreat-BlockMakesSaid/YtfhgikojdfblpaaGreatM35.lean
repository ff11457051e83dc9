import Derived.Test.YtfhgikojdfblpaaGreatM14
import Derived.Test.YtfhgikojdfblpaaGreatM04
import Derived.Deep.MidRow
import Derived.Deep.CutBlock
import Derived.Deep.RegionWith
set_option maxHeartbeats 1600000
set_option maxRecDepth 100000
namespace Go.Proofs.YtfhgikojdfblpaaGreat
open _root_.Go.Proofs.Tryz
def ct(l:List Nat)(k:Nat):Nat:=l.countP fun x=>x==k
def dD(l:List Nat)(k:Nat):Nat:=l.countP fun x=>decide (x<k)
def jh(l:List Nat)(k i:Nat):Nat:=(l.take i).countP fun x=>x==k
def jS(l:List Nat)(s:Nat):Nat:=dD l (l.getD s 0)+jh l (l.getD s 0) s
theorem vR(l:List Nat)(q:Nat)(h:q<l.length):l.take (q+1)=l.take q++ [l.getD q 0]:=by rw[Rq,Nc h,Na,Nc h];rfl
theorem jZ(l:List Nat)(k i:Nat)(h:i<l.length):jh l k (i+1)=jh l k i+if l.getD i 0=k then 1 else 0:=by
 unfold jh;rw[vR l i h,QE];congr 1;rw[Qe,List.countP_nil,N8];by_cases e:l.getD i 0=k;·rw[Nf e,Nf (by rw[e];exact O9 k)]
 ·rw[Nd e,Nd (by rw[Pn];exact e)]
theorem qt(l:List Nat)(k:Nat):jh l k l.length=ct l k:=by unfold jh ct;rw[Q0]
theorem Kj(l:List Nat)(k:Nat){i j:Nat}(h:i<=j)(hj:j<=l.length):jh l k i<=jh l k j:=by
 induction j with
 | zero=>rw[show i=0 by omega];exact Nk _
 | succ j ih=>
  by_cases e:i=j+1;·rw[e];exact Nk _
  ·have h1:=ih (by omega) (by omega);rw[jZ l k j (by omega)];omega
theorem yz(l:List Nat){i j:Nat}(h:i<j)(hj:j<=l.length):jh l (l.getD i 0) i<jh l (l.getD i 0) j:=by have h1:=jZ l (l.getD i 0) i (by omega);rw[Nf rfl]at h1;have h2:=Kj l (l.getD i 0) (show i+1<=j by omega) hj;omega
theorem MH(l:List Nat)(k i:Nat):jh l k i<=l.length:=by unfold jh;have h1:=PJ (p:=fun x=>x==k) (l:=l.take i);rw[NB]at h1;omega
theorem J4(l:List Nat):dD l 0=0:=by unfold dD;rw[List.countP_eq_zero];intro x _;rw[ON];omega
theorem yt(l:List Nat)(k:Nat):dD l (k+1)=dD l k+ct l k:=by
 unfold dD ct
 induction l with
 | nil=>rfl
 | cons x l ih=>
  rw[Qe,Qe,Qe,ih];by_cases h1:x<k;·rw[Nf (bE),Nf (Nn h1),Nd (by rw[Pn];omega)];omega
  ·by_cases h2:x=k;·rw[Nf (bE),Nd (by rw[ON];omega),Nf (by rw[Pn];exact h2)];omega
   ·rw[Nd (by rw[ON];omega),Nd (by rw[ON];omega),Nd (by rw[Pn];exact h2)];omega
theorem qj(l:List Nat){a b:Nat}(h:a<=b):dD l a<=dD l b:=by
 induction h with
 | refl=>exact Nk _
 | step h ih=>rw[yt];omega
theorem yr(l:List Nat)(k:Nat):dD l k<=l.length:=PJ
theorem xQ(l:List Nat)(k:Nat):ct l k<=l.length:=PJ
theorem sH{l:List Nat}{s:Nat}(h:s<l.length):dD l (l.getD s 0)<=jS l s/\jS l s<dD l (l.getD s 0+1):=by have h1:=yz l h (ag _);rw[qt]at h1;rw[yt];unfold jS;omega
theorem oJ{l:List Nat}{s:Nat}(h:s<l.length):jS l s<l.length:=by have h1:=(sH h).2;have h2:=yr l (l.getD s 0+1);omega
theorem Ew{l:List Nat}{s t:Nat}(hs:s<l.length)(ht:t<l.length)(h:jS l s=jS l t):s=t:=by
 have a:=sH hs;have b:=sH ht;by_cases e:l.getD s 0=l.getD t 0
 ·by_cases e1:s<t;·have h1:=yz l e1 (NT ht);unfold jS at h;rw[<- e]at h;omega
  ·by_cases e2:t<s;·have h1:=yz l e2 (NT hs);unfold jS at h;rw[e]at h;omega
   ·omega
 ·by_cases e1:l.getD s 0<l.getD t 0;·have:=qj l (show l.getD s 0+1<=l.getD t 0 by omega);omega
  ·have:=qj l (show l.getD t 0+1<=l.getD s 0 by omega);omega
theorem JB{l:List Nat}{i:Nat}(h:i<l.length):∃s,s<l.length/\jS l s=i:=by
 have hp:=og ((List.range l.length).map (jS l)) l.length (by
  unfold List.Nodup
  rw[PE]
  refine OG ?_ (OD (n:=l.length))
  intro a b ha hb h0 e
  exact h0 (Ew (List.mem_range.1 ha) (List.mem_range.1 hb) e)) (by
  intro x hx
  obtain⟨s,hs,rfl⟩:=List.mem_map.1 hx
  exact oJ (List.mem_range.1 hs)) (by rw[Nu,NE])
 obtain⟨s,hs,e⟩:=List.mem_map.1 (hp.mem_iff.2 (List.mem_range.2 h));exact⟨s,List.mem_range.1 hs,e⟩
theorem Db{l:List Nat}{s k:Nat}(hs:s<l.length)(h1:dD l k<=jS l s)(h2:jS l s<dD l (k+1)):l.getD s 0=k:=by
 have a:=sH hs;by_cases e1:l.getD s 0<k;·have:=qj l (show l.getD s 0+1<=k by omega);omega
 ·by_cases e2:k<l.getD s 0;·have:=qj l (show k+1<=l.getD s 0 by omega);omega
  ·omega
def dX(l:List Nat)(F:Nat->Nat)(i:Nat):Prop:=∀s,s<i->F (jS l s)=s
theorem dX.step{l:List Nat}{F:Nat->Nat}{i:Nat}(h:dX l F i)(hi:i<l.length):dX l (fun j=>if j=jS l i then i else F j) (i+1):=by
 intro s hs;show(if jS l s=jS l i then i else F (jS l s))=s;by_cases e:s=i;·subst e;rw[Nf rfl]
 ·rw[Nd (fun h2=>e (Ew (by omega) hi h2))];exact h s (by omega)
theorem dX.get{l:List Nat}{F:Nat->Nat}(h:dX l F l.length){i:Nat}(hi:i<l.length):F i<l.length/\jS l (F i)=i:=by obtain⟨s,hs,rfl⟩:=JB hi;rw[h s hs];exact⟨hs,rfl⟩
theorem xP(l:List Nat)(k:Nat):∀i,i<=l.length->cd l k i=cd l k 0+jh l k i
 | 0,_=>rfl
 | i+1,h=>by
  have ih:=xP l k i (by omega);rw[jZ l k i (by omega)];by_cases e:l.getD i 0=k;·rw[IN (by omega) e,Nf e,ih];omega
  ·rw[Eh (by omega) e,Nd e,ih];rfl
theorem Lo(l:List Nat){k:Nat}(hk:k<20):cd l (k+1) 0=(cd l k 0+ct l k)*2:=by rw[Ma (Nk l.length) hk,xP l k l.length (ag _),qt];omega
theorem Ft(l:List Nat):cd l 0 0=0:=by unfold cd;rw[uL,Nat.zero_div]
theorem zT{l:List Nat}{s:Nat}(hs:s<l.length):eB l s=cd l (l.getD s 0) 0+jh l (l.getD s 0) s:=by rw[<- Eg (n:=l.getD s 0) (i:=s) rfl,xP l _ s (by omega)]
theorem zR{l:List Nat}{s:Nat}(hs:s<l.length):eB l s+dD l (l.getD s 0)=cd l (l.getD s 0) 0+jS l s:=by rw[zT hs];unfold jS;omega
theorem Ln{l:List Nat}(h:fy l):cd l 20 0+ct l 20=kV l:=by rw[<- qt,<-xP l 20 l.length (ag _)];unfold cd;rw[ni 20 l l.length (ag _),sK 21 l fun x hx=>by have:=h.high x hx;omega];show kV l/2^(20-20)=_;rw[Oz,Q1,RC]
theorem tU{l bs:List Nat}(h:fy l)(hb:au bs){n:Nat}(hn:n<=bs.length)(h0:n<=20)(hc:vT l bs n)(hs:val (bs.take n)*pw n<kV l):cd l n 0<=val (bs.take n):=by
 obtain⟨i,hi⟩:=(rG h hb hn h0 hc).2 hs;have a:=lg h hi;have b:pos n 0 l<=lie l i:=by
  unfold lie;rcases N1 n (l.getD i 0)with h1|h1;·exact ND (rk l h1 0) (nP _ l (Ng _))
  ·have:=hi.2.1;rw[show l.getD i 0=n by omega];exact nP n l (Ng _)
 have hp:=gx (l.getD i 0);have hd:cd l n 0*pw n=pos n 0 l:=Nat.div_mul_cancel (qk n h0 l 0);have h3:cd l n 0*pw n<(val (bs.take n)+1)*pw n:=by omega
 have:=Qi h3;omega
theorem Mo{l:List Nat}{F:Nat->Nat}(h:fy l)(hF:dX l F l.length){n v:Nat}(h1:cd l n 0<=v)(h2:v-cd l n 0<ct l n):dD l n+(v-cd l n 0)<l.length/\nY l n v=some (F (dD l n+(v-cd l n 0))):=by have hp:=yt l n;have h4:=yr l (n+1);have h3:dD l n+(v-cd l n 0)<l.length:=(by omega);refine⟨h3,wN h ?_⟩;obtain⟨hs,hi⟩:=hF.get h3;generalize F (dD l n+(v-cd l n 0))=s at*;have hk:l.getD s 0=n:=Db hs (by omega) (by omega);have h0:=zR hs;rw[hk]at h0;exact⟨hs,hk,by omega⟩
theorem Lh{l:List Nat}{n v:Nat}(h2:ct l n<=v-cd l n 0):nY l n v=none:=by
 cases e:nY l n v with
 | none=>rfl
 | some s=>exfalso;obtain⟨h3,h4,h5⟩:=lX e;have h6:=zT h3;have h7:=yz l h3 (ag _);rw[qt]at h7;rw[h4]at h6 h7;omega
theorem Fa{l:List Nat}(h:fy l){n v:Nat}(hs:¬v*pw n<kV l):nY l n v=none:=by
 cases e:nY l n v with
 | none=>rfl
 | some s=>exfalso;have h3:=lX e;have h4:=lg h h3.begin;have h5:=yj h h3.1;have:=gx (l.getD s 0);omega
open Go.RowKit
def fc(f:Nat->Nat):Array Value:=(Array.range 21).map fun i=>.int .i64 (f i)
theorem hU(f:Nat->Nat):(fc f).size=21:=by simp[fc]
theorem E9:fc (fun _=>0)=Array.replicate 21 (.int .i64 0):=by
 apply Rm;·simp[fc]
 ·intro i h1 h2;simp[fc]
theorem Mi:(∀ w,(zeroValue 143).run prog w=.ok (.agg (fc fun _=>0)) w)/\(prog.info? 143).map (·.size)=some 21:=by rw[E9];exact RO (by kernel_rfl)
theorem zu(f:Nat->Nat)(b x:Nat):(fc f).setIfInBounds b (.int .i64 x)=fc fun i=>if i=b then x else f i:=by
 apply Rm;·simp[fc]
 ·intro i h1 h2;rw[Qb (by simpa [fc]using h2)];by_cases e:b=i;·subst e;simp[fc]
  ·rw[Nd e];have e2:¬i=b:=fun h=>e h.symm;simp[fc,e2]
theorem zt(f:Nat->Nat):(fc f).all (·.oneCell')=true:=by rw[QS];intro i h;simp[fc,Value.oneCell']
theorem pB(f:Nat->Nat)(i:Nat)(h:i<21):(fc f)[i]? =some (.int .i64 (f i:Nat)):=by simp[fc,h]
theorem L6(w:World)(a b:Array Value)(t:TypeId):Blk ((w.alloc (.cells a t)).alloc (.cells b t)) w.heap.size t a/\Blk ((w.alloc (.cells a t)).alloc (.cells b t)) (w.heap.size+1) t b:=by
 have e1:(w.alloc (.cells a t)).heap.size=w.heap.size+1:=by simp
 refine⟨?_,?_⟩;·show(World.alloc _ _).heap[_]? =_;rw[bZ _ _ _ (by simp)];exact aj w t a
 ·rw[<- e1];exact aj _ t b
theorem fe{w:World}{g k:Nat}{t:TypeId}{cs:Array Value}(h:Blk w g t cs)(h0:g≠k)(i:Nat)(u:Value):Blk (w.setCell ⟨k,i,none⟩ u) g t cs:=by show(w.setCell ⟨k,i,none⟩ u).heap[g]? =_;rw[OK w ⟨k,i,none⟩ u g h0];exact h
theorem nk{w:World}{g:Nat}{t:TypeId}{cs:Array Value}(h:Blk w g t cs):w.rangeAt g 0 cs.toList:=by intro j v hv;rw[N8,ac h];simpa using hv
theorem nL{w:World}{A:Option Addr}{n:Nat}{L:List Int}(hL:ZIn w A n L)(h0:bK L):∃b off,A=some ⟨b,off,none⟩/\∀i,i<n->w.cell? ⟨b,off+i,none⟩=some (.int .i64 ((nl L).getD i 0:Nat)):=by have h1:=hL.1;have h2:2<=n:=(by have:=h0.1;omega);obtain⟨b,off,rfl,hc⟩:=hL.2 (by omega);refine⟨b,off,rfl,fun i hi=> ?_⟩;rw[hc i hi,nf];have:0<=L.getD i 0:=(by rw[Na,Nc (by omega)];have:=(h0.2.2.1 L[i] (NM ..)).1;show(0:Int)<=L[i];omega);rw[PH this]
theorem FD(w:World)(A:Option Addr)(n c:Nat)(L:List Int)(hL:ZIn w A n L)(h7:bK L):Calls prog 152 #[.slice A n c] w fun e w'=>e=.returned (.agg (fc (ct (nl L))))/\Below w.heap.size w w':=by
 have hp:=hL.1;have hv:n<=258:=by have:=h7.2.1;omega
 obtain⟨b,off,rfl,h5⟩:=nL hL h7;have h4:=fM h7;obtain⟨l,hl⟩:∃l,l=nl L:=⟨_,rfl⟩;have ho:l.length=n:=by rw[hl,bN,hp]
 rw[<- hl]at h5 h4 |-;have HF:=aa h4;have h6:=aa ho;have h8:=aa h5;obtain⟨hz,hi⟩:=Mi;have HI:=aa hi;have HS:=aa hU;have ha:=aa zu;have HO:=aa zt;have HG:=aa pB;generalize fc=T at*;clear hi hl h7 hL hp h4 ho h5;go_enter func152,ntmps152;go_wp2_with fail;go_loopw [5,8] (fun s5 x wx=>∃q:Nat,q<=n/\x=.int .i64 q/\Blk wx w.heap.size 143 (T fun _=>0)/\Blk wx (w.heap.size+1) 143 (T fun k=>jh l k q)/\Below w.heap.size w wx) (fun _ x _=>n-(intOf x).toNat)
 case atStart=>obtain⟨h1,h2⟩:=L6 w (T fun _=>0) (T fun _=>0) 143;exact⟨0,Ng _,rfl,h1,h2,((Nj _ w).alloc (ag _) _).alloc (by simp) _⟩
 case round=>
  obtain⟨q,hq,rfl,he,h3,hb⟩:=hrel;have H0:=aa he;have H1:=aa h3;have HB:=aa hb;by_cases e:q<n
  ·have hg:=h8.out q e;have hr:=No w _ hg;have ht:=(HB.out.cell (p:=⟨b,off+q,none⟩) hr).trans hg;have hh:=(HF.out.one (i:=q) (by rw[h6.out];exact e)).2;have h0:=jZ l (l.getD q 0) q (by rw[h6.out];exact e);rw[Nf rfl]at h0;obtain⟨k,hk⟩:∃k,k=l.getD q 0:=⟨_,rfl⟩;rw[<- hk]at ht hh h0;have hj:k<21:=(by omega);have hc:=ac h3 k;have hf:=ae h3 k;rw[HG.out _ k hj]at hc;have hn:=MH l k q;rw[h6.out]at hn;obtain⟨c1,hm⟩:∃c1,c1=jh l k q:=⟨_,rfl⟩;rw[<- hm]at hc hn h0;have HK:=aa hk;have hs:=aa h0;have hu:=HS.out fun k=>jh l k q;clear he h3 hb hg hr hk h0 hm hz;go_wp2_with fail;go_roundw;case rel=>
    refine⟨q+1,by omega,by go_num,fe H0.out (by omega) _ _,?_,HB.out.setCell (by show _<=w.heap.size+1;omega) _⟩;have h1:=ay H1.out k (.int .i64 ((c1+1:Nat):Int));rw[ha.out]at h1;have e2:(fun i=>if i=k then c1+1 else jh l i q)=fun i=>jh l i (q+1):=by
     funext i;by_cases ei:i=k;·rw[Nf ei,ei,hs.out]
     ·rw[Nd ei,jZ l i q (by rw[h6.out];exact e),Nd (by rw[<- HK.out];exact fun h=>ei h.symm)];rfl
    rw[e2]at h1;exact h1
   case measure=>simp[intOf];omega
  ·obtain rfl:q=n:=(by omega);have e2:(fun k=>jh l k q)=ct l:=(by funext k;rw[<- h6.out,qt]);rw[e2]at h3;have h9:Hid ((prog.info? 143).map (·.size)=some (T (ct l)).size):=aa (by rw[HS.out];exact HI.out);have H1:=aa h3;have hu:=HS.out (ct l);clear he h3 hb hz e2;have hw:=cT (P:=prog) H0.out h9.out (by rw[HS.out,HS.out]) (HO.out _);go_upto_region 7 with fail;refine Qd (wpList_load_mid rfl _ _ rfl _ _ rfl (T (ct l)).toList _ (nk H1.out) underlying143 rfl h9.out ?_);rw[RD];go_wp2_with fail;refine NH (v:=.agg (T (ct l))) (jf rfl rfl (QB _ _ _ _ _ _ H0.out) underlying143 h9.out) rfl ⟨rfl,?_⟩;exact below_setRow HB.out (ag _) _
theorem Lx(w:World)(A:Option Addr)(n c:Nat)(x:Int):Calls prog 103 #[.slice A n c,.int .i64 x] w fun e w'=>e=.returned (.bool (decide (0<=x/\x<(n:Int))))/\w=w':=by
 by_cases h0:0<=x
 ·by_cases h1:x<(n:Int);·have d2:decide (0<=x/\x<(n:Int))=true:=Nn ⟨h0,h1⟩;rw[d2];go_enter func103,ntmps103;go_wp2_with fail;go_ret;exact⟨rfl,rfl⟩
  ·have d2:decide (0<=x/\x<(n:Int))=false:=Nl (fun h=>h1 h.2);rw[d2];go_enter func103,ntmps103;go_wp2_with fail;go_ret;exact⟨rfl,rfl⟩
 ·have d2:decide (0<=x/\x<(n:Int))=false:=Nl (fun h=>h0 h.1);rw[d2];go_enter func103,ntmps103;go_wp2_with fail;go_ret;exact⟨rfl,rfl⟩
theorem uo(w:World)(b off n c s x:Nat)(hs:s<n)(hx:w.cell? ⟨b,off+s,none⟩=some (.int .i64 (x:Nat))):Calls prog 104 #[.slice (some ⟨b,off,none⟩) n c,.int .i64 s] w fun e w'=>e=.returned (.int .i64 (x:Nat))/\w=w':=by go_enter func104,ntmps104;go_wp2_with fail;go_ret;exact⟨rfl,rfl⟩
theorem ri(w:World)(A:Option Addr)(n c:Nat)(L:List Int)(hL:ZIn w A n L)(hf:bK L):Calls prog 153 #[.slice A n c,.agg (fc (dD (nl L)))] w fun e w'=>∃g F,e=.returned (.slice (some ⟨g,0,none⟩) n n)/\az w' w.heap.size g n n F/\dX (nl L) F n/\Below w.heap.size w w':=by
 have hu:=hL.1;have hG:n<=258:=by have:=hf.2.1;omega
 obtain⟨b,off,rfl,h7⟩:=nL hL hf;have h6:=fM hf;obtain⟨l,hl⟩:∃l,l=nl L:=⟨_,rfl⟩;have ht:l.length=n:=by rw[hl,bN,hu]
 rw[<- hl]at h7 h6 |-;have HF:=aa h6;have h9:=aa ht;have hh:=aa h7;have hm:=aa zu;have HG:=aa pB;generalize fc=T at*;have hw:=bu (w.alloc (.cells (T (dD l)) 143)) n (by omega);clear hl hf hL hu h6 ht h7
 have hi:Hid (az ((w.alloc (.cells (T (dD l)) 143)).alloc (.cells (madeCells #[.int .i64 0] n) 3)) w.heap.size (w.heap.size+1) n n fun _=>0):=aa (by
  have h:=bf (w.alloc (.cells (T (dD l)) 143)) w.heap.size n (by simp) (by omega)
  simpa using h)
 have hg:Hid (Blk ((w.alloc (.cells (T (dD l)) 143)).alloc (.cells (madeCells #[.int .i64 0] n) 3)) w.heap.size 143 (T (dD l))):=aa (by
  show(World.alloc _ _).heap[_]? =_
  rw[bZ _ _ _ (by simp)]
  exact aj w _ _)
 go_enter func153,ntmps153;go_wp2_with fail;go_loopw [6,7,13] (fun s6 s7 x wx=>∃(q:Nat) (F:Nat->Nat),q<=n/\x=.int .i64 q/\Hid (dX l F q)/\Blk wx w.heap.size 143 (T fun k=>dD l k+jh l k q)/\az wx w.heap.size (w.heap.size+1) n n F/\Below w.heap.size w wx) (fun _ _ x _=>n-(intOf x).toNat)
 case atStart=>exact⟨0,fun _=>0,Ng _,rfl,aa (fun s hs=>by omega),hg.out,hi.out,((Nj _ w).alloc (ag _) _).alloc (by simp) _⟩
 case round=>
  obtain⟨q,F,hq,rfl,h8,ha,h3,hb⟩:=hrel;have H1:=aa ha;have HB:=aa hb;have HR:=aa h3;by_cases e:q<n
  ·have hn:=hh.out q e;have hv:=No w _ hn;have hC:=(HB.out.cell (p:=⟨b,off+q,none⟩) hv).trans hn;have hp:=(HF.out.one (i:=q) (by rw[h9.out];exact e)).2;have h0:=jZ l (l.getD q 0) q (by rw[h9.out];exact e);rw[Nf rfl]at h0;have ho:=oJ (l:=l) (s:=q) (by rw[h9.out];exact e);rw[h9.out]at ho;have h2:jS l q=dD l (l.getD q 0)+jh l (l.getD q 0) q:=rfl;obtain⟨k,hk⟩:∃k,k=l.getD q 0:=⟨_,rfl⟩;rw[<- hk]at hC hp h0 h2;have he:k<21:=(by omega);have hc:=ac ha k;rw[HG.out _ k he]at hc;obtain⟨j,hj⟩:∃j,j=jS l q:=⟨_,rfl⟩;rw[<- h2,<-hj]at hc;rw[<- hj]at ho h2;have hB:=h3.cell j ho;have hF:=h3.frozen j;have h5:dX l (fun i=>if i=j then q else F i) (q+1):=(by have h:=h8.out.step (by rw[h9.out];exact e);rw[<- hj]at h;exact h);obtain⟨v0,hx⟩:∃v0,v0=F j:=⟨_,rfl⟩;rw[<- hx]at hB;have hD:(wr.setCell ⟨w.heap.size+1,j,none⟩ (.int .i64 (q:Nat))).cell? ⟨w.heap.size,k,none⟩=some (.int .i64 (j:Nat)):=(by have h:=ac (fe ha (k:=w.heap.size+1) (by omega) j (.int .i64 (q:Nat))) k;rw[HG.out _ k he,<-h2]at h;exact h);have hE:=ae (fe ha (k:=w.heap.size+1) (by omega) j (.int .i64 (q:Nat))) k;have h4:=(h3.set j q).other (g2:=w.heap.size) (by omega) k (.int .i64 ((j+1:Nat):Int));have hy:=aa h4;have hA:=aa h5;have HK:=aa hk;have hz:=aa h0;have HJ:=aa h2;have hr:j<=258:=(by omega);clear ha hb hn hv hk h0 h3 h4 h8 h5 h2 hj hx hw hi hg;go_wp2_with fail;go_roundw;case rel=>
    refine⟨q+1,_,by omega,by go_num,hA,?_,hy.out,(HB.out.setCell (p:=⟨w.heap.size+1,j,none⟩) (by show _<=w.heap.size+1;omega) _).setCell (p:=⟨w.heap.size,k,none⟩) (ag _) _⟩;have h1:=ay (fe H1.out (k:=w.heap.size+1) (by omega) j (.int .i64 (q:Nat))) k (.int .i64 ((j+1:Nat):Int));rw[hm.out]at h1;have e2:(fun i=>if i=k then j+1 else dD l i+jh l i q)=fun i=>dD l i+jh l i (q+1):=by
     funext i;by_cases ei:i=k;·rw[Nf ei,ei,hz.out,HJ.out,OQ]
     ·rw[Nd ei,jZ l i q (by rw[h9.out];exact e),Nd (by rw[<- HK.out];exact fun h=>ei h.symm)];rfl
    rw[e2]at h1;exact h1
   case measure=>simp[intOf];omega
  ·obtain rfl:q=n:=(by omega);clear ha hb h3 hw hi hg;go_wp2_with fail;go_ret;exact⟨_,F,rfl,HR.out,h8.out,HB.out⟩
def tbF(s0:Value)(K F P:Nat->Nat)(s4:Value)(i:Nat):Value:=if i=0 then s0 else if i<22 then .int .i64 (K (i-1))else if i<43 then .int .i64 (F (i-22))else if i<64 then .int .i64 (P (i-43))else s4
def tb(s0:Value)(K F P:Nat->Nat)(s4:Value):Array Value:=(Array.range 65).map (tbF s0 K F P s4)
theorem eQ(s0:Value)(K F P:Nat->Nat)(s4:Value):(tb s0 K F P s4).size=65:=by simp[tb]
theorem mz(s0:Value)(K F P:Nat->Nat)(s4:Value)(i:Nat)(h:i<65):(tb s0 K F P s4)[i]? =some (tbF s0 K F P s4 i):=by simp[tb,h]
theorem sO(s0:Value)(K F P:Nat->Nat)(s4:Value):(tb s0 K F P s4)[0]? =some s0:=by rw[mz _ _ _ _ _ 0 (by omega)];rfl
theorem yJ(s0:Value)(K F P:Nat->Nat)(s4:Value)(k:Nat)(h:k<21):(tb s0 K F P s4)[1+k]? =some (.int .i64 (K k:Nat)):=by rw[mz _ _ _ _ _ _ (by omega),tbF,Nd,Nf,show 1+k-1=k by omega]
theorem nx(s0:Value)(K F P:Nat->Nat)(s4:Value)(k:Nat)(h:k<21):(tb s0 K F P s4)[22+k]? =some (.int .i64 (F k:Nat)):=by rw[mz _ _ _ _ _ _ (by omega),tbF,Nd,Nd,Nf,show 22+k-22=k by omega]
theorem ny(s0:Value)(K F P:Nat->Nat)(s4:Value)(k:Nat)(h:k<21):(tb s0 K F P s4)[43+k]? =some (.int .i64 (P k:Nat)):=by rw[mz _ _ _ _ _ _ (by omega),tbF,Nd,Nd,Nd,Nf,show 43+k-43=k by omega]
theorem yK(s0:Value)(K F P:Nat->Nat)(s4:Value):(tb s0 K F P s4)[64]? =some s4:=by rw[mz _ _ _ _ _ 64 (by omega)];rfl
theorem vp(s0:Value)(K F P:Nat->Nat)(s4:Value)(h0:s0.oneCell'=true)(h4:s4.oneCell'=true):(tb s0 K F P s4).all (·.oneCell')=true:=by
 rw[QS];intro i h;have:(tb s0 K F P s4)[i]=tbF s0 K F P s4 i:=by simp[tb]
 rw[this,tbF];repeat' split
 all_goals first
  | exact h0
  | exact h4
  | rfl
theorem vo{cs:Array Value}{s0:Value}{K F P:Nat->Nat}{s4:Value}(hs:cs.size=65)(h:∀i,i<65->cs[i]? =some (tbF s0 K F P s4 i)):cs=tb s0 K F P s4:=by
 apply Array.ext_getElem?;intro i;by_cases hi:i<65;·rw[h i hi,mz _ _ _ _ _ i hi]
 ·rw[Rt (by omega),Rt (by rw[eQ];omega)]
theorem L0{s0:Value}{K F P K2 F2 P2:Nat->Nat}{s4:Value}(hK:∀i,i<21->K i=K2 i)(hF:∀i,i<21->F i=F2 i)(hP:∀i,i<21->P i=P2 i):tb s0 K F P s4=tb s0 K2 F2 P2 s4:=by
 refine vo (eQ ..) fun i hi=> ?_;rw[mz _ _ _ _ _ i hi,tbF,tbF];congr 1;split;·rfl
 ·split;·rw[hK _ (by omega)]
  ·split;·rw[hF _ (by omega)]
   ·split;·rw[hP _ (by omega)]
    ·rfl
theorem yL(s0:Value)(K F P:Nat->Nat)(s4:Value)(k x:Nat)(hk:k<21):(tb s0 K F P s4).setIfInBounds (22+k) (.int .i64 x)=tb s0 K (fun i=>if i=k then x else F i) P s4:=by
 refine vo (by rw[Pu,eQ]) fun i hi=> ?_;rw[O5,mz _ _ _ _ _ i hi,eQ];by_cases e:22+k=i;·subst e;rw[Nf rfl,Nf hi,tbF,Nd,Nd,Nf,Nf]
 ·rw[Nd e,tbF,tbF];congr 1;split;·rfl
  ·split;·rfl
   ·split;·rw[Nd]
    ·rfl
theorem yM(s0:Value)(K F P:Nat->Nat)(s4:Value)(k x:Nat)(hk:k<21):(tb s0 K F P s4).setIfInBounds (43+k) (.int .i64 x)=tb s0 K F (fun i=>if i=k then x else P i) s4:=by
 refine vo (by rw[Pu,eQ]) fun i hi=> ?_;rw[O5,mz _ _ _ _ _ i hi,eQ];by_cases e:43+k=i;·subst e;rw[Nf rfl,Nf hi,tbF,Nd,Nd,Nd,Nf,Nf]
 ·rw[Nd e,tbF,tbF];congr 1;split;·rfl
  ·split;·rfl
   ·split;·rfl
    ·split;·rw[Nd]
     ·rfl
theorem BR(s0:Value)(K F P:Nat->Nat)(s4 v:Value):(tb s0 K F P s4).setIfInBounds 64 v=tb s0 K F P v:=by
 refine vo (by rw[Pu,eQ]) fun i hi=> ?_;rw[O5,mz _ _ _ _ _ i hi,eQ];by_cases e:64=i;·subst e;rw[Nf rfl,Nf hi];rfl
 ·rw[Nd e,tbF,tbF];congr 1;split;·rfl
  ·split;·rfl
   ·split;·rfl
    ·rw[Nf,Nf]
def ji(cs:Array Value):Nat->List Value->Array Value
 | _, []=>cs
 | o,v::vs=>ji (cs.setIfInBounds o v) (o+1) vs
theorem qv:∀(vs:List Value) (cs:Array Value) (o:Nat),(ji cs o vs).size=cs.size
 | [],_,_=>rfl
 | v::vs,cs,o=>by rw[ji,qv vs,Pu]
theorem si:∀(vs:List Value) (cs:Array Value) (o i:Nat),i<cs.size->(ji cs o vs)[i]? =if o<=i/\i<o+vs.length then vs[i-o]? else cs[i]?
 | [],cs,o,i,_=>by rw[ji,Nd (by simp)]
 | v::vs,cs,o,i,h=>by
  rw[ji,si vs _ _ i (by rw[Pu];exact h),O5];by_cases e:o=i;·subst e;rw[Nd,Nf rfl,Nf h,Nf (by simp),Oz];rfl
  ·rw[Nd e];by_cases e2:o+1<=i/\i<o+1+vs.length;·rw[Nf e2,Nf (by simp;omega),show i-o=(i-(o+1))+1 by omega];rfl
   ·rw[Nd e2,Nd (by simp;omega)]
theorem pC{g:Nat}{t:TypeId}:∀(vs:List Value) (cs:Array Value) (o:Nat) (w:World),Blk w g t cs->Blk (w.setCells g o vs) g t (ji cs o vs)
 | [],_,_,_,h=>h
 | v::vs,cs,o,w,h=>by rw[World.setCells,ji];exact pC vs _ _ _ (ay h o v)
theorem jH{B:Nat}{w:World}{g:Nat}(hg:B<=g):∀(vs:List Value) (o:Nat) (w':World),Below B w w'->Below B w (w'.setCells g o vs)
 | [],_,_,h=>h
 | v::vs,o,w',h=>by rw[World.setCells];exact jH hg vs _ _ (h.setCell (p:=⟨g,o,none⟩) hg v)
theorem D1(s0:Value)(K F P K2:Nat->Nat)(s4:Value):ji (tb s0 K F P s4) 1 (fc K2).toList=tb s0 K2 F P s4:=by
 have hl:(fc K2).toList.length=21:=hU K2;refine vo (by rw[qv,eQ]) fun i hi=> ?_;rw[si _ _ _ i (by rw[eQ];exact hi),hl];by_cases e:1<=i/\i<1+21;·rw[Nf e,Qm,pB _ _ (by omega),tbF,Nd,Nf]
 ·rw[Nd e,mz _ _ _ _ _ i hi,tbF,tbF];congr 1;split;·rfl
  ·rw[Nd (c:=i<22) (by omega),Nd (c:=i<22) (by omega)]
theorem Ia{w:World}{g:Nat}{t:TypeId}{s0:Value}{K F P:Nat->Nat}{s4:Value}(h:Blk w g t (tb s0 K F P s4)):w.rangeAt g 43 (fc P).toList:=by intro j v hv;rw[ac h];have hj:j<21:=(by have:=(List.getElem?_eq_some_iff.1 hv).1;have hl:(fc P).toList.length=21:=hU P;omega);rw[ny _ _ _ _ _ j hj,<-hv,Qm,pB _ _ hj]
theorem KN{w:World}{g:Nat}{t:TypeId}{s0:Value}{K F P:Nat->Nat}{s4:Value}(h:Blk w g t (tb s0 K F P s4))(o n:Nat)(hn:o+n<=65):w.there g o n:=by intro j hj;refine⟨?_,ae h _⟩;rw[ac h,mz _ _ _ _ _ _ (by omega)];rfl
theorem pa:(∀ w,(zeroValue 145).run prog w=.ok (.agg (tb (.slice none 0 0) (fun _=>0) (fun _=>0) (fun _=>0) (.slice none 0 0))) w)/\(prog.info? 145).map (·.size)=some 65:=RO (by kernel_rfl)
theorem IF:prog.built 145 []=some (tb (.slice none 0 0) (fun _=>0) (fun _=>0) (fun _=>0) (.slice none 0 0)):=by kernel_rfl
theorem Lm(A:Option Addr)(n c:Nat):prog.built 145 [(0,.slice A n c)]=some (tb (.slice A n c) (fun _=>0) (fun _=>0) (fun _=>0) (.slice none 0 0)):=by kernel_rfl
theorem az.setRow{w:World}{B g c n:Nat}{f:Nat->Nat}(h:az w B g c n f){k:Nat}(h0:g≠k)(cs:Array Value):az (w.setRow k cs) B g c n f:=by
 refine⟨h.1,?_⟩;rcases h.2 with⟨h1,h2⟩|⟨g',cap,cur,hv,hB,hh,r⟩;·exact .inl ⟨h1,h2⟩
 ·have hg:g'=g:=(by simp only[Ol,Oj,PR]at hv;exact hv.1.1.symm);refine .inr ⟨g',cap,cur,hv,hB,?_,r⟩;rw[setRow_other _ _ _ _ (by omega)];exact hh
theorem jI{g k:Nat}{t:TypeId}{cs:Array Value}(h0:g≠k):∀(vs:List Value) (o:Nat) (w:World),Blk w g t cs->Blk (w.setCells k o vs) g t cs
 | [],_,_,h=>h
 | v::vs,o,w,h=>by rw[World.setCells];exact jI h0 vs _ _ (fe h h0 o v)
def tb0:Array Value:=tb (.slice none 0 0) (fun _=>0) (fun _=>0) (fun _=>0) (.slice none 0 0)
theorem kh:tb0.size=65:=eQ ..
theorem yI:tb0.all (·.oneCell')=true:=vp _ _ _ _ _ rfl rfl
theorem setRow_self(w:World)(g:Nat)(cs:Array Value)(t:TypeId)(h:Blk w g t cs):Blk (w.setRow g cs) g t cs:=QB _ _ _ _ _ _ h
theorem mx{P:Program}{fn:Func}{p u:Tmp}{ty:TypeId}(h:fn.results=#[.cell p ty,.tmp u])(tmps:Array Value)(w:World)(g:Nat)(t:TypeId)(cs:Array Value)(fr:Nat×Nat)(d:TypeDesc)
 (hp:tmps.getD p undef=.pointer (some ⟨g,0,none⟩)) (hg:w.heap[g]? =some (.cells cs t fr)) (hu:P.underlying ty=some d) (hd:d.isRow=true) (hi:(P.info? ty).map (·.size)=some cs.size) (v:Value) (hv:tmps.getD u undef=v):
 (results fn tmps).run P w=.ok (.tuple #[.agg cs,v]) w:=by rw[results_cell_tmp h,hp,hv];have:=run_loadVar_mid (P:=P) w g 0 ty cs.toList d (fun j v hv=>by rw[N8,cell_of_row w g j cs t fr hg];simpa using hv) hu hd (by simpa using hi);simp[asAddr,this,Result.andThen]
theorem iy{P:Program}{ops:Array Oper}{rest:List Oper}{o:Oper}{a:Act}{w:World}{Q:Exit->Act->World->Prop}{x:Operand}
 (hw:Region.wanted o (yielded ops a.tmps)=true) (h0:o.op=.move x) (hn:wpList P ops Q rest (a.put o.dst (a.eval x)) w):wpList P ops Q (o::rest) a w:=by unfold wpList;rw[Nf hw];left;unfold Oper.wp;simp[execOp,h0];exact hn
theorem qA{P:Program}{ops:Array Oper}{rest:List Oper}{o:Oper}{a:Act}{w:World}{Q:Exit->Act->World->Prop}(hg:o.guard=none)(t:TypeId)(parts:Array (Nat×Operand))(ho:o.op=.build t parts)
 (ps:List (Nat×Value)) (h0:(parts.map fun(i,x)=>(i,a.eval x)).toList=ps) (cs:Array Value) (hb:P.built t ps=some cs)
 (h:wpList P ops Q rest (a.put o.dst (.agg cs)) w):wpList P ops Q (o::rest) a w:=by
 refine wpList_build hg t parts ho ?_ ?_;·rw[h0,hb];rfl
 ·rw[h0,hb];exact h
theorem vj(w:World)(A:Option Addr)(n c:Nat)(L:List Int)(hL:ZIn w A n L)(hn:n<=maxLen)(h:¬bK L):Calls prog 101 #[.slice A n c] w fun e w'=>e=.returned (.tuple #[.agg tb0,.int .i64 80])/\Below w.heap.size w w':=by have hz:=pa.1;have hi:=pa.2;have h1:=IF;rw[show tb (.slice none 0 0) (fun _=>0) (fun _=>0) (fun _=>0) (.slice none 0 0)=tb0 from rfl]at hz h1;have h0:Below w.heap.size w (w.alloc (.cells tb0 145)):=(Nj _ w).alloc (ag _) _;have HC:=aa (lS (w.alloc (.cells tb0 145)) A n c L (hL.below h0) hn);rw[Nd h]at HC;have hk:=aj w 145 tb0;have HK:=aa hk;have HS:=aa kh;have HO:=aa yI;have HI:=aa hi;have h4:=aa h1;generalize tb0=Z at*;have h3:=aa h0;clear hL h h0 hk hi h1;go_enter func101,ntmps101;go_wp2_with fail;clear hz;refine HC.out.mono ?_;rintro e w2 ⟨rfl,rfl⟩;generalize w.alloc (.cells Z 145)=w1 at*;have h2:Hid ((prog.info? 145).map (·.size)=some Z.size):=aa (by rw[HS.out];exact HI.out);go_upto_region 3 with fail;refine Qd (qA rfl _ _ rfl [] (by simp) Z h4.out ?_);have h5:=cT (P:=prog) HK.out h2.out rfl HO.out;go_wp2_with fail;exact NH (v:=.tuple #[.agg Z,.int .i64 80]) (mx rfl _ _ _ _ _ _ _ rfl (setRow_self _ _ _ _ HK.out) underlying145 rfl h2.out _ rfl) rfl ⟨rfl,below_setRow h3.out (ag _) _⟩
theorem uI(f:Nat->Nat)(k x:Nat)(h:x=f (k+1)):(fun i=>if i=k+1 then x else if i<=k then f i else 0)=fun i=>if i<=k+1 then f i else 0:=by
 funext i;by_cases e:i=k+1;·rw[Nf e,Nf,e,h]
 ·rw[Nd e];by_cases e2:i<=k;·rw[Nf e2,Nf]
  ·rw[Nd e2,Nd]
theorem uJ(f:Nat->Nat)(h:f 0=0):(fun i=>if i<=0 then f i else 0)=fun _=>0:=by
 funext i;by_cases e:i<=0;·rw[Nf e,show i=0 by omega,h]
 ·rw[Nd e]
theorem su(w:World)(A:Option Addr)(n c:Nat)(L:List Int)(hL:ZIn w A n L)(hn:n<=maxLen)(h:bK L):Calls prog 101 #[.slice A n c] w fun e w'=>
 ∃g F,e=.returned (.tuple #[.agg (tb (.slice A n c) (ct (nl L)) (fun k=>cd (nl L) k 0) (dD (nl L)) (.slice (some ⟨g,0,none⟩) n n)),.int .i64 0])/\az w' w.heap.size g n n F/\dX (nl L) F n/\Below w.heap.size w w':=by
 have hz:=pa.1;have hi:=pa.2;rw[show tb (.slice none 0 0) (fun _=>0) (fun _=>0) (fun _=>0) (.slice none 0 0)=tb0 from rfl]at hz;have h0:Below w.heap.size w (w.alloc (.cells tb0 145)):=(Nj _ w).alloc (ag _) _;have HC:=aa (lS (w.alloc (.cells tb0 145)) A n c L (hL.below h0) hn);rw[Nf h]at HC;have hk:=aj w 145 tb0;have HK:=aa hk;have HS:=aa kh;have HI:=aa hi;have hT:=aa (Lm A n c);have HV:=aa h0;have hG:=aa (hL.below h0);have hH:=aa h;have H3:=aa hL;obtain⟨l,hl⟩:∃l,l=nl L:=⟨_,rfl⟩;have h6:=fM hH.out;have p8:l.length=n:=by rw[hl,bN,hG.out.1]
 have r7:n<=258:=by have:=hH.out.2.1;rw[hG.out.1]at this;exact this
 rw[<- hl]at h6;rw[<- hl];have hV:=aa h6;have q4:=aa p8;have HL:=aa hl;clear h6 p8 hl;generalize tb0=Z at*;clear hL h h0 hk hi;go_enter func101,ntmps101;go_wp2_with fail;refine HC.out.mono ?_;rintro e w2 ⟨rfl,rfl⟩;obtain⟨T0,hI⟩:∃T0,T0=tb (.slice A n c) (fun _=>0) (fun _=>0) (fun _=>0) (.slice none 0 0):=⟨_,rfl⟩;rw[<- hI]at hT;have h8:T0.size=65:=by rw[hI,eQ]
 have H7:=aa hI;clear hI;have hA:(w.alloc (.cells Z 145)).heap.size=w.heap.size+1:=by simp
 have h1:=aa hA;clear hA;generalize w.alloc (.cells Z 145)=w1 at*;go_upto_region 4 with fail;refine Qd (iy rfl rfl (qA rfl _ _ rfl [(0,.slice A n c)] (by simp;rfl) T0 hT.out ?_));have pk:T0.all (·.oneCell')=true:=by rw[H7.out];exact vp _ _ _ _ _ rfl rfl
 have p6:(prog.info? 145).map (·.size)=some T0.size:=by rw[h8];exact HI.out
 have HN:=cT (P:=prog) (aj w1 145 Z) p6 (by rw[HS.out,h8]) pk;have HG:Blk ((w1.alloc (.cells Z 145)).setRow w1.heap.size T0) w1.heap.size 145 T0:=QB _ _ _ _ _ _ (aj w1 145 Z);have hM:Below w1.heap.size w1 ((w1.alloc (.cells Z 145)).setRow w1.heap.size T0):=below_setRow ((Nj _ _).alloc (ag _) _) (ag _) _;have p2:=aa HG;have pb:((w1.alloc (.cells Z 145)).setRow w1.heap.size T0).cell? ⟨w1.heap.size,0,none⟩=some (.slice A n c):=by rw[ac HG,H7.out,sO]
 have hu:=aO hM HK.out;have hc:=aa hu;have hf:=aa (hG.out.below hM);have HX:=aa (HV.out.trans (hM.mono (by have:=h1.out;omega)));have hC:w1.heap.size<((w1.alloc (.cells Z 145)).setRow w1.heap.size T0).heap.size:=by rw[size_setRow];simp
 clear pk p6 HG hM hu;go_upto_region 5 with fail;clear HN;generalize (w1.alloc (.cells Z 145)).setRow w1.heap.size T0=w5 at*;have h4:=aa (FD w5 A n c L hf.out hH.out);rw[<- HL.out]at h4;clear hz;go_wp2_with fail;refine h4.out.mono ?_;rintro e w6 ⟨rfl,ho⟩;have hP:=aO ho p2.out;have hw:=aO ho hc.out;have hq:=aq HX.out ho;have hD:w1.heap.size<w6.heap.size:=OA hC ho.size;rw[H7.out]at hP;have HP:=KN hP 1 21 (by omega)
 have hy:=run_storeCells_cells (P:=prog) w1.heap.size 1 (fc (ct l)).toList 0 w6 (fun j hj=>by
  have:(fc (ct l)).toList.length=21:=hU _
  have:=(HP j (by omega)).1
  simpa using this) (fun j hj=>by
  have:(fc (ct l)).toList.length=21:=hU _
  have:=(HP j (by omega)).2
  simpa using this) (fun v hv=>(Array.all_eq_true_iff_forall_mem.1 (zt (ct l))) v (by simpa using hv))
 simp only[NY]at hy;have HH:=pC (fc (ct l)).toList _ 1 w6 hP;rw[D1]at HH;have hF:=aa HH;have he:=aa (jI (k:=w1.heap.size) (by have:=h1.out;omega) (fc (ct l)).toList 1 w6 hw);have HW:=aa (jH (g:=w1.heap.size) (by have:=h1.out;omega) (fc (ct l)).toList 1 w6 hq);have pj:(fc (ct l)).size=21:=hU _;clear hP hw hq ho HP HH h4 p2 hc HX pb;generalize fc (ct l)=TK at*;go_upto_region 6 with fail;clear hy;have h9:w1.heap.size<(w6.setCells w1.heap.size 1 TK.toList).heap.size:=OA hD (jH (g:=w1.heap.size) (ag _) TK.toList 1 w6 (Nj w1.heap.size w6 |>.mono (ag _))).size;generalize w6.setCells w1.heap.size 1 TK.toList=w7 at*;obtain⟨g5,p5⟩:∃g5,g5=w1.heap.size:=⟨_,rfl⟩;rw[<- p5]at hF h9 |-;have r5:w.heap.size<g5:=by have:=h1.out;omega
 clear hC hD h1 HK hG hf HV hT HC h8 p5;obtain⟨K,hK⟩:∃K,K=ct l:=⟨_,rfl⟩;rw[<- hK]at hF;go_wp2_with fail;go_loopw [6,19] (fun s6 x wx=>∃k:Nat,k<=20/\x=.int .i64 k/\Blk wx g5 145 (tb (.slice A n c) K (fun i=>if i<=k then cd l i 0 else 0) (fun i=>if i<=k then dD l i else 0) (.slice none 0 0))/\Blk wx w.heap.size 145 Z/\Below w.heap.size w wx/\g5<wx.heap.size) (fun _ x _=>20-(intOf x).toNat)
 case atStart=>refine⟨0,Ng _,rfl,?_,he.out,HW.out,h9⟩;have e1:=uJ (fun i=>cd l i 0) (Ft l);have e2:=uJ (dD l) (J4 l);rw[e1,e2];exact hF.out
 case round=>
  obtain⟨k,hk,rfl,h0,HD,hb,HO⟩:=hrel;have H1:=aa h0;have HZ:=aa HD;have HB:=aa hb;by_cases e:k<20
  ·have d0:decide ((k:Int)<20)=true:=bE;obtain⟨k1,HF⟩:∃k1,k1=k+1:=⟨_,rfl⟩;have r6:(k:Int)+1=(k1:Int):=(by omega);have q1:=(ac h0 (22+k)).trans (nx _ _ _ _ _ k (by omega));rw[Nf (ag _)]at q1;have q2:=(ac h0 (1+k)).trans (yJ _ _ _ _ _ k (by omega));have q3:=(ac h0 (22+k1)).trans (nx _ _ _ _ _ k1 (by omega));have f3:=ae h0 (22+k1);have hs:=Lo l e;rw[<- HF,<-hK]at hs;have HE:=L9 hV.out (show k1<=20 by omega) 0;have hr:=xQ l k;rw[<- hK]at hr;obtain⟨x1,pl⟩:∃x1,x1=cd l k 0:=⟨_,rfl⟩;obtain⟨y1,HQ⟩:∃y1,y1=K k:=⟨_,rfl⟩;obtain⟨z1,HR⟩:∃z1,z1=cd l k1 0:=⟨_,rfl⟩;rw[<- pl]at q1 hs;rw[<- HQ]at q2 hs hr;rw[<- HR]at hs HE;have r0:((x1:Int)+(y1:Int))*2=(z1:Int):=(by omega);have qx:x1<=1048576:=(by omega);have p4:=aa HQ;have q9:=aa HR;clear h0 HD hb hs pl HQ HR;have ql:(k:Int)<21:=(by omega);have p7:(k1:Int)<21:=(by omega);go_upto_region 9 with fail;have hh:Blk wr.drew g5 145 (tb (.slice A n c) K (fun i=>if i<=k then cd l i 0 else 0) (fun i=>if i<=k then dD l i else 0) (.slice none 0 0)):=H1.out;have hE:Blk wr.drew w.heap.size 145 Z:=HZ.out;have hp:Below w.heap.size w wr.drew:=HB.out.drew;have HY:=aa hh;have p1:=aa hE;have p0:=aa hp;have h2:g5<wr.drew.heap.size:=HO;have p3:=aa h2;clear hh hE hp h2;have q3d:wr.drew.cell? ⟨g5,22+k1,none⟩=some (.int .i64 ((if k1<=k then cd l k1 0 else 0:Nat):Int)):=q3;have f3d:wr.drew.frozen? ⟨g5,22+k1,none⟩=false:=f3;obtain⟨s1,qm⟩:∃s1,s1=x1+y1:=⟨_,rfl⟩;have pg:(x1:Int)+(y1:Int)=(s1:Int):=(by omega);have qo:(s1:Int)*2=(z1:Int):=(by omega);have w1':IntKind.i64.wrap (k1:Int)=(k1:Int):=(by rw[Of];omega);have w2':IntKind.i64.wrap (s1:Int)=(s1:Int):=(by rw[Of];omega);have w3':IntKind.i64.wrap (z1:Int)=(z1:Int):=(by rw[Of];omega);have h5:=aa HF;clear r0 qm HF;(go_still_tail 14,(by kernel_rfl));change wpList _ _ _ _ _ wr.drew;generalize wr.drew=wy at*;clear q1 q2 q3 f3;have hJ:=ay HY.out (22+k1) (.int .i64 (z1:Nat));rw[yL _ _ _ _ _ k1 z1 (by omega)]at hJ;(have hS:(fun i=>if i=k1 then z1 else if i<=k then cd l i 0 else 0)=fun i=>if i<=k1 then cd l i 0 else 0:=by rw[h5.out];exact uI (fun i=>cd l i 0) k z1 (by rw[q9.out,h5.out]));rw[hS]at hJ;have ha:=aa hJ;have hY:=aa (fe p1.out (k:=g5) (by omega) (22+k1) (.int .i64 (z1:Nat)));have hW:=aa (p0.out.setCell (p:=⟨g5,22+k1,none⟩) (by show _<=g5;omega) (.int .i64 (z1:Nat)));have H4:Hid (g5<(wy.setCell ⟨g5,22+k1,none⟩ (.int .i64 (z1:Nat))).heap.size):=aa (by simpa using p3.out);clear hJ hS;go_upto_region 10 with fail;generalize wy.setCell ⟨g5,22+k1,none⟩ (.int .i64 (z1:Nat))=wz at*;clear q3d f3d HY p1 p0 p3 H1 HZ HB qx pg qo w2' w3';have r1:=(ac ha.out (43+k)).trans (ny _ _ _ _ _ k (by omega));rw[Nf (ag _)]at r1;have r2:=(ac ha.out (1+k)).trans (yJ _ _ _ _ _ k (by omega));have r3:=(ac ha.out (43+k1)).trans (ny _ _ _ _ _ k1 (by omega));have g3:=ae ha.out (43+k1);have hR:=yt l k;rw[<- h5.out,<-hK,<-p4.out]at hR;have hx:=yr l k1;rw[q4.out]at hx;obtain⟨x2,pm⟩:∃x2,x2=dD l k:=⟨_,rfl⟩;obtain⟨z2,HT⟩:∃z2,z2=dD l k1:=⟨_,rfl⟩;rw[<- pm]at r1 hR;rw[<- HT]at hR hx;rw[<- p4.out]at r2;have pg:(x2:Int)+(y1:Int)=(z2:Int):=(by omega);have w2':IntKind.i64.wrap (z2:Int)=(z2:Int):=(by rw[Of];omega);have qa:=aa HT;clear hR pm HT;have hh:Blk wz.drew g5 145 (tb (.slice A n c) K (fun i=>if i<=k1 then cd l i 0 else 0) (fun i=>if i<=k then dD l i else 0) (.slice none 0 0)):=ha.out;have hE:Blk wz.drew w.heap.size 145 Z:=hY.out;have hp:Below w.heap.size w wz.drew:=hW.out.drew;have pr:=aa hh;have hZ:=aa hE;have hX:=aa hp;have h2:g5<wz.drew.heap.size:=H4.out;have H5:=aa h2;clear hh hE hp h2;have q3d:wz.drew.cell? ⟨g5,43+k1,none⟩=some (.int .i64 ((if k1<=k then dD l k1 else 0:Nat):Int)):=r3;have f3d:wz.drew.frozen? ⟨g5,43+k1,none⟩=false:=g3;(go_still_tail 13,(by kernel_rfl));change wpList _ _ _ _ _ wz.drew;generalize wz.drew=wq at*;clear r1 r2 r3 g3;go_wp2_with fail;go_roundw;case rel=>refine⟨k1,by have:=h5.out;omega,by first|rfl|go_num,?_,fe hZ.out (k:=g5) (by omega) _ _,hX.out.setCell (p:=⟨g5,43+k1,none⟩) (by show _<=g5;omega) _,by simpa using H5.out⟩;have HA:=ay pr.out (43+k1) (.int .i64 (z2:Nat));rw[yM _ _ _ _ _ k1 z2 (by omega)]at HA;(have hS:(fun i=>if i=k1 then z2 else if i<=k then dD l i else 0)=fun i=>if i<=k1 then dD l i else 0:=by rw[h5.out];exact uI (dD l) k z2 (by rw[qa.out,h5.out]));rw[hS]at HA;exact HA
   case measure=>have:=h5.out;simp[intOf];omega
  ·obtain rfl:k=20:=(by omega);have d0:decide ((20:Int)<20)=false:=aR;have h3:tb (.slice A n c) K (fun i=>if i<=20 then cd l i 0 else 0) (fun i=>if i<=20 then dD l i else 0) (.slice none 0 0)=tb (.slice A n c) K (fun i=>cd l i 0) (dD l) (.slice none 0 0):=L0 (fun _ _=>rfl) (fun i hi=>Nf) (fun i hi=>Nf);rw[h3]at h0;have H2:=aa h0;have pb:=(ac h0 0).trans (sO _ _ _ _ _);have H8:=aa (H3.out.below hb);have hg:=aa (ri wr A n c L H8.out hH.out);rw[<- HL.out]at hg;have hit:(prog.info? 143).map (·.size)=some (fc (dD l)).toList.length:=(by rw[show (fc (dD l)).toList.length=21 from hU _];exact Mi.2);have pv:=aa hit;have q6:=aa (Ia h0);clear h3 H1 h0 hb HD hit he HW hF h9;go_upto_region 12 with fail;apply Qd;(iterate 9 go_step);refine wpList_load_mid rfl _ _ rfl g5 43 rfl (fc (dD l)).toList _ q6.out underlying143 rfl pv.out ?_;rw[RD];go_wp2_with fail;refine hg.out.mono ?_;rintro e w8 ⟨g,F,rfl,h7,hB,hN⟩;have r4:g5<g:=(by have:=h7.lt.1;omega);have hQ:=aO hN H2.out;have pn:=aO hN HZ.out;have q8:=(ac hQ 64).trans (yK _ _ _ _ _);have f8:=ae hQ 64;obtain⟨T9,hm⟩:∃T9,T9=tb (.slice A n c) K (fun i=>cd l i 0) (dD l) (.slice (some ⟨g,0,none⟩) n n):=⟨_,rfl⟩;have HJ:=ay hQ 64 (.slice (some ⟨g,0,none⟩) n n);rw[BR,<-hm]at HJ;have pf:T9.size=65:=(by rw[hm,eQ]);have p9:T9.all (·.oneCell')=true:=(by rw[hm];exact vp _ _ _ _ _ rfl rfl);have hO:(prog.info? 145).map (·.size)=some T9.size:=(by rw[pf];exact HI.out);have ht:(prog.info? 145).map (·.size)=some T9.toList.length:=hO;have q0:=aa HJ;have HU:=fe pn (k:=g5) (by omega) 64 (.slice (some ⟨g,0,none⟩) n n);have q5:=aa ((h7.other (g2:=g5) (by omega) 64 (.slice (some ⟨g,0,none⟩) n n)).setRow (k:=w.heap.size) (by omega) T9);have po:=aa (below_setRow ((aq HB.out hN).setCell (p:=⟨g5,64,none⟩) (by show _<=g5;omega) (.slice (some ⟨g,0,none⟩) n n)) (ag _) T9);have qs:=cT (P:=prog) HU hO (by rw[HS.out,pf]) p9;have qb:=aa HU;have ps:=aa ht;have H0:=aa hO;have q7:=aa hm;have H6:=aa hB;have HM:=HB.out.size;clear hQ pn HJ hO ht HU h7 hB hm p9 hN;go_upto_region 13 with fail;refine Qd (wpList_load_mid rfl _ _ rfl g5 0 rfl T9.toList _ (nk q0.out) underlying145 rfl ps.out ?_);rw[RD];go_wp2_with fail;refine NH (v:=.tuple #[.agg T9,.int .i64 0]) (mx rfl _ _ _ _ _ _ _ rfl (QB _ _ _ _ _ _ qb.out) underlying145 rfl H0.out _ rfl) rfl ⟨g,F,by rw[q7.out,hK],World.ownsRow.mono q5.out HM,H6.out,po.out⟩
