import Derived.Test.YtfhgikojdfblpaaGreatM01
import Derived.Laws.OwnMore
import Derived.Laws.MakeOwn
import Derived.Deep.Onto
import Derived.Lib.AppendZeros
import Derived.Deep.RegionLaw
set_option maxHeartbeats 3200000
set_option maxRecDepth 100000
namespace Go.Proofs.YtfhgikojdfblpaaGreat
open _root_.Go.Proofs.Tryz
open Go.RowKit
def gU(L:List Int):Prop:=2<=L.length/\L.length<=258/\∀x∈L,0<=x/\x<=1073741824
instance (L:List Int):Decidable (gU L):=inferInstanceAs (Decidable (_/\_))
theorem cK(L:List Int)(q:Nat)(h:q<L.length):L.take (q+1)=L.take q++ [L.getD q 0]:=by rw[NF h,Na,Nc h];rfl
theorem dK(L:List Int)(q:Nat)(h:q<L.length):L.getD q 0∈L:=by rw[Na,Nc h];exact NM h
theorem pY(w:World)(A:Option Addr)(n c:Nat)(L:List Int)(hL:ZIn w A n L)(hn:n<=maxLen):Calls prog 192 #[.slice A n c] w fun e w'=>e=.returned (.bool (decide (gU L)))/\w'=w:=by
 unfold maxLen at hn;have h8:=hL.1;have HL:=aa hL;have h5:=aa h8;have h6:Hid (∀ x∈L,(x<0\/1073741824<x)->decide (gU L)=false):=aa fun x hx h=>Nl fun hm=>by have:=hm.2.2 x hx;omega
 have h4:Hid ((∀ x∈L,0<=x/\x<=1073741824)->decide (gU L)=(decide (2<=n)&&decide (n<=258))):=aa fun h=>by
  rw[<- Bool.decide_and];refine decide_eq_decide.2 ⟨fun hm=> ?_,fun hm=> ?_⟩;·have:=hm.1;have:=hm.2.1;omega
  ·exact⟨by omega,by omega,h⟩
 clear hL h8;generalize decide (gU L)=ans at*;go_enter func192,ntmps192;go_wp2_with fail;go_loopw [3] (fun i wx=>∃q:Nat,q<=n/\i=.int .i64 q/\Hid (∀ x∈L.take q,0<=x/\x<=1073741824)/\wx=w) (fun i _=>n-(intOf i).toNat)
 case atStart=>exact⟨0,Ng _,rfl,by simp[Hid],rfl⟩
 case round=>
  obtain⟨q,hq,rfl,hv,rfl⟩:=hrel;by_cases e:q<n
  ·obtain⟨b,off,rfl,hc⟩:=HL.out.2 (by omega);have hb:=hc q e;have h7:=cK L q (by rw[h5.out];exact e);have h2:=dK L q (by rw[h5.out];exact e);obtain⟨x,hx⟩:∃x,x=L.getD q 0:=⟨_,rfl⟩;rw[<- hx]at hb h7 h2;have h9:=aa h7;have HM:=aa h2;clear hc hx h7 h2;by_cases e1:x<0;·have d1:decide (x<0)=true:=Nn e1;have h0:=h6.out x HM.out (.inl e1);subst h0;go_wp2_with fail;go_ret;exact⟨rfl,rfl⟩
   ·have d1:decide (x<0)=false:=Nl e1;by_cases e2:1073741824<x;·have d2:decide (1073741824<x)=true:=Nn e2;have h0:=h6.out x HM.out (.inr e2);subst h0;go_wp2_with fail;go_ret;exact⟨rfl,rfl⟩
    ·have d2:decide (1073741824<x)=false:=Nl e2;have h3:∀y∈L.take (q+1),0<=y/\y<=1073741824:=by
      rw[h9.out];intro y hy;rcases List.mem_append.1 hy with hy|hy;·exact hv.out y hy
      ·rw[List.mem_singleton.1 hy];omega
     have ha:=aa h3;clear h3;go_wp2_with fail;go_roundw;case rel=>exact⟨q+1,by omega,by go_num,ha,trivial⟩
     case measure=>simp[intOf];omega
  ·obtain rfl:q=n:=(by omega);have h3:=hv.out;rw[Nr (Oi h5.out)]at h3;have h0:=h4.out h3;have d1:decide ((2:Int)<=(q:Int))=decide (2<=q):=decide_eq_decide.2 (by omega);have d2:decide ((q:Int)<=258)=decide (q<=258):=decide_eq_decide.2 (by omega);subst h0;clear h3 h6 h4;by_cases h1:2<=q;·go_wp2_with fail;go_ret;exact⟨by simp[h1],rfl⟩
   ·go_wp2_with fail;go_ret;exact⟨by simp[h1],rfl⟩
def pq(q:Nat)(ws ov:Nat->Nat)(at_:Int):Prop:=(at_= -1/\∀j,j<q->ov j≠0)\/∃a:Nat,at_=a/\a<q/\ov a=0/\∀j,j<q->ov j=0->j≠a->ws a<ws j\/(ws a=ws j/\a<j)
theorem Gm(w:World)(A B:Option Addr)(k c d:Nat)(W O:List Nat)(hW:aB w A k W)(hO:aB w B k O)(hk:k<=10000)(h0:∃j,j<k/\O.getD j 0=0):
 Calls prog 224 #[.slice A k c,.slice B k d] w fun e w'=>∃a:Nat,e=.returned (.int .i64 a)/\mp k (fun j=>W.getD j 0) (fun j=>O.getD j 0) a/\∃m,w'=w.drewN m:=by
 have HW:=aa hW;have HO:=aa hO;have H0:=aa h0;obtain⟨ws,h8⟩:∃ws:Nat->Nat,ws=fun j=>W.getD j 0:=⟨_,rfl⟩;obtain⟨ov,h7⟩:∃ov:Nat->Nat,ov=fun j=>O.getD j 0:=⟨_,rfl⟩;have hb:=aa h8;have h9:=aa h7;have hP:Hid (∀ (a:Nat) (m:Nat),mp k ws ov a->(fun e w'=>∃a:Nat,e=Ending.returned (.int .i64 a)/\mp k (fun j=>W.getD j 0) (fun j=>O.getD j 0) a/\∃m,w'=w.drewN m) (.returned (.int .i64 a)) (w.drewN m)):=aa fun a m h=>⟨a,rfl,by rw[<- h8,<-h7];exact h,m,rfl⟩;generalize (fun e w'=>∃a:Nat,e=Ending.returned (.int .i64 a)/\mp k (fun j=>W.getD j 0) (fun j=>O.getD j 0) a/\∃m,w'=w.drewN m)=PO at*;clear hW hO h0 h8 h7;go_enter func224,ntmps224;go_wp2_with fail;go_loopw [5,6] (fun v i wx=>∃(q:Nat) (at_:Int),q<=k/\i=.int .i64 q/\v=.int .i64 at_/\Hid (pq q ws ov at_)/\∃m,wx=w.drewN m) (fun _ i _=>k-(intOf i).toNat)
 case atStart=>exact⟨0,-1,Ng _,rfl,rfl,.inl ⟨rfl,fun j hj=>by omega⟩,0,rfl⟩
 case round=>
  obtain⟨q,at_,hq,rfl,rfl,hl,hd⟩:=hrel;have HD:=aa hd;by_cases e:q<k
  ·obtain⟨b1,o1,rfl,h6⟩:=HW.out.2 (by omega);obtain⟨b2,o2,rfl,hc⟩:=HO.out.2 (by omega);have c1:wr.cell? ⟨b1,o1+q,none⟩=some (.int .i64 (ws q:Nat)):=(by rw[hb.out];obtain⟨m,rfl⟩:=hd;exact h6 q e);have c2:wr.cell? ⟨b2,o2+q,none⟩=some (.int .i64 (ov q:Nat)):=(by rw[h9.out];obtain⟨m,rfl⟩:=hd;exact hc q e);obtain⟨x,hx⟩:∃x,x=ov q:=⟨_,rfl⟩;obtain⟨y,hy⟩:∃y,y=ws q:=⟨_,rfl⟩;rw[<- hx]at c2;rw[<- hy]at c1;have HX:=aa hx;have HY:=aa hy;have h4:∀a:Nat,a<k->wr.cell? ⟨b1,o1+a,none⟩=some (.int .i64 (ws a:Nat)):=(by intro a ha;rw[hb.out];obtain⟨m,rfl⟩:=hd;exact h6 a ha);have he:=aa h4;clear hx hy h6 hc hd h4;by_cases e1:x=0
   ·subst e1;rcases hl.out with⟨rfl,h3⟩|⟨a,rfl,ha,h5,h1⟩
    ·have d1:((((0:Nat):Int))==0)=true:=rfl;have h2:Hid (pq (q+1) ws ov (q:Int)):=aa (.inr ⟨q,rfl,PP q,HX.out.symm,fun j hj h0 hne=>absurd h0 (h3 j (by omega))⟩);clear h3 hl;go_wp2_with fail;go_quiet (fail);go_wp2_with fail;go_roundw;case rel=>obtain⟨m,hm⟩:=HD.out;exact⟨q+1,q,by omega,by go_num,rfl,h2,m+nq,by rw[hm];simp⟩
     case measure=>simp[intOf];omega
    ·have d1:((((0:Nat):Int))==0)=true:=rfl;have ca:=he.out a (by omega);obtain⟨z,hz⟩:∃z,z=ws a:=⟨_,rfl⟩;rw[<- hz]at ca;have HZ:=aa hz;have d2:decide ((a:Int)<0)=false:=aR;have hh:(a:Int)<(k:Int):=(by omega);clear hz;by_cases e2:y<z
     ·have h2:Hid (pq (q+1) ws ov (q:Int)):=aa (.inr ⟨q,rfl,PP q,HX.out.symm,fun j hj h0 hne=>by
       left
       rw[<- HY.out]
       by_cases ej:j=a
       ·rw[ej,<-HZ.out]
        exact e2
       ·have:=h1 j (by omega) h0 ej
        rw[<- HZ.out]at this
        omega⟩)
      clear h1 hl;go_wp2_with fail;go_quiet (fail);go_wp2_with fail;go_roundw;case rel=>obtain⟨m,hm⟩:=HD.out;exact⟨q+1,q,by omega,by go_num,rfl,h2,m+nq,by rw[hm];simp⟩
      case measure=>simp[intOf];omega
     ·have h2:Hid (pq (q+1) ws ov (a:Int)):=aa (.inr ⟨a,rfl,by omega,h5,fun j hj h0 hne=>by
       by_cases ej:j=q
       ·rw[ej,<-HY.out,<-HZ.out]
        omega
       ·exact h1 j (by omega) h0 hne⟩)
      clear h1 hl;go_wp2_with fail;go_quiet (fail);go_wp2_with fail;go_roundw;case rel=>obtain⟨m,hm⟩:=HD.out;exact⟨q+1,a,by omega,by go_num,rfl,h2,m+nq,by rw[hm];simp⟩
      case measure=>simp[intOf];omega
   ·have d1:((x:Int)==0)=false:=by rw[NC];omega
    have h2:Hid (pq (q+1) ws ov at_):=aa (by
     rcases hl.out with⟨rfl,h3⟩|⟨a,rfl,ha,h5,h1⟩
     ·exact .inl ⟨rfl,fun j hj=>by
       by_cases ej:j=q
       ·rw[ej,<-HX.out]
        exact e1
       ·exact h3 j (by omega)⟩
     ·exact .inr ⟨a,rfl,by omega,h5,fun j hj h0 hne=>by
       by_cases ej:j=q
       ·rw[ej,<-HX.out]at h0
        exact absurd h0 e1
       ·exact h1 j (by omega) h0 hne⟩)
    clear hl;go_wp2_with fail;go_quiet (fail);go_wp2_with fail;go_roundw;case rel=>obtain⟨m,hm⟩:=HD.out;exact⟨q+1,at_,by omega,by go_num,rfl,h2,m+nq,by rw[hm];simp⟩
    case measure=>simp[intOf];omega
  ·obtain rfl:q=k:=(by omega);rcases hl.out with⟨rfl,h3⟩|⟨a,rfl,ha,h5,h1⟩;·exfalso;obtain⟨j,hj,hg⟩:=H0.out;exact h3 j hj (by rw[h9.out];exact hg)
   ·have hf:Hid (mp q ws ov a):=aa ⟨ha,h5,h1⟩;obtain⟨m,rfl⟩:=hd;clear h1 hl;go_wp2_with fail;exact hP.out a m hf.out
def cN(n:Nat)(f:Nat->Nat):List Value:=(List.range n).map fun j=>iv (f j)
theorem eI(n:Nat)(f:Nat->Nat):(cN n f).length=n:=by simp[cN]
theorem lC(n:Nat)(f:Nat->Nat)(i:Nat)(h:i<n):(cN n f)[i]? =some (iv (f i)):=by unfold cN;rw[Np,NJ h];rfl
theorem Km(n:Nat)(f:Nat->Nat)(i v:Nat):(cN n f).set i (iv v)=cN n fun j=>if j=i then v else f j:=by
 apply Ob;intro j;by_cases hj:j<n
 ·rw[lC n _ j hj];by_cases e:i=j;·subst e;rw[List.getElem?_set_self (by rw[eI];exact hj),Nf rfl]
  ·rw[List.getElem?_set_ne e,lC n f j hj,Nd (fun h=>e h.symm)]
 ·rw[Nw (by rw[P5,eI];omega),Nw (by rw[eI];omega)]
theorem cw(n:Nat)(f g:Nat->Nat)(h:∀j,j<n->f j=g j):cN n f=cN n g:=by unfold cN;refine Oe fun j hj=> ?_;rw[h j (List.mem_range.1 hj)]
theorem G2(n:Nat)(f:Nat->Nat)(v:Nat):cN n f++ [iv v]=cN (n+1) fun j=>if j=n then v else f j:=by
 unfold cN;rw[Oh,Nz];congr 1;·refine Oe fun j hj=> ?_;have:=List.mem_range.1 hj;show iv (f j)=iv (if j=n then v else f j);rw[Nd]
 ·simp
theorem rm(L:List Nat):L.map iv=cN L.length fun j=>L.getD j 0:=by
 apply Ob;intro j;by_cases hj:j<L.length;·rw[lC _ _ j hj,Np,Nc hj,Na,Nc hj];rfl
 ·rw[Nw (by rw[Nu];omega),Nw (by rw[eI];omega)]
def az(w:World)(B g c n:Nat)(f:Nat->Nat):Prop:=w.ownsRow B 3 1 (.slice (some ⟨g,0,none⟩) n c) n (cN n f)
theorem az.cell{w:World}{B g c n:Nat}{f:Nat->Nat}(h:az w B g c n f)(i:Nat)(hi:i<n):w.cell? ⟨g,i,none⟩=some (.int .i64 (f i:Nat)):=by rw[Oy h i (by omega),lC n f i hi];rfl
theorem az.frozen{w:World}{B g c n:Nat}{f:Nat->Nat}(h:az w B g c n f)(i:Nat):w.frozen? ⟨g,i,none⟩=false:=QD h i
theorem az.set{w:World}{B g c n:Nat}{f:Nat->Nat}(h:az w B g c n f)(i v:Nat):az (w.setCell ⟨g,i,none⟩ (.int .i64 v)) B g c n fun j=>if j=i then v else f j:=by have:=(Qo h i (iv v)).1;rw[Km]at this;exact this
theorem az.other{w:World}{B g c n:Nat}{f:Nat->Nat}(h:az w B g c n f){g2:Nat}(h0:g2≠g)(i:Nat)(v:Value):az (w.setCell ⟨g2,i,none⟩ v) B g c n f:=by refine OU (row:=some g2) h ⟨rfl,rfl,rfl,by simp,fun k _ hk=>heap_setCell_other w ⟨g2,i,none⟩ k v (fun e=>hk (by simp[e]))⟩ (.inr ?_);intro e;exact h0 (by simpa [Value.ownBlock]using e.symm)
theorem az.grown{w w':World}{B g c n:Nat}{f:Nat->Nat}(h:az w B g c n f){row:Option Nat}(hg:w.grownBy w' row)(h0:some g≠row):az w' B g c n f:=
 OU h hg (.inr h0)
theorem az.lt{w:World}{B g c n:Nat}{f:Nat->Nat}(h:az w B g c n f):B<=g/\g<w.heap.size:=NS h g rfl
theorem az.drew{w:World}{B g c n:Nat}{f:Nat->Nat}(h:az w B g c n f)(m:Nat):az (w.drewN m) B g c n f:=h
theorem az.alloc{w:World}{B g c n:Nat}{f:Nat->Nat}(h:az w B g c n f)(o:Obj):az (w.alloc o) B g c n f:=RI h o
theorem az.ints{w:World}{B g c n:Nat}{f:Nat->Nat}(h:az w B g c n f):aB w (some ⟨g,0,none⟩) n ((List.range n).map f):=by refine aE (B:=B) (cap:=c) ?_;rw[Ou];exact h
theorem az.below{w w':World}{B C g c n:Nat}{f:Nat->Nat}(h:az w B g c n f)(hb:Below C w w')(hg:g<C):az w' B g c n f:=by
 rcases h.2 with⟨h',_⟩|⟨g',cap',cur,h',hB,h0,rest⟩;·simp at h'
 ·simp only[Ol,Oj,PR,and_true,true_and]at h';obtain⟨rfl,rfl⟩:=h';exact⟨h.1,.inr ⟨g,c,cur,rfl,hB,(hb.block g hg).trans h0,rest⟩⟩
theorem dE(n:Nat)(f:Nat->Nat)(j:Nat)(h:j<n):((List.range n).map f).getD j 0=f j:=by rw[Na,Np,NJ h];rfl
theorem bf(w:World)(B n:Nat)(hB:B<=w.heap.size)(hn:n<=1000000):az (w.alloc (.cells (madeCells #[.int .i64 0] n) 3)) B w.heap.size n n fun _=>0:=by refine⟨by rw[eI,Oc],.inr ⟨w.heap.size,n,_,rfl,hB,PC w _,Nk _,by unfold maxLen;omega,by rw[Ro,Oc],?_⟩⟩;rw[PX,Oc,Nr (by simp)];unfold cN;rw[PI,NE];rfl
theorem bu(w:World)(n:Nat)(hn:n<=1000000):(Instr.makeSlice 37 (.int .i64 n) (.int .i64 n)).run prog w=.ok (.slice (some ⟨w.heap.size,0,none⟩) n n) (w.alloc (.cells (madeCells #[.int .i64 0] n) 3)):=by obtain⟨i3,h3,h0,h1,h2⟩:=N4 Tryz.info3;have h:=Qv (P:=prog) w 37 3 i3 (.int .i64 0) underlying37 h3 h0 .i64 .i64 (n:Int) (n:Int) (by omega) (by omega) (by rw[h2];omega) (by omega);rw[h1,Nv,Oc]at h;exact h
theorem sX(w:World)(B g c n:Nat)(f:Nat->Nat)(h:az w B g c n f)(x:Nat)(hn:n<=1000000)(hB:B<=w.heap.size):
 ∃g2 c2 w2,(Builtin.append_ #[37,37] 37 #[.slice (some ⟨g,0,none⟩) n c,.slice (some ⟨w.heap.size,0,none⟩) 1 1]).run prog (w.alloc (.cells #[.int .i64 x] 3))=.ok (.slice (some ⟨g2,0,none⟩) (n+1) c2) w2/\
  az w2 B g2 c2 (n+1) (fun j=>if j=n then x else f j)/\(w.alloc (.cells #[.int .i64 x] 3)).grownBy w2 (some g)/\(g2=g\/w.heap.size<g2):=by
 obtain⟨i3,h3,h1,h2,h4⟩:=N4 Tryz.info3
 obtain⟨v2,w2,hr,ho,hg,_,h0⟩:=P1 (P:=prog) (w.alloc (.cells #[.int .i64 x] 3)) B 37 37 3 i3 (.int .i64 0) 1 8 underlying37 h3 h1 h2 h4 rfl (by decide) _ _ _ (h.alloc _) ⟨w.heap.size,0,none⟩ 1 1 [iv x] rfl (bV w (iv x) 3)
  (fun u hu=>by rw[List.mem_singleton.1 hu];rfl) (by unfold maxLen;omega) (by omega) (by simp;omega)
 obtain⟨A,c2,rfl,hc,hm,hA⟩:=ai ho;obtain⟨g2,rfl⟩:=hA (by omega);rw[G2]at ho;refine⟨g2,c2,w2,hr,ho,hg,?_⟩;rcases h0 with e|e;·left;simpa [Value.ownBlock]using e
 ·right;have:g2=(w.alloc (.cells #[.int .i64 x] 3)).heap.size:=(by simpa [Value.ownBlock]using e);rw[this];simp
def yV(n:Nat)(f:Nat->Nat)(g:Nat):Prop:=(∀ i,i<n->f i<=g)/\∃i,i<n/\f i=g
theorem ya(w:World)(A:Option Addr)(n c:Nat)(L:List Nat)(hL:aB w A n L)(h1:1<=n)(hn:n<=1000000):Calls prog 194 #[.slice A n c] w fun e w'=>∃g:Nat,e=.returned (.int .i64 g)/\yV n (fun i=>L.getD i 0) g/\w'=w:=by
 obtain⟨b,off,rfl,hc⟩:=hL.2 (by omega);obtain⟨f,hf⟩:∃f:Nat->Nat,f=fun i=>L.getD i 0:=⟨_,rfl⟩;have h0:∀i,i<n->w.cell? ⟨b,off+i,none⟩=some (.int .i64 (f i:Nat)):=by rw[hf];exact hc
 rw[<- hf];have HC:=aa h0;have c0:=h0 0 (by omega);rw[NY]at c0;obtain⟨y,hy⟩:∃y,y=f 0:=⟨_,rfl⟩;rw[<- hy]at c0;have HY:=aa hy;have h3:(0:Int)<(n:Int):=by omega
 have hP:Hid (∀ g:Nat,yV n f g->(fun e w'=>∃g:Nat,e=Ending.returned (.int .i64 g)/\yV n f g/\w'=w) (.returned (.int .i64 g)) w):=aa fun g h=>⟨g,rfl,h,rfl⟩;generalize (fun e w'=>∃g:Nat,e=Ending.returned (.int .i64 g)/\yV n f g/\w'=w)=PO at*;clear hL hc hf h0 hy;go_enter func194,ntmps194;go_wp2_with fail;go_loopw [3,4] (fun v i wx=>∃q g:Nat,q<=n/\i=.int .i64 q/\v=.int .i64 g/\Hid ((∀ i,i<q->f i<=g)/\∃i,i<n/\f i=g)/\wx=w) (fun _ i _=>n-(intOf i).toNat)
 case atStart=>exact⟨0,y,Ng _,rfl,rfl,⟨fun i hi=>by omega,0,by omega,HY.out.symm⟩,rfl⟩
 case round=>
  obtain⟨q,g,hq,rfl,rfl,hm,rfl⟩:=hrel;by_cases e:q<n
  ·have cq:=HC.out q e;obtain⟨x,hx⟩:∃x,x=f q:=⟨_,rfl⟩;rw[<- hx]at cq;have HX:=aa hx;clear hx;by_cases e2:g<x
   ·have HM:Hid ((∀ i,i<q+1->f i<=x)/\∃i,i<n/\f i=x):=aa ⟨fun i hi=>by
     by_cases ei:i=q
     ·rw[ei,<-HX.out]
      exact Nk _
     ·have:=hm.out.1 i (by omega)
      omega,q,e,HX.out.symm⟩
    have h2:(if(g:Int)<(x:Int)then(x:Int)else(g:Int))=(x:Int):=Nf;clear hm;go_wp2_with fail;go_roundw;case rel=>exact⟨q+1,x,by omega,by go_num,by go_num,HM,trivial⟩
    case measure=>simp[intOf];omega
   ·have HM:Hid ((∀ i,i<q+1->f i<=g)/\∃i,i<n/\f i=g):=aa ⟨fun i hi=>by
     by_cases ei:i=q
     ·rw[ei,<-HX.out]
      omega
     ·exact hm.out.1 i (by omega),hm.out.2⟩
    clear hm;go_wp2_with fail;go_roundw;case rel=>exact⟨q+1,g,by omega,by go_num,by go_num,HM,trivial⟩
    case measure=>simp[intOf];omega
  ·obtain rfl:q=n:=(by omega);have HM:Hid (yV q f g):=aa hm.out;clear hm;go_wp2_with fail;exact hP.out g HM.out
theorem Dh{k:Nat}{ws ov ws2 ov2:Nat->Nat}{a:Nat}(h:mp k ws ov a)(hw:∀j,j<k->ws2 j=ws j)(ho:∀j,j<k->ov2 j=ov j):mp k ws2 ov2 a:=by refine⟨h.1,by rw[ho a h.1];exact h.2.1,fun j hj h0 hne=> ?_⟩;rw[hw a h.1,hw j hj];exact h.2.2 j hj (by rw[<- ho j hj];exact h0) hne
theorem wP(w:World)(B gW cW gO cO k:Nat)(ws ov:Nat->Nat)(hW:az w B gW cW k ws)(hO:az w B gO cO k ov)(hk:k<=10000)(h0:∃j,j<k/\ov j=0):
 Calls prog 224 #[.slice (some ⟨gW,0,none⟩) k cW,.slice (some ⟨gO,0,none⟩) k cO] w fun e w'=>∃a:Nat,e=.returned (.int .i64 a)/\mp k ws ov a/\∃m,w'=w.drewN m:=by obtain⟨j0,h1,h2⟩:=h0;refine(Gm w _ _ k cW cO _ _ hW.ints hO.ints hk ⟨j0,h1,by rw[dE k ov j0 h1];exact h2⟩).mono ?_;rintro e w' ⟨a,rfl,hl,hd⟩;exact⟨a,rfl,Dh hl (fun j hj=>(dE k ws j hj).symm) (fun j hj=>(dE k ov j hj).symm),hd⟩
theorem Gc{n k:Nat}{w:List Nat}{ws ov:Nat->Nat}{act:List Tr}{len:Nat->Nat}(h:kr n w k ws ov act len):∀j,k<=j->ov j=0:=by
 intro j hj;by_cases e:ov j=0;·exact e
 ·have:=h.par j e;omega
theorem M4{ov:Nat->Nat}(hp:∀j,ov j≠0->j<ov j){i j d:Nat}(h:Up ov i j d):i+d<=j:=by
 induction h with
 | here=>exact Nk _
 | next h h0 ih=>have:=hp _ h0;omega
def Mj(w wx:World)(n:Nat)(W:List Nat)(s:Nat)(v3 v4:Value):Prop:=∃(k gW cW gO cO:Nat) (ws ov:Nat->Nat) (act:List Tr) (len:Nat->Nat),k+1=n+s/\v3=.slice (some ⟨gW,0,none⟩) k cW/\v4=.slice (some ⟨gO,0,none⟩) k cO/\gW≠gO/\
 az wx w.heap.size gW cW k ws/\az wx w.heap.size gO cO k ov/\kr n W k ws ov act len/\Below w.heap.size w wx
def qB(w:World)(n:Nat)(W:List Nat)(e:Ending)(w':World):Prop:=∃(g c:Nat) (len:Nat->Nat),lH W len/\e=.returned (.slice (some ⟨g,0,none⟩) n c)/\az w' w.heap.size g c n len/\Below w.heap.size w w'
theorem Gb(w:World)(A:Option Addr)(n c:Nat)(W:List Nat)(hL:aB w A n W)(h1:1<=n)(hn:n<=258)(H0:W.sum<=1099511627776):Calls prog 193 #[.slice A n c] w (qB w n W):=by
 have hz:=hL.1;have hf:(w.alloc (.cells #[] 3)).ownsRow w.heap.size 3 1 (.slice (some ⟨w.heap.size,0,none⟩) 0 0) 0 []:=OM w #[] 0 (ag _) (Ng _) rfl;have HQ:Below w.heap.size w (w.alloc (.cells #[] 3)):=(Nj _ w).alloc (ag _) _;obtain⟨v3,w3,p1,HA,qm⟩:=bB (w.alloc (.cells #[] 3)) w.heap.size _ 0 [] hf A n c W (cF hL HQ) (by omega) (by simp);have H5:Below w.heap.size w w3:=HQ.grown qm (by simp) (fun k hk=>(hf.lt k hk).1);obtain⟨A3,c3,rfl,qa,_,q0⟩:=ai HA;obtain⟨g3,rfl⟩:=q0 (by omega);rw[N8]at HA p1 qa;have HT:az w3 w.heap.size g3 c3 n fun j=>W.getD j 0:=by have:=HA;rw[Ok,rm,hz]at this;exact this
 have r1:=bu w3 n (by omega);have r2:=bf w3 w.heap.size n H5.size (by omega);have ql:=HT.alloc (.cells (madeCells #[.int .i64 0] n) 3);have q6:Below w.heap.size w (w3.alloc (.cells (madeCells #[.int .i64 0] n) 3)):=H5.alloc H5.size _;have hh:Mj w (w3.alloc (.cells (madeCells #[.int .i64 0] n) 3)) n W 1 (.slice (some ⟨g3,0,none⟩) n c3) (.slice (some ⟨w3.heap.size,0,none⟩) n n):=by have qx:=rP W (by omega);rw[hz]at qx;exact⟨n,g3,c3,w3.heap.size,n,_,_,_,_,rfl,rfl,rfl,by have:=HT.lt;omega,ql,r2,qx,q6⟩
 have HF:=aa p1;have HH:=aa hh;have hv:=aa H0;clear hL hz hf HQ p1 HA qm H5 HT r2 ql q6 hh H0 q0 qa;go_enter func193,ntmps193;go_wp2_with (at_builtin;refine Lib.wpList_append_run _ rfl (.tmp 12) (.tmp 13) 37 37 rfl (.slice (some ⟨w.heap.size,0,none⟩) 0 0) (.slice A n c) rfl rfl _ w3 HF.out ?_)
 go_loopw [3,4,5] (fun a b x wx=>∃s:Nat,1<=s/\s<=n/\x=.int .i64 s/\Mj w wx n W s a b) (fun _ _ x _=>n-(intOf x).toNat)
 case atStart=>exact⟨1,Nk _,h1,rfl,HH.out⟩
 case round=>
  obtain⟨s,ss,sx,rfl,k,gW,cW,gO,cO,ws,ov,act,len,r0,rfl,rfl,H8,H7,h4,hB,hb⟩:=hrel;have p6:=hb.size;by_cases e:s<n
  ·have ds:decide ((s:Int)<(n:Int))=true:=bE;have p3:=qX hB (by omega);obtain⟨p,q,hp,hq,s2,HZ,r4⟩:=p3;have pk:=aa (wP wr w.heap.size gW cW gO cO k ws ov H7 h4 (by omega) ⟨p,hp,HZ⟩);have pf:=aa H7;have hE:=aa h4;have HG:=aa hB;have HB:=aa hb;clear H7 h4 hB hb;go_wp2_with fail;refine pk.out.mono ?_;rintro e w1 ⟨a,rfl,HY,m1,rfl⟩;have HE:=aa HY;have ha:a<k:=HY.1;have hP:=pf.out.drew m1;have h8:=hE.out.drew m1;have p7:=aa (ax HB.out m1);have H6:=h8.cell a ha;have HU:=h8.frozen a;have s5:(0:Int)<=(a:Int):=(by omega);have s7:(a:Int)<(k:Int):=(by omega);have q1:=h8.set a k;have q3:=hP.other (g2:=gO) (fun h=>H8 h.symm) a (.int .i64 k);have qo:=h8.lt;have H3:=aa q1;have HI:=aa q3;have hC:=aa (p7.out.setCell (p:=⟨gO,a,none⟩) qo.1 (.int .i64 k));(obtain⟨ov1,he⟩:∃ov1:Nat->Nat,ov1=fun j=>if j=a then k else ov j:=⟨_,rfl⟩);have hs:∃j,j<k/\ov1 j=0:=by
    by_cases e1:p=a;·exact⟨q,hq,by rw[he];show(if q=a then k else ov q)=0;rw[Nd (fun h=>s2 (e1.trans h.symm))];exact r4⟩
    ·exact⟨p,hp,by rw[he];show(if p=a then k else ov p)=0;rw[Nd e1];exact HZ⟩
   rw[<- he]at H3;have h7:=aa he;have pr:=aa hs;clear hP h8 q1 q3 HY he hs HZ r4 pk pf hE HB;go_wp2_with fail;generalize (wr.drewN m1).setCell ⟨gO,a,none⟩ (.int .i64 k)=w2 at*;have pl:=aa (wP w2 w.heap.size gW cW gO cO k ws ov1 HI.out H3.out (by omega) pr.out);refine pl.out.mono ?_;rintro e w4 ⟨b,rfl,hV,m2,rfl⟩;have pm:=aa hV;have hb:b<k:=hV.1;have hQ:=HI.out.drew m2;have h9:=H3.out.drew m2;have hD:=aa (ax hC.out m2);have HS:=h9.cell b hb;have HV:=h9.frozen b;have s8:(0:Int)<=(b:Int):=(by omega);have s9:(b:Int)<(k:Int):=(by omega);have HK:=h9.set b k;have q4:=hQ.other (g2:=gO) (fun h=>H8 h.symm) b (.int .i64 k);(obtain⟨ov2,hm⟩:∃ov2:Nat->Nat,ov2=fun j=>if j=b then k else if j=a then k else ov j:=⟨_,rfl⟩);have hJ:az ((w2.drewN m2).setCell ⟨gO,b,none⟩ (.int .i64 k)) w.heap.size gO cO k ov2:=(by rw[h7.out]at HK;rw[hm];exact HK);have q9:b≠a:=(by intro h;have:=hV.2.1;rw[h7.out,h]at this;have h3:(if a=a then k else ov a)=0:=this;rw[Nf rfl]at h3;omega);have r3:ov b=0:=(by have:=hV.2.1;rw[h7.out]at this;have h3:(if b=a then k else ov b)=0:=this;rwa [Nd q9]at h3);have r8:=rQ HG.out ha hb (fun h=>q9 h.symm) HE.out.2.1 r3;obtain⟨x,hx⟩:∃x,x=ws a+ws b:=⟨_,rfl⟩;have t0:x<=1099511627776:=ND (by rw[hx];exact r8) hv.out;obtain⟨xa,r9⟩:∃xa,xa=ws a:=⟨_,rfl⟩;obtain⟨xb,H1⟩:∃xb,xb=ws b:=⟨_,rfl⟩;have t1:(xa:Int)+(xb:Int)=(x:Int):=(by omega);have qs:=ua HG.out HE.out h7.out pm.out hm
   have pj:Hid (∃ act2 len2,kr n W (k+1) (fun j=>if j=k then x else ws j) (fun j=>if j=k then 0 else ov2 j) act2 len2):=aa (by
    obtain⟨act2,len2,h⟩:=qs
    have e2:(fun j=>if j=k then 0 else ov2 j)=ov2:=by
     funext j
     by_cases ej:j=k
     ·rw[Nf ej,ej,hm]
      show 0=if k=b then k else if k=a then k else ov k
      rw[Nd,Nd,Gc HG.out k (ag _)]
     ·rw[Nd ej]
    rw[e2,hx]
    exact⟨act2,len2,h⟩)
   have hR:=h9.lt;have po:=aa hJ;have H4:=aa q4;have HC:=aa (hD.out.setCell (p:=⟨gO,b,none⟩) hR.1 (.int .i64 k));have so:k<=600:=(by omega);have rv:=aa r9;have rM:=aa H1;clear HK hJ q4 hV hm r3 r8 hx qs r9 H1 qo hR HE pm HG H3 HI hC h7 pr hv HH HF r1 p6 H6 HU p7 pl;go_upto_region 11 with fail;generalize (w2.drewN m2).setCell ⟨gO,b,none⟩ (.int .i64 k)=w5 at*;have ca:=H4.out.cell a ha;have cb:=H4.out.cell b hb;rw[<- rv.out]at ca;rw[<- rM.out]at cb;have p5:w.heap.size<=w5.drew.heap.size:=HC.out.size;have HN:az w5.drew w.heap.size gW cW k ws:=H4.out;have HL:az w5.drew w.heap.size gO cO k ov2:=po.out;have p8:=aa HC.out.drew;obtain⟨g6,c6,w6,r6,HO,HW,hK⟩:=sX w5.drew w.heap.size gW cW k ws HN x (by omega) p5;have HM:az w6 w.heap.size gO cO k ov2:=(HL.alloc _).grown HW (fun h=>H8 (by simpa using h.symm));have hA:g6≠gO:=by
    rcases hK with h|h;·rw[h];exact H8
    ·have:=HL.lt;omega
   have HR:Below w.heap.size w w6:=(p8.out.alloc p5 _).grown HW (ND p5 (by simp)) (fun k hk=>by
    have:k=gW:=by simpa using hk.symm
    rw[this]
    exact HN.lt.1)
   have rl:=HR.size;obtain⟨g7,c7,w7,r7,q2,HX,hM⟩:=sX w6 w.heap.size gO cO k ov2 HM 0 (by omega) rl;have q5:az w7 w.heap.size g6 c6 (k+1) (fun j=>if j=k then x else ws j):=(HO.alloc _).grown HX (fun h=>hA (by simpa using h));have hY:g6≠g7:=by
    rcases hM with h|h;·rw[h];exact hA
    ·have:=HO.lt;omega
   have q7:Below w.heap.size w w7:=(HR.alloc rl _).grown HX (by simp;omega) (fun k hk=>by
    have:k=gO:=by simpa using hk.symm
    rw[this]
    exact HM.lt.1)
   have R7:=aa r7
   have hI:Hid (Mj w w7 n W (s+1) (.slice (some ⟨g6,0,none⟩) (k+1) c6) (.slice (some ⟨g7,0,none⟩) (k+1) c7)):=aa (by
    obtain⟨act2,len2,hg⟩:=pj.out
    exact⟨k+1,g6,c6,g7,c7,_,_,act2,len2,by omega,rfl,rfl,hY,q5,q2,hg,q7⟩)
   have s6:(Builtin.append_ #[37,37] 37 #[.slice (some ⟨gW,0,none⟩) k cW,.slice (some ⟨w5.heap.size,0,none⟩) 1 1]).run prog (w5.alloc (.cells #[.int .i64 x] 3)).drew=.ok (.slice (some ⟨g6,0,none⟩) (k+1) c6) w6:=r6;have sT:IntKind.i64.wrap (x:Int)=(x:Int):=(by rw[Of];omega);have p2:s+1<=n:=(by omega);clear HN HL r6 HO HW hK HM hA HR r7 q2 HX hM q5 hY q7 pj H4 po HC p8 hD hQ h9 HS HV r0;(go_region_law (refine dG (v':=.slice (some ⟨g6,0,none⟩) (k+1) c6) (w':=w6) rfl (.tmp 40) (.tmp 50) 37 rfl (.slice (some ⟨gW,0,none⟩) k cW) (.slice (some ⟨w5.heap.size,0,none⟩) 1 1) rfl rfl ?hr ?_;case hr=>(dsimp only;with_reducible exact s6)));go_wp2_with (at_builtin;refine Lib.wpList_append_run _ rfl (.tmp 52) (.tmp 53) 37 37 rfl (.slice (some ⟨gO,0,none⟩) k cO) (.slice (some ⟨w6.heap.size,0,none⟩) 1 1) rfl rfl _ w7 R7.out ?_)
   all_goals (
    go_roundw
    case rel=>exact⟨s+1,by omega,p2,by go_num,hI.out⟩
    case measure=>simp[intOf];omega)
  ·obtain rfl:s=n:=(by omega);have ds:decide ((s:Int)<(s:Int))=false:=aR;clear hv HH HF r1;have hN:=wK hB (by omega);have hZ:=hB.par;have p6:=hb.size;have hW:=bu wr s (by omega);have hX:=bf wr w.heap.size s hb.size (by omega);have hO:=h4.alloc (.cells (madeCells #[.int .i64 0] s) 3);have q8:Below w.heap.size w (wr.alloc (.cells (madeCells #[.int .i64 0] s) 3)):=hb.alloc hb.size _;have hT:gO≠wr.heap.size:=(by have:=h4.lt;omega);have ht:=aa hN;have hl:=aa hZ;have HJ:=aa hX;have pn:=aa hO;have p9:=aa q8;obtain⟨gX,hS⟩:∃gX,gX=wr.heap.size:=⟨_,rfl⟩;rw[<- hS]at HJ hW hT;clear hN hZ hX hO q8 H7 h4 hB hb p6 hS;go_wp2_with fail;clear hW;(have pb:Hid (∀ i c j,i<s->Up ov i j c->ov j=0->c=len i):=aa fun i c j hi hu h0=>by obtain⟨r,hr,s3⟩:=ht.out.2 i hi;exact hu.ends h0 hr s3);have pv:Hid (∀ i j c,Up ov i j c->i+c<=j):=aa fun i j c hu=>M4 (fun j h0=>(hl.out j h0).1) hu;have HP:Hid (∀ w',az w' w.heap.size gX s s len->Below w.heap.size w w'->qB w s W (.returned (.slice (some ⟨gX,0,none⟩) s s)) w'):=aa fun w' h2 h3=>⟨gX,s,len,ht.out.1,rfl,h2,h3⟩;have s1:k<=600:=(by omega);have sv:s<=k:=(by omega);generalize qB w s W=PO at*;clear ht r0;(go_loopw [10,11] (fun x z wx=>∃i:Nat,i<=s/\x=.int .i64 i/\az wx w.heap.size gX s s (fun j=>if j<i then len j else 0)/\az wx w.heap.size gO cO k ov/\Below w.heap.size w wx) (fun x _ _=>s-(intOf x).toNat));case atStart=>refine⟨0,Ng _,rfl,?_,pn.out,p9.out⟩;have e0:(fun j=>if j<0 then len j else 0)=fun _=>0:=(by funext j;rw[Nd]);rw[e0];exact HJ.out
   case round=>
    clear HJ pn p9;rename World=>w2;obtain⟨i,hi,rfl,h6,h4,hb⟩:=hrel;have pg:=aa h6;have hE:=aa h4;have HB:=aa hb;by_cases e:i<s
    ·have ci:=h4.cell i (by omega);have sm:(i:Int)<(k:Int):=(by omega);have sl:(0:Int)<=(i:Int):=(by omega);obtain⟨y0,p4⟩:∃y0,y0=ov i:=⟨_,rfl⟩;rw[<- p4]at ci;have rO:=aa p4;clear h6 h4 hb p4;go_wp2_with fail;(go_loopw [11] (fun z wx=>∃c j y:Nat,j<k/\Hid (Up ov i j c)/\Hid (y=ov j)/\z=.int .i64 y/\az wx w.heap.size gX s s (fun j=>if j=i then c else if j<i then len j else 0)/\az wx w.heap.size gO cO k ov/\Below w.heap.size w wx) (fun z _=>if intOf z=0 then 0 else k+1-(intOf z).toNat));case atStart=>
      refine⟨0,i,y0,by omega,.here i,rO.out,rfl,?_,hE.out,HB.out⟩;have e0:(fun j=>if j=i then 0 else if j<i then len j else 0)=fun j=>if j<i then len j else 0:=by
       funext j;by_cases ej:j=i;·rw[Nf ej,Nd]
       ·rw[Nd ej]
      rw[e0];exact pg.out
     case round=>
      rename World=>w6;obtain⟨c,j,y,sn,hu,hy,rfl,h6,h4,hb⟩:=hrel;have hG:=aa h6;have HD:=aa h4;have hC:=aa hb;by_cases e3:y=0
      ·subst e3;have hc:=pb.out i c j e hu.out hy.out.symm;have ho:(fun j=>if j=i then c else if j<i then len j else 0)=fun j=>if j<i+1 then len j else 0:=by
        funext j';by_cases ej:j'=i;·rw[Nf ej,Nf,ej,hc]
        ·rw[Nd ej];by_cases ej2:j'<i;·rw[Nf ej2,Nf]
         ·rw[Nd ej2,Nd]
       rw[ho]at hG;clear h6 h4 hb hu hy hc ho;go_wp2_with fail;go_roundw;case rel=>exact⟨i+1,by omega,by go_num,hG.out,HD.out,hC.out⟩
       case measure=>simp[intOf];omega
      ·have dy:((y:Int)==0)=false:=(by rw[NC];omega);have p0:=hl.out j (by rw[<- hy.out];exact e3);rw[<- hy.out]at p0;have rb:y<k:=p0.2;have s0:=pv.out i j c hu.out;have cx:=h6.cell i e;have fx:=h6.frozen i;rw[Nf rfl]at cx;have hS:=h6.lt;have r5:Up ov i y (c+1):=hu.out.of_eq hy.out.symm e3;have ps:=aa r5;have h5:=h6.set i (c+1);have ho:(fun j'=>if j'=i then c+1 else if j'=i then c else if j'<i then len j' else 0)=fun j'=>if j'=i then c+1 else if j'<i then len j' else 0:=by
        funext j';by_cases ej:j'=i;·rw[Nf ej,Nf ej]
        ·rw[Nd ej,Nd ej,Nd ej]
       rw[ho]at h5;have hw:=h4.other (g2:=gX) (fun h=>hT h.symm) i (.int .i64 ((c+1:Nat):Int));have cy:=hw.cell y rb;obtain⟨y2,H2⟩:∃y2,y2=ov y:=⟨_,rfl⟩;rw[<- H2]at cy;have rR:=aa H2;have s4:y2=0\/(y<y2/\y2<k):=by
        by_cases e4:y2=0;·exact .inl e4
        ·right;have:=hl.out y (by rw[<- H2];exact e4);rw[<- H2]at this;exact this
       have st:(i:Int)<(s:Int):=(by omega);have t2:(0:Int)<=(y:Int):=(by omega);have t3:(y:Int)<(k:Int):=(by omega);have qb:c<=600:=(by omega);have hH:=aa h5;have hF:=aa hw;have hD:=aa (hC.out.setCell (p:=⟨gX,i,none⟩) hS.1 (.int .i64 ((c+1:Nat):Int)));clear h6 h4 hb hu hy p0 h5 hw ho r5 H2 hS s0;obtain⟨c1,H6⟩:∃c1,c1=c+1:=⟨_,rfl⟩;rw[<- H6]at hH hF hD ps cy;have sa:(c:Int)+1=(c1:Int):=(by omega);clear H6;go_wp2_with fail;go_roundw;case rel=>exact⟨c1,y,y2,rb,ps,rR,rfl,hH.out,hF.out,hD.out⟩
       case measure=>show(if((y2:Nat):Int)=0 then 0 else k+1-((y2:Nat):Int).toNat)<(if((y:Nat):Int)=0 then 0 else k+1-((y:Nat):Int).toNat);rw[Nv,Nv];split <;>split <;>omega
    ·obtain rfl:i=s:=(by omega);have ho:cN i (fun j=>if j<i then len j else 0)=cN i len:=cw i _ _ fun j hj=>Nf hj;have h5:az w2 w.heap.size gX i i len:=(by have h3:w2.ownsRow w.heap.size 3 1 (.slice (some ⟨gX,0,none⟩) i i) i (cN i fun j=>if j<i then len j else 0):=h6;rw[ho]at h3;exact h3);have rs:=aa (HP.out w2 h5 hb);clear h6 h4 hb ho h5 pg hE HB HP pb pv hl;go_wp2_with fail;exact rs.out
theorem dN{w:World}{A:Option Addr}{m:Nat}{L:List Int}(h:ZIn w A m L)(hv:∀x∈L,0<=x):aB w A m (L.map Int.toNat):=by refine⟨by rw[Nu];exact h.1,fun hm=> ?_⟩;obtain⟨b,off,rfl,hc⟩:=h.2 hm;refine⟨b,off,rfl,fun i hi=> ?_⟩;have h1:i<L.length:=(by rw[h.1];exact hi);rw[hc i hi,Na,Na,Np,Nc (by rw[h.1];exact hi)];have h0:=hv (L[i]'h1) (NM _);show some (Value.int .i64 (L[i]'h1))=some (.int .i64 (((L[i]'h1).toNat:Nat):Int));rw[PH h0]
def rg(L:List Int)(j:Nat):Nat:=max (L.getD j 0).toNat 1
def gK(L:List Int):List Nat:=(List.range L.length).map (rg L)
def la(w:World)(L:List Int)(most:Int)(e:Ending)(w':World):Prop:=
 ((¬ gU L\/most<12\/20<most)/\∃v,e=.returned (.tuple #[v,.int .i64 2])/\w'.ownsRow w.heap.size 3 1 v 0 []/\Below w.heap.size w w')\/
 (gU L/\12<=most/\most<=20/\∃v len,iG (gK L) most.toNat len/\e=.returned (.tuple #[v,.int .i64 0])/\w'.ownsRow w.heap.size 3 1 v L.length (cN L.length len)/\Below w.heap.size w w')
theorem az.lower{w:World}{B B' g c n:Nat}{f:Nat->Nat}(h:az w B g c n f)(hB:B'<=B):az w B' g c n f:=World.ownsRow.mono h hB
theorem rr(n:Nat)(f:Nat->Nat)(hn:n<=258)(h:∀j,j<n->f j<=1073741824):((List.range n).map f).sum<=1099511627776:=by
 have h1:=vg 1073741824 ((List.range n).map f) (fun x hx=>by
  obtain⟨j,hj,rfl⟩:=List.mem_map.1 hx
  exact h j (List.mem_range.1 hj))
 rw[Nu,NE]at h1;omega
def Mn(w wx:World)(W0:List Nat)(n most gA cA t:Nat)(v:Value):Prop:=∃(gX cX:Nat) (len f:Nat->Nat),t<=40/\v=.slice (some ⟨gX,0,none⟩) n cX/\az wx w.heap.size gA cA n f/\az wx w.heap.size gX cX n len/\
 dL W0 t=(List.range n).map f/\lH (dL W0 t) len/\(∀ j,j<n->f j<=1073741824)/\(∀ q,q<t->∃L1,lH (dL W0 q) L1/\∃i,i<n/\most<L1 i)/\Below w.heap.size w wx
theorem uc(n:Nat)(f:Nat->Nat):half ((List.range n).map f)=(List.range n).map fun j=>f j/2+1:=by unfold half;rw[Ou];rfl
theorem AO(w:World)(A:Option Addr)(n c:Nat)(L:List Int)(most:Nat)(hL:ZIn w A n L)(hM:gU L)(p0:12<=most)(p1:most<=20):Calls prog 160 #[.slice A n c,.int .i64 most] w (la w L most):=by
 have hT:=hL.1;have p2:2<=n:=by have:=hM.1;omega
 have hn:n<=258:=by have:=hM.2.1;omega
 have HM:=aa (pY w A n c L hL (by unfold maxLen;omega));rw[show decide (gU L)=true from Nn hM]at HM;have HR:=dN hL fun x hx=>(hM.2.2 x hx).1;have hc:(w.alloc (.cells #[] 3)).ownsRow w.heap.size 3 1 (.slice (some ⟨w.heap.size,0,none⟩) 0 0) 0 []:=OM w #[] 0 (ag _) (Ng _) rfl;have hZ:Below w.heap.size w (w.alloc (.cells #[] 3)):=(Nj _ w).alloc (ag _) _;obtain⟨v3,w3,H4,hV,HO⟩:=bB (w.alloc (.cells #[] 3)) w.heap.size _ 0 [] hc A n c _ (cF HR hZ) (by omega) (by simp);have HI:Below w.heap.size w w3:=hZ.grown HO (by simp) (fun k hk=>(hc.lt k hk).1);obtain⟨A3,cA,rfl,HJ,_,HE⟩:=ai hV;obtain⟨gA,rfl⟩:=HE (by omega);rw[N8]at hV H4 HJ;obtain⟨f0,hS⟩:∃f0:Nat->Nat,f0=fun j=>(L.getD j 0).toNat:=⟨_,rfl⟩;have HK:az w3 w.heap.size gA cA n f0:=by have:=hV;rw[Ok,rm,Nu,hT]at this;(have e:cN n (fun j=>(L.map Int.toNat).getD j 0)=cN n f0:=cw n _ _ fun j hj=>by rw[hS];show(L.map Int.toNat).getD j 0=(L.getD j 0).toNat;rw[Na,Na,Np,Nc (by omega)];rfl);rw[e]at this;exact this
 have hB:∀j,j<n->f0 j<=1073741824:=by intro j hj;rw[hS];have:=(hM.2.2 _ (dK L j (by omega))).2;show(L.getD j 0).toNat<=_;omega
 have HH:gK L=(List.range n).map fun j=>max (f0 j) 1:=by unfold gK;rw[hT,hS];rfl
 have hP:Hid (∀ (v:Value) (len:Nat->Nat) w',iG (gK L) most len->w'.ownsRow w.heap.size 3 1 v n (cN n len)->Below w.heap.size w w'->la w L most (.returned (.tuple #[v,.int .i64 0])) w'):=aa fun v len w' h1 h2 h3=>.inr ⟨hM,by omega,by omega,v,len,by rw[Nv];exact h1,rfl,by rw[hT];exact h2,h3⟩;have m1:decide ((most:Int)<12)=false:=aR;have m2:decide ((20:Int)<(most:Int))=false:=aR;have HD:=aa H4;have H7:=aa HK;have H6:=aa HI;have hE:=aa hB;have hR:=aa HH;have HA:=aa Gb;have HV:=aa ya;generalize la w L most=PO at*;clear hL hT hM HR hc hZ H4 hV HO HI HE HJ hS HK hB HH;go_enter func160,ntmps160;go_wp2_with fail;refine HM.out.mono ?_;rintro e w' ⟨rfl,rfl⟩;clear HM;go_wp2_with (at_builtin;refine Lib.wpList_append_run _ rfl (.tmp 22) (.tmp 23) 37 37 rfl (.slice (some ⟨w'.heap.size,0,none⟩) 0 0) (.slice A n c) rfl rfl _ w3 HD.out ?_)
 go_loopw [7] (fun x wx=>∃i:Nat,i<=n/\x=.int .i64 i/\az wx w'.heap.size gA cA n (fun j=>if j<i then max (f0 j) 1 else f0 j)/\Below w'.heap.size w' wx) (fun x _=>n-(intOf x).toNat)
 case atStart=>refine⟨0,Ng _,rfl,?_,H6.out⟩;have e0:(fun j=>if j<0 then max (f0 j) 1 else f0 j)=f0:=(by funext j;rw[Nd]);rw[e0];exact H7.out
 case round=>
  obtain⟨i,hi,rfl,hf,hb⟩:=hrel;by_cases e:i<n
  ·have di:decide ((i:Int)<(n:Int))=true:=bE;have p3:(0:Int)<=(i:Int):=(by omega);have ci:=hf.cell i e;have fi:=hf.frozen i;rw[Nd]at ci;have hg:=hf.lt;obtain⟨x,hx⟩:∃x,x=f0 i:=⟨_,rfl⟩;rw[<- hx]at ci;have hO:∀m:Nat,m=max x 1->(fun j=>if j=i then m else if j<i then max (f0 j) 1 else f0 j)=fun j=>if j<i+1 then max (f0 j) 1 else f0 j:=by
    intro m hm;funext j;by_cases ej:j=i;·rw[Nf ej,Nf,ej,hm,hx]
    ·rw[Nd ej];by_cases ej2:j<i;·rw[Nf ej2,Nf]
     ·rw[Nd ej2,Nd]
   have H8:=aa hO;have HF:=aa hf;have HB:=aa hb;have HP:w'.heap.size<=gA:=hg.1;have HX:x<=1073741824:=(by rw[hx];exact hE.out i e);clear hf hb hO hx hg;by_cases h0:x=0
   ·subst h0;have hs:=HF.out.set i 1;rw[H8.out 1 rfl]at hs;have HS:=aa hs;have hC:=aa (HB.out.setCell (p:=⟨gA,i,none⟩) HP (.int .i64 ((1:Nat):Int)));clear hs;go_wp2_with fail;go_roundw;case rel=>exact⟨i+1,by omega,by go_num,HS.out,hC.out⟩
    case measure=>simp[intOf];omega
   ·have hs:=HF.out.set i x;rw[H8.out x (by omega)]at hs;have HS:=aa hs;have hC:=aa (HB.out.setCell (p:=⟨gA,i,none⟩) HP (.int .i64 (x:Int)));have p5:¬((x:Int)<1):=(by omega);clear hs;go_wp2_with fail;go_roundw;case rel=>exact⟨i+1,by omega,by go_num,HS.out,hC.out⟩
    case measure=>simp[intOf];omega
  ·obtain rfl:i=n:=(by omega);have di:decide ((i:Int)<(i:Int))=false:=aR;have ho:az wr w'.heap.size gA cA i (fun j=>max (f0 j) 1):=(by have h3:wr.ownsRow w'.heap.size 3 1 (.slice (some ⟨gA,0,none⟩) i cA) i (cN i fun j=>if j<i then max (f0 j) 1 else f0 j):=hf;rw[cw i _ (fun j=>max (f0 j) 1) fun j hj=>Nf hj]at h3;exact h3);(have h6:∀j,j<i->(fun j=>max (f0 j) 1) j<=1073741824:=fun j hj=>by have:=hE.out j hj;show max (f0 j) 1<=_;omega);have hv:=HA.out wr (some ⟨gA,0,none⟩) i cA _ ho.ints (by omega) (by omega) (rr i _ (by omega) h6);rw[<- hR.out]at hv;have hH:=aa hv;have hD:=aa ho;have hA:=aa hb;have H3:=ho.lt;clear hf hb ho hv h6;go_wp2_with fail;refine hH.out.mono ?_;rintro e w5 ⟨gX,cX,len,h5,rfl,HL,H0⟩;have H5:=hA.out.size
   have he:Mn w' w5 (gK L) i most gA cA 0 (.slice (some ⟨gX,0,none⟩) i cX):=
    ⟨gX,cX,len,_,by omega,rfl,hD.out.below H0 H3.2,HL.lower H5,hR.out,h5,(fun j hj=>by
      have:=hE.out j hj
      show max (f0 j) 1<=_
      omega),(fun q hq=>by omega),hA.out.trans (H0.mono H5)⟩
   have hl:=aa he
   have hJ:Hid ((gK L).length=i/\∀x∈gK L,x<=2^30):=aa (by
    rw[hR.out]
    refine⟨by simp,fun x hx=> ?_⟩
    obtain⟨j,hj,rfl⟩:=List.mem_map.1 hx
    have:=hE.out j (List.mem_range.1 hj)
    show max (f0 j) 1<=2^30
    omega)
   clear h5 HL H0 he H5 hR hE hD hA H7 H6 HD hH;generalize gK L=W0 at*;go_wp2_with fail;(go_loopw [8,9,10] (fun v x z wx=>∃t:Nat,x=.int .i64 t/\Mn w' wx W0 i most gA cA t v) (fun _ x _ _=>41-(intOf x).toNat));case atStart=>exact⟨0,rfl,hl.out⟩
   case round=>
    clear hl;rename World=>w6;obtain⟨t,rfl,gY,cY,len,f,ht,rfl,H2,hN,hw,h5,hB,hq,hb⟩:=hrel;have hQ:=aa H2;have hW:=aa hN;have hX:=aa hw;have h7:=aa h5;have hG:=aa hB;have HQ:=aa hq;have HB:=aa hb;have HZ:=hb.size;(have h8:(∀ j,j<i->len j<=most)->PO (.returned (.tuple #[.slice (some ⟨gY,0,none⟩) i cY,.int .i64 0])) w6:=fun hall=>by have hm:iG (dL W0 t) most len:=.done h5 (by rw[eV,hJ.out.1];exact hall);have HW:=oL (w:=W0) t (fun q hq2=>by rw[hJ.out.1];exact hq q hq2) hm;exact hP.out _ len w6 HW hN hb);have h4:=aa h8;by_cases e:t<40
    ·have dt:decide ((t:Int)<40)=true:=bE;have HG:=aa (HV.out w6 (some ⟨gY,0,none⟩) i cY _ hN.ints (by omega) (by omega));clear H2 hN hw h5 hB hq hb h8;go_wp2_with fail;refine HG.out.mono ?_;rintro e w7 ⟨g,rfl,hz,rfl⟩
     have hh:Hid ((∀ j,j<i->len j<=g)/\∃j,j<i/\len j=g):=aa (by
      refine⟨fun j hj=> ?_,?_⟩
      ·have h3:((List.range i).map len).getD j 0<=g:=hz.1 j hj
       rw[dE i len j hj]at h3
       exact h3
      ·obtain⟨j,hj,h⟩:=hz.2
       have h3:((List.range i).map len).getD j 0=g:=h
       rw[dE i len j hj]at h3
       exact⟨j,hj,h3⟩)
     clear hz HG;by_cases e2:most<g
     ·have HC:Hid (∀ q,q<t+1->∃L1,lH (dL W0 q) L1/\∃j,j<i/\most<L1 j):=aa (by
       intro q hq
       by_cases eq:q=t
       ·subst eq
        obtain⟨j,hj,h⟩:=hh.out.2
        exact⟨len,h7.out,j,hj,by rw[h];exact e2⟩
       ·exact HQ.out q (by omega))
      clear h4 hh HQ h7 hW;go_wp2_with fail;(go_loopw [10] (fun z wx=>∃j:Nat,j<=i/\z=.int .i64 j/\az wx w'.heap.size gA cA i (fun a=>if a<j then f a/2+1 else f a)/\Below w'.heap.size w' wx) (fun z _=>i-(intOf z).toNat));case atStart=>refine⟨0,Ng _,rfl,?_,HB.out⟩;have e0:(fun a=>if a<0 then f a/2+1 else f a)=f:=(by funext a;rw[Nd]);rw[e0];exact hQ.out
      case round=>
       clear hQ HB HZ;rename World=>w8;obtain⟨j,hj,rfl,hu,hK⟩:=hrel;by_cases e3:j<i
       ·have p4:(0:Int)<=(j:Int):=(by omega);have cj:=hu.cell j e3;have fj:=hu.frozen j;rw[Nd]at cj;have hg:=hu.lt;obtain⟨x,hx⟩:∃x,x=f j:=⟨_,rfl⟩;rw[<- hx]at cj;obtain⟨y,hy⟩:∃y,y=x/2:=⟨_,rfl⟩;obtain⟨y1,HT⟩:∃y1,y1=y+1:=⟨_,rfl⟩;have p7:(x:Int)/2=(y:Int):=(by omega);have HX:x<=1073741824:=(by rw[hx];exact hG.out j e3);have p6:y<=1073741824:=(by omega);have HY:(y:Int)+1=(y1:Int):=(by omega);have hs:=hu.set j y1;have hO:(fun a=>if a=j then y1 else if a<j then f a/2+1 else f a)=fun a=>if a<j+1 then f a/2+1 else f a:=by
         funext a;by_cases ea:a=j;·rw[Nf ea,Nf,ea,HT,hy,hx]
         ·rw[Nd ea];by_cases ea2:a<j;·rw[Nf ea2,Nf]
          ·rw[Nd ea2,Nd]
        rw[hO]at hs;have HS:=aa hs;have hC:=aa (hK.setCell (p:=⟨gA,j,none⟩) hg.1 (.int .i64 (y1:Nat)));clear hu hK hs hO hx hy HT hg;go_wp2_with fail;go_roundw;case rel=>exact⟨j+1,by omega,by go_num,HS.out,hC.out⟩
        case measure=>simp[intOf];omega
       ·obtain rfl:j=i:=(by omega);have ho:az w8 w'.heap.size gA cA j (fun a=>f a/2+1):=(by have h3:w8.ownsRow w'.heap.size 3 1 (.slice (some ⟨gA,0,none⟩) j cA) j (cN j fun a=>if a<j then f a/2+1 else f a):=hu;rw[cw j _ (fun a=>f a/2+1) fun a ha=>Nf ha]at h3;exact h3);(have h6:∀a,a<j->(fun a=>f a/2+1) a<=1073741824:=fun a ha=>by have:=hG.out a ha;show f a/2+1<=_;omega);have h9:dL W0 (t+1)=(List.range j).map fun a=>f a/2+1:=(by rw[dL,hX.out,uc]);have hv:=HA.out w8 (some ⟨gA,0,none⟩) j cA _ ho.ints (by omega) (by omega) (rr j _ (by omega) h6);rw[<- h9]at hv;have hI:=aa hv;have hD:=aa ho;have hA:=aa hK;have hF:=aa h6;have hp:=aa h9;have H3:=ho.lt;have HU:=hK.size;clear hu hK ho hv h6 h9;go_wp2_with fail;refine hI.out.mono ?_;rintro e w9 ⟨gZ,cZ,len2,hr,rfl,HN,H1⟩
        have he:Mn w' w9 W0 j most gA cA (t+1) (.slice (some ⟨gZ,0,none⟩) j cZ):=
         ⟨gZ,cZ,len2,_,by omega,rfl,hD.out.below H1 H3.2,HN.lower HU,hp.out,hr,hF.out,HC.out,hA.out.trans (H1.mono HU)⟩
        have hl:=aa he;clear hr HN H1 he hI hD hA hF hp HC;go_wp2_with fail;go_roundw;case rel=>exact⟨t+1,by go_num,hl.out⟩
        case measure=>simp[intOf];omega
     ·have hY:=aa (h4.out fun j hj=>by
       have:=hh.out.1 j hj
       omega)
      clear h4 hh HQ h7 hW hQ HB;go_wp2_with fail;exact hY.out
    ·have dt:decide ((t:Int)<40)=false:=aR
     have hY:=aa (h4.out fun j hj=>by
      have:=rT (w:=W0) hJ.out.2 (by rw[hJ.out.1];exact hn) t (by omega) h7.out j (by rw[hJ.out.1];exact hj)
      omega)
     clear h4 HQ h7 hW hQ HB H2 hN hw h5 hB hq hb h8;go_wp2_with fail;exact hY.out
