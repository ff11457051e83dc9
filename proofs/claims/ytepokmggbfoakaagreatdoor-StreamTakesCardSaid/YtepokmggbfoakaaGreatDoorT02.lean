import Derived.Test.YtepokmggbfoakaaGreatDoorT01
import Derived.Laws.OwnMore
import Derived.Laws.MakeOwn
import Derived.Deep.Onto
import Derived.Lib.AppendZeros
import Derived.Deep.RegionLaw
import Derived.Deep.CutRange
set_option maxHeartbeats 3200000
set_option maxRecDepth 100000
namespace Go.Proofs.YtepokmggbfoakaaGreatDoor
open _root_.Go.Proofs.Tryz
open Go.RowKit
def jk(L:List Int):Prop:=2<=L.length/\L.length<=258/\∀x∈L,0<=x/\x<=1073741824
instance (L:List Int):Decidable (jk L):=inferInstanceAs (Decidable (_/\_))
theorem dY(L:List Int)(q:Nat)(h:q<L.length):L.take (q+1)=L.take q++ [L.getD q 0]:=by rw[NI h,Nb,Nd h];rfl
theorem eF(L:List Int)(q:Nat)(h:q<L.length):L.getD q 0∈L:=by rw[Nb,Nd h];exact NL h
theorem yb(w:World)(A:Option Addr)(n c:Nat)(L:List Int)(hL:ZIn w A n L)(hn:n<=maxLen):Calls prog 212 #[.slice A n c] w fun e w'=>e=.returned (.bool (decide (jk L)))/\w'=w:=by
 unfold maxLen at hn;have h8:=hL.1;have HL:=aa hL;have h5:=aa h8;have h6:Hid (∀ x∈L,(x<0\/1073741824<x)->decide (jk L)=false):=aa fun x hx h=>Nk fun hm=>by have:=hm.2.2 x hx;omega
 have h4:Hid ((∀ x∈L,0<=x/\x<=1073741824)->decide (jk L)=(decide (2<=n)&&decide (n<=258))):=aa fun h=>by
  rw[<- Bool.decide_and];refine decide_eq_decide.2 ⟨fun hm=> ?_,fun hm=> ?_⟩;·have:=hm.1;have:=hm.2.1;omega
  ·exact⟨by omega,by omega,h⟩
 clear hL h8;generalize decide (jk L)=ans at*;go_enter func212,ntmps212;go_wp2_with fail;go_loopw [3] (fun i wx=>∃q:Nat,q<=n/\i=.int .i64 q/\Hid (∀ x∈L.take q,0<=x/\x<=1073741824)/\wx=w) (fun i _=>n-(intOf i).toNat)
 case atStart=>exact⟨0,Nh _,rfl,by simp[Hid],rfl⟩
 case round=>
  obtain⟨q,hq,rfl,hv,rfl⟩:=hrel;by_cases e:q<n
  ·obtain⟨b,off,rfl,hc⟩:=HL.out.2 (by omega);have hb:=hc q e;have h7:=dY L q (by rw[h5.out];exact e);have h2:=eF L q (by rw[h5.out];exact e);obtain⟨x,hx⟩:∃x,x=L.getD q 0:=⟨_,rfl⟩;rw[<- hx]at hb h7 h2;have h9:=aa h7;have HM:=aa h2;clear hc hx h7 h2;by_cases e1:x<0;·have d1:decide (x<0)=true:=No e1;have h0:=h6.out x HM.out (.inl e1);subst h0;go_wp2_with fail;go_ret;exact⟨rfl,rfl⟩
   ·have d1:decide (x<0)=false:=Nk e1;by_cases e2:1073741824<x;·have d2:decide (1073741824<x)=true:=No e2;have h0:=h6.out x HM.out (.inr e2);subst h0;go_wp2_with fail;go_ret;exact⟨rfl,rfl⟩
    ·have d2:decide (1073741824<x)=false:=Nk e2;have h3:∀y∈L.take (q+1),0<=y/\y<=1073741824:=by
      rw[h9.out];intro y hy;rcases List.mem_append.1 hy with hy|hy;·exact hv.out y hy
      ·rw[List.mem_singleton.1 hy];omega
     have ha:=aa h3;clear h3;go_wp2_with fail;go_roundw;case rel=>exact⟨q+1,by omega,by go_num,ha,trivial⟩
     case measure=>simp[intOf];omega
  ·obtain rfl:q=n:=(by omega);have h3:=hv.out;rw[Nt (Ox h5.out)]at h3;have h0:=h4.out h3;have d1:decide ((2:Int)<=(q:Int))=decide (2<=q):=decide_eq_decide.2 (by omega);have d2:decide ((q:Int)<=258)=decide (q<=258):=decide_eq_decide.2 (by omega);subst h0;clear h3 h6 h4;by_cases h1:2<=q;·go_wp2_with fail;go_ret;exact⟨by simp[h1],rfl⟩
   ·go_wp2_with fail;go_ret;exact⟨by simp[h1],rfl⟩
def ou(q:Nat)(ws ov:Nat->Nat)(at_:Int):Prop:=(at_= -1/\∀j,j<q->ov j≠0)\/∃a:Nat,at_=a/\a<q/\ov a=0/\∀j,j<q->ov j=0->j≠a->ws a<ws j\/(ws a=ws j/\a<j)
theorem Gq(w:World)(A B:Option Addr)(k c d:Nat)(W O:List Nat)(hW:aw w A k W)(hO:aw w B k O)(hk:k<=10000)(h0:∃j,j<k/\O.getD j 0=0):
 Calls prog 243 #[.slice A k c,.slice B k d] w fun e w'=>∃a:Nat,e=.returned (.int .i64 a)/\lV k (fun j=>W.getD j 0) (fun j=>O.getD j 0) a/\∃m,w'=w.drewN m:=by
 have HW:=aa hW;have HO:=aa hO;have H0:=aa h0;obtain⟨ws,h8⟩:∃ws:Nat->Nat,ws=fun j=>W.getD j 0:=⟨_,rfl⟩;obtain⟨ov,h7⟩:∃ov:Nat->Nat,ov=fun j=>O.getD j 0:=⟨_,rfl⟩;have hb:=aa h8;have h9:=aa h7;have hP:Hid (∀ (a:Nat) (m:Nat),lV k ws ov a->(fun e w'=>∃a:Nat,e=Ending.returned (.int .i64 a)/\lV k (fun j=>W.getD j 0) (fun j=>O.getD j 0) a/\∃m,w'=w.drewN m) (.returned (.int .i64 a)) (w.drewN m)):=aa fun a m h=>⟨a,rfl,by rw[<- h8,<-h7];exact h,m,rfl⟩;generalize (fun e w'=>∃a:Nat,e=Ending.returned (.int .i64 a)/\lV k (fun j=>W.getD j 0) (fun j=>O.getD j 0) a/\∃m,w'=w.drewN m)=PO at*;clear hW hO h0 h8 h7;go_enter func243,ntmps243;go_wp2_with fail;go_loopw [5,6] (fun v i wx=>∃(q:Nat) (at_:Int),q<=k/\i=.int .i64 q/\v=.int .i64 at_/\Hid (ou q ws ov at_)/\∃m,wx=w.drewN m) (fun _ i _=>k-(intOf i).toNat)
 case atStart=>exact⟨0,-1,Nh _,rfl,rfl,.inl ⟨rfl,fun j hj=>by omega⟩,0,rfl⟩
 case round=>
  obtain⟨q,at_,hq,rfl,rfl,hl,hd⟩:=hrel;have HD:=aa hd;by_cases e:q<k
  ·obtain⟨b1,o1,rfl,h6⟩:=HW.out.2 (by omega);obtain⟨b2,o2,rfl,hc⟩:=HO.out.2 (by omega);have c1:wr.cell? ⟨b1,o1+q,none⟩=some (.int .i64 (ws q:Nat)):=(by rw[hb.out];obtain⟨m,rfl⟩:=hd;exact h6 q e);have c2:wr.cell? ⟨b2,o2+q,none⟩=some (.int .i64 (ov q:Nat)):=(by rw[h9.out];obtain⟨m,rfl⟩:=hd;exact hc q e);obtain⟨x,hx⟩:∃x,x=ov q:=⟨_,rfl⟩;obtain⟨y,hy⟩:∃y,y=ws q:=⟨_,rfl⟩;rw[<- hx]at c2;rw[<- hy]at c1;have HX:=aa hx;have HY:=aa hy;have h4:∀a:Nat,a<k->wr.cell? ⟨b1,o1+a,none⟩=some (.int .i64 (ws a:Nat)):=(by intro a ha;rw[hb.out];obtain⟨m,rfl⟩:=hd;exact h6 a ha);have he:=aa h4;clear hx hy h6 hc hd h4;by_cases e1:x=0
   ·subst e1;rcases hl.out with⟨rfl,h3⟩|⟨a,rfl,ha,h5,h1⟩
    ·have d1:((((0:Nat):Int))==0)=true:=rfl;have h2:Hid (ou (q+1) ws ov (q:Int)):=aa (.inr ⟨q,rfl,PU q,HX.out.symm,fun j hj h0 hne=>absurd h0 (h3 j (by omega))⟩);clear h3 hl;go_wp2_with fail;go_quiet (fail);go_wp2_with fail;go_roundw;case rel=>obtain⟨m,hm⟩:=HD.out;exact⟨q+1,q,by omega,by go_num,rfl,h2,m+nq,by rw[hm];simp⟩
     case measure=>simp[intOf];omega
    ·have d1:((((0:Nat):Int))==0)=true:=rfl;have ca:=he.out a (by omega);obtain⟨z,hz⟩:∃z,z=ws a:=⟨_,rfl⟩;rw[<- hz]at ca;have HZ:=aa hz;have d2:decide ((a:Int)<0)=false:=aD (by omega);have hh:(a:Int)<(k:Int):=(by omega);clear hz;by_cases e2:y<z
     ·have h2:Hid (ou (q+1) ws ov (q:Int)):=aa (.inr ⟨q,rfl,PU q,HX.out.symm,fun j hj h0 hne=>by
       left
       rw[<- HY.out]
       by_cases ej:j=a
       ·rw[ej,<-HZ.out]
        exact e2
       ·have:=h1 j (by omega) h0 ej
        rw[<- HZ.out]at this
        omega⟩)
      clear h1 hl;go_wp2_with fail;go_quiet (fail);go_wp2_with fail;go_roundw;case rel=>obtain⟨m,hm⟩:=HD.out;exact⟨q+1,q,by omega,by go_num,rfl,h2,m+nq,by rw[hm];simp⟩
      case measure=>simp[intOf];omega
     ·have h2:Hid (ou (q+1) ws ov (a:Int)):=aa (.inr ⟨a,rfl,by omega,h5,fun j hj h0 hne=>by
       by_cases ej:j=q
       ·rw[ej,<-HY.out,<-HZ.out]
        omega
       ·exact h1 j (by omega) h0 hne⟩)
      clear h1 hl;go_wp2_with fail;go_quiet (fail);go_wp2_with fail;go_roundw;case rel=>obtain⟨m,hm⟩:=HD.out;exact⟨q+1,a,by omega,by go_num,rfl,h2,m+nq,by rw[hm];simp⟩
      case measure=>simp[intOf];omega
   ·have d1:((x:Int)==0)=false:=by rw[NA];omega
    have h2:Hid (ou (q+1) ws ov at_):=aa (by
     rcases hl.out with⟨rfl,h3⟩|⟨a,rfl,ha,h5,h1⟩
     ·exact .inl ⟨rfl,fun j hj=>by
       by_cases ej:j=q
       ·rw[ej,<-HX.out]
        exact e1
       ·exact h3 j (by omega)⟩
     ·exact .inr ⟨a,rfl,by omega,h5,fun j hj h0 hne=>by
       by_cases ej:j=q
       ·rw[ej,<-HX.out]at h0
        exact absurd h0 e1
       ·exact h1 j (by omega) h0 hne⟩)
    clear hl;go_wp2_with fail;go_quiet (fail);go_wp2_with fail;go_roundw;case rel=>obtain⟨m,hm⟩:=HD.out;exact⟨q+1,at_,by omega,by go_num,rfl,h2,m+nq,by rw[hm];simp⟩
    case measure=>simp[intOf];omega
  ·obtain rfl:q=k:=(by omega);rcases hl.out with⟨rfl,h3⟩|⟨a,rfl,ha,h5,h1⟩;·exfalso;obtain⟨j,hj,hg⟩:=H0.out;exact h3 j hj (by rw[h9.out];exact hg)
   ·have hf:Hid (lV q ws ov a):=aa ⟨ha,h5,h1⟩;obtain⟨m,rfl⟩:=hd;clear h1 hl;go_wp2_with fail;exact hP.out a m hf.out
def cH(n:Nat)(f:Nat->Nat):List Value:=(List.range n).map fun j=>iv (f j)
theorem eB(n:Nat)(f:Nat->Nat):(cH n f).length=n:=by simp[cH]
theorem lc(n:Nat)(f:Nat->Nat)(i:Nat)(h:i<n):(cH n f)[i]? =some (iv (f i)):=by unfold cH;rw[Np,NN h];rfl
theorem Kf(n:Nat)(f:Nat->Nat)(i v:Nat):(cH n f).set i (iv v)=cH n fun j=>if j=i then v else f j:=by
 apply Oa;intro j;by_cases hj:j<n
 ·rw[lc n _ j hj];by_cases e:i=j;·subst e;rw[List.getElem?_set_self (by rw[eB];exact hj),Ng rfl]
  ·rw[List.getElem?_set_ne e,lc n f j hj,Nf (fun h=>e h.symm)]
 ·rw[Ny (by rw[Qb,eB];omega),Ny (by rw[eB];omega)]
theorem b9(n:Nat)(f g:Nat->Nat)(h:∀j,j<n->f j=g j):cH n f=cH n g:=by unfold cH;refine Oc fun j hj=> ?_;rw[h j (List.mem_range.1 hj)]
theorem G2(n:Nat)(f:Nat->Nat)(v:Nat):cH n f++ [iv v]=cH (n+1) fun j=>if j=n then v else f j:=by
 unfold cH;rw[Oi,NF];congr 1;·refine Oc fun j hj=> ?_;have:=List.mem_range.1 hj;show iv (f j)=iv (if j=n then v else f j);rw[Nf (by omega)]
 ·simp
theorem qC(L:List Nat):L.map iv=cH L.length fun j=>L.getD j 0:=by
 apply Oa;intro j;by_cases hj:j<L.length;·rw[lc _ _ j hj,Np,Nd hj,Nb,Nd hj];rfl
 ·rw[Ny (by rw[NC];omega),Ny (by rw[eB];omega)]
def aA(w:World)(B g c n:Nat)(f:Nat->Nat):Prop:=w.ownsRow B 3 1 (.slice (some ⟨g,0,none⟩) n c) n (cH n f)
theorem aA.cell{w:World}{B g c n:Nat}{f:Nat->Nat}(h:aA w B g c n f)(i:Nat)(hi:i<n):w.cell? ⟨g,i,none⟩=some (.int .i64 (f i:Nat)):=by rw[OR h i (by omega),lc n f i hi];rfl
theorem aA.frozen{w:World}{B g c n:Nat}{f:Nat->Nat}(h:aA w B g c n f)(i:Nat):w.frozen? ⟨g,i,none⟩=false:=Rq h i
theorem aA.set{w:World}{B g c n:Nat}{f:Nat->Nat}(h:aA w B g c n f)(i v:Nat):aA (w.setCell ⟨g,i,none⟩ (.int .i64 v)) B g c n fun j=>if j=i then v else f j:=by have:=(QY h i (iv v)).1;rw[Kf]at this;exact this
theorem aA.other{w:World}{B g c n:Nat}{f:Nat->Nat}(h:aA w B g c n f){g2:Nat}(h0:g2≠g)(i:Nat)(v:Value):aA (w.setCell ⟨g2,i,none⟩ v) B g c n f:=by refine Pb (row:=some g2) h ⟨rfl,rfl,rfl,by simp,fun k _ hk=>heap_setCell_other w ⟨g2,i,none⟩ k v (fun e=>hk (by simp[e]))⟩ (.inr ?_);intro e;exact h0 (by simpa [Value.ownBlock]using e.symm)
theorem aA.grown{w w':World}{B g c n:Nat}{f:Nat->Nat}(h:aA w B g c n f){row:Option Nat}(hg:w.grownBy w' row)(h0:some g≠row):aA w' B g c n f:=
 Pb h hg (.inr h0)
theorem aA.lt{w:World}{B g c n:Nat}{f:Nat->Nat}(h:aA w B g c n f):B<=g/\g<w.heap.size:=OD h g rfl
theorem aA.drew{w:World}{B g c n:Nat}{f:Nat->Nat}(h:aA w B g c n f)(m:Nat):aA (w.drewN m) B g c n f:=h
theorem aA.alloc{w:World}{B g c n:Nat}{f:Nat->Nat}(h:aA w B g c n f)(o:Obj):aA (w.alloc o) B g c n f:=RW h o
theorem aA.ints{w:World}{B g c n:Nat}{f:Nat->Nat}(h:aA w B g c n f):aw w (some ⟨g,0,none⟩) n ((List.range n).map f):=by refine aN (B:=B) (cap:=c) ?_;rw[Ov];exact h
theorem aA.below{w w':World}{B C g c n:Nat}{f:Nat->Nat}(h:aA w B g c n f)(hb:Below C w w')(hg:g<C):aA w' B g c n f:=by
 rcases h.2 with⟨h',_⟩|⟨g',cap',cur,h',hB,h0,rest⟩;·simp at h'
 ·simp only[Ou,On,Qi,and_true,true_and]at h';obtain⟨rfl,rfl⟩:=h';exact⟨h.1,.inr ⟨g,c,cur,rfl,hB,(hb.block g hg).trans h0,rest⟩⟩
theorem dB(n:Nat)(f:Nat->Nat)(j:Nat)(h:j<n):((List.range n).map f).getD j 0=f j:=by rw[Nb,Np,NN h];rfl
theorem bz(w:World)(B n:Nat)(hB:B<=w.heap.size)(hn:n<=1000000):aA (w.alloc (.cells (madeCells #[.int .i64 0] n) 3)) B w.heap.size n n fun _=>0:=by refine⟨by rw[eB,Of],.inr ⟨w.heap.size,n,_,rfl,hB,P4 w _,Nm _,by unfold maxLen;omega,by rw[Rr,Of],?_⟩⟩;rw[Qy,Of,Nt (by simp)];unfold cH;rw[QL,NK];rfl
theorem bK(w:World)(n:Nat)(hn:n<=1000000):(Instr.makeSlice 57 (.int .i64 n) (.int .i64 n)).run prog w=.ok (.slice (some ⟨w.heap.size,0,none⟩) n n) (w.alloc (.cells (madeCells #[.int .i64 0] n) 3)):=by obtain⟨i3,h3,h0,h1,h2⟩:=NY Tryz.info3;have h:=QZ (P:=prog) w 57 3 i3 (.int .i64 0) underlying57 h3 h0 .i64 .i64 (n:Int) (n:Int) (by omega) (by omega) (by rw[h2];omega) (by omega);rw[h1,Nn,Of]at h;exact h
theorem sL(w:World)(B g c n:Nat)(f:Nat->Nat)(h:aA w B g c n f)(x:Nat)(hn:n<=1000000)(hB:B<=w.heap.size):
 ∃g2 c2 w2,(Builtin.append_ #[57,57] 57 #[.slice (some ⟨g,0,none⟩) n c,.slice (some ⟨w.heap.size,0,none⟩) 1 1]).run prog (w.alloc (.cells #[.int .i64 x] 3))=.ok (.slice (some ⟨g2,0,none⟩) (n+1) c2) w2/\
  aA w2 B g2 c2 (n+1) (fun j=>if j=n then x else f j)/\(w.alloc (.cells #[.int .i64 x] 3)).grownBy w2 (some g)/\(g2=g\/w.heap.size<g2):=by
 obtain⟨i3,h3,h1,h2,h4⟩:=NY Tryz.info3
 obtain⟨v2,w2,hr,ho,hg,_,h0⟩:=Qz (P:=prog) (w.alloc (.cells #[.int .i64 x] 3)) B 57 57 3 i3 (.int .i64 0) 1 8 underlying57 h3 h1 h2 h4 rfl (by decide) _ _ _ (h.alloc _) ⟨w.heap.size,0,none⟩ 1 1 [iv x] rfl (bn w (iv x) 3)
  (fun u hu=>by rw[List.mem_singleton.1 hu];rfl) (by unfold maxLen;omega) (by omega) (by simp;omega)
 obtain⟨A,c2,rfl,hc,hm,hA⟩:=ak ho;obtain⟨g2,rfl⟩:=hA (by omega);rw[G2]at ho;refine⟨g2,c2,w2,hr,ho,hg,?_⟩;rcases h0 with e|e;·left;simpa [Value.ownBlock]using e
 ·right;have:g2=(w.alloc (.cells #[.int .i64 x] 3)).heap.size:=(by simpa [Value.ownBlock]using e);rw[this];simp
def yM(n:Nat)(f:Nat->Nat)(g:Nat):Prop:=(∀ i,i<n->f i<=g)/\∃i,i<n/\f i=g
theorem xW(w:World)(A:Option Addr)(n c:Nat)(L:List Nat)(hL:aw w A n L)(h1:1<=n)(hn:n<=1000000):Calls prog 214 #[.slice A n c] w fun e w'=>∃g:Nat,e=.returned (.int .i64 g)/\yM n (fun i=>L.getD i 0) g/\w'=w:=by
 obtain⟨b,off,rfl,hc⟩:=hL.2 (by omega);obtain⟨f,hf⟩:∃f:Nat->Nat,f=fun i=>L.getD i 0:=⟨_,rfl⟩;have h0:∀i,i<n->w.cell? ⟨b,off+i,none⟩=some (.int .i64 (f i:Nat)):=by rw[hf];exact hc
 rw[<- hf];have HC:=aa h0;have c0:=h0 0 (by omega);rw[Og]at c0;obtain⟨y,hy⟩:∃y,y=f 0:=⟨_,rfl⟩;rw[<- hy]at c0;have HY:=aa hy;have h3:(0:Int)<(n:Int):=by omega
 have hP:Hid (∀ g:Nat,yM n f g->(fun e w'=>∃g:Nat,e=Ending.returned (.int .i64 g)/\yM n f g/\w'=w) (.returned (.int .i64 g)) w):=aa fun g h=>⟨g,rfl,h,rfl⟩;generalize (fun e w'=>∃g:Nat,e=Ending.returned (.int .i64 g)/\yM n f g/\w'=w)=PO at*;clear hL hc hf h0 hy;go_enter func214,ntmps214;go_wp2_with fail;go_loopw [3,4] (fun v i wx=>∃q g:Nat,q<=n/\i=.int .i64 q/\v=.int .i64 g/\Hid ((∀ i,i<q->f i<=g)/\∃i,i<n/\f i=g)/\wx=w) (fun _ i _=>n-(intOf i).toNat)
 case atStart=>exact⟨0,y,Nh _,rfl,rfl,⟨fun i hi=>by omega,0,by omega,HY.out.symm⟩,rfl⟩
 case round=>
  obtain⟨q,g,hq,rfl,rfl,hm,rfl⟩:=hrel;by_cases e:q<n
  ·have cq:=HC.out q e;obtain⟨x,hx⟩:∃x,x=f q:=⟨_,rfl⟩;rw[<- hx]at cq;have HX:=aa hx;clear hx;by_cases e2:g<x
   ·have HM:Hid ((∀ i,i<q+1->f i<=x)/\∃i,i<n/\f i=x):=aa ⟨fun i hi=>by
     by_cases ei:i=q
     ·rw[ei,<-HX.out]
      exact Nm _
     ·have:=hm.out.1 i (by omega)
      omega,q,e,HX.out.symm⟩
    have h2:(if(g:Int)<(x:Int)then(x:Int)else(g:Int))=(x:Int):=Ng (by omega);clear hm;go_wp2_with fail;go_roundw;case rel=>exact⟨q+1,x,by omega,by go_num,by go_num,HM,trivial⟩
    case measure=>simp[intOf];omega
   ·have HM:Hid ((∀ i,i<q+1->f i<=g)/\∃i,i<n/\f i=g):=aa ⟨fun i hi=>by
     by_cases ei:i=q
     ·rw[ei,<-HX.out]
      omega
     ·exact hm.out.1 i (by omega),hm.out.2⟩
    clear hm;go_wp2_with fail;go_roundw;case rel=>exact⟨q+1,g,by omega,by go_num,by go_num,HM,trivial⟩
    case measure=>simp[intOf];omega
  ·obtain rfl:q=n:=(by omega);have HM:Hid (yM q f g):=aa hm.out;clear hm;go_wp2_with fail;exact hP.out g HM.out
theorem C1{k:Nat}{ws ov ws2 ov2:Nat->Nat}{a:Nat}(h:lV k ws ov a)(hw:∀j,j<k->ws2 j=ws j)(ho:∀j,j<k->ov2 j=ov j):lV k ws2 ov2 a:=by refine⟨h.1,by rw[ho a h.1];exact h.2.1,fun j hj h0 hne=> ?_⟩;rw[hw a h.1,hw j hj];exact h.2.2 j hj (by rw[<- ho j hj];exact h0) hne
theorem wG(w:World)(B gW cW gO cO k:Nat)(ws ov:Nat->Nat)(hW:aA w B gW cW k ws)(hO:aA w B gO cO k ov)(hk:k<=10000)(h0:∃j,j<k/\ov j=0):
 Calls prog 243 #[.slice (some ⟨gW,0,none⟩) k cW,.slice (some ⟨gO,0,none⟩) k cO] w fun e w'=>∃a:Nat,e=.returned (.int .i64 a)/\lV k ws ov a/\∃m,w'=w.drewN m:=by obtain⟨j0,h1,h2⟩:=h0;refine(Gq w _ _ k cW cO _ _ hW.ints hO.ints hk ⟨j0,h1,by rw[dB k ov j0 h1];exact h2⟩).mono ?_;rintro e w' ⟨a,rfl,hl,hd⟩;exact⟨a,rfl,C1 hl (fun j hj=>(dB k ws j hj).symm) (fun j hj=>(dB k ov j hj).symm),hd⟩
theorem Gc{n k:Nat}{w:List Nat}{ws ov:Nat->Nat}{act:List Tr}{len:Nat->Nat}(h:jQ n w k ws ov act len):∀j,k<=j->ov j=0:=by
 intro j hj;by_cases e:ov j=0;·exact e
 ·have:=h.par j e;omega
theorem M6{ov:Nat->Nat}(hp:∀j,ov j≠0->j<ov j){i j d:Nat}(h:Up ov i j d):i+d<=j:=by
 induction h with
 | here=>exact Nm _
 | next h h0 ih=>have:=hp _ h0;omega
def Mj(w wx:World)(n:Nat)(W:List Nat)(s:Nat)(v3 v4:Value):Prop:=∃(k gW cW gO cO:Nat) (ws ov:Nat->Nat) (act:List Tr) (len:Nat->Nat),k+1=n+s/\v3=.slice (some ⟨gW,0,none⟩) k cW/\v4=.slice (some ⟨gO,0,none⟩) k cO/\gW≠gO/\
 aA wx w.heap.size gW cW k ws/\aA wx w.heap.size gO cO k ov/\jQ n W k ws ov act len/\Below w.heap.size w wx
def pH(w:World)(n:Nat)(W:List Nat)(e:Ending)(w':World):Prop:=∃(g c:Nat) (len:Nat->Nat),lj W len/\e=.returned (.slice (some ⟨g,0,none⟩) n c)/\aA w' w.heap.size g c n len/\Below w.heap.size w w'
theorem Gb(w:World)(A:Option Addr)(n c:Nat)(W:List Nat)(hL:aw w A n W)(h1:1<=n)(hn:n<=258)(H0:W.sum<=1099511627776):Calls prog 213 #[.slice A n c] w (pH w n W):=by
 have hz:=hL.1;have hf:(w.alloc (.cells #[] 3)).ownsRow w.heap.size 3 1 (.slice (some ⟨w.heap.size,0,none⟩) 0 0) 0 []:=Pd w #[] 0 (ah _) (Nh _) rfl;have HS:Below w.heap.size w (w.alloc (.cells #[] 3)):=(Nj _ w).alloc (ah _) _;obtain⟨v3,w3,p3,HD,r2⟩:=jT (w.alloc (.cells #[] 3)) w.heap.size _ 0 [] hf A n c W (bN hL HS) (by omega) (by simp);have H5:Below w.heap.size w w3:=HS.grown r2 (by simp) (fun k hk=>(hf.lt k hk).1);obtain⟨A3,c3,rfl,qv,_,q7⟩:=ak HD;obtain⟨g3,rfl⟩:=q7 (by omega);rw[N8]at HD p3 qv;have HV:aA w3 w.heap.size g3 c3 n fun j=>W.getD j 0:=by have:=HD;rw[NX,qC,hz]at this;exact this
 have rv:=bK w3 n (by omega);have rx:=bz w3 w.heap.size n H5.size (by omega);have r1:=HV.alloc (.cells (madeCells #[.int .i64 0] n) 3);have qm:Below w.heap.size w (w3.alloc (.cells (madeCells #[.int .i64 0] n) 3)):=H5.alloc H5.size _;have hh:Mj w (w3.alloc (.cells (madeCells #[.int .i64 0] n) 3)) n W 1 (.slice (some ⟨g3,0,none⟩) n c3) (.slice (some ⟨w3.heap.size,0,none⟩) n n):=by have rb:=rh W (by omega);rw[hz]at rb;exact⟨n,g3,c3,w3.heap.size,n,_,_,_,_,rfl,rfl,rfl,by have:=HV.lt;omega,r1,rx,rb,qm⟩
 have HI:=aa p3;have HJ:=aa hh;have hv:=aa H0;clear hL hz hf HS p3 HD r2 H5 HV rx r1 qm hh H0 q7 qv;go_enter func213,ntmps213;go_wp2_with (at_builtin;refine Lib.wpList_append_run _ rfl (.tmp 12) (.tmp 13) 57 57 rfl (.slice (some ⟨w.heap.size,0,none⟩) 0 0) (.slice A n c) rfl rfl _ w3 HI.out ?_)
 go_loopw [3,4,5] (fun a b x wx=>∃s:Nat,1<=s/\s<=n/\x=.int .i64 s/\Mj w wx n W s a b) (fun _ _ x _=>n-(intOf x).toNat)
 case atStart=>exact⟨1,Nm _,h1,rfl,HJ.out⟩
 case round=>
  obtain⟨s,t2,t5,rfl,k,gW,cW,gO,cO,ws,ov,act,len,rs,rfl,rfl,HC,HA,h4,hB,hb⟩:=hrel;have pb:=hb.size;by_cases e:s<n
  ·have ds:decide ((s:Int)<(n:Int))=true:=aX (by omega);have p5:=qi hB (by omega);obtain⟨p,q,hp,hq,sl,p1,rO⟩:=p5;have ps:=aa (wG wr w.heap.size gW cW gO cO k ws ov HA h4 (by omega) ⟨p,hp,p1⟩);have pl:=aa HA;have hE:=aa h4;have HG:=aa hB;have HB:=aa hb;clear HA h4 hB hb;go_wp2_with fail;refine ps.out.mono ?_;rintro e w1 ⟨a,rfl,p0,m1,rfl⟩;have HH:=aa p0;have ha:a<k:=p0.1;have hP:=pl.out.drew m1;have h8:=hE.out.drew m1;have pf:=aa (ay HB.out m1);have H8:=h8.cell a ha;have HW:=h8.frozen a;have so:(0:Int)<=(a:Int):=(by omega);have sr:(a:Int)<(k:Int):=(by omega);have q8:=h8.set a k;have qa:=hP.other (g2:=gO) (fun h=>HC h.symm) a (.int .i64 k);have r3:=h8.lt;have H3:=aa q8;have HK:=aa qa;have hC:=aa (pf.out.setCell (p:=⟨gO,a,none⟩) r3.1 (.int .i64 k));(obtain⟨ov1,he⟩:∃ov1:Nat->Nat,ov1=fun j=>if j=a then k else ov j:=⟨_,rfl⟩);have hs:∃j,j<k/\ov1 j=0:=by
    by_cases e1:p=a;·exact⟨q,hq,by rw[he];show(if q=a then k else ov q)=0;rw[Nf (fun h=>sl (e1.trans h.symm))];exact rO⟩
    ·exact⟨p,hp,by rw[he];show(if p=a then k else ov p)=0;rw[Nf e1];exact p1⟩
   rw[<- he]at H3;have h7:=aa he;have q3:=aa hs;clear hP h8 q8 qa p0 he hs p1 rO ps pl hE HB;go_wp2_with fail;generalize (wr.drewN m1).setCell ⟨gO,a,none⟩ (.int .i64 k)=w2 at*;have pv:=aa (wG w2 w.heap.size gW cW gO cO k ws ov1 HK.out H3.out (by omega) q3.out);refine pv.out.mono ?_;rintro e w4 ⟨b,rfl,hV,m2,rfl⟩;have q0:=aa hV;have hb:b<k:=hV.1;have hQ:=HK.out.drew m2;have h9:=H3.out.drew m2;have hD:=aa (ay hC.out m2);have HU:=h9.cell b hb;have HX:=h9.frozen b;have ss:(0:Int)<=(b:Int):=(by omega);have st:(b:Int)<(k:Int):=(by omega);have HM:=h9.set b k;have qb:=hQ.other (g2:=gO) (fun h=>HC h.symm) b (.int .i64 k);(obtain⟨ov2,hm⟩:∃ov2:Nat->Nat,ov2=fun j=>if j=b then k else if j=a then k else ov j:=⟨_,rfl⟩);have hJ:aA ((w2.drewN m2).setCell ⟨gO,b,none⟩ (.int .i64 k)) w.heap.size gO cO k ov2:=(by rw[h7.out]at HM;rw[hm];exact HM);have qs:b≠a:=(by intro h;have:=hV.2.1;rw[h7.out,h]at this;have h3:(if a=a then k else ov a)=0:=this;rw[Ng rfl]at h3;omega);have rM:ov b=0:=(by have:=hV.2.1;rw[h7.out]at this;have h3:(if b=a then k else ov b)=0:=this;rwa [Nf qs]at h3);have s0:=ri HG.out ha hb (fun h=>qs h.symm) HH.out.2.1 rM;obtain⟨x,hx⟩:∃x,x=ws a+ws b:=⟨_,rfl⟩;have te:x<=1099511627776:=NH (by rw[hx];exact s0) hv.out;obtain⟨xa,s1⟩:∃xa,xa=ws a:=⟨_,rfl⟩;obtain⟨xb,H1⟩:∃xb,xb=ws b:=⟨_,rfl⟩;have tg:(xa:Int)+(xb:Int)=(x:Int):=(by omega);have r8:=tQ HG.out HH.out h7.out q0.out hm
   have po:Hid (∃ act2 len2,jQ n W (k+1) (fun j=>if j=k then x else ws j) (fun j=>if j=k then 0 else ov2 j) act2 len2):=aa (by
    obtain⟨act2,len2,h⟩:=r8
    have e2:(fun j=>if j=k then 0 else ov2 j)=ov2:=by
     funext j
     by_cases ej:j=k
     ·rw[Ng ej,ej,hm]
      show 0=if k=b then k else if k=a then k else ov k
      rw[Nf (by omega),Nf (by omega),Gc HG.out k (ah _)]
     ·rw[Nf ej]
    rw[e2,hx]
    exact⟨act2,len2,h⟩)
   have hR:=h9.lt;have q2:=aa hJ;have H4:=aa qb;have HE:=aa (hD.out.setCell (p:=⟨gO,b,none⟩) hR.1 (.int .i64 k));have t1:k<=600:=(by omega);have s5:=aa s1;have s7:=aa H1;clear HM hJ qb hV hm rM s0 hx r8 s1 H1 r3 hR HH q0 HG H3 HK hC h7 q3 hv HJ HI rv pb H8 HW pf pv;go_upto_region 11 with fail;generalize (w2.drewN m2).setCell ⟨gO,b,none⟩ (.int .i64 k)=w5 at*;have ca:=H4.out.cell a ha;have cb:=H4.out.cell b hb;rw[<- s5.out]at ca;rw[<- s7.out]at cb;have p7:w.heap.size<=w5.drew.heap.size:=HE.out.size;have HQ:aA w5.drew w.heap.size gW cW k ws:=H4.out;have HN:aA w5.drew w.heap.size gO cO k ov2:=q2.out;have pg:=aa HE.out.drew;obtain⟨g6,c6,w6,r6,HR,HY,hK⟩:=sL w5.drew w.heap.size gW cW k ws HQ x (by omega) p7;have HO:aA w6 w.heap.size gO cO k ov2:=(HN.alloc _).grown HY (fun h=>HC (by simpa using h.symm));have hA:g6≠gO:=by
    rcases hK with h|h;·rw[h];exact HC
    ·have:=HN.lt;omega
   have HT:Below w.heap.size w w6:=(pg.out.alloc p7 _).grown HY (NH p7 (by simp)) (fun k hk=>by
    have:k=gW:=by simpa using hk.symm
    rw[this]
    exact HQ.lt.1)
   have s3:=HT.size;obtain⟨g7,c7,w7,r7,q9,HZ,hM⟩:=sL w6 w.heap.size gO cO k ov2 HO 0 (by omega) s3;have ql:aA w7 w.heap.size g6 c6 (k+1) (fun j=>if j=k then x else ws j):=(HR.alloc _).grown HZ (fun h=>hA (by simpa using h));have hY:g6≠g7:=by
    rcases hM with h|h;·rw[h];exact hA
    ·have:=HR.lt;omega
   have qo:Below w.heap.size w w7:=(HT.alloc s3 _).grown HZ (by simp;omega) (fun k hk=>by
    have:k=gO:=by simpa using hk.symm
    rw[this]
    exact HO.lt.1)
   have R7:=aa r7
   have hI:Hid (Mj w w7 n W (s+1) (.slice (some ⟨g6,0,none⟩) (k+1) c6) (.slice (some ⟨g7,0,none⟩) (k+1) c7)):=aa (by
    obtain⟨act2,len2,hg⟩:=po.out
    exact⟨k+1,g6,c6,g7,c7,_,_,act2,len2,by omega,rfl,rfl,hY,ql,q9,hg,qo⟩)
   have s6:(Builtin.append_ #[57,57] 57 #[.slice (some ⟨gW,0,none⟩) k cW,.slice (some ⟨w5.heap.size,0,none⟩) 1 1]).run prog (w5.alloc (.cells #[.int .i64 x] 3)).drew=.ok (.slice (some ⟨g6,0,none⟩) (k+1) c6) w6:=r6;have ta:IntKind.i64.wrap (x:Int)=(x:Int):=(by rw[Oe];omega);have p4:s+1<=n:=(by omega);clear HQ HN r6 HR HY hK HO hA HT r7 q9 HZ hM ql hY qo po H4 q2 HE pg hD hQ h9 HU HX rs;(go_region_law (refine fQ (v':=.slice (some ⟨g6,0,none⟩) (k+1) c6) (w':=w6) rfl (.tmp 40) (.tmp 50) 57 rfl (.slice (some ⟨gW,0,none⟩) k cW) (.slice (some ⟨w5.heap.size,0,none⟩) 1 1) rfl rfl ?hr ?_;case hr=>(dsimp only;with_reducible exact s6)));go_wp2_with (at_builtin;refine Lib.wpList_append_run _ rfl (.tmp 52) (.tmp 53) 57 57 rfl (.slice (some ⟨gO,0,none⟩) k cO) (.slice (some ⟨w6.heap.size,0,none⟩) 1 1) rfl rfl _ w7 R7.out ?_)
   all_goals (
    go_roundw
    case rel=>exact⟨s+1,by omega,p4,by go_num,hI.out⟩
    case measure=>simp[intOf];omega)
  ·obtain rfl:s=n:=(by omega);have ds:decide ((s:Int)<(s:Int))=false:=aD (by omega);clear hv HJ HI rv;have hN:=wD hB (by omega);have hZ:=hB.par;have pb:=hb.size;have hW:=bK wr s (by omega);have hX:=bz wr w.heap.size s hb.size (by omega);have hO:=h4.alloc (.cells (madeCells #[.int .i64 0] s) 3);have qq:Below w.heap.size w (wr.alloc (.cells (madeCells #[.int .i64 0] s) 3)):=hb.alloc hb.size _;have hT:gO≠wr.heap.size:=(by have:=h4.lt;omega);have ht:=aa hN;have hl:=aa hZ;have HL:=aa hX;have q1:=aa hO;have pj:=aa qq;obtain⟨gX,hS⟩:∃gX,gX=wr.heap.size:=⟨_,rfl⟩;rw[<- hS]at HL hW hT;clear hN hZ hX hO qq HA h4 hB hb pb hS;go_wp2_with fail;clear hW;(have pk:Hid (∀ i c j,i<s->Up ov i j c->ov j=0->c=len i):=aa fun i c j hi hu h0=>by obtain⟨r,hr,sm⟩:=ht.out.2 i hi;exact hu.ends h0 hr sm);have q5:Hid (∀ i j c,Up ov i j c->i+c<=j):=aa fun i j c hu=>M6 (fun j h0=>(hl.out j h0).1) hu;have HP:Hid (∀ w',aA w' w.heap.size gX s s len->Below w.heap.size w w'->pH w s W (.returned (.slice (some ⟨gX,0,none⟩) s s)) w'):=aa fun w' h2 h3=>⟨gX,s,len,ht.out.1,rfl,h2,h3⟩;have sb:k<=600:=(by omega);have t4:s<=k:=(by omega);generalize pH w s W=PO at*;clear ht rs;(go_loopw [10,11] (fun x z wx=>∃i:Nat,i<=s/\x=.int .i64 i/\aA wx w.heap.size gX s s (fun j=>if j<i then len j else 0)/\aA wx w.heap.size gO cO k ov/\Below w.heap.size w wx) (fun x _ _=>s-(intOf x).toNat));case atStart=>refine⟨0,Nh _,rfl,?_,q1.out,pj.out⟩;have e0:(fun j=>if j<0 then len j else 0)=fun _=>0:=(by funext j;rw[Nf (by omega)]);rw[e0];exact HL.out
   case round=>
    clear HL q1 pj;rename World=>w2;obtain⟨i,hi,rfl,h6,h4,hb⟩:=hrel;have pn:=aa h6;have hE:=aa h4;have HB:=aa hb;by_cases e:i<s
    ·have ci:=h4.cell i (by omega);have sT:(i:Int)<(k:Int):=(by omega);have sx:(0:Int)<=(i:Int):=(by omega);obtain⟨y0,p6⟩:∃y0,y0=ov i:=⟨_,rfl⟩;rw[<- p6]at ci;have s8:=aa p6;clear h6 h4 hb p6;go_wp2_with fail;(go_loopw [11] (fun z wx=>∃c j y:Nat,j<k/\Hid (Up ov i j c)/\Hid (y=ov j)/\z=.int .i64 y/\aA wx w.heap.size gX s s (fun j=>if j=i then c else if j<i then len j else 0)/\aA wx w.heap.size gO cO k ov/\Below w.heap.size w wx) (fun z _=>if intOf z=0 then 0 else k+1-(intOf z).toNat));case atStart=>
      refine⟨0,i,y0,by omega,.here i,s8.out,rfl,?_,hE.out,HB.out⟩;have e0:(fun j=>if j=i then 0 else if j<i then len j else 0)=fun j=>if j<i then len j else 0:=by
       funext j;by_cases ej:j=i;·rw[Ng ej,Nf (by omega)]
       ·rw[Nf ej]
      rw[e0];exact pn.out
     case round=>
      rename World=>w6;obtain⟨c,j,y,t0,hu,hy,rfl,h6,h4,hb⟩:=hrel;have hG:=aa h6;have HF:=aa h4;have hC:=aa hb;by_cases e3:y=0
      ·subst e3;have hc:=pk.out i c j e hu.out hy.out.symm;have ho:(fun j=>if j=i then c else if j<i then len j else 0)=fun j=>if j<i+1 then len j else 0:=by
        funext j';by_cases ej:j'=i;·rw[Ng ej,Ng (by omega),ej,hc]
        ·rw[Nf ej];by_cases ej2:j'<i;·rw[Ng ej2,Ng (by omega)]
         ·rw[Nf ej2,Nf (by omega)]
       rw[ho]at hG;clear h6 h4 hb hu hy hc ho;go_wp2_with fail;go_roundw;case rel=>exact⟨i+1,by omega,by go_num,hG.out,HF.out,hC.out⟩
       case measure=>simp[intOf];omega
      ·have dy:((y:Int)==0)=false:=(by rw[NA];omega);have p2:=hl.out j (by rw[<- hy.out];exact e3);rw[<- hy.out]at p2;have s2:y<k:=p2.2;have sa:=q5.out i j c hu.out;have cx:=h6.cell i e;have fx:=h6.frozen i;rw[Ng rfl]at cx;have hS:=h6.lt;have rR:Up ov i y (c+1):=hu.out.of_eq hy.out.symm e3;have q4:=aa rR;have h5:=h6.set i (c+1);have ho:(fun j'=>if j'=i then c+1 else if j'=i then c else if j'<i then len j' else 0)=fun j'=>if j'=i then c+1 else if j'<i then len j' else 0:=by
        funext j';by_cases ej:j'=i;·rw[Ng ej,Ng ej]
        ·rw[Nf ej,Nf ej,Nf ej]
       rw[ho]at h5;have hw:=h4.other (g2:=gX) (fun h=>hT h.symm) i (.int .i64 ((c+1:Nat):Int));have cy:=hw.cell y s2;obtain⟨y2,H2⟩:∃y2,y2=ov y:=⟨_,rfl⟩;rw[<- H2]at cy;have s9:=aa H2;have sn:y2=0\/(y<y2/\y2<k):=by
        by_cases e4:y2=0;·exact .inl e4
        ·right;have:=hl.out y (by rw[<- H2];exact e4);rw[<- H2]at this;exact this
       have t3:(i:Int)<(s:Int):=(by omega);have tl:(0:Int)<=(y:Int):=(by omega);have tm:(y:Int)<(k:Int):=(by omega);have r0:c<=600:=(by omega);have hH:=aa h5;have hF:=aa hw;have hD:=aa (hC.out.setCell (p:=⟨gX,i,none⟩) hS.1 (.int .i64 ((c+1:Nat):Int)));clear h6 h4 hb hu hy p2 h5 hw ho rR H2 hS sa;obtain⟨c1,H8⟩:∃c1,c1=c+1:=⟨_,rfl⟩;rw[<- H8]at hH hF hD q4 cy;have sv:(c:Int)+1=(c1:Int):=(by omega);clear H8;go_wp2_with fail;go_roundw;case rel=>exact⟨c1,y,y2,s2,q4,s9,rfl,hH.out,hF.out,hD.out⟩
       case measure=>show(if((y2:Nat):Int)=0 then 0 else k+1-((y2:Nat):Int).toNat)<(if((y:Nat):Int)=0 then 0 else k+1-((y:Nat):Int).toNat);rw[Nn,Nn];split <;>split <;>omega
    ·obtain rfl:i=s:=(by omega);have ho:cH i (fun j=>if j<i then len j else 0)=cH i len:=b9 i _ _ fun j hj=>Ng hj;have h5:aA w2 w.heap.size gX i i len:=(by have h3:w2.ownsRow w.heap.size 3 1 (.slice (some ⟨gX,0,none⟩) i i) i (cH i fun j=>if j<i then len j else 0):=h6;rw[ho]at h3;exact h3);have s4:=aa (HP.out w2 h5 hb);clear h6 h4 hb ho h5 pn hE HB HP pk q5 hl;go_wp2_with fail;exact s4.out
theorem fg{w:World}{A:Option Addr}{m:Nat}{L:List Int}(h:ZIn w A m L)(hv:∀x∈L,0<=x):aw w A m (L.map Int.toNat):=by refine⟨by rw[NC];exact h.1,fun hm=> ?_⟩;obtain⟨b,off,rfl,hc⟩:=h.2 hm;refine⟨b,off,rfl,fun i hi=> ?_⟩;have h1:i<L.length:=(by rw[h.1];exact hi);rw[hc i hi,Nb,Nb,Np,Nd (by rw[h.1];exact hi)];have h0:=hv (L[i]'h1) (NL _);show some (Value.int .i64 (L[i]'h1))=some (.int .i64 (((L[i]'h1).toNat:Nat):Int));rw[Qc h0]
def um(L:List Int)(j:Nat):Nat:=max (L.getD j 0).toNat 1
def jO(L:List Int):List Nat:=(List.range L.length).map (um L)
def kJ(w:World)(L:List Int)(most:Int)(e:Ending)(w':World):Prop:=
 ((¬ jk L\/most<12\/20<most)/\∃v,e=.returned (.tuple #[v,.int .i64 2])/\w'.ownsRow w.heap.size 3 1 v 0 []/\Below w.heap.size w w')\/
 (jk L/\12<=most/\most<=20/\∃v len,iu (jO L) most.toNat len/\e=.returned (.tuple #[v,.int .i64 0])/\w'.ownsRow w.heap.size 3 1 v L.length (cH L.length len)/\Below w.heap.size w w')
theorem aA.lower{w:World}{B B' g c n:Nat}{f:Nat->Nat}(h:aA w B g c n f)(hB:B'<=B):aA w B' g c n f:=World.ownsRow.mono h hB
theorem qJ(n:Nat)(f:Nat->Nat)(hn:n<=258)(h:∀j,j<n->f j<=1073741824):((List.range n).map f).sum<=1099511627776:=by
 have h1:=uR 1073741824 ((List.range n).map f) (fun x hx=>by
  obtain⟨j,hj,rfl⟩:=List.mem_map.1 hx
  exact h j (List.mem_range.1 hj))
 rw[NC,NK]at h1;omega
def Mn(w wx:World)(W0:List Nat)(n most gA cA t:Nat)(v:Value):Prop:=∃(gX cX:Nat) (len f:Nat->Nat),t<=40/\v=.slice (some ⟨gX,0,none⟩) n cX/\aA wx w.heap.size gA cA n f/\aA wx w.heap.size gX cX n len/\
 da W0 t=(List.range n).map f/\lj (da W0 t) len/\(∀ j,j<n->f j<=1073741824)/\(∀ q,q<t->∃L1,lj (da W0 q) L1/\∃i,i<n/\most<L1 i)/\Below w.heap.size w wx
theorem tT(n:Nat)(f:Nat->Nat):half ((List.range n).map f)=(List.range n).map fun j=>f j/2+1:=by unfold half;rw[Ov];rfl
theorem JG(w:World)(A:Option Addr)(n c:Nat)(L:List Int)(most:Nat)(hL:ZIn w A n L)(hM:jk L)(p2:12<=most)(p3:most<=20):Calls prog 172 #[.slice A n c,.int .i64 most] w (kJ w L most):=by
 have hT:=hL.1;have p4:2<=n:=by have:=hM.1;omega
 have hn:n<=258:=by have:=hM.2.1;omega
 have HM:=aa (yb w A n c L hL (by unfold maxLen;omega));rw[show decide (jk L)=true from No hM]at HM;have HU:=fg hL fun x hx=>(hM.2.2 x hx).1;have hc:(w.alloc (.cells #[] 3)).ownsRow w.heap.size 3 1 (.slice (some ⟨w.heap.size,0,none⟩) 0 0) 0 []:=Pd w #[] 0 (ah _) (Nh _) rfl;have hZ:Below w.heap.size w (w.alloc (.cells #[] 3)):=(Nj _ w).alloc (ah _) _;obtain⟨v3,w3,H4,hV,HR⟩:=jT (w.alloc (.cells #[] 3)) w.heap.size _ 0 [] hc A n c _ (bN HU hZ) (by omega) (by simp);have HK:Below w.heap.size w w3:=hZ.grown HR (by simp) (fun k hk=>(hc.lt k hk).1);obtain⟨A3,cA,rfl,HL,_,HI⟩:=ak hV;obtain⟨gA,rfl⟩:=HI (by omega);rw[N8]at hV H4 HL;obtain⟨f0,hS⟩:∃f0:Nat->Nat,f0=fun j=>(L.getD j 0).toNat:=⟨_,rfl⟩;have HN:aA w3 w.heap.size gA cA n f0:=by have:=hV;rw[NX,qC,NC,hT]at this;(have e:cH n (fun j=>(L.map Int.toNat).getD j 0)=cH n f0:=b9 n _ _ fun j hj=>by rw[hS];show(L.map Int.toNat).getD j 0=(L.getD j 0).toNat;rw[Nb,Nb,Np,Nd (by omega)];rfl);rw[e]at this;exact this
 have hB:∀j,j<n->f0 j<=1073741824:=by intro j hj;rw[hS];have:=(hM.2.2 _ (eF L j (by omega))).2;show(L.getD j 0).toNat<=_;omega
 have HJ:jO L=(List.range n).map fun j=>max (f0 j) 1:=by unfold jO;rw[hT,hS];rfl
 have hP:Hid (∀ (v:Value) (len:Nat->Nat) w',iu (jO L) most len->w'.ownsRow w.heap.size 3 1 v n (cH n len)->Below w.heap.size w w'->kJ w L most (.returned (.tuple #[v,.int .i64 0])) w'):=aa fun v len w' h1 h2 h3=>.inr ⟨hM,by omega,by omega,v,len,by rw[Nn];exact h1,rfl,by rw[hT];exact h2,h3⟩;have m1:decide ((most:Int)<12)=false:=aD (by omega);have m2:decide ((20:Int)<(most:Int))=false:=aD (by omega);have HH:=aa H4;have HA:=aa HN;have H8:=aa HK;have hE:=aa hB;have hR:=aa HJ;have HD:=aa Gb;have HX:=aa xW;generalize kJ w L most=PO at*;clear hL hT hM HU hc hZ H4 hV HR HK HI HL hS HN hB HJ;go_enter func172,ntmps172;go_wp2_with fail;refine HM.out.mono ?_;rintro e w' ⟨rfl,rfl⟩;clear HM;go_wp2_with (at_builtin;refine Lib.wpList_append_run _ rfl (.tmp 22) (.tmp 23) 57 57 rfl (.slice (some ⟨w'.heap.size,0,none⟩) 0 0) (.slice A n c) rfl rfl _ w3 HH.out ?_)
 go_loopw [7] (fun x wx=>∃i:Nat,i<=n/\x=.int .i64 i/\aA wx w'.heap.size gA cA n (fun j=>if j<i then max (f0 j) 1 else f0 j)/\Below w'.heap.size w' wx) (fun x _=>n-(intOf x).toNat)
 case atStart=>refine⟨0,Nh _,rfl,?_,H8.out⟩;have e0:(fun j=>if j<0 then max (f0 j) 1 else f0 j)=f0:=(by funext j;rw[Nf (by omega)]);rw[e0];exact HA.out
 case round=>
  obtain⟨i,hi,rfl,hf,hb⟩:=hrel;by_cases e:i<n
  ·have di:decide ((i:Int)<(n:Int))=true:=aX (by omega);have p5:(0:Int)<=(i:Int):=(by omega);have ci:=hf.cell i e;have fi:=hf.frozen i;rw[Nf (by omega)]at ci;have hg:=hf.lt;obtain⟨x,hx⟩:∃x,x=f0 i:=⟨_,rfl⟩;rw[<- hx]at ci;have hO:∀m:Nat,m=max x 1->(fun j=>if j=i then m else if j<i then max (f0 j) 1 else f0 j)=fun j=>if j<i+1 then max (f0 j) 1 else f0 j:=by
    intro m hm;funext j;by_cases ej:j=i;·rw[Ng ej,Ng (by omega),ej,hm,hx]
    ·rw[Nf ej];by_cases ej2:j<i;·rw[Ng ej2,Ng (by omega)]
     ·rw[Nf ej2,Nf (by omega)]
   have HC:=aa hO;have HF:=aa hf;have HB:=aa hb;have HT:w'.heap.size<=gA:=hg.1;have HZ:x<=1073741824:=(by rw[hx];exact hE.out i e);clear hf hb hO hx hg;by_cases h0:x=0
   ·subst h0;have hs:=HF.out.set i 1;rw[HC.out 1 rfl]at hs;have HS:=aa hs;have hC:=aa (HB.out.setCell (p:=⟨gA,i,none⟩) HT (.int .i64 ((1:Nat):Int)));clear hs;go_wp2_with fail;go_roundw;case rel=>exact⟨i+1,by omega,by go_num,HS.out,hC.out⟩
    case measure=>simp[intOf];omega
   ·have hs:=HF.out.set i x;rw[HC.out x (by omega)]at hs;have HS:=aa hs;have hC:=aa (HB.out.setCell (p:=⟨gA,i,none⟩) HT (.int .i64 (x:Int)));have p7:¬((x:Int)<1):=(by omega);clear hs;go_wp2_with fail;go_roundw;case rel=>exact⟨i+1,by omega,by go_num,HS.out,hC.out⟩
    case measure=>simp[intOf];omega
  ·obtain rfl:i=n:=(by omega);have di:decide ((i:Int)<(i:Int))=false:=aD (by omega);have ho:aA wr w'.heap.size gA cA i (fun j=>max (f0 j) 1):=(by have h3:wr.ownsRow w'.heap.size 3 1 (.slice (some ⟨gA,0,none⟩) i cA) i (cH i fun j=>if j<i then max (f0 j) 1 else f0 j):=hf;rw[b9 i _ (fun j=>max (f0 j) 1) fun j hj=>Ng hj]at h3;exact h3);(have h6:∀j,j<i->(fun j=>max (f0 j) 1) j<=1073741824:=fun j hj=>by have:=hE.out j hj;show max (f0 j) 1<=_;omega);have hv:=HD.out wr (some ⟨gA,0,none⟩) i cA _ ho.ints (by omega) (by omega) (qJ i _ (by omega) h6);rw[<- hR.out]at hv;have hH:=aa hv;have hD:=aa ho;have hA:=aa hb;have H3:=ho.lt;clear hf hb ho hv h6;go_wp2_with fail;refine hH.out.mono ?_;rintro e w5 ⟨gX,cX,len,h5,rfl,HO,H0⟩;have H5:=hA.out.size
   have he:Mn w' w5 (jO L) i most gA cA 0 (.slice (some ⟨gX,0,none⟩) i cX):=
    ⟨gX,cX,len,_,by omega,rfl,hD.out.below H0 H3.2,HO.lower H5,hR.out,h5,(fun j hj=>by
      have:=hE.out j hj
      show max (f0 j) 1<=_
      omega),(fun q hq=>by omega),hA.out.trans (H0.mono H5)⟩
   have hl:=aa he
   have hJ:Hid ((jO L).length=i/\∀x∈jO L,x<=2^30):=aa (by
    rw[hR.out]
    refine⟨by simp,fun x hx=> ?_⟩
    obtain⟨j,hj,rfl⟩:=List.mem_map.1 hx
    have:=hE.out j (List.mem_range.1 hj)
    show max (f0 j) 1<=2^30
    omega)
   clear h5 HO H0 he H5 hR hE hD hA HA H8 HH hH;generalize jO L=W0 at*;go_wp2_with fail;(go_loopw [8,9,10] (fun v x z wx=>∃t:Nat,x=.int .i64 t/\Mn w' wx W0 i most gA cA t v) (fun _ x _ _=>41-(intOf x).toNat));case atStart=>exact⟨0,rfl,hl.out⟩
   case round=>
    clear hl;rename World=>w6;obtain⟨t,rfl,gY,cY,len,f,ht,rfl,H2,hN,hw,h5,hB,hq,hb⟩:=hrel;have hQ:=aa H2;have hW:=aa hN;have hX:=aa hw;have h7:=aa h5;have hG:=aa hB;have HQ:=aa hq;have HB:=aa hb;have p1:=hb.size;(have h8:(∀ j,j<i->len j<=most)->PO (.returned (.tuple #[.slice (some ⟨gY,0,none⟩) i cY,.int .i64 0])) w6:=fun hall=>by have hm:iu (da W0 t) most len:=.done h5 (by rw[eR,hJ.out.1];exact hall);have HY:=nU (w:=W0) t (fun q hq2=>by rw[hJ.out.1];exact hq q hq2) hm;exact hP.out _ len w6 HY hN hb);have h4:=aa h8;by_cases e:t<40
    ·have dt:decide ((t:Int)<40)=true:=aX (by omega);have HG:=aa (HX.out w6 (some ⟨gY,0,none⟩) i cY _ hN.ints (by omega) (by omega));clear H2 hN hw h5 hB hq hb h8;go_wp2_with fail;refine HG.out.mono ?_;rintro e w7 ⟨g,rfl,hz,rfl⟩
     have hh:Hid ((∀ j,j<i->len j<=g)/\∃j,j<i/\len j=g):=aa (by
      refine⟨fun j hj=> ?_,?_⟩
      ·have h3:((List.range i).map len).getD j 0<=g:=hz.1 j hj
       rw[dB i len j hj]at h3
       exact h3
      ·obtain⟨j,hj,h⟩:=hz.2
       have h3:((List.range i).map len).getD j 0=g:=h
       rw[dB i len j hj]at h3
       exact⟨j,hj,h3⟩)
     clear hz HG;by_cases e2:most<g
     ·have HE:Hid (∀ q,q<t+1->∃L1,lj (da W0 q) L1/\∃j,j<i/\most<L1 j):=aa (by
       intro q hq
       by_cases eq:q=t
       ·subst eq
        obtain⟨j,hj,h⟩:=hh.out.2
        exact⟨len,h7.out,j,hj,by rw[h];exact e2⟩
       ·exact HQ.out q (by omega))
      clear h4 hh HQ h7 hW;go_wp2_with fail;(go_loopw [10] (fun z wx=>∃j:Nat,j<=i/\z=.int .i64 j/\aA wx w'.heap.size gA cA i (fun a=>if a<j then f a/2+1 else f a)/\Below w'.heap.size w' wx) (fun z _=>i-(intOf z).toNat));case atStart=>refine⟨0,Nh _,rfl,?_,HB.out⟩;have e0:(fun a=>if a<0 then f a/2+1 else f a)=f:=(by funext a;rw[Nf (by omega)]);rw[e0];exact hQ.out
      case round=>
       clear hQ HB p1;rename World=>w8;obtain⟨j,hj,rfl,hu,hK⟩:=hrel;by_cases e3:j<i
       ·have p6:(0:Int)<=(j:Int):=(by omega);have cj:=hu.cell j e3;have fj:=hu.frozen j;rw[Nf (by omega)]at cj;have hg:=hu.lt;obtain⟨x,hx⟩:∃x,x=f j:=⟨_,rfl⟩;rw[<- hx]at cj;obtain⟨y,hy⟩:∃y,y=x/2:=⟨_,rfl⟩;obtain⟨y1,HV⟩:∃y1,y1=y+1:=⟨_,rfl⟩;have pf:(x:Int)/2=(y:Int):=(by omega);have HZ:x<=1073741824:=(by rw[hx];exact hG.out j e3);have pb:y<=1073741824:=(by omega);have p0:(y:Int)+1=(y1:Int):=(by omega);have hs:=hu.set j y1;have hO:(fun a=>if a=j then y1 else if a<j then f a/2+1 else f a)=fun a=>if a<j+1 then f a/2+1 else f a:=by
         funext a;by_cases ea:a=j;·rw[Ng ea,Ng (by omega),ea,HV,hy,hx]
         ·rw[Nf ea];by_cases ea2:a<j;·rw[Ng ea2,Ng (by omega)]
          ·rw[Nf ea2,Nf (by omega)]
        rw[hO]at hs;have HS:=aa hs;have hC:=aa (hK.setCell (p:=⟨gA,j,none⟩) hg.1 (.int .i64 (y1:Nat)));clear hu hK hs hO hx hy HV hg;go_wp2_with fail;go_roundw;case rel=>exact⟨j+1,by omega,by go_num,HS.out,hC.out⟩
        case measure=>simp[intOf];omega
       ·obtain rfl:j=i:=(by omega);have ho:aA w8 w'.heap.size gA cA j (fun a=>f a/2+1):=(by have h3:w8.ownsRow w'.heap.size 3 1 (.slice (some ⟨gA,0,none⟩) j cA) j (cH j fun a=>if a<j then f a/2+1 else f a):=hu;rw[b9 j _ (fun a=>f a/2+1) fun a ha=>Ng ha]at h3;exact h3);(have h6:∀a,a<j->(fun a=>f a/2+1) a<=1073741824:=fun a ha=>by have:=hG.out a ha;show f a/2+1<=_;omega);have h9:da W0 (t+1)=(List.range j).map fun a=>f a/2+1:=(by rw[da,hX.out,tT]);have hv:=HD.out w8 (some ⟨gA,0,none⟩) j cA _ ho.ints (by omega) (by omega) (qJ j _ (by omega) h6);rw[<- h9]at hv;have hI:=aa hv;have hD:=aa ho;have hA:=aa hK;have hF:=aa h6;have hp:=aa h9;have H3:=ho.lt;have HW:=hK.size;clear hu hK ho hv h6 h9;go_wp2_with fail;refine hI.out.mono ?_;rintro e w9 ⟨gZ,cZ,len2,hr,rfl,HP,H1⟩
        have he:Mn w' w9 W0 j most gA cA (t+1) (.slice (some ⟨gZ,0,none⟩) j cZ):=
         ⟨gZ,cZ,len2,_,by omega,rfl,hD.out.below H1 H3.2,HP.lower HW,hp.out,hr,hF.out,HE.out,hA.out.trans (H1.mono HW)⟩
        have hl:=aa he;clear hr HP H1 he hI hD hA hF hp HE;go_wp2_with fail;go_roundw;case rel=>exact⟨t+1,by go_num,hl.out⟩
        case measure=>simp[intOf];omega
     ·have hY:=aa (h4.out fun j hj=>by
       have:=hh.out.1 j hj
       omega)
      clear h4 hh HQ h7 hW hQ HB;go_wp2_with fail;exact hY.out
    ·have dt:decide ((t:Int)<40)=false:=aD (by omega)
     have hY:=aa (h4.out fun j hj=>by
      have:=rk (w:=W0) hJ.out.2 (by rw[hJ.out.1];exact hn) t (by omega) h7.out j (by rw[hJ.out.1];exact hj)
      omega)
     clear h4 HQ h7 hW hQ HB H2 hN hw h5 hB hq hb h8;go_wp2_with fail;exact hY.out
def bB(L:List Int):Nat:=(L.map fun x=>2^(20-x.toNat)).sum
def a6(L:List Int):Prop:=2<=L.length/\L.length<=258/\(∀ x∈L,1<=x/\x<=20)/\bB L<=1048576
instance (L:List Int):Decidable (a6 L):=inferInstanceAs (Decidable (_/\_))
def rE(L:List Int):Int:=if a6 L then(bB L:Nat)else -1
theorem t9(L:List Int)(x:Int):bB (L++ [x])=bB L+2^(20-x.toNat):=by unfold bB;rw[NF,List.sum_append];simp
theorem Jy(L:List Int)(h:∀x∈L,1<=x):bB L<=524288*L.length:=by
 unfold bB
 have h1:=uR 524288 (L.map fun x=>2^(20-x.toNat)) (fun y hy=>by
  obtain⟨x,hx,rfl⟩:=List.mem_map.1 hy
  have:=h x hx
  have h2:2^(20-x.toNat)<=2^19:=Oj (by decide) (by omega)
  exact h2)
 rw[NC]at h1;exact h1
theorem Ke(w:World)(A:Option Addr)(n c:Nat)(L:List Int)(hL:ZIn w A n L)(hn:n<=maxLen):Calls prog 185 #[.slice A n c] w fun e w'=>e=.returned (.int .i64 (rE L))/\w'=w:=by
 unfold maxLen at hn;have hp:=hL.1;have HL:=aa hL;have hf:=aa hp;have h9:Hid (∀ x∈L,(x<1\/20<x)->rE L= -1):=aa fun x hx h=>Nf fun hm=>by have:=hm.2.2.1 x hx;omega
 have h5:Hid ((n<2\/258<n)->rE L= -1):=aa fun h=>Nf fun hm=>by have:=hm.1;have:=hm.2.1;omega
 have h6:Hid (1048576<bB L->rE L= -1):=aa fun h=>Nf fun hm=>by have:=hm.2.2.2;omega
 have h7:Hid (2<=n->n<=258->(∀ x∈L,1<=x/\x<=20)->bB L<=1048576->rE L=(bB L:Nat)):=aa fun h1 h2 h3 h4=>Ng ⟨by omega,by omega,h3,h4⟩;clear hL hp;generalize rE L=ans at*;go_enter func185,ntmps185;go_wp2_with fail;go_loopw [3,4] (fun s i wx=>∃(q:Nat) (v:Int),q<=n/\i=.int .i64 q/\s=.int .i64 v/\Hid (q<=1000000->v=(bB (L.take q):Nat))/\Hid (∀ x∈L.take q,1<=x/\x<=20)/\wx=w) (fun _ i _=>n-(intOf i).toNat)
 case atStart=>exact⟨0,0,Nh _,rfl,rfl,fun _=>rfl,by simp[Hid],rfl⟩
 case round=>
  obtain⟨q,v,hq,rfl,rfl,hk,hv,rfl⟩:=hrel;by_cases e:q<n
  ·obtain⟨b,off,rfl,hc⟩:=HL.out.2 (by omega);have hw:=hc q e;have hi:=dY L q (by rw[hf.out];exact e);have ha:=eF L q (by rw[hf.out];exact e);obtain⟨x,hx⟩:∃x,x=L.getD q 0:=⟨_,rfl⟩;rw[<- hx]at hw hi ha;have hj:=aa hi;have HM:=aa ha;clear hc hx hi ha;by_cases e1:x<1;·have d1:decide (x<1)=true:=No e1;have h0:=h9.out x HM.out (.inl e1);subst h0;clear h5 h6 h7;go_wp2_with fail;go_ret;exact⟨rfl,rfl⟩
   ·have d1:decide (x<1)=false:=Nk e1;by_cases e2:20<x;·have d2:decide (20<x)=true:=No e2;have h0:=h9.out x HM.out (.inr e2);subst h0;clear h5 h6 h7;go_wp2_with fail;go_ret;exact⟨rfl,rfl⟩
    ·obtain⟨y,rfl⟩:∃y:Nat,x=y:=⟨x.toNat,by omega⟩;have d2:decide ((20:Int)<(y:Int))=false:=Nk e2;have h8:∀z∈L.take (q+1),1<=z/\z<=20:=by
      rw[hj.out];intro z hz;rcases List.mem_append.1 hz with hz|hz;·exact hv.out z hz
      ·rw[List.mem_singleton.1 hz];omega
     have hl:=aa h8;obtain⟨d,hd⟩:∃d,d=20-y:=⟨_,rfl⟩;have hA:(20:Int)-(y:Int)=(d:Int):=(by omega);have hg:d<=19:=(by omega);obtain⟨t,ht⟩:∃t:Nat,t=2^d:=⟨_,rfl⟩;have hB:((2:Int)^d)=(t:Int):=(by rw[ht];simp);have hy:t<=524288:=(by rw[ht];exact Oj (by decide) hg);have ho:bB (L.take (q+1))=bB (L.take q)+t:=(by rw[hj.out,t9,ht,hd,Nn]);have hh:=Jy (L.take q) fun z hz=>(hv.out z hz).1;have hr:(L.take q).length<=q:=(by rw[Nz];omega);have hu:=aa ho;have hC:¬(y:Int)<1:=e1;clear h8 hd ht ho e1;by_cases e3:q+1<=1000000
     ·have he:=hk.out (by omega);obtain⟨z,hz⟩:∃z,z=bB (L.take q):=⟨_,rfl⟩;rw[<- hz]at he hh;have HZ:=aa hz;subst he;have hD:z<=524288000000:=(by have:524288*(L.take q).length<=524288*1000000:=Q9 _ (by omega);omega);(have hs:Hid (q+1<=1000000->(z:Int)+(t:Int)=(bB (L.take (q+1)):Nat)):=aa fun _=>by rw[hu.out,<-HZ.out];simp);clear hz hk hh hr h9 h5 h6 h7;go_wp2_with fail;go_roundw;case rel=>exact⟨q+1,_,by omega,by go_num,rfl,hs,hl,trivial⟩
      case measure=>simp[intOf];omega
     ·clear hh hr hk h9 h5 h6 h7;go_wp2_with fail;go_roundw;case rel=>exact⟨q+1,_,by omega,by go_num,rfl,fun h=>absurd h e3,hl,trivial⟩
      case measure=>simp[intOf];omega
  ·obtain rfl:q=n:=(by omega);have h8:=hv.out;have hb:=hk.out;rw[Nt (Ox hf.out)]at h8 hb;by_cases h1:q<2;·have d1:decide ((q:Int)<2)=true:=aX (by omega);have h0:=h5.out (.inl h1);subst h0;clear h8 hb hk hv h9 h5 h6 h7;go_wp2_with fail;go_ret;exact⟨rfl,rfl⟩
   ·have d1:decide ((q:Int)<2)=false:=aD (by omega);by_cases h2:258<q;·have d2:decide ((258:Int)<(q:Int))=true:=aX (by omega);have h0:=h5.out (.inr h2);subst h0;clear h8 hb hk hv h9 h5 h6 h7;go_wp2_with fail;go_ret;exact⟨rfl,rfl⟩
    ·have d2:decide ((258:Int)<(q:Int))=false:=aD (by omega);have he:=hb (by omega);obtain⟨z,hz⟩:∃z,z=bB L:=⟨_,rfl⟩;rw[<- hz]at he;subst he;by_cases h3:1048576<z;·have d3:decide ((1048576:Int)<(z:Int))=true:=aX (by omega);have h0:=h6.out (by rw[<- hz];exact h3);subst h0;clear h8 hb hk hv h9 h5 h6 h7 hz;go_wp2_with fail;go_ret;exact⟨rfl,rfl⟩
     ·have d3:decide ((1048576:Int)<(z:Int))=false:=aD (by omega);have h0:=h7.out (by omega) (by omega) h8 (by rw[<- hz];omega);rw[<- hz]at h0;subst h0;clear h8 hb hk hv h9 h5 h6 h7 hz;go_wp2_with fail;go_ret;exact⟨rfl,rfl⟩
theorem vV(w:World)(A:Option Addr)(n c:Nat)(L:List Int)(hL:ZIn w A n L)(hn:n<=maxLen):Calls prog 136 #[.slice A n c] w fun e w'=>e=.returned (.int .i64 (if a6 L then 0 else 80))/\w'=w:=by
 have HR:=aa (Ke w A n c L hL hn);clear hL;by_cases h:a6 L;·rw[show rE L=(bB L:Nat)from Ng h]at HR;rw[Ng h];obtain⟨z,hz⟩:∃z,z=bB L:=⟨_,rfl⟩;rw[<- hz]at HR;have d0:decide ((z:Int)<0)=false:=aD (by omega);clear h hz;go_enter func136,ntmps136;go_wp2_with fail;refine HR.out.mono ?_;rintro e w' ⟨rfl,rfl⟩;go_wp2_with fail;go_ret;exact⟨rfl,rfl⟩
 ·rw[show rE L= -1 from Nf h]at HR;rw[Nf h];clear h;go_enter func136,ntmps136;go_wp2_with fail;refine HR.out.mono ?_;rintro e w' ⟨rfl,rfl⟩;go_wp2_with fail;go_ret;exact⟨rfl,rfl⟩
def sA(w:World)(L:List Int)(e:Ending)(w':World):Prop:=
 (¬ jk L/\∃v,e=.returned (.tuple #[v,.int .i64 2])/\w'.ownsRow w.heap.size 3 1 v 0 []/\Below w.heap.size w w')\/
 (jk L/\∃v k,2^k<=L.length/\L.length<2^(k+1)/\e=.returned (.tuple #[v,.int .i64 0])/\w'.ownsRow w.heap.size 3 1 v L.length (cH L.length (bZ k (2^(k+1)-L.length) (jO L)))/\Below w.heap.size w w')
theorem Bl:∀(l:List Nat) (x:Nat),(∀ y∈l,1<=y)->x∈l->x+(l.length-1)<=l.sum
 | [],x,_,hx=>absurd hx ar
 | z::l,x,h,hx=>by
  have hl:∀l:List Nat,(∀ y∈l,1<=y)->l.length<=l.sum:=by
   intro l
   induction l with
   | nil=>intro _;exact Nm _
   | cons a l ih=>intro h;have:=ih fun y hy=>h y (Nu _ hy);have:=h a Nl;rw[Nv,PE];omega
  rw[Nv,PE];rcases List.mem_cons.1 hx with rfl|hx;·have:=hl l fun y hy=>h y (Nu _ hy);omega
  ·have h1:=Bl l x (fun y hy=>h y (Nu _ hy)) hx;have h2:=h z Nl;have h3:0<l.length:=PI hx;omega
def Gj(a:List Nat):List Int:=a.map fun(x:Nat)=>(x:Int)
theorem JB{n:Nat}{len:Nat->Nat}(h2:2<=n)(hn:n<=258)(hl:∀i,i<n->len i<=20)(hs:((List.range n).map fun i=>2^(20-len i)).sum=2^20):a6 (Gj ((List.range n).map len))/\bB (Gj ((List.range n).map len))=1048576:=by
 have hk:bB (Gj ((List.range n).map len))=1048576:=by unfold bB Gj;rw[Ov,Ov];have e:(((fun x:Int=>2^(20-x.toNat)) ∘ fun(x:Nat)=>(x:Int)) ∘ len)=fun i=>2^(20-len i):=(by funext i;show 2^(20-((len i:Nat):Int).toNat)=_;rw[Nn]);rw[e,hs]
 have h3:(Gj ((List.range n).map len)).length=n:=by simp[Gj]
 refine⟨⟨by rw[h3];exact h2,by rw[h3];exact hn,fun x hx=> ?_,by rw[hk];exact Nm _⟩,hk⟩;obtain⟨y,hy,rfl⟩:=List.mem_map.1 hx;obtain⟨i,hi,rfl⟩:=List.mem_map.1 hy;have hi:=List.mem_range.1 hi;have h4:=hl i hi;have h1:1<=len i:=by
  rcases PT (len i)with h0|h0
  ·exfalso;have hm:2^20∈(List.range n).map fun i=>2^(20-len i):=List.mem_map.2 ⟨i,List.mem_range.2 hi,by rw[h0]⟩
   have:=Bl _ _ (fun y hy=>by
    obtain⟨j,_,rfl⟩:=List.mem_map.1 hy
    exact Nat.one_le_two_pow) hm
   rw[hs,NC,NK]at this;omega
  ·exact h0
 omega
theorem JD(w:World)(L:List Nat):aw (w.alloc (.cells (L.map iv).toArray 3)) (some ⟨w.heap.size,0,none⟩) L.length L:=by refine⟨rfl,fun _=>⟨w.heap.size,0,rfl,fun i hi=> ?_⟩⟩;rw[N8,ac (aj w 3 _)];simp[iv,hi]
