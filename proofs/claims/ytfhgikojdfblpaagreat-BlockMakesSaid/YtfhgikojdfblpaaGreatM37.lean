import Derived.Test.YtfhgikojdfblpaaGreatM16
import Derived.Test.YtfhgikojdfblpaaGreatM04
import Derived.Laws.IdiomCopy
set_option maxHeartbeats 1600000
set_option maxRecDepth 100000
namespace Go.Proofs.YtfhgikojdfblpaaGreat
open _root_.Go.Proofs.Tryz
open Go.RowKit
theorem mR(w:World)(n:Int):Calls prog 123 #[.int .i64 n] w fun e w'=>e=.returned (.bool (decide (3<=n/\n<=258)))/\w=w':=by
 by_cases h1:3<=n
 ·by_cases h2:n<=258;·have d1:decide (n<=(258:Int))=true:=Nn h2;have hd:decide (3<=n/\n<=258)=true:=Nn ⟨h1,h2⟩;go_enter func123,ntmps123;go_wp2_with fail;go_ret;first|exact⟨rfl,rfl⟩|(rw [hd];exact⟨rfl,rfl⟩)
  ·have d1:decide (n<=(258:Int))=false:=Nl h2;have hd:decide (3<=n/\n<=258)=false:=aR;go_enter func123,ntmps123;go_wp2_with fail;go_ret;first|exact⟨rfl,rfl⟩|(rw [hd];exact⟨rfl,rfl⟩)
 ·have hd:decide (3<=n/\n<=258)=false:=aR;go_enter func123,ntmps123;go_wp2_with fail;go_ret;first|exact⟨rfl,rfl⟩|(rw [hd];exact⟨rfl,rfl⟩)
theorem kx(w:World)(m:Nat)(hm:m<=4000000000000000000):Calls prog 52 #[.int .i64 m] w fun e w'=>e=.returned (.int .i64 (aH m:Nat))/\w=w':=by obtain⟨q,hq⟩:∃q,q=aH m:=⟨_,rfl⟩;rw[<- hq];unfold aH at hq;obtain⟨m1,h1⟩:∃m1,m1=m+50:=⟨_,rfl⟩;obtain⟨m2,h0⟩:∃m2,m2=m+49:=⟨_,rfl⟩;have z1:(m:Int)+50=(m1:Int):=(by omega);have z2:(m1:Int)-1=(m2:Int):=(by omega);have z3:(m2:Int)/50=(q:Int):=(by rw[hq,h0];omega);have b3:q<=5000000000000000000:=(by omega);clear hq h1 h0;go_enter func52,ntmps52;go_wp2_with fail;go_ret;exact⟨rfl,rfl⟩
theorem rB{L:List Int}{n:Nat}{a b m:Int}(hl:L.length=n)(ha:(∀ i,i<n->a<=L.getD i 0)/\∃i,i<n/\L.getD i 0=a)(hb:(∀ i,i<n->L.getD i 0<=b)/\∃i,i<n/\L.getD i 0=b):
 (∀ x∈L,0<=x/\x<m)↔0<=a/\b<m:=by
 have hg:∀i,i<n->L.getD i 0∈L:=fun i hi=>by rw[Na,Nc (by omega)];exact NM _
 refine⟨fun h=> ?_,fun h x hx=> ?_⟩;·obtain⟨i,hi,h0⟩:=ha.2;obtain⟨j,hj,h3⟩:=hb.2;have h1:=h _ (hg i hi);have h2:=h _ (hg j hj);omega
 ·obtain⟨i,hi,rfl⟩:=Pr hx;have h1:=ha.1 i (by omega);have h2:=hb.1 i (by omega);rw[Na,Nc hi]at h1 h2;simp only[Option.getD_some]at h1 h2;omega
theorem wn(w:World)(A:Option Addr)(n c:Nat)(L:List Int)(m:Int)(hL:ZIn w A n L)(hn:n<=maxLen):
 Calls prog 83 #[.slice A n c,.int .i64 m] w fun e w'=>e=.returned (.bool (decide (eY L m)))/\w'=w:=by
 have hl:=hL.1;have HE:=aa (mR w m);unfold maxLen at hn;by_cases h1:3<=m/\m<=258
 ·rw[Nn h1]at HE;by_cases h2:n<1;·have d2:decide ((n:Int)<1)=true:=bE;(have hd:decide (eY L m)=false:=Nl fun h=>by have:=h.2.2.1;omega);rw[hd];clear hd hL hl h1;go_enter func83,ntmps83;go_wp2_with fail;refine HE.out.mono ?_;rintro e w1 ⟨rfl,rfl⟩;go_wp2_with fail;go_ret;exact⟨rfl,rfl⟩
  ·have d2:decide ((n:Int)<1)=false:=aR;by_cases h3:1638350<n;·have d3:decide ((1638350:Int)<(n:Int))=true:=bE;(have hd:decide (eY L m)=false:=Nl fun h=>by have:=h.2.2.2.1;omega);rw[hd];clear hd hL hl h1 h3 h2;go_enter func83,ntmps83;go_wp2_with fail;refine HE.out.mono ?_;rintro e w1 ⟨rfl,rfl⟩;go_wp2_with fail;go_ret;exact⟨rfl,rfl⟩
   ·have d3:decide ((1638350:Int)<(n:Int))=false:=aR;obtain⟨ans,h0⟩:∃ans,ans=decide (eY L m):=⟨_,rfl⟩;rw[<- h0];have h9:=aa (sI w A n c L hL (by omega) (by unfold maxLen;omega));have h8:=aa (pV w A n c L hL (by omega) (by unfold maxLen;omega));have HD:Hid (∀ a b:Int,((∀ i,i<n->a<=L.getD i 0)/\∃i,i<n/\L.getD i 0=a)->((∀ i,i<n->L.getD i 0<=b)/\∃i,i<n/\L.getD i 0=b)->ans=decide (0<=a/\b<m)):=aa fun a b ha hb=>by
     have:=rB (m:=m) hl ha hb;rw[h0];congr 1;apply propext;constructor;·exact fun h=>this.1 h.2.2.2.2
     ·exact fun h=>⟨h1.1,h1.2,by omega,by omega,this.2 h⟩
    have HS:Hid (∃ b:Int,(∀ i,i<n->L.getD i 0<=b)/\∃i,i<n/\L.getD i 0=b):=aa (by
     have hc:∀k,1<=k->k<=n->∃b:Int,(∀ i,i<k->L.getD i 0<=b)/\∃i,i<k/\L.getD i 0=b:=by
      intro k
      induction k with
      | zero=>intro h;omega
      | succ k ih=>
        intro _ hk
        by_cases e:k=0
        ·subst e
         exact⟨L.getD 0 0,fun i hi=>by rw[show i=0 by omega];exact QW _,0,by omega,rfl⟩
        ·obtain⟨b,hb,j,hj,he⟩:=ih (by omega) (by omega)
         by_cases e2:L.getD k 0<=b
         ·refine⟨b,fun i hi=> ?_,j,by omega,he⟩
          by_cases e3:i=k
          ·rw[e3];exact e2
          ·exact hb i (by omega)
         ·refine⟨L.getD k 0,fun i hi=> ?_,k,by omega,rfl⟩
          by_cases e3:i=k
          ·rw[e3];exact QW _
          ·have:=hb i (by omega)
           omega
     exact hc n (by omega) (ag _))
    clear hL hl h1 h3 h0;go_enter func83,ntmps83;go_wp2_with fail;refine HE.out.mono ?_;rintro e w1 ⟨rfl,rfl⟩;clear HE;go_wp2_with fail;refine h9.out.mono ?_;rintro e w1 ⟨a,rfl,ha,rfl⟩;have h6:=aa (fun b=>HD.out a b ha);clear ha HD h9;by_cases h4:0<=a
    ·have d4:decide (0<=a)=true:=Nn h4;go_wp2_with fail;refine h8.out.mono ?_;rintro e w1 ⟨b,rfl,hb,rfl⟩;have h7:=aa (h6.out b hb);clear hb h6 h8 HS;by_cases h5:b<m;·have d5:decide (b<m)=true:=Nn h5;have hd:=h7.out.trans (Nn ⟨h4,h5⟩);subst hd;clear h7;go_wp2_with fail;go_ret;exact⟨rfl,rfl⟩
     ·have d5:decide (b<m)=false:=Nl h5;have hd:=h7.out.trans (Nl fun h=>h5 h.2);subst hd;clear h7;go_wp2_with fail;go_ret;exact⟨rfl,rfl⟩
    ·have d4:decide (0<=a)=false:=Nl h4;obtain⟨b,hb⟩:=HS.out;have hd:=(h6.out b hb).trans (Nl fun h=>h4 h.1);subst hd;clear h6 h8 HS hb;go_wp2_with fail;go_ret;exact⟨rfl,rfl⟩
 ·rw[Nl h1]at HE;have hd:decide (eY L m)=false:=Nl fun h=>h1 ⟨h.1,h.2.1⟩;rw[hd];clear hd hL hl h1;go_enter func83,ntmps83;go_wp2_with fail;refine HE.out.mono ?_;rintro e w1 ⟨rfl,rfl⟩;go_wp2_with fail;go_ret;exact⟨rfl,rfl⟩
theorem Ah(w:World)(m:Int):Calls prog 84 #[.int .i64 m] w fun e w'=>e=.returned (.tuple #[.int .i64 (bJ m).1,.int .i64 (bJ m).2])/\w'=w:=by
 by_cases h0:m<1;·rw[show bJ m=(0,2)from by unfold bJ bQ;(repeat' split) <;>first|rfl|omega];go_enter func84,ntmps84;go_wp2_with fail;go_ret2;exact⟨rfl,rfl⟩
 by_cases h1:m<200;·rw[show bJ m=(2,0)from by unfold bJ bQ;(repeat' split) <;>first|rfl|omega];go_enter func84,ntmps84;go_wp2_with fail;go_ret2;exact⟨rfl,rfl⟩
 by_cases h2:m<600;·rw[show bJ m=(3,0)from by unfold bJ bQ;(repeat' split) <;>first|rfl|omega];go_enter func84,ntmps84;go_wp2_with fail;go_ret2;exact⟨rfl,rfl⟩
 by_cases h3:m<1200;·rw[show bJ m=(4,0)from by unfold bJ bQ;(repeat' split) <;>first|rfl|omega];go_enter func84,ntmps84;go_wp2_with fail;go_ret2;exact⟨rfl,rfl⟩
 by_cases h4:m<2400;·rw[show bJ m=(5,0)from by unfold bJ bQ;(repeat' split) <;>first|rfl|omega];go_enter func84,ntmps84;go_wp2_with fail;go_ret2;exact⟨rfl,rfl⟩
 rw[show bJ m=(6,0)from by unfold bJ bQ;(repeat' split) <;>first|rfl|omega];go_enter func84,ntmps84;go_wp2_with fail;go_ret2;exact⟨rfl,rfl⟩
def cH(L:List Int)(k:Nat):List Int:=(L.drop (50*k)).take 50
theorem gw(L:List Int)(k:Nat):(cH L k).length=min 50 (L.length-50*k):=by unfold cH;rw[NB,Ny]
theorem ZIn.cut{w:World}{A:Option Addr}{n k a:Nat}{L:List Int}(h:ZIn w A n L)(h0:a+k<=n):ZIn w (Option.map (fun x=>x.add a) A) k ((L.drop a).take k):=by refine⟨by rw[NB,Ny,h.1];omega,fun hk=> ?_⟩;obtain⟨b,off,rfl,hc⟩:=h.2 (by omega);refine⟨b,off+a,by rw[Ov,OT],fun i hi=> ?_⟩;rw[OQ,hc (a+i) (by omega),Na,Na,PN,Nf hi,O3]
theorem FE(w:World)(A:Option Addr)(n c:Nat)(L:List Int)(k:Nat)(hL:ZIn w A n L)(he:n<=c)(hn:n<=2000000)(hk:50*k<n):
 Calls prog 54 #[.slice A n c,.int .i64 k] w fun e w'=>∃A2 c2,e=.returned (.slice A2 (cH L k).length c2)/\ZIn w A2 (cH L k).length (cH L k)/\(cH L k).length<=c2/\(∀ a,A2=some a->∃a0,A=some a0/\a.block=a0.block)/\w'=w:=by
 have h0:=hL.1;obtain⟨m,hm⟩:∃m,m=(cH L k).length:=⟨_,rfl⟩;have h5:m=min 50 (n-50*k):=by rw[hm,gw,h0]
 obtain⟨b,off,rfl,_⟩:=hL.2 (by omega);obtain⟨lo,h1⟩:∃lo,lo=50*k:=⟨_,rfl⟩;have hf:(k:Int)*50=(lo:Int):=by omega
 have hcut:=ZIn.cut (k:=m) (a:=lo) hL (by omega);have hp:(L.drop lo).take m=cH L k:=by
  unfold cH;rw[<- h1];by_cases e:m=50;·rw[e]
  ·rw[Nr (by rw[Ny];omega),Nr (by rw[Ny];omega)]
 rw[hp,Ov,OT]at hcut;rw[<- hm];have HC:=aa hcut;obtain⟨hi,h3⟩:∃hi,hi=lo+50:=⟨_,rfl⟩;have hg:(lo:Int)+50=(hi:Int):=by omega
 have h8:lo<=3000000:=by omega
 have h6:hi<=3000000:=by omega
 by_cases e:n<hi;·have d4:((n:Int)<(hi:Int)):=(by omega);have ha:(n:Int)-(lo:Int)=(m:Int):=(by omega);have hb:n-lo=m:=(by omega);have h2:(0:Int)<=(lo:Int):=(by omega);have h9:(lo:Int)<=(n:Int):=(by omega);have hc:(n:Int)<=(c:Int):=(by omega);clear hL hcut hp hm h5 h1 h0 h3;go_enter func54,ntmps54;go_wp2_with fail;go_ret;exact⟨_,_,rfl,HC.out,by omega,fun a h=>by cases h;first|rfl|exact⟨_,rfl,rfl⟩,rfl⟩
 ·have d4:¬((n:Int)<(hi:Int)):=(by omega);have ha:(hi:Int)-(lo:Int)=(m:Int):=(by omega);have hb:hi-lo=m:=(by omega);have h2:(0:Int)<=(lo:Int):=(by omega);have h4:(lo:Int)<=(hi:Int):=(by omega);have h7:(hi:Int)<=(c:Int):=(by omega);clear hL hcut hp hm h5 h1 h0 h3;go_enter func54,ntmps54;go_wp2_with fail;go_ret;exact⟨_,_,rfl,HC.out,by omega,fun a h=>by cases h;first|rfl|exact⟨_,rfl,rfl⟩,rfl⟩
theorem Ds(l:List Nat)(k:Nat):cH (l.map fun(x:Nat)=>(x:Int)) k=(bI l k).map fun(x:Nat)=>(x:Int):=by unfold cH bI;rw[R4,List.map_drop]
theorem tE(w:World)(A:Option Addr)(n c:Nat)(L:List Nat)(k:Nat)(hL:aB w A n L)(h0:n<=c)(hn:n<=2000000)(hk:50*k<n):
 Calls prog 54 #[.slice A n c,.int .i64 k] w fun e w'=>∃A2 c2,e=.returned (.slice A2 (bI L k).length c2)/\aB w A2 (bI L k).length (bI L k)/\(bI L k).length<=c2/\(∀ a,A2=some a->∃a0,A=some a0/\a.block=a0.block)/\w'=w:=by
 refine(FE w A n c _ k (dw hL) h0 hn hk).mono ?_;rintro e w' ⟨A2,c2,rfl,h1,h2,h3,rfl⟩;rw[Ds]at h1 h2 |-;rw[Nu]at h1 h2 |-;refine⟨A2,c2,rfl,?_,h2,h3,rfl⟩
 have h4:=dN h1 (fun x hx=>by
  obtain⟨y,_,rfl⟩:=List.mem_map.1 hx
  omega)
 rw[Ou]at h4;have e:(Int.toNat ∘ fun(x:Nat)=>(x:Int))=id:=by funext x;simp
 rw[e,QV]at h4;exact h4
theorem yp{l:List Nat}{x q:Nat}(h:q<aX l x):l.getD q 0≠x:=by
 induction l generalizing q with
 | nil=>exact absurd h (O4 _)
 | cons y l ih=>
  rw[aX]at h;by_cases e:y=x;·rw[Nf e]at h;exact absurd h (O4 _)
  ·rw[Nd e]at h
   match q with
   | 0=>exact e
   | q+1=>exact ih (by omega)
theorem CE(w:World)(A:Option Addr)(n c:Nat)(L:List Nat)(x:Nat)(hL:aB w A n L)(hx:x∈L)(hn:n<=1000000):
 Calls prog 31 #[.slice A n c,.int .i64 x] w fun e w'=>e=.returned (.int .i64 (aX L x:Nat))/\w'=w:=by
 have hp:=fh L x hx;rw[hL.1]at hp;have HB:Hid (∀ q,q<aX L x->L.getD q 0≠x):=aa fun q hq=>yp hq;obtain⟨p,h1⟩:∃p,p=aX L x:=⟨_,rfl⟩;rw[<- h1]at hp HB |-;obtain⟨h5,h2⟩:=hp;obtain⟨b,off,rfl,hc⟩:=hL.2 (by omega);have HC:=aa hc;have h3:=aa h2;clear hL hx hc h1 h2;go_enter func31,ntmps31;go_wp2_with fail;go_loopw [5,8] (fun s5 iv' wx=>∃q:Nat,q<=p/\iv'=.int .i64 q/\wx=w) (fun _ iv' _=>n-(intOf iv').toNat)
 case atStart=>exact⟨0,Ng _,rfl,rfl⟩
 case round=>
  obtain⟨q,hq,rfl,rfl⟩:=hrel;have h4:q<n:=by omega
  have cq:=HC.out q h4;by_cases e:q=p;·subst e;rw[h3.out]at cq;have d2:((x:Int)==(x:Int))=true:=O9 _;go_wp2_with fail;go_ret;exact⟨rfl,rfl⟩
  ·have h0:=HB.out q (by omega);obtain⟨y,hy⟩:∃y,y=L.getD q 0:=⟨_,rfl⟩;rw[<- hy]at cq h0;have d2:((x:Int)==(y:Int))=false:=(by rw[NC];omega);have d3:(x==y)=false:=(by rw[NC];exact fun h=>h0 h.symm);have e2:q+1<=p:=(by omega);clear hy h0;go_wp2_with fail;go_roundw;case rel=>exact⟨q+1,e2,by go_num,trivial⟩
   case measure=>simp[intOf];omega
theorem pE(w:World)(n:Nat)(hn:n<=1000):
 Calls prog 95 #[.int .i64 n] w fun e w'=>e=.returned (.slice (some ⟨w.heap.size,0,none⟩) n n)/\az w' w.heap.size w.heap.size n n (fun j=>j)/\Below w.heap.size w w':=by
 have h4:=bu w n (by omega);have HM:=aa (bf w w.heap.size n (ag _) (by omega));have h1:=aa ((Nj w.heap.size w).alloc (ag _) (.cells (madeCells #[.int .i64 0] n) 3));go_enter func95,ntmps95;go_wp2_with fail;go_loopw [4,9] (fun s4 iv' wx=>∃i:Nat,i<=n/\iv'=.int .i64 i/\az wx w.heap.size w.heap.size n n (fun j=>if j<i then j else 0)/\Below w.heap.size w wx) (fun _ iv' _=>n-(intOf iv').toNat)
 case atStart=>refine⟨0,Ng _,rfl,?_,h1.out⟩;have e:(fun j=>if j<0 then j else 0)=fun _=>0:=(by funext j;rw[Nd]);rw[e];exact HM.out
 case round=>
  clear HM h1 h4;obtain⟨i,hi,rfl,hf,hb⟩:=hrel;by_cases e:i<n
  ·have h5:(0:Int)<=(i:Int):=(by omega);have c3:=hf.cell i e;have f3:=hf.frozen i;have hs:=hf.set i i;have h2:(fun s=>if s=i then i else if s<i then s else 0)=fun s=>if s<i+1 then s else 0:=by
    funext s;by_cases es:s=i;·rw[Nf es,Nf,es]
    ·rw[Nd es];by_cases e2:s<i;·rw[Nf e2,Nf]
     ·rw[Nd e2,Nd]
   rw[h2]at hs;have HS:=aa hs;have h0:=aa (hb.setCell (p:=⟨w.heap.size,i,none⟩) (ag _) (.int .i64 (i:Nat)));clear hf hb hs h2;go_wp2_with fail;go_roundw;case rel=>exact⟨i+1,by omega,by go_num,HS.out,h0.out⟩
   case measure=>simp[intOf];omega
  ·obtain rfl:i=n:=(by omega);have h3:wr.ownsRow w.heap.size 3 1 (.slice (some ⟨w.heap.size,0,none⟩) i i) i (cN i fun j=>if j<i then j else 0):=hf;rw[cw i _ (fun j=>j) fun j hj=>Nf hj]at h3;have HS:=aa h3;have h0:=aa hb;clear hf hb h3;go_wp2_with fail;go_ret;exact⟨rfl,HS.out,h0.out⟩
theorem iB{B g c n:Nat}:∀(vs:List Nat) (o:Nat) (w:World) (f:Nat->Nat),az w B g c n f->az (w.setCells g o (vs.map iv)) B g c n (fun j=>if o<=j/\j<o+vs.length then vs.getD (j-o) 0 else f j)
 | [],o,w,f,h=>by have e:(fun j=>if o<=j/\j<o+([]:List Nat).length then([]:List Nat).getD (j-o) 0 else f j)=f:=(by funext j;rw[Nd (by simp)]);rw[e];exact h
 | v::vs,o,w,f,h=>by
  have h2:=iB vs (o+1) _ _ (h.set o v);have e:(fun j=>if o+1<=j/\j<o+1+vs.length then vs.getD (j-(o+1)) 0 else if j=o then v else f j)=fun j=>if o<=j/\j<o+(v::vs).length then(v::vs).getD (j-o) 0 else f j:=by
   funext j;by_cases e1:j=o;·rw[Nd,Nf e1,Nf (by simp;omega),e1,Oz];rfl
   ·by_cases e2:o+1<=j/\j<o+1+vs.length;·rw[Nf e2,Nf (by simp;omega),show j-o=(j-(o+1))+1 by omega];rfl
    ·rw[Nd e2,Nd e1,Nd (by simp;omega)]
  rw[e]at h2;exact h2
theorem qU(w:World)(g i:Nat)(j:Nat):w.cell? ((⟨g,i,none⟩:Addr).add j)=w.cell? ⟨g,i+j,none⟩:=by congr 1;unfold Addr.add;split <;>simp_all
theorem wH{P:Program}{w w':World}{ops:Array Oper}{rest:List Oper}{o:Oper}{a:Act}{Q:Exit->Act->World->Prop}(h1:o.guard=none)(d s:Operand)(dT sT:TypeId)
 (ho:o.op=.call { callee:=.builtin .copy,args:=#[d,s],argTypes:=#[dT,sT] }) (dv sv:Value) (k:Nat) (hd:a.eval d=dv) (hs:a.eval s=sv) (h0:(Builtin.copy_ #[dT,sT] o.type #[dv,sv]).run P w=.ok (goInt k) w')
 (h:wpList P ops Q rest (a.put o.dst (goInt k)) w'):wpList P ops Q (o::rest) a w:=by refine wpList_plain h1 fun K hK=> ?_;unfold Oper.wp;simp[execOp,ho,resolve,invoke,builtin,hd,hs,h0,Result.andThen];exact hK _ _ h
theorem lJ{B:Nat}{w:World}{g:Nat}(hg:B<=g):∀(vs:List Value) (o:Nat) (w':World),Below B w w'->Below B w (w'.setCells g o vs)
 | [],_,_,h=>h
 | v::vs,o,_,h=>lJ hg vs (o+1) _ (h.setCell (p:=⟨g,o,none⟩) hg v)
def nc(f:Nat->Nat)(p j:Nat):Nat:=if j=0 then f p else if j<=p then f (j-1)else f j
def Ml(B:Nat)(w:World)(g n c:Nat)(f:Nat->Nat)(p:Nat)(e:Ending)(w':World):Prop:=e=.returned (.tuple #[])/\az w' B g c n (nc f p)/\ak B [g] [] w w'
theorem zP(B:Nat)(w:World)(g n c:Nat)(f:Nat->Nat)(p:Nat)(hf:az w B g c n f)(hp:p<n)(hi:n<=1000000):
 Calls prog 96 #[.slice (some ⟨g,0,none⟩) n c,.int .i64 p] w (Ml B w g n c f p):=by
 have hB:=hf.lt.1;obtain⟨A9,c9,hA,hl,_,_⟩:=ai hf;simp only[Ol]at hA;obtain⟨rfl,_,rfl⟩:=hA;obtain⟨i5,h5,hq,hh,hr⟩:=N4 Tryz.info3;have h9:(cN p f).length=p:=eI p f;have h7:∀j v,(cN p f)[j]? =some v->w.drew.cell? ((⟨g,0,none⟩:Addr).add j)=some v:=by intro j v hv;have hj:j<p:=(by have:=(List.getElem?_eq_some_iff.1 hv).1;omega);rw[qU,N8];show w.cell? _=_;rw[hf.cell j (by omega),<-hv,lC p f j hj];rfl
 have h8:∀v∈cN p f,v.oneCell'=true:=by intro v hv;unfold cN at hv;obtain⟨x,_,rfl⟩:=List.mem_map.1 hv;rfl
 have h4:∀ty,(Builtin.copy_ #[37,37] ty #[.slice (if c=1 then some ⟨g,0,none⟩else some ⟨g,1,none⟩) (n-1) (c-1),.slice (some ⟨g,0,none⟩) p c]).run prog w.drew=.ok (goInt p) (w.drew.setCells g 1 (cN p f)):=by
  intro ty;have h1:(prog.info? 3).map (·.size)=some 1:=by rw[h5];exact congrArg some hh
  by_cases h0:p=0;·subst h0;have:=fun d=>run_copy_none (P:=prog) w.drew 37 37 ty 3 d (some ⟨g,0,none⟩) (n-1) (c-1) 0 c underlying37 h1 (Nat.zero_min _);exact this _
  ·rw[Nd]
   have:=R3 (P:=prog) w.drew 37 37 ty 3 g 1 (n-1) (c-1) ⟨g,0,none⟩ p c (cN p f) underlying37 h1 (by rw[h9];exact(OJ (by omega)).symm) h7
    (fun j hj=>by
      rw[h9]at hj
      show(w.cell? _).isSome=true
      rw[hf.cell (1+j) (by omega)]
      rfl) (fun j hj=>hf.frozen (1+j)) h8
   rw[h9]at this;exact this
 obtain⟨x,hx⟩:∃x,x=f p:=⟨_,rfl⟩;have hg:=hf.cell p hp;rw[<- hx]at hg;have hm:(0:Int)<=(p:Int):=by omega
 have hn:(p:Int)<(n:Int):=by omega
 have ho:(p:Int)<=(c:Int):=by omega
 have hk:(1:Int)<=(n:Int):=by omega
 obtain⟨w2,ha⟩:∃w2,w2=w.drew.setCells g 1 (cN p f):=⟨_,rfl⟩;have h2:az w2 B g c n (fun j=>if 1<=j/\j<1+p then f (j-1)else f j):=by
  have h:=iB ((List.range p).map f) 1 w.drew f (hf.drew 1);have e:((List.range p).map f).map iv=cN p f:=by unfold cN;rw[Ou];rfl
  rw[e,<-ha]at h;have e2:(fun j=>if 1<=j/\j<1+((List.range p).map f).length then((List.range p).map f).getD (j-1) 0 else f j)=fun j=>if 1<=j/\j<1+p then f (j-1)else f j:=by
   funext j;rw[Nu,NE];by_cases e3:1<=j/\j<1+p;·rw[Nf e3,Nf e3,dE p f (j-1) (by omega)]
   ·rw[Nd e3,Nd e3]
  rw[e2]at h;exact h
 have h3:ak B [g] [] w w2:=by
  rw[ha];have he:∀(vs:List Value) (o:Nat) (w':World),ak B [g] [] w w'->ak B [g] [] w (w'.setCells g o vs):=by
   intro vs
   induction vs with
   | nil=>exact fun _ _ h=>h
   | cons v r ih=>exact fun o w' h=>ih (o+1) _ (h.set (p:=⟨g,o,none⟩) hB (List.mem_singleton.2 rfl) v)
  exact he _ _ _ (ak.refl B [g] [] w).drew
 rw[<- ha]at h4;have h0:=h2.cell 0 (by omega);have f0:=h2.frozen 0;have h6:Ml B w g n c f p (.returned (.tuple #[])) (w2.setCell ⟨g,0,none⟩ (.int .i64 x)):=by
  refine⟨rfl,?_,h3.set (p:=⟨g,0,none⟩) hB (List.mem_singleton.2 rfl) _⟩;have h:=h2.set 0 x;have e:(fun j=>if j=0 then x else if 1<=j/\j<1+p then f (j-1)else f j)=nc f p:=by
   funext j;unfold nc;by_cases e1:j=0;·rw[Nf e1,Nf e1,hx]
   ·rw[Nd e1,Nd e1];by_cases e2:j<=p;·rw[Nf,Nf e2]
    ·rw[Nd,Nd e2]
  rw[e]at h;exact h
 obtain⟨z,hz⟩:∃z:Nat,z=(if 1<=0/\0<1+p then f (0-1)else f 0):=⟨_,rfl⟩;rw[<- hz]at h0;have hb:=aa h6;have hc:=aa h4;clear h6 h4 ha h7 h8 h9 hf h2 h3 hz hx;generalize Ml B w g n c f p=PO at*;go_enter func96,ntmps96;go_upto_region 1 with fail;go_still_tail 5,(by kernel_rfl)
 change wpList _ _ _ _ _ w.drew;generalize (if c=1 then some (⟨g,0,none⟩:Addr)else some ⟨g,1,none⟩)=dA at*;refine wH rfl _ _ 37 37 rfl _ _ p rfl rfl (hc.out _) ?_;go_wp2_with fail;(try simp only[Exit.inBlock,Exit.then]);refine NH (Qc rfl _ _ _) rfl ?_;exact hb.out
def xy(B:Nat)(w:World)(g c n:Nat)(f:Nat->Nat)(L:List Nat)(e:Ending)(w':World):Prop:=e=.returned (.tuple #[])/\az w' B g c n (fun s=>f s+L.count s)/\ak B [g] [] w w'
theorem tD(L:List Nat)(i _:Nat)(h:i<L.length)(s:Nat):(L.take (i+1)).count s=(L.take i).count s+if L.getD i 0=s then 1 else 0:=by have e:L.take (i+1)=L.take i++ [L.getD i 0]:=(by rw[NF h,Na,Nc h];rfl);rw[e,List.count_append,List.count_singleton];simp only[Pn]
theorem zC(B:Nat)(w:World)(g c n:Nat)(f:Nat->Nat)(hf:az w B g c n f)(A:Option Addr)(m d:Nat)(L:List Nat)(hL:aB w A m L)(hA:∀a,A=some a->a.block≠g)(hm:m<=4000000)
 (h4:∀x∈L,x<n) (h6:∀s,s<n->f s<=4000000):
 Calls prog 88 #[.slice (some ⟨g,0,none⟩) n c,.slice A m d] w (xy B w g c n f L):=by
 have hh:=hf.lt.1;have h9:=hL.1;have HF:=aa hf;have HL:=aa hL;have hg:=aa h4;have h1:=aa h9;have he:=aa h6;have HA:=aa hA;clear hf hL h4 h9 h6 hA;go_enter func88,ntmps88;go_wp2_with fail;go_loopw [5,8] (fun s5 iv' wx=>∃i:Nat,i<=m/\iv'=.int .i64 i/\az wx B g c n (fun s=>f s+(L.take i).count s)/\ak B [g] [] w wx) (fun _ iv' _=>m-(intOf iv').toNat)
 case atStart=>refine⟨0,Ng _,rfl,?_,ak.refl _ _ _ _⟩;have e:(fun s=>f s+(L.take 0).count s)=f:=(by funext s;simp);rw[e];exact HF.out
 case round=>
  clear HF;obtain⟨i,hi,rfl,hf,hb⟩:=hrel;by_cases e:i<m
  ·have hn:(0:Int)<=(i:Int):=(by omega);have ho:(i:Int)<(m:Int):=(by omega);obtain⟨lb,lo,rfl,h8⟩:=HL.out.2 (by omega);have hk:lb≠g:=HA.out _ rfl;have h0:=h8 i e;have h2:=tD L i 0 (by rw[h1.out];exact e)
   have h3:L.getD i 0<n:=hg.out _ (by
    rw[Na,Nc (by rw[h1.out];exact e)]
    exact NM _)
   have c2:wr.cell? ⟨lb,lo+i,none⟩=some (.int .i64 (L.getD i 0:Nat)):=by
    unfold World.cell? at h0 |-;revert h0
    cases hw:w.heap[lb]? with
    | none=>simp
    | some o=>
     intro h0
     cases o with
     | cells cs t fr=>rw[show wr.heap[lb]? =some (.cells cs t fr)from hb.keep lb cs t fr hw (by simp;exact hk) aw];exact h0
     | _=>simp at h0
   have h5:(L.take i).count (L.getD i 0)<=i:=ND List.count_le_length (by rw[NB];omega);obtain⟨x,hx⟩:∃x,x=L.getD i 0:=⟨_,rfl⟩;rw[<- hx]at c2 h2 h3 h5;have c3:=hf.cell x h3;have f3:=hf.frozen x;have hj:=he.out x h3;obtain⟨v,hv⟩:∃v,v=f x+(L.take i).count x:=⟨_,rfl⟩;have hp:v<=8000000:=(by omega);rw[<- hv]at c3;obtain⟨v1,ha⟩:∃v1,v1=v+1:=⟨_,rfl⟩;have hq:(v:Int)+1=(v1:Int):=(by omega);have hs:=hf.set x v1;have h7:(fun s=>if s=x then v1 else f s+(L.take i).count s)=fun s=>f s+(L.take (i+1)).count s:=by
    funext s;rw[h2 s];by_cases es:s=x;·rw[Nf es,Nf es.symm,es,ha,hv];omega
    ·rw[Nd es,Nd (fun h=>es h.symm),NY]
   rw[h7]at hs;have HS:=aa hs;have hc:=aa (hb.set (p:=⟨g,x,none⟩) hh (List.mem_singleton.2 rfl) (.int .i64 (v1:Nat)));have hr:(0:Int)<=(x:Int):=(by omega);have hl:(x:Int)<(n:Int):=(by omega);clear hf hb h8 h0 h2 hx hv ha hs h7 h5 hj;go_wp2_with fail;go_roundw;case rel=>exact⟨i+1,by omega,by go_num,HS.out,hc.out⟩
   case measure=>simp[intOf];omega
  ·obtain rfl:i=m:=(by omega);rw[Nr (Oi h1.out)]at hf;have HP:Hid (xy B w g c n f L (.returned (.tuple #[])) wr):=aa ⟨rfl,hf,hb⟩;clear hf hb;generalize xy B w g c n f L=PO at*;go_wp2_with fail;(try simp only[Exit.inBlock,Exit.then]);refine NH (Qc rfl _ _ _) rfl ?_;exact HP.out
def xz(n0:Nat)(t:List Int):Prop:=¬(t.length=n0/\bK t)
instance (n0:Nat) (t:List Int):Decidable (xz n0 t):=inferInstanceAs (Decidable (¬ (_/\_)))
abbrev KV (bx:Nat):Value:=.func (.func 148) #[] #[.pointer (some ⟨bx,0,none⟩)]
theorem D7(w:World)(bx:Nat)(At:Option Addr)(q d:Nat)(T:List (List Int))(hb:Blk w bx 41 #[.slice At q d])(hT:vw w At q T)(hq:0<q)(_:q<=d)(_:q<=maxLen)
 (A:Option Addr) (n c:Nat) (L:List Int) (hL:ZIn w A n L) (hn:n<=maxLen):
 Calls prog 148 #[.slice A n c,.pointer (some ⟨bx,0,none⟩)] w fun e w'=>e=.returned (.bool (decide (xz (T.getD 0 []).length L)))/\w'=w:=by
 obtain⟨tb,tq,rfl,h5⟩:=hT.2 hq;obtain⟨A2,c2,h1,_,_,hm⟩:=h5 0 hq;rw[NY]at h1;have h3:=ac hb 0;have h2:=hL.1;have HC:=aa (lS w A n c L hL hn);obtain⟨m,h4⟩:∃m,m=(T.getD 0 []).length:=⟨_,rfl⟩;rw[<- h4]at h1 hm |-;have q0:w.cell? ⟨bx,0,none⟩=some (.slice (some ⟨tb,tq,none⟩) q d):=h3.trans rfl;obtain⟨ans,h0⟩:∃ans,ans=decide (xz m L):=⟨_,rfl⟩;rw[<- h0];unfold maxLen at hm hn;by_cases e:n=m
 ·by_cases e2:bK L;·rw[Nf e2]at HC;have ha:ans=false:=(by rw[h0];exact Nl fun h=>h ⟨h2.trans e,e2⟩);have dd:((n:Int) != (m:Int))=false:=(by rw[e];exact bne_self_eq_false _);have dn:(n:Int)=(m:Int):=(by rw[e]);subst ha;clear hL hT h5 hb h3 h0 h4 e e2 h2;go_enter func148,ntmps148;go_wp2_with fail;refine HC.out.mono ?_;rintro e w1 ⟨rfl,rfl⟩;go_wp2_with fail;go_ret;exact⟨rfl,rfl⟩
  ·rw[Nd e2]at HC;have ha:ans=true:=(by rw[h0];exact Nn fun h=>e2 h.2);have dd:((n:Int) != (m:Int))=false:=(by rw[e];exact bne_self_eq_false _);have dn:(n:Int)=(m:Int):=(by rw[e]);subst ha;clear hL hT h5 hb h3 h0 h4 e e2 h2;go_enter func148,ntmps148;go_wp2_with fail;refine HC.out.mono ?_;rintro e w1 ⟨rfl,rfl⟩;go_wp2_with fail;go_ret;exact⟨rfl,rfl⟩
 ·have ha:ans=true:=(by rw[h0];exact Nn fun h=>e (h2.symm.trans h.1));have dd:((n:Int) != (m:Int))=true:=(by rw[Pe];omega);have dn:¬(n:Int)=(m:Int):=(by omega);subst ha;clear hL hT h5 hb h3 h0 h4 h2 HC;go_enter func148,ntmps148;go_wp2_with fail;go_ret;exact⟨rfl,rfl⟩
theorem KI(T:List (List Int))(i:Nat)(h:i<T.length):T.take (i+1)=T.take i++ [T.getD i []]:=by rw[NF h,Na,Nc h];rfl
theorem nU(T:List (List Int))(i:Nat)(h:i<T.length):T.getD i []∈T:=by rw[Na,Nc h];exact NM _
theorem zO(w:World)(bx:Nat)(At:Option Addr)(q d:Nat)(T:List (List Int))(hb:Blk w bx 41 #[.slice At q d])(hT:vw w At q T)(hq:0<q)(hj:q<=d)(ho:q<=1000000):
 Calls prog 190 #[.slice At q d,KV bx] w fun e w'=>∃k:Int,e=.returned (.int .i64 k)/\(0<=k↔∃t∈T,xz (T.getD 0 []).length t)/\w'=w:=by
 have ha:=hT.1;have HW:=aa fun(A:Option Addr) (n c:Nat) (L:List Int) (hL:ZIn w A n L) (hn:n<=maxLen)=>D7 w bx At q d T hb hT hq hj (by unfold maxLen;omega) A n c L hL hn;obtain⟨n0,he⟩:∃n0,n0=(T.getD 0 []).length:=⟨_,rfl⟩;rw[<- he]at HW |-;obtain⟨tb,tq,rfl,hg⟩:=hT.2 hq;have hh:=aa hg;have h7:=aa ha;clear hT hb hg ha he;go_enter func190,ntmps190;go_wp2_with fail;go_loopw [5,8] (fun s5 x wx=>∃i:Nat,i<=q/\x=.int .i64 i/\Hid (¬ ∃t∈T.take i,xz n0 t)/\wx=w) (fun _ x _=>q-(intOf x).toNat)
 case atStart=>refine⟨0,Ng _,rfl,aa ?_,rfl⟩;rintro⟨x,hx,_⟩;cases hx
 case round=>
  obtain⟨i,hi,rfl,hf,rfl⟩:=hrel;by_cases e:i<q
  ·have hk:(0:Int)<=(i:Int):=(by omega);have hl:(i:Int)<(q:Int):=(by omega);obtain⟨A2,c2,h1,h2,_,hm⟩:=hh.out i e;have h3:=aa (HW.out A2 (T.getD i []).length c2 (T.getD i []) h2 hm);have h9:=aa (KI T i (by rw[h7.out];exact e));have h4:=aa (nU T i (by rw[h7.out];exact e));obtain⟨t,ht⟩:∃t,t=T.getD i []:=⟨_,rfl⟩;rw[<- ht]at h1 hm h3 h9 h4;obtain⟨m,hc⟩:∃m,m=t.length:=⟨_,rfl⟩;rw[<- hc]at h1 hm h3;clear h2 ht hc;by_cases hb:xz n0 t;·rw[Nn hb]at h3;have h6:=aa hb;clear hb;go_wp2_with fail;refine h3.out.mono ?_;rintro e w1 ⟨rfl,rfl⟩;go_wp2_with fail;go_ret;exact⟨i,rfl,⟨fun _=>⟨t,h4.out,h6.out⟩,fun _=>by omega⟩,rfl⟩
   ·rw[Nl hb]at h3;have h6:=aa hb;clear hb;go_wp2_with fail;refine h3.out.mono ?_;rintro e w1 ⟨rfl,rfl⟩;go_wp2_with fail;go_roundw;case rel=>
     refine⟨i+1,by omega,by go_num,aa ?_,trivial⟩;rw[h9.out];rintro⟨y,hy,h8⟩;rcases List.mem_append.1 hy with hy|hy;·exact hf.out ⟨y,hy,h8⟩
     ·rw[List.mem_singleton.1 hy]at h8;exact h6.out h8
    case measure=>simp[intOf];omega
  ·obtain rfl:i=q:=(by omega);have h0:=hf.out;rw[Nr (Oi h7.out)]at h0;have h5:=aa h0;clear h0;go_wp2_with fail;go_ret;exact⟨-1,rfl,⟨fun h=>absurd h (by omega),fun h=>absurd h h5.out⟩,rfl⟩
theorem tw(w:World)(bx:Nat)(At:Option Addr)(q d:Nat)(T:List (List Int))(hb:Blk w bx 41 #[.slice At q d])(hT:vw w At q T)(hq:0<q)(h2:q<=d)(h0:q<=1000000):
 Calls prog 150 #[.slice At q d,KV bx] w fun e w'=>e=.returned (.bool (decide (∃ t∈T,xz (T.getD 0 []).length t)))/\w'=w:=by
 have HI:=aa (zO w bx At q d T hb hT hq h2 h0);clear hb hT;go_enter func150,ntmps150;go_wp2_with fail;refine HI.out.mono ?_;rintro e w1 ⟨k,rfl,hk,rfl⟩;by_cases h:∃t∈T,xz (T.getD 0 []).length t;·have d0:decide ((0:Int)<=k)=true:=Nn (hk.2 h);have HD:=aa (Nn h);clear hk h;go_wp2_with fail;go_ret;rw[HD.out];exact⟨rfl,rfl⟩
 ·have d0:decide ((0:Int)<=k)=false:=Nl fun h1=>h (hk.1 h1);have HD:=aa (Nl h);clear hk h;go_wp2_with fail;go_ret;rw[HD.out];exact⟨rfl,rfl⟩
def yW(T:List (List Int)):Prop:=2<=T.length/\T.length<=6/\3<=(T.getD 0 []).length/\∀t∈T,t.length=(T.getD 0 []).length/\bK t
instance (T:List (List Int)):Decidable (yW T):=inferInstanceAs (Decidable (_/\_))
theorem tI(w:World)(At:Option Addr)(q d:Nat)(T:List (List Int))(hT:vw w At q T)(hj:q<=d)(hi:q<=maxLen):
 Calls prog 92 #[.slice At q d] w fun e w'=>e=.returned (.bool (decide (yW T)))/\Below w.heap.size w w':=by
 have hf:=hT.1;obtain⟨ans,h0⟩:∃ans,ans=decide (yW T):=⟨_,rfl⟩;rw[<- h0];have h7:Below w.heap.size w (w.alloc (.cells #[.slice At q d] 41)):=(Nj _ _).alloc (ag _) _;have h9:Blk (w.alloc (.cells #[.slice At q d] 41)) w.heap.size 41 #[.slice At q d]:=aj w _ _;have h8:=hT.below h7;unfold maxLen at hi;by_cases h1:q<2;·have d1:decide ((q:Int)<2)=true:=bE;(have ha:ans=false:=by rw[h0];exact Nl fun h=>by have:=h.1;omega);subst ha;have HB:=aa h7;clear h0 hT h8 h7 h9 hf;go_enter func92,ntmps92;go_wp2_with fail;go_ret;exact⟨rfl,HB.out⟩
 ·have d1:decide ((q:Int)<2)=false:=aR;by_cases h2:6<q;·have d2:decide ((6:Int)<(q:Int))=true:=bE;(have ha:ans=false:=by rw[h0];exact Nl fun h=>by have:=h.2.1;omega);subst ha;have HB:=aa h7;clear h0 hT h8 h7 h9 hf;go_enter func92,ntmps92;go_wp2_with fail;go_ret;exact⟨rfl,HB.out⟩
  ·have d2:decide ((6:Int)<(q:Int))=false:=aR;obtain⟨tb,tq,rfl,hh⟩:=h8.2 (by omega);obtain⟨A2,c2,h3,_,_,hm⟩:=hh 0 (by omega);rw[NY]at h3;have HE:=aa (mR (w.alloc (.cells #[.slice (some ⟨tb,tq,none⟩) q d] 41)) ((T.getD 0 []).length:Nat));have HC:=aa (tw _ w.heap.size _ q d T h9 h8 (by omega) hj (by omega));have q0:(w.alloc (.cells #[.slice (some ⟨tb,tq,none⟩) q d] 41)).cell? ⟨w.heap.size,0,none⟩=some (.slice (some ⟨tb,tq,none⟩) q d):=(ac h9 0).trans rfl;obtain⟨m,hg⟩:∃m,m=(T.getD 0 []).length:=⟨_,rfl⟩;have he:=aa hg;have h6:=aa h0;have HQ:=aa (show 2<=T.length/\T.length<=6 by omega);have hc:=aa (nU T 0 (by omega));rw[<- hg]at h3 hm HE;have HB:=aa h7;clear h0 hT h8 h7 h9 hf hh hg;unfold maxLen at hm;by_cases h4:3<=(m:Int)/\(m:Int)<=258
   ·rw[Nn h4]at HE;by_cases h5:∃t∈T,xz (T.getD 0 []).length t;·rw[Nn h5]at HC;have ha:ans=false:=(by rw[h6.out];refine Nl fun h=> ?_;obtain⟨t,ht,hb⟩:=h5;exact hb (h.2.2.2 t ht));subst ha;clear h5 h6 h4;go_enter func92,ntmps92;go_upto_region 1 with fail;generalize w.alloc (.cells #[.slice (some ⟨tb,tq,none⟩) q d] 41)=w1 at*;go_wp2_with fail;refine HE.out.mono ?_;rintro e w2 ⟨rfl,rfl⟩;go_wp2_with fail;refine HC.out.mono ?_;rintro e w2 ⟨rfl,rfl⟩;go_wp2_with fail;go_ret;exact⟨rfl,HB.out⟩
    ·rw[Nl h5]at HC;have ha:ans=true:=(by rw[h6.out];refine Nn ⟨HQ.out.1,HQ.out.2,by rw[<- he.out];omega,fun t ht=> ?_⟩;refine Decidable.by_contra fun hb=>h5 ⟨t,ht,hb⟩);subst ha;clear h5 h6 h4;go_enter func92,ntmps92;go_upto_region 1 with fail;generalize w.alloc (.cells #[.slice (some ⟨tb,tq,none⟩) q d] 41)=w1 at*;go_wp2_with fail;refine HE.out.mono ?_;rintro e w2 ⟨rfl,rfl⟩;go_wp2_with fail;refine HC.out.mono ?_;rintro e w2 ⟨rfl,rfl⟩;go_wp2_with fail;go_ret;exact⟨rfl,HB.out⟩
   ·rw[Nl h4]at HE;have ha:ans=false:=by
     rw[h6.out];refine Nl fun h=>h4 ⟨?_,?_⟩;·have:=h.2.2.1;rw[<- he.out]at this;omega
     ·have:=(h.2.2.2 _ hc.out).2.2.1;rw[<- he.out]at this;omega
    subst ha;clear h6 h4 HC;go_enter func92,ntmps92;go_upto_region 1 with fail;generalize w.alloc (.cells #[.slice (some ⟨tb,tq,none⟩) q d] 41)=w1 at*;go_wp2_with fail;refine HE.out.mono ?_;rintro e w2 ⟨rfl,rfl⟩;go_wp2_with fail;go_ret;exact⟨rfl,HB.out⟩
theorem re(f:Nat->Int):∀k,1<=k->∃b:Int,(∀ i,i<k->b<=f i)/\∃i,i<k/\f i=b
 | 0,h=>by omega
 | k+1,_=>by
  by_cases e:k=0;·subst e;exact⟨f 0,fun i hi=>by rw[show i=0 by omega];exact QW _,0,by omega,rfl⟩
  ·obtain⟨b,hb,j,hj,h0⟩:=re f k (by omega);by_cases e2:b<=f k
   ·refine⟨b,fun i hi=> ?_,j,by omega,h0⟩;by_cases e3:i=k;·rw[e3];exact e2
    ·exact hb i (by omega)
   ·refine⟨f k,fun i hi=> ?_,k,by omega,rfl⟩;by_cases e3:i=k;·rw[e3];exact QW _
    ·have:=hb i (by omega);omega
theorem Gu(f:Nat->Int)(k:Nat)(h:1<=k):∃b:Int,(∀ i,i<k->f i<=b)/\∃i,i<k/\f i=b:=by obtain⟨b,hb,i,hi,h0⟩:=re (fun i=> - f i) k h;exact⟨-b,fun j hj=>by have:=hb j hj;omega,i,hi,by omega⟩
theorem MD(w:World)(A:Option Addr)(n c:Nat)(L:List Int)(hL:ZIn w A n L)(h1:1<=n)(hn:n<=maxLen)(a:Int)(ha:(∀ i,i<n->a<=L.getD i 0)/\∃i,i<n/\L.getD i 0=a):
 Calls prog 93 #[.slice A n c] w fun e w'=>e=.returned (.int .i64 a)/\w'=w:=by refine(sI w A n c L hL h1 hn).mono ?_;rintro e w' ⟨b,rfl,hb,rfl⟩;have:b=a:=(by obtain⟨i,hi,h0⟩:=ha.2;obtain⟨j,hj,h3⟩:=hb.2;have h1:=ha.1 j hj;have h2:=hb.1 i hi;omega);rw[this];exact⟨rfl,rfl⟩
theorem MC(w:World)(A:Option Addr)(n c:Nat)(L:List Int)(hL:ZIn w A n L)(h1:1<=n)(hn:n<=maxLen)(a:Int)(ha:(∀ i,i<n->L.getD i 0<=a)/\∃i,i<n/\L.getD i 0=a):
 Calls prog 94 #[.slice A n c] w fun e w'=>e=.returned (.int .i64 a)/\w'=w:=by refine(pV w A n c L hL h1 hn).mono ?_;rintro e w' ⟨b,rfl,hb,rfl⟩;have:b=a:=(by obtain⟨i,hi,h0⟩:=ha.2;obtain⟨j,hj,h3⟩:=hb.2;have h1:=ha.1 j hj;have h2:=hb.1 i hi;omega);rw[this];exact⟨rfl,rfl⟩
theorem iN{T:List (List Int)}{P:List Int}:aV T P↔yW T/\1<=P.length/\P.length<=32767/\∀x∈P,0<=x/\x<(T.length:Int):=
 ⟨fun h=>⟨⟨h.1,h.2.1,h.2.2.2.2.2.2,h.2.2.2.2.1⟩,h.2.2.1,h.2.2.2.1,h.2.2.2.2.2.1⟩,fun h=>⟨h.1.1,h.1.2.1,h.2.1,h.2.2.1,h.1.2.2.2,h.2.2.2,h.1.2.2.1⟩⟩
theorem dR(w:World)(v:Value)(T:List (List Int))(P:List Int)(hv:aJ w v T P):
 Calls prog 49 #[v] w fun e w'=>e=.returned (.bool (decide (aV T P)))/\Below w.heap.size w w':=by
 obtain⟨A,q,c,B,m,d,rfl,hT,ho,hq,hP,hp,hm⟩:=hv;obtain⟨ans,h5⟩:∃ans,ans=decide (aV T P):=⟨_,rfl⟩;rw[<- h5];have h7:Below w.heap.size w (w.alloc (.cells #[.slice A q c,.slice B m d] 43)):=(Nj _ _).alloc (ag _) _;have hc:Blk (w.alloc (.cells #[.slice A q c,.slice B m d] 43)) w.heap.size 43 #[.slice A q c,.slice B m d]:=aj w _ _;have HT:=aa (tI _ A q c T (hT.below h7) ho hq);have hi:=hP.below h7;have hf:=hT.1;have hj:=hP.1;have hg:=hm;unfold maxLen at hm hq;by_cases h1:yW T
 ·rw[Nn h1]at HT;by_cases h2:m<1;·have d2:decide ((m:Int)<1)=true:=bE;(have ha:ans=false:=by rw[h5];exact Nl fun h=>by have:=(iN.1 h).2.1;omega);subst ha;have HB:=aa h7;have HK:=aa hc;clear h5 hT hP h7 hc hi h1 hf hj hg;go_enter func49,ntmps49;go_upto_region 1 with fail;generalize w.alloc (.cells #[.slice A q c,.slice B m d] 43)=w1 at*;have q0:w1.cell? ⟨w.heap.size,0,none⟩=some (.slice A q c):=(ac HK.out 0).trans rfl;go_wp2_with fail;refine HT.out.mono ?_;rintro e w2 ⟨rfl,h0⟩;have h6:=aO h0 HK.out;have q1:w2.cell? ⟨w.heap.size,1,none⟩=some (.slice B m d):=(ac h6 1).trans rfl;have h9:=aa (aq HB.out h0);clear h6 h0 HB HK;go_wp2_with fail;go_ret;exact⟨rfl,h9.out⟩
  ·have d2:decide ((m:Int)<1)=false:=aR;by_cases h3:32767<m;·have d3:decide ((32767:Int)<(m:Int))=true:=bE;(have ha:ans=false:=by rw[h5];exact Nl fun h=>by have:=(iN.1 h).2.2.1;omega);subst ha;have HB:=aa h7;have HK:=aa hc;clear h5 hT hP h7 hc hi h1 hf hj hg h3;go_enter func49,ntmps49;go_upto_region 1 with fail;generalize w.alloc (.cells #[.slice A q c,.slice B m d] 43)=w1 at*;have q0:w1.cell? ⟨w.heap.size,0,none⟩=some (.slice A q c):=(ac HK.out 0).trans rfl;go_wp2_with fail;refine HT.out.mono ?_;rintro e w2 ⟨rfl,h0⟩;have h6:=aO h0 HK.out;have q1:w2.cell? ⟨w.heap.size,1,none⟩=some (.slice B m d):=(ac h6 1).trans rfl;have h9:=aa (aq HB.out h0);clear h6 h0 HB HK;go_wp2_with fail;go_ret;exact⟨rfl,h9.out⟩
   ·have d3:decide ((32767:Int)<(m:Int))=false:=aR;obtain⟨a,ha⟩:=re (fun i=>P.getD i 0) m (by omega);obtain⟨b,hb⟩:=Gu (fun i=>P.getD i 0) m (by omega);have hl:=aa fun(w1:World) (h:ZIn w1 B m P)=>MD w1 B m d P h (by omega) hg a ha;have hn:=aa fun(w1:World) (h:ZIn w1 B m P)=>MC w1 B m d P h (by omega) hg b hb;have he:=rB (m:=(q:Int)) hj ha hb
    have h8:Hid (ans=decide (0<=a/\b<(q:Int))):=aa (by
     rw[h5]
     refine decide_eq_decide.2 ⟨fun h=> ?_,fun h=> ?_⟩
     ·rw[<- he,<-hf]
      exact(iN.1 h).2.2.2
     ·exact iN.2 ⟨h1,by omega,by omega,by rw[hf];exact he.2 h⟩)
    have HB:=aa h7;have HK:=aa hc;have hk:=aa hi;clear h5 hT hP h7 hc hi h1 hf hj hg h3 ha hb he;by_cases h4:0<=a;·have d4:decide (0<=a)=true:=Nn h4;have hcut:ans=decide (b<(q:Int)):=(by rw[h8.out];exact decide_eq_decide.2 ⟨fun h=>h.2,fun h=>⟨h4,h⟩⟩);subst hcut;clear h8;go_enter func49,ntmps49;go_upto_region 1 with fail;generalize w.alloc (.cells #[.slice A q c,.slice B m d] 43)=w1 at*;have q0:w1.cell? ⟨w.heap.size,0,none⟩=some (.slice A q c):=(ac HK.out 0).trans rfl;go_wp2_with fail;refine HT.out.mono ?_;rintro e w2 ⟨rfl,h0⟩;have h6:=aO h0 HK.out;have q1:w2.cell? ⟨w.heap.size,1,none⟩=some (.slice B m d):=(ac h6 1).trans rfl;have q2:w2.cell? ⟨w.heap.size,0,none⟩=some (.slice A q c):=(ac h6 0).trans rfl;have h9:=aa (aq HB.out h0);have hh:=aa (hk.out.below h0);clear h6 h0 HB HK hk HT q0;go_upto_region 3 with fail;go_quiet (first|(go_at_call 93;exact Rb (hl.out _ (hh.out.below (ax (Nj _ _) _))))|(go_at_call 94;exact Rb (hn.out _ (hh.out.below (ax (Nj _ _) _)))));go_wp2_with fail;go_ret;exact⟨rfl,ax h9.out _⟩
    ·have d4:decide (0<=a)=false:=Nl h4;have ha:ans=false:=(by rw[h8.out];exact Nl fun h=>h4 h.1);subst ha;clear h8;go_enter func49,ntmps49;go_upto_region 1 with fail;generalize w.alloc (.cells #[.slice A q c,.slice B m d] 43)=w1 at*;have q0:w1.cell? ⟨w.heap.size,0,none⟩=some (.slice A q c):=(ac HK.out 0).trans rfl;go_wp2_with fail;refine HT.out.mono ?_;rintro e w2 ⟨rfl,h0⟩;have h6:=aO h0 HK.out;have q1:w2.cell? ⟨w.heap.size,1,none⟩=some (.slice B m d):=(ac h6 1).trans rfl;have q2:w2.cell? ⟨w.heap.size,0,none⟩=some (.slice A q c):=(ac h6 0).trans rfl;have h9:=aa (aq HB.out h0);have hh:=aa (hk.out.below h0);clear h6 h0 HB HK hk HT q0;go_upto_region 3 with fail;go_quiet (first|(go_at_call 93;exact Rb (hl.out _ (hh.out.below (ax (Nj _ _) _))))|(go_at_call 94;exact Rb (hn.out _ (hh.out.below (ax (Nj _ _) _)))));go_wp2_with fail;go_ret;exact⟨rfl,ax h9.out _⟩
 ·rw[Nl h1]at HT;have ha:ans=false:=(by rw[h5];exact Nl fun h=>h1 (iN.1 h).1);subst ha;have HB:=aa h7;have HK:=aa hc;clear h5 hT hP h7 hc hi h1 hf hj hg;go_enter func49,ntmps49;go_upto_region 1 with fail;generalize w.alloc (.cells #[.slice A q c,.slice B m d] 43)=w1 at*;have q0:w1.cell? ⟨w.heap.size,0,none⟩=some (.slice A q c):=(ac HK.out 0).trans rfl;go_wp2_with fail;refine HT.out.mono ?_;rintro e w2 ⟨rfl,h0⟩;have h9:=aa (aq HB.out h0);clear h0 HB HK;go_wp2_with fail;go_ret;exact⟨rfl,h9.out⟩
