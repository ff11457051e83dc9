import Derived.Test.YtepokmggbfoakaaGreatDoorT24
import Derived.Test.YtepokmggbfoakaaGreatDoorT25
import Derived.Test.YtepokmggbfoakaaGreatDoorT11
import Derived.Laws.IdiomCopy
set_option maxHeartbeats 6400000
set_option maxRecDepth 100000
namespace Go.Proofs.YtepokmggbfoakaaGreatDoor
open _root_.Go.Proofs.Tryz
open Go.RowKit
theorem mA(w:World)(n:Int):Calls prog 195 #[.int .i64 n] w fun e w'=>e=.returned (.bool (decide (3<=n/\n<=258)))/\w=w':=by
 by_cases h1:3<=n
 ·by_cases h2:n<=258;·have d1:decide (n<=(258:Int))=true:=No h2;have hd:decide (3<=n/\n<=258)=true:=No ⟨h1,h2⟩;go_enter func195,ntmps195;go_wp2_with fail;go_ret;first|exact⟨rfl,rfl⟩|(rw [hd];exact⟨rfl,rfl⟩)
  ·have d1:decide (n<=(258:Int))=false:=Nk h2;have hd:decide (3<=n/\n<=258)=false:=aD (by omega);go_enter func195,ntmps195;go_wp2_with fail;go_ret;first|exact⟨rfl,rfl⟩|(rw [hd];exact⟨rfl,rfl⟩)
 ·have hd:decide (3<=n/\n<=258)=false:=aD (by omega);go_enter func195,ntmps195;go_wp2_with fail;go_ret;first|exact⟨rfl,rfl⟩|(rw [hd];exact⟨rfl,rfl⟩)
theorem jX(w:World)(m:Nat)(hm:m<=4000000000000000000):Calls prog 105 #[.int .i64 m] w fun e w'=>e=.returned (.int .i64 (aR m:Nat))/\w=w':=by obtain⟨q,hq⟩:∃q,q=aR m:=⟨_,rfl⟩;rw[<- hq];unfold aR at hq;obtain⟨m1,h1⟩:∃m1,m1=m+50:=⟨_,rfl⟩;obtain⟨m2,h0⟩:∃m2,m2=m+49:=⟨_,rfl⟩;have z1:(m:Int)+50=(m1:Int):=(by omega);have z2:(m1:Int)-1=(m2:Int):=(by omega);have z3:(m2:Int)/50=(q:Int):=(by rw[hq,h0];omega);have b3:q<=5000000000000000000:=(by omega);clear hq h1 h0;go_enter func105,ntmps105;go_wp2_with fail;go_ret;exact⟨rfl,rfl⟩
theorem qP{L:List Int}{n:Nat}{a b m:Int}(hl:L.length=n)(ha:(∀ i,i<n->a<=L.getD i 0)/\∃i,i<n/\L.getD i 0=a)(hb:(∀ i,i<n->L.getD i 0<=b)/\∃i,i<n/\L.getD i 0=b):
 (∀ x∈L,0<=x/\x<m)↔0<=a/\b<m:=by
 have hg:∀i,i<n->L.getD i 0∈L:=fun i hi=>by rw[Nb,Nd (by omega)];exact NL _
 refine⟨fun h=> ?_,fun h x hx=> ?_⟩;·obtain⟨i,hi,h0⟩:=ha.2;obtain⟨j,hj,h3⟩:=hb.2;have h1:=h _ (hg i hi);have h2:=h _ (hg j hj);omega
 ·obtain⟨i,hi,rfl⟩:=Pt hx;have h1:=ha.1 i (by omega);have h2:=hb.1 i (by omega);rw[Nb,Nd hi]at h1 h2;simp only[Option.getD_some]at h1 h2;omega
theorem vW(w:World)(A:Option Addr)(n c:Nat)(L:List Int)(m:Int)(hL:ZIn w A n L)(hn:n<=maxLen):
 Calls prog 145 #[.slice A n c,.int .i64 m] w fun e w'=>e=.returned (.bool (decide (iJ L m)))/\w'=w:=by
 have hl:=hL.1;have HE:=aa (mA w m);unfold maxLen at hn;by_cases h1:3<=m/\m<=258
 ·rw[No h1]at HE;by_cases h2:n<1;·have d2:decide ((n:Int)<1)=true:=aX (by omega);(have hd:decide (iJ L m)=false:=Nk fun h=>by have:=h.2.2.1;omega);rw[hd];clear hd hL hl h1;go_enter func145,ntmps145;go_wp2_with fail;refine HE.out.mono ?_;rintro e w1 ⟨rfl,rfl⟩;go_wp2_with fail;go_ret;exact⟨rfl,rfl⟩
  ·have d2:decide ((n:Int)<1)=false:=aD (by omega);by_cases h3:1638350<n;·have d3:decide ((1638350:Int)<(n:Int))=true:=aX (by omega);(have hd:decide (iJ L m)=false:=Nk fun h=>by have:=h.2.2.2.1;omega);rw[hd];clear hd hL hl h1 h3 h2;go_enter func145,ntmps145;go_wp2_with fail;refine HE.out.mono ?_;rintro e w1 ⟨rfl,rfl⟩;go_wp2_with fail;go_ret;exact⟨rfl,rfl⟩
   ·have d3:decide ((1638350:Int)<(n:Int))=false:=aD (by omega);obtain⟨ans,h0⟩:∃ans,ans=decide (iJ L m):=⟨_,rfl⟩;rw[<- h0];have h9:=aa (sh w A n c L hL (by omega) (by unfold maxLen;omega));have h8:=aa (oY w A n c L hL (by omega) (by unfold maxLen;omega));have HD:Hid (∀ a b:Int,((∀ i,i<n->a<=L.getD i 0)/\∃i,i<n/\L.getD i 0=a)->((∀ i,i<n->L.getD i 0<=b)/\∃i,i<n/\L.getD i 0=b)->ans=decide (0<=a/\b<m)):=aa fun a b ha hb=>by
     have:=qP (m:=m) hl ha hb;rw[h0];congr 1;apply propext;constructor;·exact fun h=>this.1 h.2.2.2.2
     ·exact fun h=>⟨h1.1,h1.2,by omega,by omega,this.2 h⟩
    have HS:Hid (∃ b:Int,(∀ i,i<n->L.getD i 0<=b)/\∃i,i<n/\L.getD i 0=b):=aa (by
     have hc:∀k,1<=k->k<=n->∃b:Int,(∀ i,i<k->L.getD i 0<=b)/\∃i,i<k/\L.getD i 0=b:=by
      intro k
      induction k with
      | zero=>intro h;omega
      | succ k ih=>
        intro _ hk
        by_cases e:k=0
        ·subst e
         exact⟨L.getD 0 0,fun i hi=>by rw[show i=0 by omega];exact Q0 _,0,by omega,rfl⟩
        ·obtain⟨b,hb,j,hj,he⟩:=ih (by omega) (by omega)
         by_cases e2:L.getD k 0<=b
         ·refine⟨b,fun i hi=> ?_,j,by omega,he⟩
          by_cases e3:i=k
          ·rw[e3];exact e2
          ·exact hb i (by omega)
         ·refine⟨L.getD k 0,fun i hi=> ?_,k,by omega,rfl⟩
          by_cases e3:i=k
          ·rw[e3];exact Q0 _
          ·have:=hb i (by omega)
           omega
     exact hc n (by omega) (ah _))
    clear hL hl h1 h3 h0;go_enter func145,ntmps145;go_wp2_with fail;refine HE.out.mono ?_;rintro e w1 ⟨rfl,rfl⟩;clear HE;go_wp2_with fail;refine h9.out.mono ?_;rintro e w1 ⟨a,rfl,ha,rfl⟩;have h6:=aa (fun b=>HD.out a b ha);clear ha HD h9;by_cases h4:0<=a
    ·have d4:decide (0<=a)=true:=No h4;go_wp2_with fail;refine h8.out.mono ?_;rintro e w1 ⟨b,rfl,hb,rfl⟩;have h7:=aa (h6.out b hb);clear hb h6 h8 HS;by_cases h5:b<m;·have d5:decide (b<m)=true:=No h5;have hd:=h7.out.trans (No ⟨h4,h5⟩);subst hd;clear h7;go_wp2_with fail;go_ret;exact⟨rfl,rfl⟩
     ·have d5:decide (b<m)=false:=Nk h5;have hd:=h7.out.trans (Nk fun h=>h5 h.2);subst hd;clear h7;go_wp2_with fail;go_ret;exact⟨rfl,rfl⟩
    ·have d4:decide (0<=a)=false:=Nk h4;obtain⟨b,hb⟩:=HS.out;have hd:=(h6.out b hb).trans (Nk fun h=>h4 h.1);subst hd;clear h6 h8 HS hb;go_wp2_with fail;go_ret;exact⟨rfl,rfl⟩
 ·rw[Nk h1]at HE;have hd:decide (iJ L m)=false:=Nk fun h=>h1 ⟨h.1,h.2.1⟩;rw[hd];clear hd hL hl h1;go_enter func145,ntmps145;go_wp2_with fail;refine HE.out.mono ?_;rintro e w1 ⟨rfl,rfl⟩;go_wp2_with fail;go_ret;exact⟨rfl,rfl⟩
theorem zO(w:World)(m:Int):Calls prog 146 #[.int .i64 m] w fun e w'=>e=.returned (.tuple #[.int .i64 (cD m).1,.int .i64 (cD m).2])/\w'=w:=by
 by_cases h0:m<1;·rw[show cD m=(0,2)from by unfold cD dD;(repeat' split) <;>first|rfl|omega];go_enter func146,ntmps146;go_wp2_with fail;go_ret2;exact⟨rfl,rfl⟩
 by_cases h1:m<200;·rw[show cD m=(2,0)from by unfold cD dD;(repeat' split) <;>first|rfl|omega];go_enter func146,ntmps146;go_wp2_with fail;go_ret2;exact⟨rfl,rfl⟩
 by_cases h2:m<600;·rw[show cD m=(3,0)from by unfold cD dD;(repeat' split) <;>first|rfl|omega];go_enter func146,ntmps146;go_wp2_with fail;go_ret2;exact⟨rfl,rfl⟩
 by_cases h3:m<1200;·rw[show cD m=(4,0)from by unfold cD dD;(repeat' split) <;>first|rfl|omega];go_enter func146,ntmps146;go_wp2_with fail;go_ret2;exact⟨rfl,rfl⟩
 by_cases h4:m<2400;·rw[show cD m=(5,0)from by unfold cD dD;(repeat' split) <;>first|rfl|omega];go_enter func146,ntmps146;go_wp2_with fail;go_ret2;exact⟨rfl,rfl⟩
 rw[show cD m=(6,0)from by unfold cD dD;(repeat' split) <;>first|rfl|omega];go_enter func146,ntmps146;go_wp2_with fail;go_ret2;exact⟨rfl,rfl⟩
def bY(L:List Int)(k:Nat):List Int:=(L.drop (50*k)).take 50
theorem gw(L:List Int)(k:Nat):(bY L k).length=min 50 (L.length-50*k):=by unfold bY;rw[Nz,Nq]
theorem ZIn.cut{w:World}{A:Option Addr}{n k a:Nat}{L:List Int}(h:ZIn w A n L)(h0:a+k<=n):ZIn w (Option.map (fun x=>x.add a) A) k ((L.drop a).take k):=by refine⟨by rw[Nz,Nq,h.1];omega,fun hk=> ?_⟩;obtain⟨b,off,rfl,hc⟩:=h.2 (by omega);refine⟨b,off+a,by rw[Oy,OX],fun i hi=> ?_⟩;rw[OL,hc (a+i) (by omega),Nb,Nb,PR,Ng hi,Pa]
theorem FA(w:World)(A:Option Addr)(n c:Nat)(L:List Int)(k:Nat)(hL:ZIn w A n L)(he:n<=c)(hn:n<=2000000)(hk:50*k<n):
 Calls prog 107 #[.slice A n c,.int .i64 k] w fun e w'=>∃A2 c2,e=.returned (.slice A2 (bY L k).length c2)/\ZIn w A2 (bY L k).length (bY L k)/\(bY L k).length<=c2/\(∀ a,A2=some a->∃a0,A=some a0/\a.block=a0.block)/\w'=w:=by
 have h0:=hL.1;obtain⟨m,hm⟩:∃m,m=(bY L k).length:=⟨_,rfl⟩;have h5:m=min 50 (n-50*k):=by rw[hm,gw,h0]
 obtain⟨b,off,rfl,_⟩:=hL.2 (by omega);obtain⟨lo,h1⟩:∃lo,lo=50*k:=⟨_,rfl⟩;have hf:(k:Int)*50=(lo:Int):=by omega
 have hcut:=ZIn.cut (k:=m) (a:=lo) hL (by omega);have hp:(L.drop lo).take m=bY L k:=by
  unfold bY;rw[<- h1];by_cases e:m=50;·rw[e]
  ·rw[Nt (by rw[Nq];omega),Nt (by rw[Nq];omega)]
 rw[hp,Oy,OX]at hcut;rw[<- hm];have HC:=aa hcut;obtain⟨hi,h3⟩:∃hi,hi=lo+50:=⟨_,rfl⟩;have hg:(lo:Int)+50=(hi:Int):=by omega
 have h8:lo<=3000000:=by omega
 have h6:hi<=3000000:=by omega
 by_cases e:n<hi;·have d4:((n:Int)<(hi:Int)):=(by omega);have ha:(n:Int)-(lo:Int)=(m:Int):=(by omega);have hb:n-lo=m:=(by omega);have h2:(0:Int)<=(lo:Int):=(by omega);have h9:(lo:Int)<=(n:Int):=(by omega);have hc:(n:Int)<=(c:Int):=(by omega);clear hL hcut hp hm h5 h1 h0 h3;go_enter func107,ntmps107;go_wp2_with fail;go_ret;exact⟨_,_,rfl,HC.out,by omega,fun a h=>by cases h;first|rfl|exact⟨_,rfl,rfl⟩,rfl⟩
 ·have d4:¬((n:Int)<(hi:Int)):=(by omega);have ha:(hi:Int)-(lo:Int)=(m:Int):=(by omega);have hb:hi-lo=m:=(by omega);have h2:(0:Int)<=(lo:Int):=(by omega);have h4:(lo:Int)<=(hi:Int):=(by omega);have h7:(hi:Int)<=(c:Int):=(by omega);clear hL hcut hp hm h5 h1 h0 h3;go_enter func107,ntmps107;go_wp2_with fail;go_ret;exact⟨_,_,rfl,HC.out,by omega,fun a h=>by cases h;first|rfl|exact⟨_,rfl,rfl⟩,rfl⟩
theorem Dd(l:List Nat)(k:Nat):bY (l.map fun(x:Nat)=>(x:Int)) k=(dc l k).map fun(x:Nat)=>(x:Int):=by unfold bY dc;rw[RI,List.map_drop]
theorem tj(w:World)(A:Option Addr)(n c:Nat)(L:List Nat)(k:Nat)(hL:aw w A n L)(h0:n<=c)(hn:n<=2000000)(hk:50*k<n):
 Calls prog 107 #[.slice A n c,.int .i64 k] w fun e w'=>∃A2 c2,e=.returned (.slice A2 (dc L k).length c2)/\aw w A2 (dc L k).length (dc L k)/\(dc L k).length<=c2/\(∀ a,A2=some a->∃a0,A=some a0/\a.block=a0.block)/\w'=w:=by
 refine(FA w A n c _ k (dK hL) h0 hn hk).mono ?_;rintro e w' ⟨A2,c2,rfl,h1,h2,h3,rfl⟩;rw[Dd]at h1 h2 |-;rw[NC]at h1 h2 |-;refine⟨A2,c2,rfl,?_,h2,h3,rfl⟩
 have h4:=fg h1 (fun x hx=>by
  obtain⟨y,_,rfl⟩:=List.mem_map.1 hx
  omega)
 rw[Ov]at h4;have e:(Int.toNat ∘ fun(x:Nat)=>(x:Int))=id:=by funext x;simp
 rw[e,QX]at h4;exact h4
theorem yi{l:List Nat}{x q:Nat}(h:q<aS l x):l.getD q 0≠x:=by
 induction l generalizing q with
 | nil=>exact absurd h (Px _)
 | cons y l ih=>
  rw[aS]at h;by_cases e:y=x;·rw[Ng e]at h;exact absurd h (Px _)
  ·rw[Nf e]at h
   match q with
   | 0=>exact e
   | q+1=>exact ih (by omega)
theorem Ci(w:World)(A:Option Addr)(n c:Nat)(L:List Nat)(x:Nat)(hL:aw w A n L)(hx:x∈L)(hn:n<=1000000):
 Calls prog 89 #[.slice A n c,.int .i64 x] w fun e w'=>e=.returned (.int .i64 (aS L x:Nat))/\w'=w:=by
 have hp:=fH L x hx;rw[hL.1]at hp;have HB:Hid (∀ q,q<aS L x->L.getD q 0≠x):=aa fun q hq=>yi hq;obtain⟨p,h1⟩:∃p,p=aS L x:=⟨_,rfl⟩;rw[<- h1]at hp HB |-;obtain⟨h5,h2⟩:=hp;obtain⟨b,off,rfl,hc⟩:=hL.2 (by omega);have HC:=aa hc;have h3:=aa h2;clear hL hx hc h1 h2;go_enter func89,ntmps89;go_wp2_with fail;go_loopw [5,8] (fun s5 iv' wx=>∃q:Nat,q<=p/\iv'=.int .i64 q/\wx=w) (fun _ iv' _=>n-(intOf iv').toNat)
 case atStart=>exact⟨0,Nh _,rfl,rfl⟩
 case round=>
  obtain⟨q,hq,rfl,rfl⟩:=hrel;have h4:q<n:=by omega
  have cq:=HC.out q h4;by_cases e:q=p;·subst e;rw[h3.out]at cq;have d2:((x:Int)==(x:Int))=true:=OK _;go_wp2_with fail;go_ret;exact⟨rfl,rfl⟩
  ·have h0:=HB.out q (by omega);obtain⟨y,hy⟩:∃y,y=L.getD q 0:=⟨_,rfl⟩;rw[<- hy]at cq h0;have d2:((x:Int)==(y:Int))=false:=(by rw[NA];omega);have d3:(x==y)=false:=(by rw[NA];exact fun h=>h0 h.symm);have e2:q+1<=p:=(by omega);clear hy h0;go_wp2_with fail;go_roundw;case rel=>exact⟨q+1,e2,by go_num,trivial⟩
   case measure=>simp[intOf];omega
theorem oF(w:World)(n:Nat)(hn:n<=1000):
 Calls prog 156 #[.int .i64 n] w fun e w'=>e=.returned (.slice (some ⟨w.heap.size,0,none⟩) n n)/\aA w' w.heap.size w.heap.size n n (fun j=>j)/\Below w.heap.size w w':=by
 have h4:=bK w n (by omega);have HM:=aa (bz w w.heap.size n (ah _) (by omega));have h1:=aa ((Nj w.heap.size w).alloc (ah _) (.cells (madeCells #[.int .i64 0] n) 3));go_enter func156,ntmps156;go_wp2_with fail;go_loopw [4,9] (fun s4 iv' wx=>∃i:Nat,i<=n/\iv'=.int .i64 i/\aA wx w.heap.size w.heap.size n n (fun j=>if j<i then j else 0)/\Below w.heap.size w wx) (fun _ iv' _=>n-(intOf iv').toNat)
 case atStart=>refine⟨0,Nh _,rfl,?_,h1.out⟩;have e:(fun j=>if j<0 then j else 0)=fun _=>0:=(by funext j;rw[Nf (by omega)]);rw[e];exact HM.out
 case round=>
  clear HM h1 h4;obtain⟨i,hi,rfl,hf,hb⟩:=hrel;by_cases e:i<n
  ·have h5:(0:Int)<=(i:Int):=(by omega);have c3:=hf.cell i e;have f3:=hf.frozen i;have hs:=hf.set i i;have h2:(fun s=>if s=i then i else if s<i then s else 0)=fun s=>if s<i+1 then s else 0:=by
    funext s;by_cases es:s=i;·rw[Ng es,Ng (by omega),es]
    ·rw[Nf es];by_cases e2:s<i;·rw[Ng e2,Ng (by omega)]
     ·rw[Nf e2,Nf (by omega)]
   rw[h2]at hs;have HS:=aa hs;have h0:=aa (hb.setCell (p:=⟨w.heap.size,i,none⟩) (ah _) (.int .i64 (i:Nat)));clear hf hb hs h2;go_wp2_with fail;go_roundw;case rel=>exact⟨i+1,by omega,by go_num,HS.out,h0.out⟩
   case measure=>simp[intOf];omega
  ·obtain rfl:i=n:=(by omega);have h3:wr.ownsRow w.heap.size 3 1 (.slice (some ⟨w.heap.size,0,none⟩) i i) i (cH i fun j=>if j<i then j else 0):=hf;rw[b9 i _ (fun j=>j) fun j hj=>Ng hj]at h3;have HS:=aa h3;have h0:=aa hb;clear hf hb h3;go_wp2_with fail;go_ret;exact⟨rfl,HS.out,h0.out⟩
theorem it{B g c n:Nat}:∀(vs:List Nat) (o:Nat) (w:World) (f:Nat->Nat),aA w B g c n f->aA (w.setCells g o (vs.map iv)) B g c n (fun j=>if o<=j/\j<o+vs.length then vs.getD (j-o) 0 else f j)
 | [],o,w,f,h=>by have e:(fun j=>if o<=j/\j<o+([]:List Nat).length then([]:List Nat).getD (j-o) 0 else f j)=f:=(by funext j;rw[Nf (by simp)]);rw[e];exact h
 | v::vs,o,w,f,h=>by
  have h2:=it vs (o+1) _ _ (h.set o v);have e:(fun j=>if o+1<=j/\j<o+1+vs.length then vs.getD (j-(o+1)) 0 else if j=o then v else f j)=fun j=>if o<=j/\j<o+(v::vs).length then(v::vs).getD (j-o) 0 else f j:=by
   funext j;by_cases e1:j=o;·rw[Nf (by omega),Ng e1,Ng (by simp;omega),e1,Ow];rfl
   ·by_cases e2:o+1<=j/\j<o+1+vs.length;·rw[Ng e2,Ng (by simp;omega),show j-o=(j-(o+1))+1 by omega];rfl
    ·rw[Nf e2,Nf e1,Nf (by simp;omega)]
  rw[e]at h2;exact h2
theorem qf(w:World)(g i:Nat)(j:Nat):w.cell? ((⟨g,i,none⟩:Addr).add j)=w.cell? ⟨g,i+j,none⟩:=by congr 1;unfold Addr.add;split <;>simp_all
theorem wm{P:Program}{w w':World}{ops:Array Oper}{rest:List Oper}{o:Oper}{a:Act}{Q:Exit->Act->World->Prop}(h1:o.guard=none)(d s:Operand)(dT sT:TypeId)
 (ho:o.op=.call { callee:=.builtin .copy,args:=#[d,s],argTypes:=#[dT,sT] }) (dv sv:Value) (k:Nat) (hd:a.eval d=dv) (hs:a.eval s=sv) (h0:(Builtin.copy_ #[dT,sT] o.type #[dv,sv]).run P w=.ok (goInt k) w')
 (h:wpList P ops Q rest (a.put o.dst (goInt k)) w'):wpList P ops Q (o::rest) a w:=by refine wpList_plain h1 fun K hK=> ?_;unfold Oper.wp;simp[execOp,ho,resolve,invoke,builtin,hd,hs,h0,Result.andThen];exact hK _ _ h
theorem ln{B:Nat}{w:World}{g:Nat}(hg:B<=g):∀(vs:List Value) (o:Nat) (w':World),Below B w w'->Below B w (w'.setCells g o vs)
 | [],_,_,h=>h
 | v::vs,o,_,h=>ln hg vs (o+1) _ (h.setCell (p:=⟨g,o,none⟩) hg v)
def mG(f:Nat->Nat)(p j:Nat):Nat:=if j=0 then f p else if j<=p then f (j-1)else f j
def Ml(B:Nat)(w:World)(g n c:Nat)(f:Nat->Nat)(p:Nat)(e:Ending)(w':World):Prop:=e=.returned (.tuple #[])/\aA w' B g c n (mG f p)/\al B [g] [] w w'
theorem zr(B:Nat)(w:World)(g n c:Nat)(f:Nat->Nat)(p:Nat)(hf:aA w B g c n f)(hp:p<n)(hi:n<=1000000):
 Calls prog 157 #[.slice (some ⟨g,0,none⟩) n c,.int .i64 p] w (Ml B w g n c f p):=by
 have hB:=hf.lt.1;obtain⟨A9,c9,hA,hl,_,_⟩:=ak hf;simp only[Ou]at hA;obtain⟨rfl,_,rfl⟩:=hA;obtain⟨i5,h5,hq,hh,hr⟩:=NY Tryz.info3;have h9:(cH p f).length=p:=eB p f;have h7:∀j v,(cH p f)[j]? =some v->w.drew.cell? ((⟨g,0,none⟩:Addr).add j)=some v:=by intro j v hv;have hj:j<p:=(by have:=(List.getElem?_eq_some_iff.1 hv).1;omega);rw[qf,N8];show w.cell? _=_;rw[hf.cell j (by omega),<-hv,lc p f j hj];rfl
 have h8:∀v∈cH p f,v.oneCell'=true:=by intro v hv;unfold cH at hv;obtain⟨x,_,rfl⟩:=List.mem_map.1 hv;rfl
 have h4:∀ty,(Builtin.copy_ #[57,57] ty #[.slice (if c=1 then some ⟨g,0,none⟩else some ⟨g,1,none⟩) (n-1) (c-1),.slice (some ⟨g,0,none⟩) p c]).run prog w.drew=.ok (goInt p) (w.drew.setCells g 1 (cH p f)):=by
  intro ty;have h1:(prog.info? 3).map (·.size)=some 1:=by rw[h5];exact congrArg some hh
  by_cases h0:p=0;·subst h0;have:=fun d=>run_copy_none (P:=prog) w.drew 57 57 ty 3 d (some ⟨g,0,none⟩) (n-1) (c-1) 0 c underlying57 h1 (Nat.zero_min _);exact this _
  ·rw[Nf (by omega)]
   have:=Sf (P:=prog) w.drew 57 57 ty 3 g 1 (n-1) (c-1) ⟨g,0,none⟩ p c (cH p f) underlying57 h1 (by rw[h9];exact(Oh (by omega)).symm) h7
    (fun j hj=>by
      rw[h9]at hj
      show(w.cell? _).isSome=true
      rw[hf.cell (1+j) (by omega)]
      rfl) (fun j hj=>hf.frozen (1+j)) h8
   rw[h9]at this;exact this
 obtain⟨x,hx⟩:∃x,x=f p:=⟨_,rfl⟩;have hg:=hf.cell p hp;rw[<- hx]at hg;have hm:(0:Int)<=(p:Int):=by omega
 have hn:(p:Int)<(n:Int):=by omega
 have ho:(p:Int)<=(c:Int):=by omega
 have hk:(1:Int)<=(n:Int):=by omega
 obtain⟨w2,ha⟩:∃w2,w2=w.drew.setCells g 1 (cH p f):=⟨_,rfl⟩;have h2:aA w2 B g c n (fun j=>if 1<=j/\j<1+p then f (j-1)else f j):=by
  have h:=it ((List.range p).map f) 1 w.drew f (hf.drew 1);have e:((List.range p).map f).map iv=cH p f:=by unfold cH;rw[Ov];rfl
  rw[e,<-ha]at h;have e2:(fun j=>if 1<=j/\j<1+((List.range p).map f).length then((List.range p).map f).getD (j-1) 0 else f j)=fun j=>if 1<=j/\j<1+p then f (j-1)else f j:=by
   funext j;rw[NC,NK];by_cases e3:1<=j/\j<1+p;·rw[Ng e3,Ng e3,dB p f (j-1) (by omega)]
   ·rw[Nf e3,Nf e3]
  rw[e2]at h;exact h
 have h3:al B [g] [] w w2:=by
  rw[ha];have he:∀(vs:List Value) (o:Nat) (w':World),al B [g] [] w w'->al B [g] [] w (w'.setCells g o vs):=by
   intro vs
   induction vs with
   | nil=>exact fun _ _ h=>h
   | cons v r ih=>exact fun o w' h=>ih (o+1) _ (h.set (p:=⟨g,o,none⟩) hB (List.mem_singleton.2 rfl) v)
  exact he _ _ _ (al.refl B [g] [] w).drew
 rw[<- ha]at h4;have h0:=h2.cell 0 (by omega);have f0:=h2.frozen 0;have h6:Ml B w g n c f p (.returned (.tuple #[])) (w2.setCell ⟨g,0,none⟩ (.int .i64 x)):=by
  refine⟨rfl,?_,h3.set (p:=⟨g,0,none⟩) hB (List.mem_singleton.2 rfl) _⟩;have h:=h2.set 0 x;have e:(fun j=>if j=0 then x else if 1<=j/\j<1+p then f (j-1)else f j)=mG f p:=by
   funext j;unfold mG;by_cases e1:j=0;·rw[Ng e1,Ng e1,hx]
   ·rw[Nf e1,Nf e1];by_cases e2:j<=p;·rw[Ng (by omega),Ng e2]
    ·rw[Nf (by omega),Nf e2]
  rw[e]at h;exact h
 obtain⟨z,hz⟩:∃z:Nat,z=(if 1<=0/\0<1+p then f (0-1)else f 0):=⟨_,rfl⟩;rw[<- hz]at h0;have hb:=aa h6;have hc:=aa h4;clear h6 h4 ha h7 h8 h9 hf h2 h3 hz hx;generalize Ml B w g n c f p=PO at*;go_enter func157,ntmps157;go_upto_region 1 with fail;go_still_tail 5,(by kernel_rfl)
 change wpList _ _ _ _ _ w.drew;generalize (if c=1 then some (⟨g,0,none⟩:Addr)else some ⟨g,1,none⟩)=dA at*;refine wm rfl _ _ 57 57 rfl _ _ p rfl rfl (hc.out _) ?_;go_wp2_with fail;(try simp only[Exit.inBlock,Exit.then]);refine ND (RA rfl _ _ _) rfl ?_;exact hb.out
def xn(B:Nat)(w:World)(g c n:Nat)(f:Nat->Nat)(L:List Nat)(e:Ending)(w':World):Prop:=e=.returned (.tuple #[])/\aA w' B g c n (fun s=>f s+L.count s)/\al B [g] [] w w'
theorem ti(L:List Nat)(i _:Nat)(h:i<L.length)(s:Nat):(L.take (i+1)).count s=(L.take i).count s+if L.getD i 0=s then 1 else 0:=by have e:L.take (i+1)=L.take i++ [L.getD i 0]:=(by rw[NI h,Nb,Nd h];rfl);rw[e,List.count_append,List.count_singleton];simp only[O0]
theorem zc(B:Nat)(w:World)(g c n:Nat)(f:Nat->Nat)(hf:aA w B g c n f)(A:Option Addr)(m d:Nat)(L:List Nat)(hL:aw w A m L)(hA:∀a,A=some a->a.block≠g)(hm:m<=4000000)
 (h4:∀x∈L,x<n) (h6:∀s,s<n->f s<=4000000):
 Calls prog 150 #[.slice (some ⟨g,0,none⟩) n c,.slice A m d] w (xn B w g c n f L):=by
 have hh:=hf.lt.1;have h9:=hL.1;have HF:=aa hf;have HL:=aa hL;have hg:=aa h4;have h1:=aa h9;have he:=aa h6;have HA:=aa hA;clear hf hL h4 h9 h6 hA;go_enter func150,ntmps150;go_wp2_with fail;go_loopw [5,8] (fun s5 iv' wx=>∃i:Nat,i<=m/\iv'=.int .i64 i/\aA wx B g c n (fun s=>f s+(L.take i).count s)/\al B [g] [] w wx) (fun _ iv' _=>m-(intOf iv').toNat)
 case atStart=>refine⟨0,Nh _,rfl,?_,al.refl _ _ _ _⟩;have e:(fun s=>f s+(L.take 0).count s)=f:=(by funext s;simp);rw[e];exact HF.out
 case round=>
  clear HF;obtain⟨i,hi,rfl,hf,hb⟩:=hrel;by_cases e:i<m
  ·have hn:(0:Int)<=(i:Int):=(by omega);have ho:(i:Int)<(m:Int):=(by omega);obtain⟨lb,lo,rfl,h8⟩:=HL.out.2 (by omega);have hk:lb≠g:=HA.out _ rfl;have h0:=h8 i e;have h2:=ti L i 0 (by rw[h1.out];exact e)
   have h3:L.getD i 0<n:=hg.out _ (by
    rw[Nb,Nd (by rw[h1.out];exact e)]
    exact NL _)
   have c2:wr.cell? ⟨lb,lo+i,none⟩=some (.int .i64 (L.getD i 0:Nat)):=by
    unfold World.cell? at h0 |-;revert h0
    cases hw:w.heap[lb]? with
    | none=>simp
    | some o=>
     intro h0
     cases o with
     | cells cs t fr=>rw[show wr.heap[lb]? =some (.cells cs t fr)from hb.keep lb cs t fr hw (by simp;exact hk) ar];exact h0
     | _=>simp at h0
   have h5:(L.take i).count (L.getD i 0)<=i:=NH List.count_le_length (by rw[Nz];omega);obtain⟨x,hx⟩:∃x,x=L.getD i 0:=⟨_,rfl⟩;rw[<- hx]at c2 h2 h3 h5;have c3:=hf.cell x h3;have f3:=hf.frozen x;have hj:=he.out x h3;obtain⟨v,hv⟩:∃v,v=f x+(L.take i).count x:=⟨_,rfl⟩;have hp:v<=8000000:=(by omega);rw[<- hv]at c3;obtain⟨v1,ha⟩:∃v1,v1=v+1:=⟨_,rfl⟩;have hq:(v:Int)+1=(v1:Int):=(by omega);have hs:=hf.set x v1;have h7:(fun s=>if s=x then v1 else f s+(L.take i).count s)=fun s=>f s+(L.take (i+1)).count s:=by
    funext s;rw[h2 s];by_cases es:s=x;·rw[Ng es,Ng es.symm,es,ha,hv];omega
    ·rw[Nf es,Nf (fun h=>es h.symm),Og]
   rw[h7]at hs;have HS:=aa hs;have hc:=aa (hb.set (p:=⟨g,x,none⟩) hh (List.mem_singleton.2 rfl) (.int .i64 (v1:Nat)));have hr:(0:Int)<=(x:Int):=(by omega);have hl:(x:Int)<(n:Int):=(by omega);clear hf hb h8 h0 h2 hx hv ha hs h7 h5 hj;go_wp2_with fail;go_roundw;case rel=>exact⟨i+1,by omega,by go_num,HS.out,hc.out⟩
   case measure=>simp[intOf];omega
  ·obtain rfl:i=m:=(by omega);rw[Nt (Ox h1.out)]at hf;have HP:Hid (xn B w g c n f L (.returned (.tuple #[])) wr):=aa ⟨rfl,hf,hb⟩;clear hf hb;generalize xn B w g c n f L=PO at*;go_wp2_with fail;(try simp only[Exit.inBlock,Exit.then]);refine ND (RA rfl _ _ _) rfl ?_;exact HP.out
def xo(n0:Nat)(t:List Int):Prop:=¬(t.length=n0/\a6 t)
instance (n0:Nat) (t:List Int):Decidable (xo n0 t):=inferInstanceAs (Decidable (¬ (_/\_)))
abbrev KR (bx:Nat):Value:=.func (.func 205) #[] #[.pointer (some ⟨bx,0,none⟩)]
theorem D6(w:World)(bx:Nat)(At:Option Addr)(q d:Nat)(T:List (List Int))(hb:Blk w bx 88 #[.slice At q d])(hT:vf w At q T)(hq:0<q)(_:q<=d)(_:q<=maxLen)
 (A:Option Addr) (n c:Nat) (L:List Int) (hL:ZIn w A n L) (hn:n<=maxLen):
 Calls prog 205 #[.slice A n c,.pointer (some ⟨bx,0,none⟩)] w fun e w'=>e=.returned (.bool (decide (xo (T.getD 0 []).length L)))/\w'=w:=by
 obtain⟨tb,tq,rfl,h5⟩:=hT.2 hq;obtain⟨A2,c2,h1,_,_,hm⟩:=h5 0 hq;rw[Og]at h1;have h3:=ac hb 0;have h2:=hL.1;have HC:=aa (lu w A n c L hL hn);obtain⟨m,h4⟩:∃m,m=(T.getD 0 []).length:=⟨_,rfl⟩;rw[<- h4]at h1 hm |-;have q0:w.cell? ⟨bx,0,none⟩=some (.slice (some ⟨tb,tq,none⟩) q d):=h3.trans rfl;obtain⟨ans,h0⟩:∃ans,ans=decide (xo m L):=⟨_,rfl⟩;rw[<- h0];unfold maxLen at hm hn;by_cases e:n=m
 ·by_cases e2:a6 L;·rw[Ng e2]at HC;have ha:ans=false:=(by rw[h0];exact Nk fun h=>h ⟨h2.trans e,e2⟩);have dd:((n:Int) != (m:Int))=false:=(by rw[e];exact bne_self_eq_false _);have dn:(n:Int)=(m:Int):=(by rw[e]);subst ha;clear hL hT h5 hb h3 h0 h4 e e2 h2;go_enter func205,ntmps205;go_wp2_with fail;refine HC.out.mono ?_;rintro e w1 ⟨rfl,rfl⟩;go_wp2_with fail;go_ret;exact⟨rfl,rfl⟩
  ·rw[Nf e2]at HC;have ha:ans=true:=(by rw[h0];exact No fun h=>e2 h.2);have dd:((n:Int) != (m:Int))=false:=(by rw[e];exact bne_self_eq_false _);have dn:(n:Int)=(m:Int):=(by rw[e]);subst ha;clear hL hT h5 hb h3 h0 h4 e e2 h2;go_enter func205,ntmps205;go_wp2_with fail;refine HC.out.mono ?_;rintro e w1 ⟨rfl,rfl⟩;go_wp2_with fail;go_ret;exact⟨rfl,rfl⟩
 ·have ha:ans=true:=(by rw[h0];exact No fun h=>e (h2.symm.trans h.1));have dd:((n:Int) != (m:Int))=true:=(by rw[OP];omega);have dn:¬(n:Int)=(m:Int):=(by omega);subst ha;clear hL hT h5 hb h3 h0 h4 h2 HC;go_enter func205,ntmps205;go_wp2_with fail;go_ret;exact⟨rfl,rfl⟩
theorem KC(T:List (List Int))(i:Nat)(h:i<T.length):T.take (i+1)=T.take i++ [T.getD i []]:=by rw[NI h,Nb,Nd h];rfl
theorem ns(T:List (List Int))(i:Nat)(h:i<T.length):T.getD i []∈T:=by rw[Nb,Nd h];exact NL _
theorem zq(w:World)(bx:Nat)(At:Option Addr)(q d:Nat)(T:List (List Int))(hb:Blk w bx 88 #[.slice At q d])(hT:vf w At q T)(hq:0<q)(hj:q<=d)(ho:q<=1000000):
 Calls prog 242 #[.slice At q d,KR bx] w fun e w'=>∃k:Int,e=.returned (.int .i64 k)/\(0<=k↔∃t∈T,xo (T.getD 0 []).length t)/\w'=w:=by
 have ha:=hT.1;have HW:=aa fun(A:Option Addr) (n c:Nat) (L:List Int) (hL:ZIn w A n L) (hn:n<=maxLen)=>D6 w bx At q d T hb hT hq hj (by unfold maxLen;omega) A n c L hL hn;obtain⟨n0,he⟩:∃n0,n0=(T.getD 0 []).length:=⟨_,rfl⟩;rw[<- he]at HW |-;obtain⟨tb,tq,rfl,hg⟩:=hT.2 hq;have hh:=aa hg;have h7:=aa ha;clear hT hb hg ha he;go_enter func242,ntmps242;go_wp2_with fail;go_loopw [5,8] (fun s5 x wx=>∃i:Nat,i<=q/\x=.int .i64 i/\Hid (¬ ∃t∈T.take i,xo n0 t)/\wx=w) (fun _ x _=>q-(intOf x).toNat)
 case atStart=>refine⟨0,Nh _,rfl,aa ?_,rfl⟩;rintro⟨x,hx,_⟩;cases hx
 case round=>
  obtain⟨i,hi,rfl,hf,rfl⟩:=hrel;by_cases e:i<q
  ·have hk:(0:Int)<=(i:Int):=(by omega);have hl:(i:Int)<(q:Int):=(by omega);obtain⟨A2,c2,h1,h2,_,hm⟩:=hh.out i e;have h3:=aa (HW.out A2 (T.getD i []).length c2 (T.getD i []) h2 hm);have h9:=aa (KC T i (by rw[h7.out];exact e));have h4:=aa (ns T i (by rw[h7.out];exact e));obtain⟨t,ht⟩:∃t,t=T.getD i []:=⟨_,rfl⟩;rw[<- ht]at h1 hm h3 h9 h4;obtain⟨m,hc⟩:∃m,m=t.length:=⟨_,rfl⟩;rw[<- hc]at h1 hm h3;clear h2 ht hc;by_cases hb:xo n0 t;·rw[No hb]at h3;have h6:=aa hb;clear hb;go_wp2_with fail;refine h3.out.mono ?_;rintro e w1 ⟨rfl,rfl⟩;go_wp2_with fail;go_ret;exact⟨i,rfl,⟨fun _=>⟨t,h4.out,h6.out⟩,fun _=>by omega⟩,rfl⟩
   ·rw[Nk hb]at h3;have h6:=aa hb;clear hb;go_wp2_with fail;refine h3.out.mono ?_;rintro e w1 ⟨rfl,rfl⟩;go_wp2_with fail;go_roundw;case rel=>
     refine⟨i+1,by omega,by go_num,aa ?_,trivial⟩;rw[h9.out];rintro⟨y,hy,h8⟩;rcases List.mem_append.1 hy with hy|hy;·exact hf.out ⟨y,hy,h8⟩
     ·rw[List.mem_singleton.1 hy]at h8;exact h6.out h8
    case measure=>simp[intOf];omega
  ·obtain rfl:i=q:=(by omega);have h0:=hf.out;rw[Nt (Ox h7.out)]at h0;have h5:=aa h0;clear h0;go_wp2_with fail;go_ret;exact⟨-1,rfl,⟨fun h=>absurd h (by omega),fun h=>absurd h h5.out⟩,rfl⟩
theorem sY(w:World)(bx:Nat)(At:Option Addr)(q d:Nat)(T:List (List Int))(hb:Blk w bx 88 #[.slice At q d])(hT:vf w At q T)(hq:0<q)(h2:q<=d)(h0:q<=1000000):
 Calls prog 207 #[.slice At q d,KR bx] w fun e w'=>e=.returned (.bool (decide (∃ t∈T,xo (T.getD 0 []).length t)))/\w'=w:=by
 have HI:=aa (zq w bx At q d T hb hT hq h2 h0);clear hb hT;go_enter func207,ntmps207;go_wp2_with fail;refine HI.out.mono ?_;rintro e w1 ⟨k,rfl,hk,rfl⟩;by_cases h:∃t∈T,xo (T.getD 0 []).length t;·have d0:decide ((0:Int)<=k)=true:=No (hk.2 h);have HD:=aa (No h);clear hk h;go_wp2_with fail;go_ret;rw[HD.out];exact⟨rfl,rfl⟩
 ·have d0:decide ((0:Int)<=k)=false:=Nk fun h1=>h (hk.1 h1);have HD:=aa (Nk h);clear hk h;go_wp2_with fail;go_ret;rw[HD.out];exact⟨rfl,rfl⟩
def yO(T:List (List Int)):Prop:=2<=T.length/\T.length<=6/\3<=(T.getD 0 []).length/\∀t∈T,t.length=(T.getD 0 []).length/\a6 t
instance (T:List (List Int)):Decidable (yO T):=inferInstanceAs (Decidable (_/\_))
theorem tu(w:World)(At:Option Addr)(q d:Nat)(T:List (List Int))(hT:vf w At q T)(hj:q<=d)(hi:q<=maxLen):
 Calls prog 153 #[.slice At q d] w fun e w'=>e=.returned (.bool (decide (yO T)))/\Below w.heap.size w w':=by
 have hf:=hT.1;obtain⟨ans,h0⟩:∃ans,ans=decide (yO T):=⟨_,rfl⟩;rw[<- h0];have h7:Below w.heap.size w (w.alloc (.cells #[.slice At q d] 88)):=(Nj _ _).alloc (ah _) _;have h9:Blk (w.alloc (.cells #[.slice At q d] 88)) w.heap.size 88 #[.slice At q d]:=aj w _ _;have h8:=hT.below h7;unfold maxLen at hi;by_cases h1:q<2;·have d1:decide ((q:Int)<2)=true:=aX (by omega);(have ha:ans=false:=by rw[h0];exact Nk fun h=>by have:=h.1;omega);subst ha;have HB:=aa h7;clear h0 hT h8 h7 h9 hf;go_enter func153,ntmps153;go_wp2_with fail;go_ret;exact⟨rfl,HB.out⟩
 ·have d1:decide ((q:Int)<2)=false:=aD (by omega);by_cases h2:6<q;·have d2:decide ((6:Int)<(q:Int))=true:=aX (by omega);(have ha:ans=false:=by rw[h0];exact Nk fun h=>by have:=h.2.1;omega);subst ha;have HB:=aa h7;clear h0 hT h8 h7 h9 hf;go_enter func153,ntmps153;go_wp2_with fail;go_ret;exact⟨rfl,HB.out⟩
  ·have d2:decide ((6:Int)<(q:Int))=false:=aD (by omega);obtain⟨tb,tq,rfl,hh⟩:=h8.2 (by omega);obtain⟨A2,c2,h3,_,_,hm⟩:=hh 0 (by omega);rw[Og]at h3;have HE:=aa (mA (w.alloc (.cells #[.slice (some ⟨tb,tq,none⟩) q d] 88)) ((T.getD 0 []).length:Nat));have HC:=aa (sY _ w.heap.size _ q d T h9 h8 (by omega) hj (by omega));have q0:(w.alloc (.cells #[.slice (some ⟨tb,tq,none⟩) q d] 88)).cell? ⟨w.heap.size,0,none⟩=some (.slice (some ⟨tb,tq,none⟩) q d):=(ac h9 0).trans rfl;obtain⟨m,hg⟩:∃m,m=(T.getD 0 []).length:=⟨_,rfl⟩;have he:=aa hg;have h6:=aa h0;have HQ:=aa (show 2<=T.length/\T.length<=6 by omega);have hc:=aa (ns T 0 (by omega));rw[<- hg]at h3 hm HE;have HB:=aa h7;clear h0 hT h8 h7 h9 hf hh hg;unfold maxLen at hm;by_cases h4:3<=(m:Int)/\(m:Int)<=258
   ·rw[No h4]at HE;by_cases h5:∃t∈T,xo (T.getD 0 []).length t;·rw[No h5]at HC;have ha:ans=false:=(by rw[h6.out];refine Nk fun h=> ?_;obtain⟨t,ht,hb⟩:=h5;exact hb (h.2.2.2 t ht));subst ha;clear h5 h6 h4;go_enter func153,ntmps153;go_upto_region 1 with fail;generalize w.alloc (.cells #[.slice (some ⟨tb,tq,none⟩) q d] 88)=w1 at*;go_wp2_with fail;refine HE.out.mono ?_;rintro e w2 ⟨rfl,rfl⟩;go_wp2_with fail;refine HC.out.mono ?_;rintro e w2 ⟨rfl,rfl⟩;go_wp2_with fail;go_ret;exact⟨rfl,HB.out⟩
    ·rw[Nk h5]at HC;have ha:ans=true:=(by rw[h6.out];refine No ⟨HQ.out.1,HQ.out.2,by rw[<- he.out];omega,fun t ht=> ?_⟩;refine Decidable.by_contra fun hb=>h5 ⟨t,ht,hb⟩);subst ha;clear h5 h6 h4;go_enter func153,ntmps153;go_upto_region 1 with fail;generalize w.alloc (.cells #[.slice (some ⟨tb,tq,none⟩) q d] 88)=w1 at*;go_wp2_with fail;refine HE.out.mono ?_;rintro e w2 ⟨rfl,rfl⟩;go_wp2_with fail;refine HC.out.mono ?_;rintro e w2 ⟨rfl,rfl⟩;go_wp2_with fail;go_ret;exact⟨rfl,HB.out⟩
   ·rw[Nk h4]at HE;have ha:ans=false:=by
     rw[h6.out];refine Nk fun h=>h4 ⟨?_,?_⟩;·have:=h.2.2.1;rw[<- he.out]at this;omega
     ·have:=(h.2.2.2 _ hc.out).2.2.1;rw[<- he.out]at this;omega
    subst ha;clear h6 h4 HC;go_enter func153,ntmps153;go_upto_region 1 with fail;generalize w.alloc (.cells #[.slice (some ⟨tb,tq,none⟩) q d] 88)=w1 at*;go_wp2_with fail;refine HE.out.mono ?_;rintro e w2 ⟨rfl,rfl⟩;go_wp2_with fail;go_ret;exact⟨rfl,HB.out⟩
theorem qr(f:Nat->Int):∀k,1<=k->∃b:Int,(∀ i,i<k->b<=f i)/\∃i,i<k/\f i=b
 | 0,h=>by omega
 | k+1,_=>by
  by_cases e:k=0;·subst e;exact⟨f 0,fun i hi=>by rw[show i=0 by omega];exact Q0 _,0,by omega,rfl⟩
  ·obtain⟨b,hb,j,hj,h0⟩:=qr f k (by omega);by_cases e2:b<=f k
   ·refine⟨b,fun i hi=> ?_,j,by omega,h0⟩;by_cases e3:i=k;·rw[e3];exact e2
    ·exact hb i (by omega)
   ·refine⟨f k,fun i hi=> ?_,k,by omega,rfl⟩;by_cases e3:i=k;·rw[e3];exact Q0 _
    ·have:=hb i (by omega);omega
theorem Gv(f:Nat->Int)(k:Nat)(h:1<=k):∃b:Int,(∀ i,i<k->f i<=b)/\∃i,i<k/\f i=b:=by obtain⟨b,hb,i,hi,h0⟩:=qr (fun i=> - f i) k h;exact⟨-b,fun j hj=>by have:=hb j hj;omega,i,hi,by omega⟩
theorem MF(w:World)(A:Option Addr)(n c:Nat)(L:List Int)(hL:ZIn w A n L)(h1:1<=n)(hn:n<=maxLen)(a:Int)(ha:(∀ i,i<n->a<=L.getD i 0)/\∃i,i<n/\L.getD i 0=a):
 Calls prog 154 #[.slice A n c] w fun e w'=>e=.returned (.int .i64 a)/\w'=w:=by refine(sh w A n c L hL h1 hn).mono ?_;rintro e w' ⟨b,rfl,hb,rfl⟩;have:b=a:=(by obtain⟨i,hi,h0⟩:=ha.2;obtain⟨j,hj,h3⟩:=hb.2;have h1:=ha.1 j hj;have h2:=hb.1 i hi;omega);rw[this];exact⟨rfl,rfl⟩
theorem ME(w:World)(A:Option Addr)(n c:Nat)(L:List Int)(hL:ZIn w A n L)(h1:1<=n)(hn:n<=maxLen)(a:Int)(ha:(∀ i,i<n->L.getD i 0<=a)/\∃i,i<n/\L.getD i 0=a):
 Calls prog 155 #[.slice A n c] w fun e w'=>e=.returned (.int .i64 a)/\w'=w:=by refine(oY w A n c L hL h1 hn).mono ?_;rintro e w' ⟨b,rfl,hb,rfl⟩;have:b=a:=(by obtain⟨i,hi,h0⟩:=ha.2;obtain⟨j,hj,h3⟩:=hb.2;have h1:=ha.1 j hj;have h2:=hb.1 i hi;omega);rw[this];exact⟨rfl,rfl⟩
theorem iF{T:List (List Int)}{P:List Int}:aP T P↔yO T/\1<=P.length/\P.length<=32767/\∀x∈P,0<=x/\x<(T.length:Int):=
 ⟨fun h=>⟨⟨h.1,h.2.1,h.2.2.2.2.2.2,h.2.2.2.2.1⟩,h.2.2.1,h.2.2.2.1,h.2.2.2.2.2.1⟩,fun h=>⟨h.1.1,h.1.2.1,h.2.1,h.2.2.1,h.1.2.2.2,h.2.2.2,h.1.2.2.1⟩⟩
theorem du(w:World)(v:Value)(T:List (List Int))(P:List Int)(hv:aQ w v T P):
 Calls prog 102 #[v] w fun e w'=>e=.returned (.bool (decide (aP T P)))/\Below w.heap.size w w':=by
 obtain⟨A,q,c,B,m,d,rfl,hT,ho,hq,hP,hp,hm⟩:=hv;obtain⟨ans,h5⟩:∃ans,ans=decide (aP T P):=⟨_,rfl⟩;rw[<- h5];have h7:Below w.heap.size w (w.alloc (.cells #[.slice A q c,.slice B m d] 90)):=(Nj _ _).alloc (ah _) _;have hc:Blk (w.alloc (.cells #[.slice A q c,.slice B m d] 90)) w.heap.size 90 #[.slice A q c,.slice B m d]:=aj w _ _;have HT:=aa (tu _ A q c T (hT.below h7) ho hq);have hi:=hP.below h7;have hf:=hT.1;have hj:=hP.1;have hg:=hm;unfold maxLen at hm hq;by_cases h1:yO T
 ·rw[No h1]at HT;by_cases h2:m<1;·have d2:decide ((m:Int)<1)=true:=aX (by omega);(have ha:ans=false:=by rw[h5];exact Nk fun h=>by have:=(iF.1 h).2.1;omega);subst ha;have HB:=aa h7;have HK:=aa hc;clear h5 hT hP h7 hc hi h1 hf hj hg;go_enter func102,ntmps102;go_upto_region 1 with fail;generalize w.alloc (.cells #[.slice A q c,.slice B m d] 90)=w1 at*;have q0:w1.cell? ⟨w.heap.size,0,none⟩=some (.slice A q c):=(ac HK.out 0).trans rfl;go_wp2_with fail;refine HT.out.mono ?_;rintro e w2 ⟨rfl,h0⟩;have h6:=aO h0 HK.out;have q1:w2.cell? ⟨w.heap.size,1,none⟩=some (.slice B m d):=(ac h6 1).trans rfl;have h9:=aa (ap HB.out h0);clear h6 h0 HB HK;go_wp2_with fail;go_ret;exact⟨rfl,h9.out⟩
  ·have d2:decide ((m:Int)<1)=false:=aD (by omega);by_cases h3:32767<m;·have d3:decide ((32767:Int)<(m:Int))=true:=aX (by omega);(have ha:ans=false:=by rw[h5];exact Nk fun h=>by have:=(iF.1 h).2.2.1;omega);subst ha;have HB:=aa h7;have HK:=aa hc;clear h5 hT hP h7 hc hi h1 hf hj hg h3;go_enter func102,ntmps102;go_upto_region 1 with fail;generalize w.alloc (.cells #[.slice A q c,.slice B m d] 90)=w1 at*;have q0:w1.cell? ⟨w.heap.size,0,none⟩=some (.slice A q c):=(ac HK.out 0).trans rfl;go_wp2_with fail;refine HT.out.mono ?_;rintro e w2 ⟨rfl,h0⟩;have h6:=aO h0 HK.out;have q1:w2.cell? ⟨w.heap.size,1,none⟩=some (.slice B m d):=(ac h6 1).trans rfl;have h9:=aa (ap HB.out h0);clear h6 h0 HB HK;go_wp2_with fail;go_ret;exact⟨rfl,h9.out⟩
   ·have d3:decide ((32767:Int)<(m:Int))=false:=aD (by omega);obtain⟨a,ha⟩:=qr (fun i=>P.getD i 0) m (by omega);obtain⟨b,hb⟩:=Gv (fun i=>P.getD i 0) m (by omega);have hl:=aa fun(w1:World) (h:ZIn w1 B m P)=>MF w1 B m d P h (by omega) hg a ha;have hn:=aa fun(w1:World) (h:ZIn w1 B m P)=>ME w1 B m d P h (by omega) hg b hb;have he:=qP (m:=(q:Int)) hj ha hb
    have h8:Hid (ans=decide (0<=a/\b<(q:Int))):=aa (by
     rw[h5]
     refine decide_eq_decide.2 ⟨fun h=> ?_,fun h=> ?_⟩
     ·rw[<- he,<-hf]
      exact(iF.1 h).2.2.2
     ·exact iF.2 ⟨h1,by omega,by omega,by rw[hf];exact he.2 h⟩)
    have HB:=aa h7;have HK:=aa hc;have hk:=aa hi;clear h5 hT hP h7 hc hi h1 hf hj hg h3 ha hb he;by_cases h4:0<=a;·have d4:decide (0<=a)=true:=No h4;have hcut:ans=decide (b<(q:Int)):=(by rw[h8.out];exact decide_eq_decide.2 ⟨fun h=>h.2,fun h=>⟨h4,h⟩⟩);subst hcut;clear h8;go_enter func102,ntmps102;go_upto_region 1 with fail;generalize w.alloc (.cells #[.slice A q c,.slice B m d] 90)=w1 at*;have q0:w1.cell? ⟨w.heap.size,0,none⟩=some (.slice A q c):=(ac HK.out 0).trans rfl;go_wp2_with fail;refine HT.out.mono ?_;rintro e w2 ⟨rfl,h0⟩;have h6:=aO h0 HK.out;have q1:w2.cell? ⟨w.heap.size,1,none⟩=some (.slice B m d):=(ac h6 1).trans rfl;have q2:w2.cell? ⟨w.heap.size,0,none⟩=some (.slice A q c):=(ac h6 0).trans rfl;have h9:=aa (ap HB.out h0);have hh:=aa (hk.out.below h0);clear h6 h0 HB HK hk HT q0;go_upto_region 3 with fail;go_quiet (first|(go_at_call 154;exact Rb (hl.out _ (hh.out.below (ay (Nj _ _) _))))|(go_at_call 155;exact Rb (hn.out _ (hh.out.below (ay (Nj _ _) _)))));go_wp2_with fail;go_ret;exact⟨rfl,ay h9.out _⟩
    ·have d4:decide (0<=a)=false:=Nk h4;have ha:ans=false:=(by rw[h8.out];exact Nk fun h=>h4 h.1);subst ha;clear h8;go_enter func102,ntmps102;go_upto_region 1 with fail;generalize w.alloc (.cells #[.slice A q c,.slice B m d] 90)=w1 at*;have q0:w1.cell? ⟨w.heap.size,0,none⟩=some (.slice A q c):=(ac HK.out 0).trans rfl;go_wp2_with fail;refine HT.out.mono ?_;rintro e w2 ⟨rfl,h0⟩;have h6:=aO h0 HK.out;have q1:w2.cell? ⟨w.heap.size,1,none⟩=some (.slice B m d):=(ac h6 1).trans rfl;have q2:w2.cell? ⟨w.heap.size,0,none⟩=some (.slice A q c):=(ac h6 0).trans rfl;have h9:=aa (ap HB.out h0);have hh:=aa (hk.out.below h0);clear h6 h0 HB HK hk HT q0;go_upto_region 3 with fail;go_quiet (first|(go_at_call 154;exact Rb (hl.out _ (hh.out.below (ay (Nj _ _) _))))|(go_at_call 155;exact Rb (hn.out _ (hh.out.below (ay (Nj _ _) _)))));go_wp2_with fail;go_ret;exact⟨rfl,ay h9.out _⟩
 ·rw[Nk h1]at HT;have ha:ans=false:=(by rw[h5];exact Nk fun h=>h1 (iF.1 h).1);subst ha;have HB:=aa h7;have HK:=aa hc;clear h5 hT hP h7 hc hi h1 hf hj hg;go_enter func102,ntmps102;go_upto_region 1 with fail;generalize w.alloc (.cells #[.slice A q c,.slice B m d] 90)=w1 at*;have q0:w1.cell? ⟨w.heap.size,0,none⟩=some (.slice A q c):=(ac HK.out 0).trans rfl;go_wp2_with fail;refine HT.out.mono ?_;rintro e w2 ⟨rfl,h0⟩;have h9:=aa (ap HB.out h0);clear h0 HB HK;go_wp2_with fail;go_ret;exact⟨rfl,h9.out⟩
theorem pi:∀(o r:List Nat) (x:Nat),x∈o->aS (o++r) x=aS o x
 | [],_,_,h=>by cases h
 | y::o,r,x,h=>by
  rw[Od,aS,aS];by_cases e:y=x;·rw[Ng e,Ng e]
  ·rw[Nf e,Nf e,pi o r x (by
    rcases List.mem_cons.1 h with rfl|h
    ·exact absurd rfl e
    ·exact h)]
theorem o4(o r:List Nat)(k:Nat)(hk:k<o.length):eu (o++r) k=eu o k++r:=by unfold eu;rw[OH (by omega),OA (by omega),Nb,NT hk,<-Nb];simp
theorem qp{o:List Nat}{k x:Nat}(hk:k<o.length)(hx:x∈o):x∈eu o k:=by
 unfold eu;obtain⟨i,hi,rfl⟩:=Pt hx;rcases OJ i k with h|h|h;·refine Nu _ (Pz _ ?_);exact List.mem_take_iff_getElem.2 ⟨i,by omega,rfl⟩
 ·subst h;rw[Nb,Nd hk];exact Nl ..
 ·refine Nu _ (Qr _ ?_);exact List.mem_drop_iff_getElem.2 ⟨i-(k+1),by omega,by simp only[show k+1+(i-(k+1))=i by omega]⟩
theorem l5:∀(P o r:List Nat),(∀ x∈P,x∈o)->aJ (o++r) P=aJ o P
 | [],_,_,_=>rfl
 | x::P,o,r,h=>by have hx:=h x (Nl ..);have hp:=fH o x hx;rw[aJ,aJ,pi o r x hx,o4 o r _ hp.1,l5 P (eu o (aS o x)) r (fun y hy=>qp hp.1 (h y (Nu _ hy)))]
theorem wX{T:Nat}(h:T<=6):∃r, [0,1,2,3,4,5]=List.range T++r:=by refine⟨[0,1,2,3,4,5].drop T,?_⟩;have:T=0\/T=1\/T=2\/T=3\/T=4\/T=5\/T=6:=(by omega);rcases this with rfl|rfl|rfl|rfl|rfl|rfl|rfl <;>rfl
theorem uD{T:Nat}(h:T<=6)(P:List Nat)(hP:∀x∈P,x<T):aJ [0,1,2,3,4,5] P=aJ (List.range T) P:=by obtain⟨r,hr⟩:=wX h;rw[hr];exact l5 P _ r fun x hx=>List.mem_range.2 (hP x hx)
theorem l6:∀(P o:List Nat) (T:Nat),o.length=T->(∀ x∈P,x∈o)->(aJ o P).length<=T*P.length
 | [],_,_,_,_=>by simp[aJ]
 | x::P,o,T,hT,h=>by have hx:=h x (Nl ..);have hp:=fH o x hx;have ih:=l6 P (eu o (aS o x)) T (by rw[gv hp.1,hT]) (fun y hy=>qp hp.1 (h y (Nu _ hy)));rw[aJ,Nc,NE,Nv,Nv,Nat.mul_succ];omega
theorem nV(f:Nat->Nat)(n p:Nat)(h:p<n):(List.range n).map (mG f p)=eu ((List.range n).map f) p:=by
 have hl:((List.range n).map f).length=n:=by simp
 apply Oa;intro j;by_cases hj:j<n
 ·rw[Np,NN hj];unfold eu mG
  match j with
  | 0=>rw[List.getElem?_cons_zero,dB n f p h];rfl
  | j+1=>
   rw[Rn];by_cases e:j<p;·rw[NT (by simp;omega),PR,Ng e,Np,NN (by omega)];show some (if j+1=0 then f p else if j+1<=p then f (j+1-1)else f (j+1))=_;rw[Nf (by omega),Ng (by omega)];rfl
   ·rw[NU (by simp;omega),Pa,Nz,hl,Oh (by omega),show p+1+(j-p)=j+1 by omega,Np,NN (by omega)];show some (if j+1=0 then f p else if j+1<=p then f (j+1-1)else f (j+1))=_;rw[Nf (by omega),Nf (by omega)];rfl
 ·rw[Ny (by simp;omega),Ny (by rw[gv (by rw[hl];exact h),hl];omega)]
theorem Df(k:Nat)(h:k<=5):ag (2^(k+1)-2) (k+1)=List.replicate k 1++ [0]:=by have:k=0\/k=1\/k=2\/k=3\/k=4\/k=5:=(by omega);rcases this with rfl|rfl|rfl|rfl|rfl|rfl <;>decide
theorem GM(k:Nat)(hk:k<=5)(B:Nat)(w:World)(p:Nat)(v:Value)(L:List Nat)(hW:IsW B w p v L)(hL:L.length<=1000000000000)(x n:Int)(hx:x=((2^(k+1)-2:Nat):Int))(hn:n=((k+1:Nat):Int)):
 Calls prog 60 #[.pointer (some ⟨p,0,none⟩),.int .u64 x,.int .i64 n] w fun e w'=>e=.returned (.int .i64 0)/\∃v',IsW B w' p v' (L++(List.replicate k 1++ [0]))/\al B [p] [5] w w':=by rw[<- Df k hk,hx,hn];refine fo B w p v L (2^(k+1)-2) (k+1) hW hL (by omega) ?_;have:=OT (k+1);omega
def sE(B:Nat)(w:World)(p:Nat)(L:List Nat)(e:Ending)(w':World):Prop:=e=.returned (.tuple #[])/\(∃ v',IsW B w' p v' L)/\al B [p] [5] w w'
theorem vi(B:Nat)(w:World)(p:Nat)(v:Value)(L:List Nat)(hW:IsW B w p v L)(hL:L.length<=1000000)(A:Option Addr)(T c:Nat)(Bp:Option Addr)(G d:Nat)(P:List Nat)(hP:aw w Bp G P)
 (H2:∀a,Bp=some a->a.block<B) (HY:2<=T) (HZ:T<=6) (HS:1<=G) (hG:G<=32767) (H1:∀x∈P,x<T):
 Calls prog 103 #[.pointer (some ⟨p,0,none⟩),.agg #[.slice A T c,.slice Bp G d]] w (sE B w p (L++(ag T 3++ag G 15++aJ (List.range T) P))):=by
 have hB:B<=w.heap.size:=NH hW.lo (NV (az hW.blk));have p2:=az hW.blk;have HJ:=hP.1;obtain⟨b,off,rfl,HL⟩:=hP.2 HS;have HT:b<B:=H2 _ rfl;have HQ:=aa HL;have hc:al B [p] [5] w (w.alloc (.cells #[.slice A T c,.slice (some ⟨b,off,none⟩) G d] 90)):=(al.refl _ _ _ _).alloc hB _;have H5:=hW.alloc (.cells #[.slice A T c,.slice (some ⟨b,off,none⟩) G d] 90);have HH:=aj w 90 #[.slice A T c,.slice (some ⟨b,off,none⟩) G d];obtain⟨F,hF⟩:∃F,F=L++(ag T 3++ag G 15++aJ (List.range T) P):=⟨_,rfl⟩;have HP:=aa hF;have hR:Hid (∀ w' v',IsW B w' p v' F->al B [p] [5] w w'->sE B w p F (.returned (.tuple #[])) w'):=aa fun w' v' h1 h2=>⟨rfl,⟨v',h1⟩,h2⟩;rw[<- hF];generalize sE B w p F=PO at*;have hX:=aa H5;have hS:=aa hc;have he:=aa HH;have HR:=aa H1;have hf:=aa HJ;clear hW hP H2 HL hF hc H5 HH H1 HJ;go_enter func103,ntmps103;go_upto_region 1 with fail;have HW:(w.alloc (.cells #[.slice A T c,.slice (some ⟨b,off,none⟩) G d] 90)).heap.size=w.heap.size+1:=by simp
 clear HW;generalize w.alloc (.cells #[.slice A T c,.slice (some ⟨b,off,none⟩) G d] 90)=w1 at*;have q0:w1.cell? ⟨w.heap.size,0,none⟩=some (.slice A T c):=(ac he.out 0).trans rfl;have q1:w1.cell? ⟨w.heap.size,1,none⟩=some (.slice (some ⟨b,off,none⟩) G d):=(ac he.out 1).trans rfl;have hO:Hid (Calls prog 60 #[.pointer (some ⟨p,0,none⟩),.int .u64 T,.int .i64 3] w1 fun e w'=>e=.returned (.int .i64 0)/\∃v',IsW B w' p v' (L++ag T 3)/\al B [p] [5] w1 w'):=aa (fo B w1 p v L T 3 hX.out (by omega) (by omega) (by omega));go_wp2_with fail;refine hO.out.mono ?_;rintro e w2 ⟨rfl,v2,H8,hs⟩;have HK:w.heap.size∉ [p]:=by simp;omega
 have hh:=hs.blk he.out HK (by decide);have q0:w2.cell? ⟨w.heap.size,0,none⟩=some (.slice A T c):=(ac hh 0).trans rfl;have q1:w2.cell? ⟨w.heap.size,1,none⟩=some (.slice (some ⟨b,off,none⟩) G d):=(ac hh 1).trans rfl;have hQ:Hid (Calls prog 60 #[.pointer (some ⟨p,0,none⟩),.int .u64 G,.int .i64 15] w2 fun e w'=>e=.returned (.int .i64 0)/\∃v',IsW B w' p v' (L++ag T 3++ag G 15)/\al B [p] [5] w2 w'):=aa (fo B w2 p v2 (L++ag T 3) G 15 H8 (by rw[Nc,af];omega) (by omega) (by omega));have hH:=aa hh;have HS2:=aa (hS.out.trans hs);clear H8 hs hh hX hS he hO;go_wp2_with fail;refine hQ.out.mono ?_;rintro e w3 ⟨rfl,v3,HA,ht⟩;have hv:=ht.blk hH.out HK (by decide);have q0:w3.cell? ⟨w.heap.size,0,none⟩=some (.slice A T c):=(ac hv 0).trans rfl;have hJ:=aa hv;have hq:=aa (HS2.out.trans ht);have hY:=aa HA;have hE:=aa (oF w3 T (by omega));clear HA ht hv HS2 hH hQ q1;go_wp2_with fail;refine hE.out.mono ?_;rintro e w4 ⟨rfl,hu,HD⟩;have h0:=an HD;have HI:=h0.blk hJ.out ar ar;have q1:w4.cell? ⟨w.heap.size,1,none⟩=some (.slice (some ⟨b,off,none⟩) G d):=(ac HI 1).trans rfl;have HX:w.heap.size<=w3.heap.size:=hq.out.size;have hT:=aa (hq.out.trans (h0.mono (NH hB HX) (by simp) (by simp)));have hZ:=aa (hY.out.step h0 ar (fun _ _=>ar) ar ar);have hC:=aa hu;have hg:=aa hu.lt;clear hu HD h0 HI hE hJ hq hY;generalize w3.heap.size=g at*;go_wp2_with fail;go_loopw [6,7,27] (fun s6 s7 iv' wx=>∃(i:Nat) (f:Nat->Nat) (v':Value) (K:List Nat),i<=G/\iv'=.int .i64 i/\IsW B wx p v' K/\aA wx g g T T f/\Hid (K++aJ ((List.range T).map f) (P.drop i)=F/\K.length<=2000000+6*i/\∀x,x<T->x∈(List.range T).map f)/\al B [p] [5] w wx) (fun _ _ iv' _=>G-(intOf iv').toNat)
 case atStart=>
  refine⟨0,fun j=>j,v3,_,Nh _,rfl,hZ.out,hC.out,⟨?_,?_,fun x hx=> ?_⟩,hT.out⟩;·rw[HP.out,List.map_id',Q2];simp only[Ni]
  ·rw[Nc,Nc,af,af];omega
  ·rw[List.map_id'];exact List.mem_range.2 hx
 case round=>
  clear hZ hC hT;rename World=>w5;obtain⟨i,f,v5,K,hi,rfl,h7,ha,hI,h6⟩:=hrel;by_cases e:i<G
  ·have p1:(0:Int)<=(i:Int):=(by omega);have p0:(i:Int)<(G:Int):=(by omega);have h9:w5.cell? ⟨b,off+i,none⟩=some (.int .i64 (P.getD i 0:Nat)):=(h6.below.cell (p:=⟨b,off+i,none⟩) HT).trans (HQ.out i e);obtain⟨x,hx⟩:∃x,x=P.getD i 0:=⟨_,rfl⟩;have HO:x∈P:=(by rw[hx,Nb,Nd (by rw[hf.out];exact e)];exact NL _);have HM:=HR.out x HO;have hA:=hI.out.2.2 x HM;have HF:P.drop i=x::P.drop (i+1):=(by rw[NP (by rw[hf.out];exact e),hx,Nb,Nd (by rw[hf.out];exact e)];rfl);rw[<- hx]at h9;have ho:=aa (Ci w5 (some ⟨g,0,none⟩) T T _ x ha.ints hA (by omega));have hm:=fH _ x hA;have hw:((List.range T).map f).length=T:=(by simp);obtain⟨k,hk⟩:∃k,k=aS ((List.range T).map f) x:=⟨_,rfl⟩;rw[<- hk]at ho hm;rw[hw]at hm;have hl:=hm.1;have hM:=aa (zr g w5 g T T f k ha hl (by omega))
   have hN:Hid ((K++(List.replicate k 1++ [0]))++aJ ((List.range T).map (mG f k)) (P.drop (i+1))=F):=aa (by
    rw[<- hI.out.1,HF,aJ,<-hk,nV f T k hl]
    simp)
   (have hK:Hid (∀ y,y<T->y∈(List.range T).map (mG f k)):=aa fun y hy=>by rw[nV f T k hl];exact qp (by rw[hw];exact hl) (hI.out.2.2 y hy));have H0:=hI.out.2.1;have hp:=aa H0;have hr:=aa h7;have hV:=aa h6;have hD:=aa ha;clear hm hI h7 h6 ha hx HO hA HF hk hw H0 HM;go_wp2_with fail;refine ho.out.mono ?_;rintro e w6 ⟨rfl,rfl⟩;clear ho;go_wp2_with fail;refine hM.out.mono ?_;rintro e w7 ⟨rfl,HG,hz⟩;have HU:p∉ [g]:=by have:=hg.out;simp;omega
   have HB:=hr.out.step hz HU (fun k hk=>by
    rw[Ok]
    intro e
    obtain⟨c1,f1,e1⟩:=Lib.ownsRow_kind hr.out.row g (by rw[hk,e])
    obtain⟨c2,f2,e2⟩:=Lib.ownsRow_kind hD.out g rfl
    rw[e1]at e2
    simp at e2) ar ar
   have H3:al B [p] [5] w w7:=hV.out.after hz (by have:=hg.out;omega) (fun j hj=>.inr (by rw[List.mem_singleton.1 hj];have:=hg.out;omega)) (by simp);have hb:K.length<=1000000000000:=(by have:=hp.out;omega);have HV:k<=5:=(by omega);have h5:=aa fun(x n:Int) (hx:x=((2^(k+1)-2:Nat):Int)) (hn:n=((k+1:Nat):Int))=>GM k HV B w7 p v5 K HB hb x n hx hn;have h4:Hid (∀ w8 v8,IsW B w8 p v8 (K++(List.replicate k 1++ [0]))->al B [p] [5] w7 w8->∃(i':Nat) (f':Nat->Nat) (v':Value) (K':List Nat),i'<=G/\(.int .i64 (i+1:Nat):Value)=.int .i64 i'/\IsW B w8 p v' K'/\aA w8 g g T T f'/\Hid (K'++aJ ((List.range T).map f') (P.drop i')=F/\K'.length<=2000000+6*i'/\∀x,x<T->x∈(List.range T).map f')/\al B [p] [5] w w8):=aa fun w8 v8 h1 h2=>
    ⟨i+1,mG f k,v8,_,by omega,rfl,h1,h2.row HG (fun j hj=>by
      simp[Value.ownBlock]at hj
      have:=hg.out
      simp
      omega) (by decide),⟨hN.out,by
       rw[Nc,Nc,NE,NM]
       have:=hp.out
       omega,hK.out⟩,H3.trans h2⟩
   clear HG hz HB H3 hb hM hN hK hp hr hV hD;have h8:k=0\/k=1\/k=2\/k=3\/k=4\/k=5:=(by omega);rcases h8 with rfl|rfl|rfl|rfl|rfl|rfl <;>
   ·go_wp2_with fail;refine(h5.out _ _ (by rfl) (by rfl)).mono ?_;rintro e w8 ⟨rfl,v8,HC,H4⟩;have HN:=aa (h4.out w8 v8 HC H4);clear HC H4 h4 h5;go_wp2_with fail;go_roundw;case rel=>exact HN.out
    case measure=>simp[intOf];omega
  ·obtain rfl:i=G:=(by omega);have h3:=hI.out.1;rw[NW (by rw[hf.out];exact Nm _),aJ,NR]at h3;rw[h3]at h7;have HE:=aa (hR.out w5 v5 h7 h6);clear h7 ha hI h6 h3 hR;go_wp2_with fail;(try simp only[Exit.inBlock,Exit.then]);refine ND (RA rfl _ _ _) rfl ?_;exact HE.out
def eh(bits:List Nat)(a:Nat):Nat×Nat×Nat:=
 if bits.length<a+3 then(0,0,10)
 else if val ((bits.drop a).take 3)<2\/6<val ((bits.drop a).take 3)then(0,0,110)
 else if bits.length<a+18 then(0,0,10)
 else if val ((bits.drop (a+3)).take 15)=0 then(0,0,110)
 else(val ((bits.drop a).take 3),val ((bits.drop (a+3)).take 15),0)
def xp(B:Nat)(w:World)(p:Nat)(s:ByteArray)(a:Nat)(ans:Nat×Nat×Nat)(e:Ending)(w':World):Prop:=
 e=.returned (.tuple #[.int .i64 ans.1,.int .i64 ans.2.1,.int .i64 ans.2.2])/\(ans.2.2=0->IsR B w' p s (a+18))/\al B [p] [] w w'
theorem zo(B:Nat)(w:World)(p:Nat)(s:ByteArray)(a:Nat)(hR:IsR B w p s a)(hs:s.size<=2000000)(ha:a<=8*s.size):
 Calls prog 215 #[.pointer (some ⟨p,0,none⟩)] w (xp B w p s a (eh (ai s.data.toList) a)):=by
 have hh:(ai s.data.toList).length=8*s.size:=by rw[aq];rfl
 obtain⟨bits,h4⟩:∃bits,bits=ai s.data.toList:=⟨_,rfl⟩;have hj:am bits:=by rw[h4];exact aG _
 have hg:eh bits a=if 8*s.size<a+3 then(0,0,10)
  else if val ((bits.drop a).take 3)<2\/6<val ((bits.drop a).take 3)then(0,0,110)
  else if 8*s.size<a+18 then(0,0,10)
  else if val ((bits.drop (a+3)).take 15)=0 then(0,0,110)
  else(val ((bits.drop a).take 3),val ((bits.drop (a+3)).take 15),0):=by
  unfold eh
  rw[h4,hh]
 rw[<- h4];rw[<- h4]at hh;have h9:Hid (∀ w' x y z,eh bits a=(x,y,z)->(z=0->IsR B w' p s (a+18))->al B [p] [] w w'->xp B w p s a (eh bits a) (.returned (.tuple #[.int .i64 x,.int .i64 y,.int .i64 z])) w'):=aa fun w' x y z h1 h2 h3=>by rw[h1];exact⟨rfl,h2,h3⟩
 generalize xp B w p s a (eh bits a)=PO at*;generalize eh bits a=ans at*;have hc:=aa hg;by_cases e1:8*s.size<a+3;·have HT:Hid (Calls prog 36 #[.pointer (some ⟨p,0,none⟩),.int .i64 3] w (jn B w p s a 0 0 10)):=aa (dX B w p s a 3 hR (by omega) (by omega) ha e1);have h0:=hc.out;rw[Ng e1]at h0;have HA:=aa (h9.out · 0 0 10 h0 (fun h=>absurd h (by omega)));clear hg h0 hc h9 hh hj h4 hR;go_enter func215,ntmps215;go_wp2_with fail;refine HT.out.mono ?_;rintro e w2 ⟨rfl,_,h5⟩;have HE:=aa (HA.out w2 h5);clear h5 HA HT;go_wp2_with fail;go_ret3;exact HE.out
 ·have hT:=fS B w p s a 3 hR (by omega) (by omega) (by omega);rw[<- h4]at hT;have hr:val ((bits.drop a).take 3)<2^3:=by have h:=fu _ ((hj.drop a).take 3);rw[Nz,Nq,hh,Oh (by omega)]at h;exact h
  have h0:=hc.out;rw[Nf e1]at h0;obtain⟨T,hn⟩:∃T,T=val ((bits.drop a).take 3):=⟨_,rfl⟩;rw[<- hn]at hT hr h0;have h6:=aa h0;have HT:Hid (Calls prog 36 #[.pointer (some ⟨p,0,none⟩),.int .i64 3] w (jn B w p s a 3 T 0)):=aa hT;have ho:=aa hj;have hq:=aa hh;have hp:=aa h4;clear hg h0 hc hh hj h4 hR hT hn;by_cases e2:T<2\/6<T
  ·have h0:=h6.out;rw[Ng e2]at h0;have HA:=aa (h9.out · 0 0 110 h0 (fun h=>absurd h (by omega)));clear h0 h6 h9;by_cases e3:T<2;·have d5:decide ((T:Int)<2)=true:=aX (by omega);clear e2;go_enter func215,ntmps215;go_wp2_with fail;refine HT.out.mono ?_;rintro e w2 ⟨rfl,_,h5⟩;have HE:=aa (HA.out w2 h5);clear h5 HA HT;go_wp2_with fail;go_ret3;exact HE.out
   ·have d5:decide ((T:Int)<2)=false:=aD (by omega);have d6:decide ((6:Int)<(T:Int))=true:=aX (by omega);clear e2;go_enter func215,ntmps215;go_wp2_with fail;refine HT.out.mono ?_;rintro e w2 ⟨rfl,_,h5⟩;have HE:=aa (HA.out w2 h5);clear h5 HA HT;go_wp2_with fail;go_ret3;exact HE.out
  ·have h0:=h6.out;rw[Nf e2]at h0;have h7:=aa h0;have d5:decide ((T:Int)<2)=false:=aD (by omega);have d6:decide ((6:Int)<(T:Int))=false:=aD (by omega);clear h0 h6 e2;by_cases e4:8*s.size<a+18;·have h0:=h7.out;rw[Ng e4]at h0;have HA:=aa (h9.out · 0 0 10 h0 (fun h=>absurd h (by omega)));clear h0 h7 h9;go_enter func215,ntmps215;go_wp2_with fail;refine HT.out.mono ?_;rintro e w2 ⟨rfl,hb,h5⟩;have he:Hid (Calls prog 36 #[.pointer (some ⟨p,0,none⟩),.int .i64 15] w2 (jn B w2 p s (a+3) 0 0 10)):=aa (dX B w2 p s (a+3) 15 hb (by omega) (by omega) (by omega) (by omega));have HS2:=aa h5;clear hb h5 HT;go_wp2_with fail;refine he.out.mono ?_;rintro e w3 ⟨rfl,_,hf⟩;have HE:=aa (HA.out w3 (HS2.out.trans hf));clear hf HA he;go_wp2_with fail;go_ret3;exact HE.out
   ·have hk:val ((bits.drop (a+3)).take 15)<2^15:=(by have h:=fu _ ((ho.out.drop (a+3)).take 15);rw[Nz,Nq,hq.out,Oh (by omega)]at h;exact h);have h0:=h7.out;rw[Nf e4]at h0;(have he:Hid (∀ w2,IsR B w2 p s (a+3)->Calls prog 36 #[.pointer (some ⟨p,0,none⟩),.int .i64 15] w2 (jn B w2 p s (a+3) 15 (val ((bits.drop (a+3)).take 15)) 0)):=aa fun w2 hb=>by have h:=fS B w2 p s (a+3) 15 hb (by omega) (by omega) (by omega);rw[<- hp.out]at h;exact h);obtain⟨K,hl⟩:∃K,K=val ((bits.drop (a+3)).take 15):=⟨_,rfl⟩;rw[<- hl]at he hk h0;have h8:=aa h0;clear h0 h7 hl;by_cases e5:K=0;·have h0:=h8.out;rw[Ng e5]at h0;have HA:=aa (h9.out · 0 0 110 h0 (fun h=>absurd h (by omega)));subst e5;clear h0 h8 h9;go_enter func215,ntmps215;go_wp2_with fail;refine HT.out.mono ?_;rintro e w2 ⟨rfl,hb,h5⟩;have hi:=aa (he.out w2 hb);have HS2:=aa h5;clear hb h5 HT he;go_wp2_with fail;refine hi.out.mono ?_;rintro e w3 ⟨rfl,_,hf⟩;have HE:=aa (HA.out w3 (HS2.out.trans hf));clear hf HA hi;go_wp2_with fail;go_ret3;exact HE.out
    ·have h0:=h8.out;rw[Nf e5]at h0;have HA:=aa (h9.out · T K 0 h0);have d7:((K:Int)==0)=false:=(by rw[NA];omega);clear h0 h8 h9;go_enter func215,ntmps215;go_wp2_with fail;refine HT.out.mono ?_;rintro e w2 ⟨rfl,hb,h5⟩;have hi:=aa (he.out w2 hb);have HS2:=aa h5;clear hb h5 HT he;go_wp2_with fail;refine hi.out.mono ?_;rintro e w3 ⟨rfl,hm,hf⟩;have HE:=aa (HA.out w3 (fun _=>hm) (HS2.out.trans hf));clear hm hf HA hi;go_wp2_with fail;go_ret3;exact HE.out
theorem rB:∀(c n T:Nat),n+c<T->bO (List.replicate c 1) n T=.short
 | 0,_,_,_=>rfl
 | c+1,n,T,h=>by rw[Pg,bO,Nf (by omega),Nf (by omega)];exact rB c (n+1) T (by omega)
theorem rz:∀(c n T:Nat) (r:List Nat),n+c=T->0<c->bO (List.replicate c 1++r) n T=.bad
 | c+1,n,T,r,h,_=>by
  rw[Pg,Od,bO,Nf (by omega)];by_cases e:n+1=T;·rw[Ng e]
  ·rw[Nf e];exact rz c (n+1) T r (by omega) (by omega)
theorem ld(bits:List Nat)(T:Nat)(hT:0<T):∀(k:Nat) (o r:List Nat) (p:Nat) (out:List Nat),o.length=T->ax bits T k (o++r) p out=ax bits T k o p out
 | 0,_,_,_,_,_=>rfl
 | k+1,o,r,p,out,ho=>by
  cases hp:bO (bits.drop p) 0 T with
  | hit n=>have hn:=(tW _ _ _ _ hp hT).2.2;rw[dW hp,dW hp,o4 o r n (by omega),ld bits T hT k (eu o n) r _ _ (by rw[gv (by omega),ho])];congr 2;rw[Nb,Nb,NT (by omega)]
  | short=>rw[dL hp,dL hp]
  | bad=>rw[eS hp,eS hp]
theorem vz(bits:List Nat)(T:Nat)(hT:0<T)(h6:T<=6)(k p:Nat)(out:List Nat):ax bits T k [0,1,2,3,4,5] p out=ax bits T k (List.range T) p out:=by obtain⟨r,hr⟩:=wX h6;rw[hr];exact ld bits T hT k _ r p out (by simp)
structure lk (w0 w:World) (v:Value) (X:List Nat) (g T:Nat) (f:Nat->Nat):Prop where
 out:w.ownsRow w0.heap.size 3 1 v X.length (X.map iv)
 ord:aA w w0.heap.size g T T f
 ne:v.ownBlock≠some g
theorem lk.step{w0 w w':World}{v:Value}{X:List Nat}{g T p B:Nat}{f:Nat->Nat}(h:lk w0 w v X g T f){u:TypeId}{ds:Array Value}(hk:Blk w p u ds)(h0:(3:TypeId)≠u)(hs:al B [p] [] w w'):lk w0 w' v X g T f:=
 ⟨hs.row h.out (fun k hk2=>by rw[Ok];exact dJ h.out hk h0 k hk2) ar,hs.row h.ord (fun k hk2=>by rw[Ok];exact dJ h.ord hk h0 k hk2) ar,h.ne⟩
theorem lk.push{w0 w:World}{A:Option Addr}{N cap:Nat}{X:List Nat}{g T:Nat}{f:Nat->Nat}(h:lk w0 w (.slice A N cap) X g T f)(x:Nat)(hN:X.length=N)(hX:N<=1000000)(h1:w0.heap.size<=w.heap.size):
 ∃A2 cap2 w2,(Builtin.append_ #[57,57] 57 #[.slice A N cap,.slice (some ⟨w.heap.size,0,none⟩) 1 1]).run prog (w.alloc (.cells #[.int .i64 x] 3))=.ok (.slice A2 (N+1) cap2) w2/\
  lk w0 w2 (.slice A2 (N+1) cap2) (X++ [x]) g T f/\Below w0.heap.size w w2:=by
 obtain⟨i3,h3,h4,h5,h6⟩:=NY Tryz.info3;subst hN
 obtain⟨v2,w2,hr,ho,hg,_,h0⟩:=Qz (P:=prog) (w.alloc (.cells #[.int .i64 x] 3)) w0.heap.size 57 57 3 i3 (.int .i64 0) 1 8 underlying57 h3 h4 h5 h6 rfl (by decide) _ _ _ (h.out.alloc _) ⟨w.heap.size,0,none⟩ 1 1 [iv x] rfl (bn w (iv x) 3)
  (fun u hu=>by rw[List.mem_singleton.1 hu];rfl) (by unfold maxLen;omega) (by omega) (by simp;omega)
 obtain⟨A2,cap2,rfl,_,_,_⟩:=ak ho;have h7:=OD h.ord g rfl;refine⟨A2,cap2,w2,hr,⟨?_,Pb (RW h.ord _) hg (.inr fun e=>h.ne e.symm),?_⟩,?_⟩;·have h2:=ho;rw[show X.map iv++ [iv x]=(X++ [x]).map iv by simp]at h2;rw[Nc];exact h2
 ·rcases h0 with e|e;·rw[e];exact h.ne
  ·rw[e];intro e2;have:=Om e2;simp at this;omega
 ·exact((Nj _ _).alloc h1 _).grown hg (by simp;omega) (fun k hk=>(h.out.lt k hk).1)
theorem Kt{B:Nat}{ps:List Nat}{ts:List TypeId}{w wx w2:World}(h:al B ps ts w wx)(hb:Below w.heap.size wx w2)(hB:B<=w.heap.size):al B ps ts w w2:=
 ⟨h.below.trans (hb.mono hB),fun k cs t fr hk hp ht=>(hb.block k (Array.getElem?_eq_some_iff.1 hk).1).trans (h.keep k cs t fr hk hp ht)⟩
def mX(B:Nat)(w:World)(p:Nat)(s:ByteArray)(ans:List Nat×Nat×Nat)(e:Ending)(w':World):Prop:=
 ∃v,e=.returned (.tuple #[v,.int .i64 ans.2.2])/\w'.ownsRow w.heap.size 3 1 v ans.1.length (ans.1.map iv)/\(ans.2.2=0->IsR B w' p s ans.2.1)/\al B [p] [] w w'
theorem tw(B:Nat)(w:World)(p:Nat)(s:ByteArray)(a T K:Nat)(hR:IsR B w p s a)(hs:s.size<=2000000)(ha:a<=8*s.size)(HN:2<=T)(HJ:T<=6)(hK:K<=40000):
 Calls prog 216 #[.pointer (some ⟨p,0,none⟩),.int .i64 T,.int .i64 K] w (mX B w p s (ax (ai s.data.toList) T K [0,1,2,3,4,5] a [])):=by
 rw[vz _ T (by omega) HJ];have hB:B<=w.heap.size:=NH hR.lo (NV (az hR.blk));have HL:=az hR.blk;have H3:(ai s.data.toList).length=8*s.size:=by rw[aq];rfl
 have hV:am (ai s.data.toList):=aG _;have hq:=aa fun(wx:World) (n:Nat) (h9:IsR B wx p s n) (hn:n<=8*s.size)=>show Calls prog 244 #[.pointer (some ⟨p,0,none⟩),.int .i64 (T-1:Nat)] wx fun e w'=>
  (∃ c,bO ((ai s.data.toList).drop n) 0 T=.hit c/\c<T/\e=.returned (.tuple #[.int .i64 c,.int .i64 0])/\IsR B w' p s (n+(c+1))/\n+(c+1)<=8*s.size/\al B [p] [] wx w')\/
  (bO ((ai s.data.toList).drop n) 0 T=.short/\e=.returned (.tuple #[.int .i64 0,.int .i64 10])/\al B [p] [] wx w')\/
  (bO ((ai s.data.toList).drop n) 0 T=.bad/\e=.returned (.tuple #[.int .i64 0,.int .i64 3])/\al B [p] [] wx w')from by
  rcases BA (T-1) ((ai s.data.toList).drop n) (hV.drop n)with⟨c,r,hc,hd⟩|⟨c,hc,hd⟩|⟨r,hd⟩;·refine(KL B wx p s n c (T-1) r h9 (by omega) (by omega) hc hd).mono ?_;rintro e w' ⟨rfl,hy,h7⟩;have hJ:=(BF hd).2;rw[H3]at hJ;refine .inl ⟨c,?_,by omega,rfl,hy,by omega,h7⟩;rw[hd,n5 c 0 T r (by omega),N8]
  ·refine(Bz B wx p s n c (T-1) h9 hn (by omega) (by omega) hc hd).mono ?_;rintro e w' ⟨rfl,_,h7⟩;refine .inr (.inl ⟨?_,rfl,h7⟩);rw[hd];exact rB c 0 T (by omega)
  ·refine(Ie B wx p s n (T-1) r h9 (by omega) (by omega) hd).mono ?_;rintro e w' ⟨rfl,_,h7⟩;refine .inr (.inr ⟨?_,rfl,h7⟩);rw[hd];exact rz (T-1+1) 0 T r (by omega) (by omega)
 obtain⟨bits,he⟩:∃bits,bits=ai s.data.toList:=⟨_,rfl⟩;rw[<- he]at hq |-;obtain⟨ANS,hh⟩:∃ANS,ANS=ax bits T K (List.range T) a []:=⟨_,rfl⟩;rw[<- hh];have h8:=aa hh;have hu:Hid (∀ w' v (X:List Nat) (n:Nat),ANS=(X,n,0)->w'.ownsRow w.heap.size 3 1 v X.length (X.map iv)->IsR B w' p s n->al B [p] [] w w'->mX B w p s ANS (.returned (.tuple #[v,.int .i64 0])) w'):=aa fun w' v X n h1 h2 h3 h4=>by rw[h1];exact⟨v,rfl,h2,fun _=>h3,h4⟩
 have hr:Hid (∀ w' (z:Nat),z≠0->ANS=([],0,z)->al B [p] [] w w'->mX B w p s ANS (.returned (.tuple #[.slice none 0 0,.int .i64 z])) w'):=aa fun w' z h0 h1 h4=>by rw[h1];exact⟨_,rfl,Ns _ _ _ _,fun h=>absurd h h0,h4⟩
 generalize mX B w p s ANS=PO at*;have hM:=aa (oF w T (by omega));have HR:=aa hR;obtain⟨tm,HB⟩:∃tm,tm=T-1:=⟨_,rfl⟩;rw[<- HB]at hq;have HM:(T:Int)-1=(tm:Int):=by omega
 clear hR H3 hV he hh HB;go_enter func216,ntmps216;go_wp2_with fail;refine hM.out.mono ?_;rintro e w1 ⟨rfl,H4,hF⟩;have hY:=HR.out.step (an hF) ar ar;have H0:al B [p] [] w w1:=(an hF).mono hB (by simp) (by simp);have hP:Hid (lk w w1 (.slice none 0 0) [] w.heap.size T (fun j=>j)):=aa ⟨Ns _ _ _ _,H4,by simp[Value.ownBlock]⟩;have hQ:=aa hY;have hS:=aa H0;clear H4 hF hY H0 hM HR;go_wp2_with fail;go_loopw [9,10,11,15] (fun pv s10 s11 iv' wx=>∃(i:Nat) (f:Nat->Nat) (A9:Option Addr) (c9:Nat) (X:List Nat) (n:Nat),i<=K/\iv'=.int .i64 i/\pv=.slice A9 i c9/\lk w wx (.slice A9 i c9) X w.heap.size T f/\IsR B wx p s n/\Hid (X.length=i/\n<=8*s.size/\ax bits T (K-i) ((List.range T).map f) n X=ANS)/\al B [p] [] w wx) (fun _ _ _ iv' _=>K-(intOf iv').toNat)
 case atStart=>refine⟨0,_,none,0, [],a,Nh _,rfl,rfl,hP.out,hQ.out,⟨rfl,ha,?_⟩,hS.out⟩;rw[h8.out,List.map_id',Qf]
 case round=>
  clear hP hQ hS;rename World=>wx;obtain⟨i,f,A9,c9,X,n,hi,rfl,rfl,hO,h9,hI,hz⟩:=hrel;by_cases e:i<K
  ·have HU:=aa (hq.out wx n h9 hI.out.2.1);have hf:ax bits T (K-(i+1)+1) ((List.range T).map f) n X=ANS:=(by rw[show K-(i+1)+1=K-i by omega];exact hI.out.2.2);have ho:=aa hf;have hT:=aa hI.out.1;have HO:=aa hO;have hv:=aa h9;have hp:=aa hz;clear hf hI hO h9 hz;go_wp2_with fail;refine HU.out.mono ?_;intro e w2 hl;rcases hl with⟨c,h6,hG,rfl,hy,H5,h7⟩|⟨h6,rfl,h7⟩|⟨h6,rfl,h7⟩
   ·have hw:=HO.out.step hv.out.blk (by decide) h7;have ht:=hp.out.trans h7;have hN:=aa (zr w.heap.size w2 w.heap.size T T f c hw.ord hG (by omega));have hb:=aa hw.out;have hC:=aa hw.ne
    have HD:Hid (ax bits T (K-(i+1)) ((List.range T).map (mG f c)) (n+(c+1)) (X++ [f c])=ANS):=aa (by
     rw[<- ho.out,dW h6,nV f T c hG,dB T f c hG]
     rfl)
    have hD:=aa hy;have hg:=aa ht;clear h6 hy h7 hw ht HU ho HO hv hp;go_wp2_with fail;refine hN.out.mono ?_;rintro e w3 ⟨rfl,hH,hA⟩
    have H8:=hA.row hb.out (fun k hk=>by
     rw[Ok]
     intro e
     exact hC.out (by rw[hk,e])) ar
    have hW:lk w w3 (.slice A9 i c9) X w.heap.size T (mG f c):=⟨H8,hH,hC.out⟩;have hL:w.heap.size<=w3.heap.size:=NH hg.out.size hA.size;have HK:w3.cell? ⟨w.heap.size,0,none⟩=some (.int .i64 (f c:Nat)):=(by have:=hH.cell 0 (by omega);rw[this];unfold mG;rw[Ng rfl]);obtain⟨x,hx⟩:∃x,x=f c:=⟨_,rfl⟩;rw[<- hx]at HK;obtain⟨A4,c4,w4,HA,hX,H2⟩:=hW.push x hT.out (by omega) hL;have hj:Below w.heap.size w2 w4:=hA.below.trans H2;have hZ:IsR B w4 p s (n+(c+1)):=⟨hD.out.lo,(hj.block p HL).trans hD.out.blk⟩;have H1:=Kt hg.out hj hB;have HG:=aa HA;have HF:=aa hX;have hE:=aa hZ;have HH:=aa H1;have HI:=aa hx;have HC:=aa H5;clear H8 hW hH hA hx HA hX H2 hj hZ H1 H5 hN hb hC hD hg;(go_wp2_with (at_builtin;refine Lib.wpList_append_run _ rfl (.tmp 32) (.tmp 36) 57 57 rfl (.slice A9 i c9) (.slice (some ⟨w3.heap.size,0,none⟩) 1 1) rfl rfl _ w4 HG.out ?_));go_roundw;case rel=>exact⟨i+1,_,A4,c4,_,_,by omega,by go_num,rfl,HF.out,hE.out,⟨by rw[Nc,hT.out];rfl,HC.out,by rw[HI.out];exact HD.out⟩,HH.out⟩
    case measure=>simp[intOf];omega
   ·have h5:ANS=([],0,10):=(by rw[<- ho.out,dL h6]);have HE:=aa (hr.out w2 10 (by omega) h5 (hp.out.trans h7));clear h6 h7 h5 HU ho HO hv hp hq hu hr h8;go_wp2_with fail;(first|go_ret2|skip);exact HE.out
   ·have h5:ANS=([],0,110):=(by rw[<- ho.out,eS h6]);have HE:=aa (hr.out w2 110 (by omega) h5 (hp.out.trans h7));clear h6 h7 h5 HU ho HO hv hp hq hu hr h8;go_wp2_with fail;(first|go_ret2|skip);exact HE.out
  ·obtain rfl:i=K:=(by omega);have h5:ANS=(X,n,0):=(by rw[<- hI.out.2.2,Ow];rfl);have hm:=hO.out;rw[hI.out.1]at hm;have HE:=aa (hu.out wx (.slice A9 i c9) X n h5 (by rw[hI.out.1];exact hm) h9 hz);clear h5 hm hO h9 hI hz hq hu hr h8;go_wp2_with fail;(first|go_ret2|skip);exact HE.out
def oz(w:World)(T:Nat)(ans:List (List Nat)×Nat×Nat)(e:Ending)(w':World):Prop:=
 (ans.2.2=0/\∃A c F C,e=.returned (.tuple #[.slice A T c,.int .i64 ans.2.1,.int .i64 0])/\kI w w' (.slice A T c) T F C/\(List.range T).map C=ans.1/\∀t,t<T->(C t).length<=258)\/
 (ans.2.2≠0/\e=.returned (.tuple #[.slice none 0 0,.int .i64 0,.int .i64 ans.2.2])/\Below w.heap.size w w')
theorem vk(w:World)(s:ByteArray)(p n T:Nat)(hs:s.size<=2000000)(hp:p<=8*s.size)(_:n<=258)(hM:T<=6):
 Calls prog 217 #[.string s,.int .i64 p,.int .i64 n,.int .i64 T] w (oz w T (dF (ai s.data.toList) n T p [])):=by
 have hG:(ai s.data.toList).length=8*s.size:=by rw[aq];rfl
 have hk:=aa fun(wx:World) (q:Nat)=>S10.qc wx s (q:Int) (n:Int) hs;have hf:=aa fun(q:Nat)=>kD (ai s.data.toList) (q:Int) (n:Int);rw[hG]at hf;obtain⟨bits,h8⟩:∃bits,bits=ai s.data.toList:=⟨_,rfl⟩;rw[<- h8]at hk hf |-;obtain⟨ANS,h9⟩:∃ANS,ANS=dF bits n T p []:=⟨_,rfl⟩;rw[<- h9];have h7:=aa h9;have hu:Hid (∀ w' A c F C (q:Nat),ANS=((List.range T).map C,q,0)->kI w w' (.slice A T c) T F C->(∀ t,t<T->(C t).length<=258)->oz w T ANS (.returned (.tuple #[.slice A T c,.int .i64 q,.int .i64 0])) w'):=aa fun w' A c F C q h1 h2 h3=>by rw[h1];exact .inl ⟨rfl,A,c,F,C,rfl,h2,rfl,h3⟩
 have hg:Hid (∀ w' (z:Nat),z≠0->ANS=([],0,z)->Below w.heap.size w w'->oz w T ANS (.returned (.tuple #[.slice none 0 0,.int .i64 0,.int .i64 z])) w'):=aa fun w' z h0 h1 h4=>by rw[h1];exact .inr ⟨h0,rfl,h4⟩
 generalize oz w T ANS=PO at*;clear hG h8 h9;go_enter func217,ntmps217;go_wp2_with fail;go_loopw [1,11,12,13,14,16] (fun av tv s12 s13 s14 iv' wx=>∃(i q c:Nat) (A:Option Addr) (F:Nat->Value) (C:Nat->List Nat),i<=T/\iv'=.int .i64 i/\av=.int .i64 q/\tv=.slice A i c/\kI w wx (.slice A i c) i F C/\Hid (q<=8*s.size/\dF bits n (T-i) q ((List.range i).map C)=ANS/\∀t,t<i->(C t).length<=258)) (fun _ _ _ _ _ iv' _=>T-(intOf iv').toNat)
 case atStart=>refine⟨0,p,0,none,fun _=>.slice none 0 0,fun _=> [],Nh _,rfl,rfl,rfl,kI.nil _ _ _ _ (Nj _ _),⟨hp,?_,fun t ht=>absurd ht (Px _)⟩⟩;rw[h7.out,Qf];rfl
 case round=>
  rename World=>wx;obtain⟨i,q,c,A,F,C,hi,rfl,rfl,rfl,hL,hI⟩:=hrel;by_cases e:i<T
  ·have HT:=aa (hk.out wx q);have hy:=hf.out q;have h5:dF bits n (T-(i+1)+1) q ((List.range i).map C)=ANS:=(by rw[show T-(i+1)+1=T-i by omega];exact hI.out.2.1);rw[lP]at h5;obtain⟨⟨X,q2,z⟩,ha⟩:∃ans,ans=ao bits (q:Int) (n:Int):=⟨_,rfl⟩;rw[<- ha]at HT hy h5;dsimp only at hy h5;have hj:=aa h5;have hv:=aa hy;have hr:=aa hI.out.2.2;have hh:=aa hL;clear hL hI hy h5 ha;go_wp2_with fail;refine HT.out.mono ?_;rintro e w2 ⟨v2,rfl,hb,hn⟩;dsimp only at hb |-;obtain⟨A2,c2,rfl,hw,hx,_⟩:=ak hb;have ho:=ap hh.out.below hn;by_cases ez:z=0
   ·subst ez;have h6:=hj.out;rw[Ng rfl]at h6;have hz:X.length<=maxLen:=NH hw hx;have hc:ZIn w2 A2 X.length (zL X):=dK (aN hb);have he:=aa (lu w2 A2 X.length c2 (zL X) hc hz);by_cases eo:a6 (zL X)
    ·rw[Ng eo]at h6 he;have hF:X.length<=258:=(by have:=eo.2.1;unfold zL at this;rw[NC]at this;exact this);(obtain⟨D,hD⟩:∃D:Nat->List Nat,D=fun t=>if t=i then X else C t:=⟨_,rfl⟩);have hl:D i=X:=(by rw[hD];exact Ng rfl);have hB:(List.range i).map C++ [X]=(List.range (i+1)).map D:=(by rw[Oi,NF,Rk,hl];congr 1;apply Oc;intro t ht;have:=List.mem_range.1 ht;rw[hD];(show C t=if t=i then X else C t);rw[Nf (by omega)]);(have hE:=hh.out.same (D:=D) fun t ht=>by rw[hD];(show C t=if t=i then X else C t);rw[Nf (by omega)]);obtain⟨A3,c3,w3,hH,hC,_⟩:=hE.push (A1:=A2) (k1:=c2) (n:=X.length) (by rw[hl];exact hb) hn (by omega) (by rw[hl])
     have hJ:Hid (q2<=8*s.size/\dF bits n (T-(i+1)) q2 ((List.range (i+1)).map D)=ANS/\∀t,t<i+1->(D t).length<=258):=aa ⟨hv.out.1,by rw[<- hB];exact h6,fun t ht=>by
      by_cases et:t=i
      ·rw[et,hl];exact hF
      ·rw[hD]
       show(if t=i then X else C t).length<=258
       rw[Nf et]
       exact hr.out t (by omega)⟩
     have hA:=aa hH;have hK:=aa hC;obtain⟨xl,hq⟩:∃xl,xl=X.length:=⟨_,rfl⟩;rw[<- hq]at he hA |-;clear h6 hc hz eo hF hD hl hB hE hH hC hb hn ho hw hx HT hj hr hh hv hq;go_wp2_with fail;refine he.out.mono ?_;rintro e w2 ⟨rfl,rfl⟩;(go_wp2_with (at_builtin;refine Lib.wpList_append_run _ rfl (.tmp 33) (.tmp 35) 88 88 rfl (.slice A i c) (.slice (some ⟨w2.heap.size,0,none⟩) 1 1) rfl rfl _ w3 hA.out ?_));go_roundw;case rel=>exact⟨i+1,q2,c3,A3,_,D,by omega,by go_num,rfl,rfl,hK.out,hJ⟩
     case measure=>simp[intOf];omega
    ·rw[Nf eo]at h6 he;have HE:=aa (hg.out w2 80 (by omega) h6.symm ho);obtain⟨xl,hq⟩:∃xl,xl=X.length:=⟨_,rfl⟩;rw[<- hq]at he |-;clear h6 hc hz eo hb hn ho hw hx HT hj hr hh hv hq hu hg h7 hk hf;go_wp2_with fail;refine he.out.mono ?_;rintro e w2 ⟨rfl,rfl⟩;go_wp2_with fail;(first|go_ret3|skip);exact HE.out
   ·have h6:=hj.out;rw[Nf ez]at h6;have HE:=aa (hg.out w2 z ez h6.symm ho);have dz:((z:Int)==0)=false:=(by rw[NA];omega);have dz2:((z:Int) != 0)=true:=(by rw[OP];omega);have dz4:(z==0)=false:=(by rw[NA];exact ez);clear h6 hb hn ho hw hx HT hj hr hh hv hu hg h7 hk hf;go_wp2_with fail;(first|go_ret3|skip);exact HE.out
  ·obtain rfl:i=T:=(by omega);have hm:ANS=((List.range i).map C,q,0):=(by rw[<- hI.out.2.1,Ow];rfl);have HE:=aa (hu.out wx A c F C q hm hL hI.out.2.2);clear hm hL hI hu hg h7 hk hf;go_wp2_with fail;(first|go_ret3|skip);exact HE.out
theorem Ht(bits:List Nat)(n a:Nat):jI bits n a=if(eh bits a).2.2=0 then rP bits n a (eh bits a).1 (eh bits a).2.1 else([], [],0,(eh bits a).2.2):=by
 unfold jI eh;by_cases h1:bits.length<a+3;·rw[Ng h1,Ng h1,Nf (by simp)]
 ·rw[Nf h1,Nf h1];by_cases h2:val ((bits.drop a).take 3)<2\/6<val ((bits.drop a).take 3);·rw[Ng h2,Ng h2,Nf (by simp)]
  ·rw[Nf h2,Nf h2];by_cases h3:bits.length<a+18;·rw[Ng h3,Ng h3,Nf (by simp)]
   ·rw[Nf h3,Nf h3];by_cases h4:val ((bits.drop (a+3)).take 15)=0;·rw[Ng h4,Ng h4,Nf (by simp)]
    ·rw[Nf h4,Nf h4,Ng rfl]
theorem Mx(bits:List Nat)(a:Nat)(hb:am bits)(h:(eh bits a).2.2=0):2<=(eh bits a).1/\(eh bits a).1<=6/\(eh bits a).2.1<=32767/\a+18<=bits.length:=by
 unfold eh at h |-;by_cases h1:bits.length<a+3;·rw[Ng h1]at h;cases h
 ·rw[Nf h1]at h |-;by_cases h2:val ((bits.drop a).take 3)<2\/6<val ((bits.drop a).take 3);·rw[Ng h2]at h;cases h
  ·rw[Nf h2]at h |-;by_cases h3:bits.length<a+18;·rw[Ng h3]at h;cases h
   ·rw[Nf h3]at h |-;by_cases h4:val ((bits.drop (a+3)).take 15)=0;·rw[Ng h4]at h;cases h
    ·rw[Nf h4];have h5:=fu _ ((hb.drop (a+3)).take 15);rw[Nz,Nq,Oh (by omega)]at h5;exact⟨by dsimp only;omega,by dsimp only;omega,by dsimp only;omega,by omega⟩
theorem IV(bits:List Nat)(a:Nat):(eh bits a).2.2<=110:=by unfold eh;(repeat' split) <;>simp
theorem Cf(w:World)(s:ByteArray)(at' n:Int)(hs:s.size<=2000000):
 Calls prog 178 #[.string s,.int .i64 at',.int .i64 n] w (lW w (dC (ai s.data.toList) at' n)):=by
 have hE:(ai s.data.toList).length=8*s.size:=by rw[aq];rfl
 obtain⟨w1,hI⟩:∃w1,w1=w.alloc (.cells #[.slice none 0 0,.slice none 0 0] 90):=⟨_,rfl⟩;have HN:Below w.heap.size w w1:=bQ hI;have HO:Blk w1 w.heap.size 90 #[.slice none 0 0,.slice none 0 0]:=eJ hI;have hG:dC (ai s.data.toList) at' n=if at'<0\/((8*s.size:Nat):Int)<at'\/n<3\/258<n then([], [],0,2)else jI (ai s.data.toList) n.toNat at'.toNat:=by unfold dC;rw[hE]
 have h4:Hid (∀ (wx:World) (k:Nat),dC (ai s.data.toList) at' n=([], [],0,k)->Below w.heap.size w wx->lW w (dC (ai s.data.toList) at' n) (.returned (.tuple #[.agg #[.slice none 0 0,.slice none 0 0],.int .i64 0,.int .i64 k])) ((wx.setCell ⟨w.heap.size,0,none⟩ (.slice none 0 0)).setCell ⟨w.heap.size,1,none⟩ (.slice none 0 0))):=aa fun wx k h1 h3=>by rw[h1];exact⟨_,rfl,qy _,(h3.setCell (p:=⟨w.heap.size,0,none⟩) (ah _) _).setCell (p:=⟨w.heap.size,1,none⟩) (ah _) _⟩
 have ho:Hid (∀ (wx:World) (v:Value) (T:List (List Int)) (P:List Int) (pl:Nat),dC (ai s.data.toList) at' n=(T,P,pl,0)->aQ wx v T P->Below w.heap.size w wx->lW w (dC (ai s.data.toList) at' n) (.returned (.tuple #[v,.int .i64 pl,.int .i64 0])) wx):=aa fun wx v T P pl h1 h2 h3=>⟨v,by rw[h1];rfl,by rw[h1];exact h2,h3⟩;generalize lW w (dC (ai s.data.toList) at' n)=PO at*;generalize dC (ai s.data.toList) at' n=ans at*;have h7:=aa hG;have hn:=aa HO;have hM:=aa HN;have HU:w1.heap.size=w.heap.size+1:=by rw[hI];simp
 have HX:=aa HU;have hB:=aa hI.symm;clear hG HO HN HU hI;have q0:=(ac hn.out 0).trans rfl;have q1:=(ac hn.out 1).trans rfl;have f0:=ae hn.out 0;have f1:=ae hn.out 1;by_cases h1:at'<0\/8*(s.size:Int)<at';·have h0:=h7.out;rw[Ng (by omega)]at h0;have hz:=aa (kY w1 s at' (by omega) h1);have HE:=aa (h4.out w1 2 h0 hM.out);clear h0 h1 h4 ho h7 hE;go_enter func178,ntmps178;go_upto_region 1 with fail;rw[hB.out];clear hB;go_wp2_with fail;refine hz.out.mono ?_;rintro e w1 ⟨rfl,rfl⟩;go_wp2_with fail;refine ND (v:=.tuple #[.agg #[.slice none 0 0,.slice none 0 0],.int .i64 0,.int .i64 2]) ?_ rfl HE.out;simp[results,results178,go_sem,q0,q1]
 ·obtain⟨a,rfl⟩:=QH (show 0<=at' by omega);have ha:a<=8*s.size:=by omega
  have hz:=aa (fh w1 s (a:Int) (by omega) (by omega) (by omega));have HK:=iY w1 w1.heap.size (ah _) s a;have H1:Below w1.heap.size w1 (w1.alloc (.cells #[.bool true,.string s,.int .i64 a] 120)):=(Nj _ _).alloc (ah _) _;have HP:=aO H1 hn.out;have hA:=aa HK;have hc:=aa HP;have hl:=aa (ap hM.out H1);have hy:=aa fun(wx:World)=>mA wx n;clear HK H1 HP h1 q0 q1 f0 f1;by_cases h2:3<=n/\n<=258
  ·rw[No h2]at hy;obtain⟨m,rfl⟩:=QH (show 0<=n by omega);have h0:=h7.out;rw[Nf (by omega),Nn,Nn,Ht]at h0;have he:=aa h0;have hv:=Mx (ai s.data.toList) a (aG _);rw[hE]at hv;have hi:=aa hv;have hh:=aa fun(wx:World) (hR:IsR w1.heap.size wx w1.heap.size s a)=>zo w1.heap.size wx w1.heap.size s a hR hs ha;obtain⟨⟨T,K,z⟩,H3⟩:∃c,c=eh (ai s.data.toList) a:=⟨_,rfl⟩;rw[<- H3]at he hi hh;have HV:z<=110:=(by have:=IV (ai s.data.toList) a;rw[<- H3]at this;exact this);have p3:=aa HV;obtain⟨bits,h9⟩:∃bits,bits=ai s.data.toList:=⟨_,rfl⟩;have h5:=aa h9;have HD:=aa hE;rw[<- h9]at he;clear h0 hv H3 h7 HV hE h9;go_enter func178,ntmps178;go_upto_region 1 with fail;rw[hB.out];clear hB;go_wp2_with fail;refine hz.out.mono ?_;rintro e w2 ⟨rfl,hJ⟩;rw[<- hJ]at hA hc hl;clear hJ hz hn hM;generalize w1.heap.size=p at*;go_wp2_with fail;refine(hy.out w2).mono ?_;rintro e w2 ⟨rfl,rfl⟩;clear hy;go_wp2_with fail;refine(hh.out w2 hA.out).mono ?_;rintro e w3 ⟨rfl,hD,hP⟩;dsimp only at hD |-;have hW:w.heap.size<p:=(by rw[HX.out];exact PU _);have hw:Blk w3 w.heap.size 90 #[.slice none 0 0,.slice none 0 0]:=(hP.below.block w.heap.size hW).trans hc.out;have hT:=hl.out.trans (hP.below.mono (NV hW));have HF:=aa hw;have HC:=aa hT;by_cases ez:z=0
   ·subst ez;have hD:=hD rfl;obtain⟨HZ,HL,hK,hr⟩:=hi.out rfl;have h0:=he.out;rw[Ng rfl]at h0;unfold rP at h0;have hO:=tw p w3 p s (a+18) T K hD hs hr HZ HL (by omega);have hb:=fR bits T (by omega) K [0,1,2,3,4,5] (a+18) [] (by rw[h5.out,HD.out];exact hr);rw[<- h5.out]at hO;obtain⟨⟨X,q,y⟩,HQ⟩:∃c,c=ax bits T K [0,1,2,3,4,5] (a+18) []:=⟨_,rfl⟩;rw[<- HQ]at hO h0 hb;dsimp only at h0 hb;rw[h5.out,HD.out]at hb;have hY:=aa hO;have hf:=aa h0;have hp:=aa hb;clear hw hT hD hP hr h0 hO hb HQ he hi hh hA hc hl;go_wp2_with fail;refine hY.out.mono ?_;rintro e w4 ⟨v4,rfl,hH,hq,hQ⟩;dsimp only at hH hq |-;have hx:Blk w4 w.heap.size 90 #[.slice none 0 0,.slice none 0 0]:=(hQ.below.block w.heap.size hW).trans HF.out;have hV:=HC.out.trans (hQ.below.mono (NV hW));have hF:=aa hx;have hm:=aa hV;by_cases ey:y=0
    ·subst ey;have hq:=hq rfl;have h0:=hf.out;rw[Ng rfl]at h0;have hS:=vk w4 s q m T hs hp.out.1 (by omega) HL;rw[<- h5.out]at hS;obtain⟨⟨TS,q5,z5⟩,HS⟩:∃c,c=dF bits m T q []:=⟨_,rfl⟩;rw[<- HS]at hS h0;dsimp only at h0;have hZ:=aa hS;have hg:=aa h0;have hX:=aa (j7 w4 p (q:Nat) (by have:=ac hq.blk 0;simpa using this) (by have:=ac hq.blk 2;simpa using this));obtain⟨A4,c4,rfl,H2,p2,HY⟩:=ak hH;have hN:=aa hH;clear hx hV hq hQ h0 hS HS hH HY hY hf hp HF HC;obtain⟨xl,HB⟩:∃xl,xl=X.length:=⟨_,rfl⟩;rw[<- HB]at hN H2 |-;have HW:=aa HB;clear HB;go_wp2_with fail;refine hX.out.mono ?_;rintro e w4 ⟨rfl,rfl⟩;go_wp2_with fail;refine hZ.out.mono ?_;intro e w5 hu;rcases hu with⟨hL,A5,c5,F,C,rfl,hC,H0,HG⟩|⟨hL,rfl,hj⟩
     ·dsimp only at hL H0 |-;subst hL;have hj:=hC.below;have h6:=aO hj hF.out;have h8:=ap hm.out hj;have HH:kI w w5 (.slice A5 T c5) T F C:=⟨World.ownsRow.mono hC.row hm.out.size,fun t ht=>⟨(hC.each t ht).1,World.ownsRow.mono (hC.each t ht).2 hm.out.size⟩,h8⟩;have H5:=ef hN.out hj;have HI:=HH.store h6 (by decide) (by decide) (ah _) 0 (.slice A5 T c5);have H4:=au h6 0 (.slice A5 T c5);have HJ:=HI.store H4 (by decide) (by decide) (ah _) 1 (.slice A4 xl c4)
      have HA:al w.heap.size [w.heap.size] [] w5 ((w5.setCell ⟨w.heap.size,0,none⟩ (.slice A5 T c5)).setCell ⟨w.heap.size,1,none⟩ (.slice A4 xl c4)):=
       ((al.refl _ _ _ _).set (p:=⟨w.heap.size,0,none⟩) (ah _) (by simp) _).set (p:=⟨w.heap.size,1,none⟩) (ah _) (by simp) _
      have H8:=HA.row H5 (fun k hk=>by rw[Ok];exact dJ H5 h6 (by decide) k hk) ar;have p1:=au H4 1 (.slice A4 xl c4);obtain⟨_,_,HT,p0,_,_⟩:=ak hC.row;simp only[Ou]at HT;obtain⟨rfl,_,rfl⟩:=HT;have h0:=hg.out;rw[Ng rfl]at h0;have HM:TS.map zL=(List.range T).map fun t=>zL (C t):=(by rw[<- H0,Ov];rfl);rw[HM]at h0
      have HR:aQ _ (.agg #[.slice A5 T c5,.slice A4 xl c4]) ((List.range T).map fun t=>zL (C t)) (zL X):=
       ⟨_,T,c5,_,xl,c4,rfl,HJ.tabZ (fun t ht=>by have:=HG t ht;omega),p0,by unfold maxLen;omega,by rw[HW.out]at H8 |-;exact dK (aN H8),H2,NH H2 p2⟩
      have HE:=aa (ho.out _ _ _ _ q5 h0 HR (h8.trans HA.below));have g0:=(ac h6 0).trans (rfl:_=some (Value.slice none 0 0));have g1:=(ac h6 1).trans (rfl:_=some (Value.slice none 0 0));have f0:=ae h6 0;have f1:=ae h6 1;clear hj h6 h8 HH H5 HI H4 HJ HA H8 p1 h0 HM HR hC H0 HG ho h4 hg hZ hX hN hF hm;go_wp2_with fail;refine ND (v:=.tuple #[.agg #[.slice A5 T c5,.slice A4 xl c4],.int .i64 q5,.int .i64 0]) ?_ rfl HE.out;simp[results,results178,go_sem,g0,g1]
     ·dsimp only at hL |-;have h6:=aO hj hF.out;have h8:=ap hm.out hj;have h0:=hg.out;rw[Nf hL]at h0;have HE:=aa (h4.out w5 z5 h0 h8);have g0:=(ac h6 0).trans (rfl:_=some (Value.slice none 0 0));have g1:=(ac h6 1).trans (rfl:_=some (Value.slice none 0 0));have f0:=ae h6 0;have f1:=ae h6 1;have dz2:((z5:Int) != 0)=true:=(by rw[OP];omega);clear h6 h8 h0 hj ho h4 hg hZ hX hN hF hm;go_wp2_with fail;refine ND (v:=.tuple #[.agg #[.slice none 0 0,.slice none 0 0],.int .i64 0,.int .i64 z5]) ?_ rfl HE.out;simp[results,results178,go_sem,g0,g1]
    ·have h0:=hf.out;rw[Nf ey]at h0;have HE:=aa (h4.out w4 y h0 hV);have g0:=(ac hx 0).trans (rfl:_=some (Value.slice none 0 0));have g1:=(ac hx 1).trans (rfl:_=some (Value.slice none 0 0));have f0:=ae hx 0;have f1:=ae hx 1;have dz2:((y:Int) != 0)=true:=(by rw[OP];omega);clear h0 hx hV hH hq hQ hY hf hp ho h4 hF hm;go_wp2_with fail;refine ND (v:=.tuple #[.agg #[.slice none 0 0,.slice none 0 0],.int .i64 0,.int .i64 y]) ?_ rfl HE.out;simp[results,results178,go_sem,g0,g1]
   ·have h0:=he.out;rw[Nf ez]at h0;have HE:=aa (h4.out w3 z h0 hT);have g0:=(ac hw 0).trans (rfl:_=some (Value.slice none 0 0));have g1:=(ac hw 1).trans (rfl:_=some (Value.slice none 0 0));have f0:=ae hw 0;have f1:=ae hw 1;have dz2:((z:Int) != 0)=true:=(by rw[OP];omega);clear h0 hw hT hD hP he hi hh ho h4 hA hc hl;go_wp2_with fail;refine ND (v:=.tuple #[.agg #[.slice none 0 0,.slice none 0 0],.int .i64 0,.int .i64 z]) ?_ rfl HE.out;simp[results,results178,go_sem,g0,g1]
  ·rw[Nk h2]at hy;have h0:=h7.out;rw[Ng (by omega)]at h0;have he:=aa h0;clear h0 h7 hE h2;go_enter func178,ntmps178;go_upto_region 1 with fail;rw[hB.out];clear hB;go_wp2_with fail;refine hz.out.mono ?_;rintro e w2 ⟨rfl,hJ⟩;rw[<- hJ]at hA hc hl;clear hJ hz hn hM hA;go_wp2_with fail;refine(hy.out w2).mono ?_;rintro e w2 ⟨rfl,rfl⟩;have HE:=aa (h4.out w2 2 he.out hl.out);have g0:=(ac hc.out 0).trans (rfl:_=some (Value.slice none 0 0));have g1:=(ac hc.out 1).trans (rfl:_=some (Value.slice none 0 0));have f0:=ae hc.out 0;have f1:=ae hc.out 1;clear hy h4 ho he hc hl;go_wp2_with fail;refine ND (v:=.tuple #[.agg #[.slice none 0 0,.slice none 0 0],.int .i64 0,.int .i64 2]) ?_ rfl HE.out;simp[results,results178,go_sem,g0,g1]
theorem nQ(l bs:List Nat)(en:Int)(h:eW l):∀(k a:Nat) (o:List Nat),o.length<=a->a<=bs.length->(gj l bs en k a o).1.length<=bs.length/\(gj l bs en k a o).2.1<=bs.length/\(gj l bs en k a o).2.2<=90
 | 0,a,o,h1,h2=>⟨NH h1 h2,h2,Nh _⟩
 | k+1,a,o,h1,h2=>by
  rw[pO]
  cases hx:fm l (bs.drop a)with
  | hit i=>
   have h0:=o8 20 1 (show fk l (bs.drop a) 20 1=.hit i from hx);have h3:=(h.one h0.2.1).1;have h4:=h0.1;rw[Nq]at h4;have h5:(o++ [i]).length<=a+l.getD i 0:=(by rw[Nc];show o.length+1<=_;omega);show(if(i:Int)=en then(o++ [i],a+l.getD i 0,0)else gj l bs en k (a+l.getD i 0) (o++ [i])).1.length<=_/\(if(i:Int)=en then(o++ [i],a+l.getD i 0,0)else gj l bs en k (a+l.getD i 0) (o++ [i])).2.1<=_/\(if(i:Int)=en then(o++ [i],a+l.getD i 0,0)else gj l bs en k (a+l.getD i 0) (o++ [i])).2.2<=_;by_cases e:(i:Int)=en;·rw[Ng e];exact⟨by show(o++ [i]).length<=_;omega,by show a+l.getD i 0<=_;omega,Nh _⟩
   ·rw[Nf e];exact nQ l bs en h k _ _ h5 (by omega)
  | short=>exact⟨Nh _,Nh _,by show 10<=90;omega⟩
  | code=>exact⟨Nh _,Nh _,Nm _⟩
theorem tN(T:List (List Nat))(P bits:List Nat)(n0 g r:Nat)(pre:List Nat)(h0:1<=n0):∀(k a:Nat) (out:List Nat),k<=50->(∀ x∈out,x+1≠n0)->
 ((gj (T.getD (P.getD g 0) []) bits (n0-1:Nat) k a out).2.2≠0/\iW T P bits n0 (k+r) (50*g+(50-k)) a (pre++out)=([],0,(gj (T.getD (P.getD g 0) []) bits (n0-1:Nat) k a out).2.2))\/
 ((gj (T.getD (P.getD g 0) []) bits (n0-1:Nat) k a out).2.2=0/\(∃ o,(gj (T.getD (P.getD g 0) []) bits (n0-1:Nat) k a out).1=o++ [n0-1])/\iW T P bits n0 (k+r) (50*g+(50-k)) a (pre++out)=(pre++(gj (T.getD (P.getD g 0) []) bits (n0-1:Nat) k a out).1,(gj (T.getD (P.getD g 0) []) bits (n0-1:Nat) k a out).2.1,0))\/
 ((gj (T.getD (P.getD g 0) []) bits (n0-1:Nat) k a out).2.2=0/\(∀ x∈(gj (T.getD (P.getD g 0) []) bits (n0-1:Nat) k a out).1,x+1≠n0)/\(gj (T.getD (P.getD g 0) []) bits (n0-1:Nat) k a out).1.length=out.length+k/\iW T P bits n0 (k+r) (50*g+(50-k)) a (pre++out)=iW T P bits n0 r (50*g+50) (gj (T.getD (P.getD g 0) []) bits (n0-1:Nat) k a out).2.1 (pre++(gj (T.getD (P.getD g 0) []) bits (n0-1:Nat) k a out).1))
 | 0,a,out,_,ho=>.inr (.inr ⟨rfl,ho,rfl,by rw[N8,Qf];rfl⟩)
 | k+1,a,out,hk,ho=>by
  have hi:(50*g+(50-(k+1)))/50=g:=by omega
  rw[pO,show k+1+r=(k+r)+1 by omega,jf,hi]
  cases hx:fm (T.getD (P.getD g 0) []) (bits.drop a)with
  | hit x=>
   dsimp only;by_cases e:x+1=n0
   ·have e1:((x:Int)=((n0-1:Nat):Int)):=(by omega);rw[Ng e1,Ng e];refine .inr (.inl ⟨rfl,⟨out,?_⟩,?_⟩);·rw[show n0-1=x by omega]
    ·simp
   ·have e1:¬((x:Int)=((n0-1:Nat):Int)):=(by omega);rw[Nf e1,Nf e]
    have ih:=tN T P bits n0 g r pre h0 k (a+(T.getD (P.getD g 0) []).getD x 0) (out++ [x]) (by omega) (fun y hy=>by
     rcases List.mem_append.1 hy with hy|hy
     ·exact ho y hy
     ·rw[List.mem_singleton.1 hy]
      exact e)
    rw[show 50*g+(50-(k+1))+1=50*g+(50-k) by omega,Ni];rcases ih with⟨h1,h2⟩|⟨h1,h2,h3⟩|⟨h1,h2,h3,h4⟩;·exact .inl ⟨h1,h2⟩
    ·exact .inr (.inl ⟨h1,h2,h3⟩)
    ·exact .inr (.inr ⟨h1,h2,by rw[h3,Nc,NM];omega,h4⟩)
  | short=>exact .inl ⟨by show(10:Nat)≠0;omega,rfl⟩
  | code=>exact .inl ⟨by show(90:Nat)≠0;omega,rfl⟩
theorem IR(w:World)(v:Value)(T:List (List Int))(P:List Int)(h:aQ w v T P)(s:ByteArray)(at':Int)(hM:¬aP T P):
 Calls prog 179 #[v,.string s,.int .i64 at'] w (aL w (dV T P (ai s.data.toList) at')):=by rw[show dV T P (ai s.data.toList) at'=([],0,110)from Nf hM];obtain⟨A,q,c,B,m,d,rfl,_⟩:=id h;have h1:Below w.heap.size w (w.alloc (.cells #[.slice A q c,.slice B m d] 90)):=(Nj _ _).alloc (ah _) _;have h5:=aj w 90 #[.slice A q c,.slice B m d];have HM:=aa (du _ _ T P (h.below h1));rw[Nk hM]at HM;have h2:=aa h1;have h0:=aa h5;have h3:Hid (∀ w',Below w.heap.size w w'->aL w ([],0,110) (.returned (.tuple #[.slice none 0 0,.int .i64 0,.int .i64 110])) w'):=aa fun w' hb=>⟨_,rfl,Ns _ _ _ _,hb⟩;generalize aL w ([],0,110)=PO at*;clear h hM h1 h5;go_enter func179,ntmps179;go_upto_region 1 with fail;generalize w.alloc (.cells #[.slice A q c,.slice B m d] 90)=w1 at*;have p0:w1.cell? ⟨w.heap.size,0,none⟩=some (.slice A q c):=(ac h0.out 0).trans rfl;have p1:w1.cell? ⟨w.heap.size,1,none⟩=some (.slice B m d):=(ac h0.out 1).trans rfl;go_wp2_with fail;refine HM.out.mono ?_;rintro e w2 ⟨rfl,h4⟩;have HE:=aa (h3.out w2 (ap h2.out h4));clear h4 h3 h2 h0 HM;go_wp2_with fail;(first|go_ret3|skip);exact HE.out
theorem IQ(w:World)(v:Value)(T:List (List Int))(P:List Int)(h:aQ w v T P)(s:ByteArray)(at':Int)(hs:s.size<=2000000)(hl: -9223372036854775808<=at')(hh:at'<=9223372036854775807)(hP:aP T P)(hG:at'<0\/8*(s.size:Int)<at'):
 Calls prog 179 #[v,.string s,.int .i64 at'] w (aL w (dV T P (ai s.data.toList) at')):=by
 have hn:(ai s.data.toList).length=8*s.size:=by rw[aq];rfl
 rw[show dV T P (ai s.data.toList) at'=([],0,2) by rw[dV,Ng hP,Ng (by rw[hn];omega)]];obtain⟨A,q,c,B,m,d,rfl,hT,hQ,hq,hj,hN,hO⟩:=id h;have hA:=hT.1;have hH:=hj.1;have hI:2<=q/\q<=6:=by have h1:=hP.1;have h2:=hP.2.1;omega
 have hK:1<=m/\m<=32767:=by have h1:=hP.2.2.1;have h2:=hP.2.2.2.1;omega
 obtain⟨tb,tq,rfl,hp⟩:=hT.2 (by omega);obtain⟨b,off,rfl,hC⟩:=hj.2 (by omega);have hF:0<=P.getD 0 0/\(P.getD 0 0).toNat<q:=by
  have:=hP.2.2.2.2.2.1 (P.getD 0 0) (by
   rw[Nb,Nd (by omega)]
   exact NL _)
  rw[hA]at this;omega
 have h3:∀i,i<q->(T.getD i []).length=(T.getD 0 []).length/\a6 (T.getD i []):=fun i hi=>hP.2.2.2.2.1 _ (ns T i (by omega));obtain⟨m0,h9⟩:∃m0,m0=(T.getD 0 []).length:=⟨_,rfl⟩;rw[<- h9]at h3;have hL:3<=m0/\m0<=258:=by have h1:=hP.2.2.2.2.2.2;have h2:=(h3 0 (by omega)).2.2.1;rw[<- h9]at h1;rw[(h3 0 (by omega)).1]at h2;omega
 have hk:Below w.heap.size w (w.alloc (.cells #[.slice (some ⟨tb,tq,none⟩) q c,.slice (some ⟨b,off,none⟩) m d] 90)):=(Nj _ _).alloc (ah _) _;have hx:=aj w 90 #[.slice (some ⟨tb,tq,none⟩) q c,.slice (some ⟨b,off,none⟩) m d];have HM:=aa (du _ _ T P (h.below hk));rw[No hP]at HM;obtain⟨y,hy⟩:∃y,y=(P.getD 0 0).toNat:=⟨_,rfl⟩;have hD:P.getD 0 0=(y:Int):=by omega
 have hE:y<q:=by omega
 obtain⟨A2,c2,h1,h2,_,h4⟩:=hp y hE;obtain⟨A0,c0,hg,_,_,_⟩:=hp 0 (by omega);rw[Og,<-h9]at hg;obtain⟨htl,hB⟩:=h3 y hE;have hv:w.cell? ⟨tb,tq+y,none⟩=some (.slice A2 m0 c2):=by rw[<- htl];exact h1
 have h7:w.cell? ⟨b,off,none⟩=some (.int .i64 (y:Int)):=by rw[<- hD];have:=hC 0 (by omega);rw[Og]at this;exact this
 have h5:=aa fun(W:World) (hb:Below w.heap.size w W)=>show Calls prog 218 #[.slice A2 m0 c2,.string s,.int .i64 at',.int .i64 50,.int .i64 ((m0:Int)-1)] W (aL W ([],0,2))from by
  have hz:ZIn W A2 m0 (T.getD y []):=by rw[<- htl];exact h2.below hb
  have hc:=zd W A2 m0 c2 (T.getD y []) s at' 50 ((m0:Int)-1) hz (by unfold maxLen;omega) hs hl hh (by omega) (by omega) (by omega) (by omega)
  rw[show fV (T.getD y []) (ai s.data.toList) at' 50 ((m0:Int)-1)=([],0,2) by
   unfold fV
   rw[Ng hB,Ng (by rw[hn];omega)]]at hc
  exact hc
 have hu:Hid (∀ w',Below w.heap.size w w'->aL w ([],0,2) (.returned (.tuple #[.slice none 0 0,.int .i64 0,.int .i64 2])) w'):=aa fun w' hb=>⟨_,rfl,Ns _ _ _ _,hb⟩;generalize aL w ([],0,2)=PO at*;have ht:=aa hk;have h8:=aa hx;have he:=aa hv;have ha:=aa hg;have hf:=aa h7;have hR:(0:Int)<=(y:Int):=by omega
 have hJ:(y:Int)<(q:Int):=by omega
 have hM:(0:Int)<(m:Int):=by omega
 clear h hk hx hP hT hj hp hC hF h3 h9 hA hH hy hD h1 h2 h4 hg htl hB hv h7 hn hG;go_enter func179,ntmps179;go_upto_region 1 with fail;generalize w.alloc (.cells #[.slice (some ⟨tb,tq,none⟩) q c,.slice (some ⟨b,off,none⟩) m d] 90)=w1 at*;have p0:w1.cell? ⟨w.heap.size,0,none⟩=some (.slice (some ⟨tb,tq,none⟩) q c):=(ac h8.out 0).trans rfl;have p1:w1.cell? ⟨w.heap.size,1,none⟩=some (.slice (some ⟨b,off,none⟩) m d):=(ac h8.out 1).trans rfl;go_wp2_with fail;refine HM.out.mono ?_;rintro e w2 ⟨rfl,hm⟩;have ho:=aO hm h8.out;have h0:=ap ht.out hm;have p0:w2.cell? ⟨w.heap.size,0,none⟩=some (.slice (some ⟨tb,tq,none⟩) q c):=(ac ho 0).trans rfl;have p1:w2.cell? ⟨w.heap.size,1,none⟩=some (.slice (some ⟨b,off,none⟩) m d):=(ac ho 1).trans rfl;have k0:w2.cell? ⟨tb,tq,none⟩=some (.slice A0 m0 c0):=(h0.cell (p:=⟨tb,tq,none⟩) (Nr w _ ha.out)).trans ha.out;have k1:w2.cell? ⟨tb,tq+y,none⟩=some (.slice A2 m0 c2):=(h0.cell (p:=⟨tb,tq+y,none⟩) (Nr w _ he.out)).trans he.out;have k2:w2.cell? ⟨b,off,none⟩=some (.int .i64 (y:Int)):=(h0.cell (p:=⟨b,off,none⟩) (Nr w _ hf.out)).trans hf.out;have hr:=aa (h5.out w2 h0);have h6:=aa h0;clear hm ho h0 HM ht h8 he ha hf h5;go_wp2_with fail;go_loopw [2,9,12,13,14,15,28] (fun av lv s12 s13 s14 s15 iv' wx=>av=.int .i64 at'/\lv=.slice none 0 0/\iv'=.int .i64 0/\wx=w2) (fun _ _ _ _ _ _ iv' _=>m-(intOf iv').toNat)
 case atStart=>exact⟨rfl,rfl,rfl,rfl⟩
 case round=>obtain⟨rfl,rfl,rfl,rfl⟩:=hrel;go_wp2_with fail;refine hr.out.mono ?_;rintro e w3 ⟨v3,rfl,_,hw⟩;have HE:=aa (hu.out w3 (ap h6.out hw));clear hw hu h6 hr;go_wp2_with fail;(first|go_ret3|skip);exact HE.out
theorem IS(w:World)(v:Value)(T:List (List Int))(P:List Int)(h:aQ w v T P)(s:ByteArray)(at':Int)(hs:s.size<=2000000)(hP:aP T P)(HC:0<=at')(pj:at'<=8*(s.size:Int)):
 Calls prog 179 #[v,.string s,.int .i64 at'] w (aL w (dV T P (ai s.data.toList) at')):=by
 have hE:(ai s.data.toList).length=8*s.size:=by rw[aq];rfl
 obtain⟨a0,rfl⟩:=QH HC;have pg:a0<=8*s.size:=by omega
 obtain⟨bits,h0⟩:∃bits,bits=ai s.data.toList:=⟨_,rfl⟩;obtain⟨A,q,c,B,m,d,rfl,hT,q9,hq,HF,q7,q8⟩:=id h;have p4:=hT.1;have p3:=HF.1;have ps:2<=q/\q<=6:=by have h1:=hP.1;have h2:=hP.2.1;omega
 have q3:1<=m/\m<=32767:=by have h1:=hP.2.2.1;have h2:=hP.2.2.2.1;omega
 obtain⟨tb,tq,rfl,HU⟩:=hT.2 (by omega);obtain⟨b,off,rfl,p6⟩:=HF.2 (by omega);have HY:∀i,i<m->0<=P.getD i 0/\(P.getD i 0).toNat<q:=fun i hi=>by
  have:=hP.2.2.2.2.2.1 (P.getD i 0) (by
   rw[Nb,Nd (by omega)]
   exact NL _)
  rw[p4]at this;omega
 have h7:∀i,i<q->(T.getD i []).length=(T.getD 0 []).length/\a6 (T.getD i []):=fun i hi=>hP.2.2.2.2.1 _ (ns T i (by omega));obtain⟨m0,hR⟩:∃m0,m0=(T.getD 0 []).length:=⟨_,rfl⟩;rw[<- hR]at h7;have q4:3<=m0/\m0<=258:=by have h1:=hP.2.2.2.2.2.2;have h2:=(h7 0 (by omega)).2.2.1;rw[<- hR]at h1;rw[(h7 0 (by omega)).1]at h2;omega
 have HJ:Below w.heap.size w (w.alloc (.cells #[.slice (some ⟨tb,tq,none⟩) q c,.slice (some ⟨b,off,none⟩) m d] 90)):=(Nj _ _).alloc (ah _) _;have p2:=aj w 90 #[.slice (some ⟨tb,tq,none⟩) q c,.slice (some ⟨b,off,none⟩) m d];have HM:=aa (du _ _ T P (h.below HJ));rw[No hP]at HM;obtain⟨A0,c0,HD,_,_,_⟩:=HU 0 (by omega);rw[Og,<-hR]at HD;obtain⟨n1,HQ⟩:∃n1,n1=m0-1:=⟨_,rfl⟩;have pl:(m0:Int)-1=(n1:Int):=by omega
 have hA:=aa fun(W:World) (hb:Below w.heap.size w W) (y:Nat) (hl:y<q) (A2:Option Addr) (c2:Nat) (h2:ZIn w A2 m0 (T.getD y [])) (a:Nat) (ha:a<=8*s.size)=>show Calls prog 218 #[.slice A2 m0 c2,.string s,.int .i64 a,.int .i64 50,.int .i64 (n1:Nat)] W (aL W (gj (nl (T.getD y [])) bits (m0-1:Nat) 50 a []))from by
  have hc:=zd W A2 m0 c2 (T.getD y []) s (a:Int) 50 ((n1:Nat):Int) (h2.below hb) (by unfold maxLen;omega) hs (by omega) (by omega) (by omega) (by omega) (by omega) (by omega)
  rw[show fV (T.getD y []) (ai s.data.toList) (a:Int) 50 ((n1:Nat):Int)=gj (nl (T.getD y [])) bits (m0-1:Nat) 50 a [] by
   unfold fV
   rw[Ng (h7 y hl).2,Nf (by rw[hE];omega),h0,HQ]
   rfl]at hc
  exact hc
 have H8:=aa fun(y:Nat) (hl:y<q) (a:Nat) (ha:a<=8*s.size)=>show(gj (nl (T.getD y [])) bits (m0-1:Nat) 50 a []).2.1<=8*s.size from by have h:=(nQ (nl (T.getD y [])) bits (m0-1:Nat) (fO (h7 y hl).2) 50 a [] (Nh _) (by rw[h0,hE];exact ha)).2.1;rw[h0,hE]at h;rw[h0];exact h
 have hh:=aa fun(y:Nat) (hl:y<q) (a:Nat) (ha:a<=8*s.size)=>show(gj (nl (T.getD y [])) bits (m0-1:Nat) 50 a []).1.length<=8*s.size from by have h:=(nQ (nl (T.getD y [])) bits (m0-1:Nat) (fO (h7 y hl).2) 50 a [] (Nh _) (by rw[h0,hE];exact ha)).1;rw[h0,hE]at h;rw[h0];exact h
 have hC:=aa fun(i r:Nat) (pre:List Nat) (a:Nat)=>tN (T.map nl) (nl P) bits m0 i r pre (by omega) 50 a [] (ah _) (fun x hx=>by cases hx);have h5:dV T P (ai s.data.toList) (a0:Int)=iW (T.map nl) (nl P) bits m0 (50*m) 0 a0 []:=by rw[dV,Ng hP,Nf (by rw[hE];omega),p3,<-hR,Nn,h0]
 rw[h5];obtain⟨ANS,hD⟩:∃ANS,ANS=iW (T.map nl) (nl P) bits m0 (50*m) 0 a0 []:=⟨_,rfl⟩;rw[<- hD];have hB:=aa hD;have hV:Hid (∀ w' v (X:List Nat) (n:Nat),ANS=(X,n,0)->w'.ownsRow w.heap.size 3 1 v X.length (X.map iv)->Below w.heap.size w w'->aL w ANS (.returned (.tuple #[v,.int .i64 n,.int .i64 0])) w'):=aa fun w' v X n h1 h2 h4=>by rw[h1];exact⟨v,rfl,h2,h4⟩
 have hM:Hid (∀ w' (z:Nat),ANS=([],0,z)->Below w.heap.size w w'->aL w ANS (.returned (.tuple #[.slice none 0 0,.int .i64 0,.int .i64 z])) w'):=aa fun w' z h1 h4=>by rw[h1];exact⟨_,rfl,Ns _ _ _ _,h4⟩
 generalize aL w ANS=PO at*;have HB:Hid (∀ y,y<q->∃A2 c2,w.cell? ⟨tb,tq+y,none⟩=some (.slice A2 m0 c2)/\ZIn w A2 m0 (T.getD y [])):=aa fun y hy=>by obtain⟨A2,c2,h1,h2,_,_⟩:=HU y hy;rw[(h7 y hy).1]at h1 h2;exact⟨A2,c2,h1,h2⟩
 have H5:Hid (∀ i,i<m->∃y:Nat,y<q/\w.cell? ⟨b,off+i,none⟩=some (.int .i64 (y:Int))/\(nl P).getD i 0=y):=aa fun i hi=>by
  obtain⟨h1,h2⟩:=HY i hi;refine⟨(P.getD i 0).toNat,h2,?_,?_⟩;·rw[p6 i hi];congr 2;omega
  ·unfold nl;rw[Nb,Nb,Np];cases P[i]? <;>rfl
 have H4:Hid (∀ y,(T.map nl).getD y []=nl (T.getD y [])):=aa fun y=>by rw[Nb,Nb,Np];cases T[y]? <;>rfl
 have HV:=aa HJ;have hS:=aa p2;have H3:=aa HD;have p7:=aa HQ;clear h HJ p2 hP hT HF HU p6 HY h7 hR p4 p3 HD hE pj h5 hD h0 HQ;go_enter func179,ntmps179;go_upto_region 1 with fail;generalize w.alloc (.cells #[.slice (some ⟨tb,tq,none⟩) q c,.slice (some ⟨b,off,none⟩) m d] 90)=w1 at*;have p0:w1.cell? ⟨w.heap.size,0,none⟩=some (.slice (some ⟨tb,tq,none⟩) q c):=(ac hS.out 0).trans rfl;have p1:w1.cell? ⟨w.heap.size,1,none⟩=some (.slice (some ⟨b,off,none⟩) m d):=(ac hS.out 1).trans rfl;go_wp2_with fail;refine HM.out.mono ?_;rintro e w2 ⟨rfl,HK⟩;have HP:=aO HK hS.out;have hp:=ap HV.out HK;have p0:w2.cell? ⟨w.heap.size,0,none⟩=some (.slice (some ⟨tb,tq,none⟩) q c):=(ac HP 0).trans rfl;have p1:w2.cell? ⟨w.heap.size,1,none⟩=some (.slice (some ⟨b,off,none⟩) m d):=(ac HP 1).trans rfl;have k0:w2.cell? ⟨tb,tq,none⟩=some (.slice A0 m0 c0):=(hp.cell (p:=⟨tb,tq,none⟩) (Nr w _ H3.out)).trans H3.out;have hm:=aa hp;have hj:=hp.size;clear HK HP hp HM HV hS H3;go_wp2_with fail;go_loopw [2,9,12,13,14,15,28] (fun av lv s12 s13 s14 s15 iv' wx=>∃(i a N c9:Nat) (A9:Option Addr) (out:List Nat),i<=m/\iv'=.int .i64 i/\av=.int .i64 a/\lv=.slice A9 N c9/\wx.ownsRow w2.heap.size 3 1 (.slice A9 N c9) N (out.map iv)/\Below w2.heap.size w2 wx/\Hid (out.length=N/\N<=50*i/\a<=8*s.size/\iW (T.map nl) (nl P) bits m0 (50*(m-i)) (50*i) a out=ANS)) (fun _ _ _ _ _ _ iv' _=>m-(intOf iv').toNat)
 case atStart=>exact⟨0,a0,0,0,none, [],Nh _,rfl,rfl,rfl,Ns _ _ _ _,Nj _ _,⟨rfl,Nm _,pg,hB.out.symm⟩⟩
 case round=>
  rename World=>wx;obtain⟨i,a,N,c9,A9,out,hi,rfl,rfl,rfl,ho,hJ,hI⟩:=hrel;by_cases e:i<m
  ·have q1:(0:Int)<=(i:Int):=(by omega);have q2:(i:Int)<(m:Int):=(by omega);obtain⟨y,hl,HT,p5⟩:=H5.out i e;obtain⟨A2,c2,h1,h2⟩:=HB.out y hl;have hu:Below w.heap.size w wx:=hm.out.trans (hJ.mono hj);have p0x:wx.cell? ⟨w.heap.size,0,none⟩=some (.slice (some ⟨tb,tq,none⟩) q c):=(hJ.cell (p:=⟨w.heap.size,0,none⟩) (Nr w2 _ p0)).trans p0;have k1:wx.cell? ⟨tb,tq+y,none⟩=some (.slice A2 m0 c2):=(hu.cell (p:=⟨tb,tq+y,none⟩) (Nr w _ h1)).trans h1;have k2:wx.cell? ⟨b,off+i,none⟩=some (.int .i64 (y:Int)):=(hu.cell (p:=⟨b,off+i,none⟩) (Nr w _ HT)).trans HT;have HA:=aa (hA.out wx hu y hl A2 c2 h2 a hI.out.2.2.1);have H0:=H8.out y hl a hI.out.2.2.1;have hv:=hh.out y hl a hI.out.2.2.1;have hg:=hC.out i (50*(m-(i+1))) out a;rw[p5,H4.out y,show 50+50*(m-(i+1))=50*(m-i) by omega,Ow,Og,NR,hI.out.2.2.2]at hg;obtain⟨⟨X,q5,z5⟩,hr⟩:∃r,r=gj (nl (T.getD y [])) bits (m0-1:Nat) 50 a []:=⟨_,rfl⟩;rw[<- hr]at HA hg H0 hv;dsimp only at hg H0 hv;have HG:=aa hg;have hN:=aa H0;have HW:=aa hv;have HO:=aa ho;have H2:=aa hJ;have HI:=aa hI.out;have qb:(0:Int)<=(y:Int):=(by omega);have q0:(y:Int)<(q:Int):=(by omega);clear HT p5 h1 h2 hu H0 hv hg hr ho hJ hI;go_wp2_with fail;refine HA.out.mono ?_;rintro e w5 ⟨v5,rfl,hw,hH⟩;dsimp only at hw |-;have he:=ap H2.out hH;have ht:=hm.out.trans (he.mono hj);by_cases ez:z5=0
   ·subst ez;obtain⟨A5,c5,rfl,HL,_,hW⟩:=ak hw;obtain⟨xl,hL⟩:∃xl,xl=X.length:=⟨_,rfl⟩;have qa:xl<=16000000:=(by have:=HW.out;omega);have HN:aw w5 A5 xl X:=(by rw[hL];exact aN hw);rw[<- hL]at hw HL hW |-;have hQ:∃o x,X=o++ [x]/\((x+1=m0/\ANS=(out++X,q5,0))\/(x+1≠m0/\X.length=50/\iW (T.map nl) (nl P) bits m0 (50*(m-(i+1))) (50*i+50) q5 (out++X)=ANS)):=by
     rcases HG.out with⟨h1,_⟩|⟨_,⟨o,h2⟩,h3⟩|⟨_,h2,h3,h4⟩;·exact absurd rfl h1
     ·exact⟨o,m0-1,h2,.inl ⟨by omega,h3⟩⟩
     ·rw[N5,N8]at h3;(have HR:X≠ []:=fun h=>by rw[h]at h3;cases h3);refine⟨X.dropLast,X.getLast HR,(List.dropLast_concat_getLast HR).symm,.inr ⟨h2 _ (List.getLast_mem HR),h3,h4.symm⟩⟩
    obtain⟨o,x,hX,h6⟩:=hQ;have hG:xl=o.length+1:=(by rw[hL,hX,Nc];rfl);obtain⟨g5,rfl⟩:=hW (by omega);have h9:=ef HO.out hH;obtain⟨v6,w6,hZ,hK,hY⟩:=jT w5 w2.heap.size (.slice A9 N c9) N _ h9 (some ⟨g5,0,none⟩) xl c5 X HN (by have:=HI.out.2.1;omega) (NH H2.out.size hH.size);have hn:Below w2.heap.size w2 w6:=he.grown hY he.size (fun k hk=>(OD h9 k hk).1);have HZ:=(OD hw g5 rfl).1
    have hF:=Pb hw hY (.inr fun e=>by
     have:=(OD HO.out g5 e.symm).2
     omega)
    have pk:w6.cell? ⟨g5,o.length,none⟩=some (.int .i64 (x:Nat)):=(by rw[OR hF o.length (by omega),Np,hX,NU (ah _),Ow];rfl);obtain⟨ol,HS⟩:∃ol,ol=o.length:=⟨_,rfl⟩;rw[<- HS]at pk hG;have pv:(xl:Int)-1=(ol:Int):=(by omega);have pn:(0:Int)<=(ol:Int):=(by omega);have po:(ol:Int)<(xl:Int):=(by omega);have hf:x+1=m0↔x=n1:=(by have:=p7.out;omega);obtain⟨A6,c6,rfl,_,_,_⟩:=ak hK;obtain⟨N6,hO⟩:∃N6,N6=N+xl:=⟨_,rfl⟩;rw[<- hO,<-NF]at hK;rw[<- hO]at hZ;have h8:(out++X).length=N6:=(by rw[Nc,HI.out.1,<-hL,hO]);have HX:=aa hZ;have pf:=aa hK;have H1:=aa hn;by_cases ex:x+1=m0;·have h5:ANS=(out++X,q5,0):=(h6.resolve_right fun h=>h.1 ex).2;have dx:((x:Int)==(n1:Int))=true:=(by rw[hf.1 ex];exact OK _);have dx2:(x==n1)=true:=(by rw[hf.1 ex];exact OK _);have HE:=aa (hV.out w6 (.slice A6 N6 c6) (out++X) q5 h5 (by rw[h8];exact World.ownsRow.mono hK hj) (hm.out.trans (hn.mono hj)));clear h5 h6 hX hL hG hw HL hW HN h9 hZ hK hY hn HZ hF HS hO h8 he ht hH HG hV hM ex hf;(go_wp2_with (at_builtin;refine Lib.wpList_append_run _ rfl (.tmp 48) (.tmp 49) 57 57 rfl (.slice A9 N c9) (.slice (some ⟨g5,0,none⟩) xl c5) rfl rfl _ w6 HX.out ?_));(first|go_ret3|skip);exact HE.out
    ·obtain⟨_,HH,hz⟩:=h6.resolve_left fun h=>ex h.1;have dx:((x:Int)==(n1:Int))=false:=(by rw[NA];intro h;exact ex (hf.2 (by omega)));have dx2:(x==n1)=false:=(by rw[NA];intro h;exact ex (hf.2 h));have pb:Hid ((out++X).length=N6/\N6<=50*(i+1)/\q5<=8*s.size/\iW (T.map nl) (nl P) bits m0 (50*(m-(i+1))) (50*(i+1)) q5 (out++X)=ANS):=aa ⟨h8,by have:=HI.out.2.1;omega,hN.out,by rw[show 50*(i+1)=50*i+50 by omega];exact hz⟩;clear hz HH h6 hX hL hG hw HL hW HN h9 hZ hK hY hn HZ hF HS hO h8 he ht hH HG ex hf;(go_wp2_with (at_builtin;refine Lib.wpList_append_run _ rfl (.tmp 48) (.tmp 49) 57 57 rfl (.slice A9 N c9) (.slice (some ⟨g5,0,none⟩) xl c5) rfl rfl _ w6 HX.out ?_));go_roundw;case rel=>exact⟨i+1,q5,N6,c6,A6,out++X,by omega,by go_num,rfl,rfl,pf.out,H1.out,pb⟩
     case measure=>simp[intOf];omega
   ·have h5:ANS=([],0,z5):=by
     rcases HG.out with⟨_,h2⟩|⟨h1,_⟩|⟨h1,_⟩;·exact h2
     ·exact absurd h1 ez
     ·exact absurd h1 ez
    have HE:=aa (hM.out w5 z5 h5 ht);have dz2:((z5:Int) != 0)=true:=(by rw[OP];omega);clear h5 hw hH he ht HA HG hN HW HO H2 HI hV hM hB hA H8 hh hC HB H5 H4;go_wp2_with fail;(first|go_ret3|skip);exact HE.out
  ·obtain rfl:i=m:=(by omega);have h5:ANS=([],0,110):=(by rw[<- hI.out.2.2.2,Ow];rfl);have HE:=aa (hM.out wx 110 h5 (hm.out.trans (hJ.mono hj)));clear h5 ho hJ hI hV hM hB hA H8 hh hC HB H5 H4;go_wp2_with fail;(first|go_ret3|skip);exact HE.out
theorem IP(w:World)(v:Value)(T:List (List Int))(P:List Int)(h:aQ w v T P)(s:ByteArray)(at':Int)(hs:s.size<=2000000)(hl: -9223372036854775808<=at')(hh:at'<=9223372036854775807):
 Calls prog 179 #[v,.string s,.int .i64 at'] w (aL w (dV T P (ai s.data.toList) at')):=by
 by_cases hP:aP T P
 ·by_cases h0:at'<0\/8*(s.size:Int)<at';·exact IQ w v T P h s at' hs hl hh hP h0
  ·exact IS w v T P h s at' hs hP (by omega) (by omega)
 ·exact IR w v T P h s at' hP
def cR(ls:List (List Nat)):List Value:=ls.flatMap fun l=> [.string ⟨(aF l).toArray⟩,.int .i64 l.length]
theorem kx(ls:List (List Nat))(l:List Nat):cR (ls++ [l])=cR ls++ [.string ⟨(aF l).toArray⟩,.int .i64 l.length]:=by simp[cR]
theorem pe:∀(ls:List (List Nat)) (j:Nat),j<ls.length->(cR ls)[j*2]? =some (.string ⟨(aF (ls.getD j [])).toArray⟩)/\(cR ls)[j*2+1]? =some (.int .i64 (ls.getD j []).length)
 | [],_,h=>absurd h (Px _)
 | l::ls,0,_=>⟨rfl,rfl⟩
 | l::ls,j+1,h=>by have ih:=pe ls j (by simpa using h);have e:cR (l::ls)= [.string ⟨(aF l).toArray⟩,.int .i64 l.length]++cR ls:=rfl;rw[e,show(j+1)*2=2+j*2 by omega,show 2+j*2+1=2+(j*2+1) by omega,NU (by simp),NU (by simp)];simpa using ih
structure Pcs (w:World) (B:Nat) (v:Value) (ls:List (List Nat)):Prop where
 own:w.ownsRow B 43 2 v ls.length (cR ls)
 bit:∀l∈ls,am l
theorem Tryz.infoBits:(prog.info? 43).map (fun i=>(i.zero,i.size,i.bytes))=some (some (.agg #[.string ⟨#[]⟩,.int .i64 0]),2,24):=by kernel_rfl
theorem Ey(w:World)(B:Nat)(hB:B<=w.heap.size)(l:List Nat)(hl:am l):Pcs (w.alloc (.cells #[.string ⟨(aF l).toArray⟩,.int .i64 l.length] 43)) B (.slice (some ⟨w.heap.size,0,none⟩) 1 1) [l]:=
 ⟨⟨rfl,.inr ⟨w.heap.size,1,_,rfl,hB,P4 w _,Nm _,by unfold maxLen;omega,rfl,rfl⟩⟩,fun x hx=>by rw[List.mem_singleton.1 hx];exact hl⟩
theorem J1(w:World)(B:Nat):Pcs w B (.slice none 0 0) []:=⟨Ns _ _ _ _,fun _ h=>by cases h⟩
theorem Pcs.below{w w':World}{B:Nat}{v:Value}{ls:List (List Nat)}(h:Pcs w B v ls)(hb:Below w.heap.size w w'):Pcs w' B v ls:=
 ⟨(an hb).row h.own (fun _ _=>ar) ar,h.bit⟩
theorem uu(w:World)(B:Nat)(v:Value)(ls:List (List Nat))(l:List Nat)(h:Pcs w B v ls)(hB:B<=w.heap.size)(hn:ls.length<=1000000)(hl:am l):
 ∃v' w',(Builtin.append_ #[45,45] 45 #[v,.slice (some ⟨w.heap.size,0,none⟩) 1 1]).run prog (w.alloc (.cells #[.string ⟨(aF l).toArray⟩,.int .i64 l.length] 43))=.ok v' w'/\Pcs w' B v' (ls++ [l])/\Below B w w':=by
 obtain⟨i3,h3,h0,h5,h6⟩:=NY Tryz.infoBits
 obtain⟨v',w',h1,h2,h4,_⟩:=Rp (P:=prog) (w.alloc (.cells #[.string ⟨(aF l).toArray⟩,.int .i64 l.length] 43)) B 45 45 43 i3 _ 2 24 underlying45 h3 h0 h5 h6 rfl (by decide) v ls.length (cR ls) (h.own.alloc _)
  ⟨w.heap.size,0,none⟩ 1 1 [.string ⟨(aF l).toArray⟩,.int .i64 l.length] rfl (su w _ _ _)
  (fun u hu=>by
    simp at hu
    rcases hu with rfl|rfl <;>rfl) (by unfold maxLen;omega) (by omega) (by simp;omega)
 refine⟨v',w',h1,⟨?_,fun x hx=> ?_⟩,((Nj B w).alloc hB _).grown h4 (by simp;omega) (fun k hk=>(OD h.own k hk).1)⟩;·rw[kx,Nc,NM];exact h2
 ·rcases List.mem_append.1 hx with hx|hx;·exact h.bit x hx
  ·rw[List.mem_singleton.1 hx];exact hl
theorem GI(l:List Nat)(hb:am l):oZ ⟨(aF l).toArray⟩ l.length=true:=by rw[nb,show(ByteArray.mk (aF l).toArray).size=(l.length+7)/8 by rw[<- db];rfl,show(ByteArray.mk (aF l).toArray).data.toList=aF l from rfl,lq l hb,Pw];exact⟨by omega,by omega,by simp⟩
theorem AH(ls:List (List Nat))(hb:∀l∈ls,am l):∀i,i<=ls.length->iD (fun i=>⟨(aF (ls.getD i [])).toArray⟩) (fun i=>((ls.getD i []).length:Int)) i=(ls.take i).flatten/\vD (fun i=>⟨(aF (ls.getD i [])).toArray⟩) i<=(ls.take i).flatten.length+i
 | 0,_=>by simp[iD,vD]
 | i+1,h=>by
  obtain⟨h1,h2⟩:=AH ls hb i (by omega);have hg:ls.getD i []=ls[i]:=by rw[Nb,Nd (by omega)];rfl
  have e:ls.take (i+1)=ls.take i++ [ls.getD i []]:=by rw[NI (by omega),hg]
  have h0:am (ls.getD i []):=by rw[hg];exact hb _ (NL _)
  have h3:(ByteArray.mk (aF (ls.getD i [])).toArray).size=((ls.getD i []).length+7)/8:=by rw[<- db];rfl
  rw[e,Rc];refine⟨?_,?_⟩;·rw[iD,h1];congr 1;rw[Nn,show(ByteArray.mk (aF (ls.getD i [])).toArray).data.toList=aF (ls.getD i [])from rfl,lq _ h0,Rw];simp
  ·rw[vD,h3,Nc];simp only[QT,RH,NR];omega
theorem JZ(ls:List (List Nat))(i:Nat)(h:i<ls.length):(ls.getD i []).length<=ls.flatten.length:=by rw[Nb,Nd h];exact List.Sublist.length_le (List.sublist_flatten_of_mem (NL h))
theorem ph(w:World)(B:Nat)(v:Value)(ls:List (List Nat))(h:Pcs w B v ls)(hn:ls.length<=1000000)(hl:ls.flatten.length<=100000000):
 Calls prog 22 #[v] w (mY w (aF ls.flatten) ls.flatten.length 0):=by
 obtain⟨A,c,rfl,hc,_,hA⟩:=ak h.own;obtain⟨hj,ht⟩:=AH ls h.bit ls.length (ah _);rw[Qm]at hj ht
 have hk:=Ly w A ls.length c (fun i=>⟨(aF (ls.getD i [])).toArray⟩) (fun i=>((ls.getD i []).length:Int)) (fun h0=>by
  obtain⟨g,rfl⟩:=hA h0
  refine⟨g,0,rfl,(OD h.own g rfl).2,fun i hi=> ?_⟩
  have hg:=pe ls i hi
  rw[N8,OR h.own (i*2) (by omega),OR h.own (i*2+1) (by omega)]
  exact hg) (by unfold maxLen;omega) (by omega)
  (fun i hi=>by
    have:=JZ ls i hi
    rw[show (ByteArray.mk (aF (ls.getD i [])).toArray).size=((ls.getD i []).length+7)/8 by rw[<- db];rfl]
    omega)
  (fun i hi=>by
    have:=JZ ls i hi
    omega) (fun i hi=>GI _ (by
     rw[Nb,Nd hi]
     exact h.bit _ (NL _)))
 rw[hj]at hk;exact hk
theorem I2(w:World)(v:Value)(T:List (List Int))(P:List Int)(h:aQ w v T P)(A':Option Addr)(n' c':Nat)(L:List Int)(hL:L.length=n')(hq:n'<=2000000)(hP:aP T P)(hM:¬Il T P L):
 Calls prog 52 #[v,.slice A' n' c'] w (aZ w (bX T P L)):=by
 rw[show bX T P L=([],110)from Nf hM];obtain⟨A,q,c,B,m,d,rfl,_,_,_,hi,_,ho⟩:=id h;have hj:=hi.1;have h7:Below w.heap.size w (w.alloc (.cells #[.slice A q c,.slice B m d] 90)):=(Nj _ _).alloc (ah _) _;have h9:=aj w 90 #[.slice A q c,.slice B m d];obtain⟨w1,h4⟩:∃w1,w1=w.alloc (.cells #[.slice A q c,.slice B m d] 90):=⟨_,rfl⟩;have hl:w1.heap.size=w.heap.size+1:=by rw[h4];simp
 rw[<- h4]at h7 h9;have h8:Below w1.heap.size w1 (w1.alloc (.cells #[.string ⟨#[]⟩,.int .i64 0] 43)):=(Nj _ _).alloc (ah _) _;have hk:=aO h8 h9;have hc:=aj w1 43 #[.string ⟨#[]⟩,.int .i64 0];rw[hl]at hc;have h0:=ap h7 h8;have hh:=aa h4.symm;have hf:Hid (∀ w2,w2=w1.alloc (.cells #[.string ⟨#[]⟩,.int .i64 0] 43)->Calls prog 102 #[.agg #[.slice A q c,.slice B m d]] w2.drew fun e w'=>e=.returned (.bool true)/\Below w2.heap.size w2.drew w'):=aa fun w2 e2=>by have h3:=du w2.drew _ T P (h.below (by rw[e2];exact h0.drew));rw[No hP]at h3;exact h3
 have he:=aa fun(wx:World)=>jX wx n' (by omega);have h6:¬(aP T P/\aR n'<=m):=by rw[<- hL,<-hj];exact hM
 obtain⟨z,hz⟩:∃z,z=aR n':=⟨_,rfl⟩;have hr:z<=50000:=by rw[hz];unfold aR;omega
 rw[<- hz]at h6 he;unfold maxLen at ho;have hp:m<z:=by have:¬z<=m:=fun k=>h6 ⟨hP,k⟩;omega
 have h5:=aa hk;have hg:=aa hc;have hm:=aa h0;clear h hM h7 h9 h8 hk hc h0 hl h4 h6 hP hz hL hj hi;go_enter func52,ntmps52;go_upto_region 1 with fail;rw[hh.out];have HM:=aa (hf.out _ rfl);generalize w1.alloc (.cells #[.string ⟨#[]⟩,.int .i64 0] 43)=w2 at*;clear hh hf;have p0:w2.cell? ⟨w.heap.size,0,none⟩=some (.slice A q c):=(ac h5.out 0).trans rfl;have p1:w2.cell? ⟨w.heap.size,1,none⟩=some (.slice B m d):=(ac h5.out 1).trans rfl;have ha:w.heap.size<w2.heap.size:=az h5.out;have hb:w.heap.size+1<w2.heap.size:=az hg.out
 go_region_held3 (fun w'=>w'.cell? ⟨w.heap.size,0,none⟩=some (.slice A q c)/\w'.cell? ⟨w.heap.size,1,none⟩=some (.slice B m d))
  (first|exact⟨p0,p1⟩|exact⟨s0,s1⟩|go_keep)
  (first
    | (go_at_call 102;refine HM.out.mono ?_;rintro e w3 ⟨rfl,h1⟩
       have s0:w3.cell? ⟨w.heap.size,0,none⟩=some (.slice A q c):=(h1.cell (p:=⟨w.heap.size,0,none⟩) ha).trans p0
       have s1:w3.cell? ⟨w.heap.size,1,none⟩=some (.slice B m d):=(h1.cell (p:=⟨w.heap.size,1,none⟩) ha).trans p1)
    | (go_at_call 105;refine(he.out _).mono ?_;rintro e w4 ⟨rfl,rfl⟩))
 have h2:Blk w3 (w.heap.size+1) 43 #[.string ⟨#[]⟩,.int .i64 0]:=(h1.block (w.heap.size+1) hb).trans hg.out;have g0:=(ac h2 0).trans (rfl:_=some (Value.string ⟨#[]⟩));have g1:=(ac h2 1).trans (rfl:_=some (Value.int .i64 0));have f0:=ae h2 0;have f1:=ae h2 1;have hn:=aa (hm.out.drew.trans (h1.mono (NV ha)));clear h1 h2;go_wp2_with fail;refine ND (v:=.tuple #[.agg #[.string ⟨#[]⟩,.int .i64 0],.int .i64 110]) ?_ rfl ⟨rfl,(hn.out.setCell (p:=⟨w.heap.size+1,0,none⟩) (Pq _) _).setCell (p:=⟨w.heap.size+1,1,none⟩) (Pq _) _⟩;simp[results,results52,go_sem,g0,g1]
theorem I1(w:World)(v:Value)(T:List (List Int))(P:List Int)(h:aQ w v T P)(A':Option Addr)(n' c':Nat)(L:List Int)(hP:¬aP T P):
 Calls prog 52 #[v,.slice A' n' c'] w (aZ w (bX T P L)):=by
 rw[show bX T P L=([],110)from Nf (fun k=>hP k.1)];obtain⟨A,q,c,B,m,d,rfl,_⟩:=id h;have h6:Below w.heap.size w (w.alloc (.cells #[.slice A q c,.slice B m d] 90)):=(Nj _ _).alloc (ah _) _;have h8:=aj w 90 #[.slice A q c,.slice B m d];obtain⟨w1,h4⟩:∃w1,w1=w.alloc (.cells #[.slice A q c,.slice B m d] 90):=⟨_,rfl⟩;have hj:w1.heap.size=w.heap.size+1:=by rw[h4];simp
 rw[<- h4]at h6 h8;have h7:Below w1.heap.size w1 (w1.alloc (.cells #[.string ⟨#[]⟩,.int .i64 0] 43)):=(Nj _ _).alloc (ah _) _;have hh:=aO h7 h8;have hb:=aj w1 43 #[.string ⟨#[]⟩,.int .i64 0];rw[hj]at hb;have h0:=ap h6 h7;have hf:=aa h4.symm;have hc:Hid (∀ w2,w2=w1.alloc (.cells #[.string ⟨#[]⟩,.int .i64 0] 43)->Calls prog 102 #[.agg #[.slice A q c,.slice B m d]] w2.drew fun e w'=>e=.returned (.bool false)/\Below w2.heap.size w2.drew w'):=aa fun w2 e2=>by have h3:=du w2.drew _ T P (h.below (by rw[e2];exact h0.drew));rw[Nk hP]at h3;exact h3
 have h5:=aa hh;have he:=aa hb;have hk:=aa h0;clear h h6 h8 h7 hh hb h0 hj h4 hP;go_enter func52,ntmps52;go_upto_region 1 with fail;rw[hf.out];have HM:=aa (hc.out _ rfl);generalize w1.alloc (.cells #[.string ⟨#[]⟩,.int .i64 0] 43)=w2 at*;clear hf hc;have q0:w2.cell? ⟨w.heap.size,0,none⟩=some (.slice A q c):=(ac h5.out 0).trans rfl;have q1:w2.cell? ⟨w.heap.size,1,none⟩=some (.slice B m d):=(ac h5.out 1).trans rfl;have h9:w.heap.size<w2.heap.size:=az h5.out;have ha:w.heap.size+1<w2.heap.size:=az he.out;refine wp_region_held_drew (S:=fun w'=>w'.cell? ⟨w.heap.size,0,none⟩=some (.slice A q c)/\w'.cell? ⟨w.heap.size,1,none⟩=some (.slice B m d)) (by kernel_rfl) ⟨q0,q1⟩ (fun hHeld=> ?_);refine Qk (i:=0) (v:=.agg #[.slice A q c,.slice B m d]) rfl (by kernel_rfl) (by kernel_rfl) (by kernel_rfl) (fun _ _ _ h=>h) (Or.inl ⟨by rfl,?hy⟩) (by assumption) ?_;case hy=>intro w hg;(try dsimp only at hg);obtain⟨s0,s1⟩:=hg;go_simp
 (try simp only[OI,OC,Act.put,Ol,OV,ON]);refine wpAnyH_ready (rs:= [1]) (by kernel_rfl) (by simp) (AllReadyH.cons rfl (fun K hK=> ?_) AllReadyH.nil);go_simp;go_at_call 102;refine HM.out.mono ?_;rintro e w3 ⟨rfl,h1⟩;have p0:w3.cell? ⟨w.heap.size,0,none⟩=some (.slice A q c):=(h1.cell (p:=⟨w.heap.size,0,none⟩) h9).trans q0;have p1:w3.cell? ⟨w.heap.size,1,none⟩=some (.slice B m d):=(h1.cell (p:=⟨w.heap.size,1,none⟩) h9).trans q1;have hi:Blk w3 (w.heap.size+1) 43 #[.string ⟨#[]⟩,.int .i64 0]:=(h1.block (w.heap.size+1) ha).trans he.out;have hl:=aa (hk.out.drew.trans (h1.mono (NV h9)));have h2:=aa hi;dsimp only;refine hK.out _ _ ⟨p0,p1⟩ (fun hHeld2=> ?_);clear hK K h1 HM hHeld hi;(try simp only[OI,OG,OC,Act.put,Ol,OV,ON]);refine Qk (i:=2) (v:=.bool true) rfl (by kernel_rfl) (by kernel_rfl) (by kernel_rfl) (fun _ _ _ h=>h) (Or.inl ⟨by rfl,fun w _=>by go_simp⟩) (by assumption) ?_;(try simp only[OI,OG,OC,Act.put,Ol,OV,ON]);refine Qk (i:=3) (v:=.bool true) rfl (by kernel_rfl) (by kernel_rfl) (by kernel_rfl) (fun _ _ _ h=>h) (Or.inl ⟨by rfl,fun w _=>by go_simp⟩) (by assumption) ?_;(try simp only[OI,OG,OC,Act.put,Ol,OV,ON]);refine Qk (i:=4) (v:=undef) rfl (by kernel_rfl) (by kernel_rfl) (by kernel_rfl) (fun _ _ _ h=>h) (Or.inr ⟨by rfl,rfl⟩) (by assumption) ?_;(try simp only[OI,OG,OC,Act.put,Ol,OV,ON]);refine Qk (i:=5) (v:=undef) rfl (by kernel_rfl) (by kernel_rfl) (by kernel_rfl) (fun _ _ _ h=>h) (Or.inr ⟨by rfl,rfl⟩) (by assumption) ?_;(try simp only[OI,OG,OC,Act.put,Ol,OV,ON]);refine Qk (i:=6) (v:=undef) rfl (by kernel_rfl) (by kernel_rfl) (by kernel_rfl) (fun _ _ _ h=>h) (Or.inr ⟨by rfl,rfl⟩) (by assumption) ?_;(try simp only[OI,OG,OC,Act.put,Ol,OV,ON]);refine Qk (i:=7) (v:=undef) rfl (by kernel_rfl) (by kernel_rfl) (by kernel_rfl) (fun _ _ _ h=>h) (Or.inr ⟨by rfl,rfl⟩) (by assumption) ?_;(try simp only[OI,OG,OC,Act.put,Ol,OV,ON]);refine Qk (i:=8) (v:=undef) rfl (by kernel_rfl) (by kernel_rfl) (by kernel_rfl) (fun _ _ _ h=>h) (Or.inr ⟨by rfl,rfl⟩) (by assumption) ?_;(try simp only[OI,OG,OC,Act.put,Ol,OV,ON]);refine Qk (i:=9) (v:=undef) rfl (by kernel_rfl) (by kernel_rfl) (by kernel_rfl) (fun _ _ _ h=>h) (Or.inr ⟨by rfl,rfl⟩) (by assumption) ?_;(try simp only[OI,OG,OC,Act.put,Ol,OV,ON]);refine Qk (i:=10) (v:=undef) rfl (by kernel_rfl) (by kernel_rfl) (by kernel_rfl) (fun _ _ _ h=>h) (Or.inr ⟨by rfl,rfl⟩) (by assumption) ?_;(try simp only[OI,OG,OC,Act.put,Ol,OV,ON]);refine Qk (i:=11) (v:=.bool true) rfl (by kernel_rfl) (by kernel_rfl) (by kernel_rfl) (fun _ _ _ h=>h) (Or.inl ⟨by rfl,fun w _=>by go_simp⟩) (by assumption) ?_;(try simp only[OI,OG,OC,Act.put,Ol,OV,ON]);refine wpAnyH_done (by kernel_rfl) ?_ _;have g0:=(ac h2.out 0).trans (rfl:_=some (Value.string ⟨#[]⟩));have g1:=(ac h2.out 1).trans (rfl:_=some (Value.int .i64 0));have f0:=ae h2.out 0;have f1:=ae h2.out 1;go_wp2_with fail;refine ND (v:=.tuple #[.agg #[.string ⟨#[]⟩,.int .i64 0],.int .i64 110]) ?_ rfl ⟨rfl,(hl.out.setCell (p:=⟨w.heap.size+1,0,none⟩) (Pq _) _).setCell (p:=⟨w.heap.size+1,1,none⟩) (Pq _) _⟩;simp[results,results52,go_sem,g0,g1]
theorem I0(w:World)(A:Option Addr)(n c:Nat)(L:List Int)(k:Nat)(hL:ZIn w A n L)(he:n<=c)(hn:n<=2000000)(hk:50*k<n):
 Calls prog 107 #[.slice A n c,.int .i64 k] w fun e w'=>∃c2,e=.returned (.slice (A.map fun x=>x.add (50*k)) (bY L k).length c2)/\(bY L k).length<=c2/\w'=w:=by
 have h0:=hL.1;obtain⟨m,hm⟩:∃m,m=(bY L k).length:=⟨_,rfl⟩;have h5:m=min 50 (n-50*k):=by rw[hm,gw,h0]
 obtain⟨b,off,rfl,_⟩:=hL.2 (by omega);obtain⟨lo,h1⟩:∃lo,lo=50*k:=⟨_,rfl⟩;have hf:(k:Int)*50=(lo:Int):=by omega
 rw[<- hm,<-h1,Oy,OX];obtain⟨hi,h3⟩:∃hi,hi=lo+50:=⟨_,rfl⟩;have hg:(lo:Int)+50=(hi:Int):=by omega
 have h8:lo<=3000000:=by omega
 have h6:hi<=3000000:=by omega
 by_cases e:n<hi;·have d4:((n:Int)<(hi:Int)):=(by omega);have ha:(n:Int)-(lo:Int)=(m:Int):=(by omega);have hb:n-lo=m:=(by omega);have h2:(0:Int)<=(lo:Int):=(by omega);have h9:(lo:Int)<=(n:Int):=(by omega);have hc:(n:Int)<=(c:Int):=(by omega);clear hL hm h5 h1 h0 h3;go_enter func107,ntmps107;go_wp2_with fail;go_ret;exact⟨_,rfl,by omega,rfl⟩
 ·have d4:¬((n:Int)<(hi:Int)):=(by omega);have ha:(hi:Int)-(lo:Int)=(m:Int):=(by omega);have hb:hi-lo=m:=(by omega);have h2:(0:Int)<=(lo:Int):=(by omega);have h4:(lo:Int)<=(hi:Int):=(by omega);have h7:(hi:Int)<=(c:Int):=(by omega);clear hL hm h5 h1 h0 h3;go_enter func107,ntmps107;go_wp2_with fail;go_ret;exact⟨_,rfl,by omega,rfl⟩
theorem JX{w:World}{A:Option Addr}{n k:Nat}{L:List Int}(h:ZIn w A n L)(hk:50*k<n):ZIn w (A.map fun x=>x.add (50*k)) (bY L k).length (bY L k):=by
 have hl:=gw L k;rw[h.1]at hl;have hc:=ZIn.cut (k:=(bY L k).length) (a:=50*k) h (by omega);have e:(L.drop (50*k)).take (bY L k).length=bY L k:=by
  have h2:(bY L k).length=min 50 (L.drop (50*k)).length:=by unfold bY;rw[Nz]
  rw[h2];unfold bY;by_cases e:50<=(L.drop (50*k)).length;·rw[Oh e]
  ·rw[PD (by omega),Nt (ah _),Nt (by omega)]
 rw[e]at hc;exact hc
def jw(T:List (List Int))(P L:List Int)(k:Nat):List Nat:=mc (nl (T.getD (P.getD k 0).toNat [])) (bY L k)
theorem xT(P:List Int)(k:Nat):(nl P).getD k 0=(P.getD k 0).toNat:=by unfold nl;rw[Nb,Nb,Np];cases P[k]? <;>rfl
theorem F5(T:List (List Int))(k:Nat):(T.map nl).getD k []=nl (T.getD k []):=by rw[Nb,Nb,Np];cases T[k]? <;>rfl
theorem oH(T:List (List Int))(P L:List Int)(k:Nat):∀m,m<=50->50*k+m<=L.length->
 dG (T.map nl) (nl P) (nl L) (50*k+m)=dG (T.map nl) (nl P) (nl L) (50*k)++mc (nl (T.getD (P.getD k 0).toNat [])) ((L.drop (50*k)).take m)
 | 0,_,_=>by simp[mc]
 | m+1,hm,hl=>by rw[<- OL,mq,oH T P L k m (by omega) (by omega),show(50*k+m)/50=k by omega,xT,F5,xT];have e:(L.drop (50*k)).take (m+1)=(L.drop (50*k)).take m++ [L.getD (50*k+m) 0]:=(by rw[NI (by rw[Nq];omega),Rt,Nb,Nd (by omega)];rfl);rw[e];unfold mc;rw[OO,Ni];simp
theorem nB(T:List (List Int))(P L:List Int):∀k,dG (T.map nl) (nl P) (nl L) (min (50*k) L.length)=((List.range k).map (jw T P L)).flatten
 | 0=>by simp[dG]
 | k+1=>by
  rw[Oi,NF,Rc,<-nB T P L k];simp only[OB,Qx,QT,RH,NR];by_cases h:50*k<=L.length
  ·obtain⟨m,hm⟩:∃m,m=min 50 (L.length-50*k):=⟨_,rfl⟩;rw[Oh h,show min (50*(k+1)) L.length=50*k+m by omega,oH T P L k m (by omega) (by omega)];congr 2;unfold bY;by_cases e:m=50;·rw[e]
   ·rw[Nt (by rw[Nq];omega),Nt (by rw[Nq];omega)]
  ·have e:jw T P L k= []:=(by unfold jw bY mc;rw[OY (by omega)];rfl);rw[e,NR,PD (by omega),PD (by omega)]
theorem GO(l:List Nat)(list:List Int):am (mc l list):=by unfold mc;intro b hb;obtain⟨x,_,hx⟩:=List.mem_flatMap.1 hb;exact aB _ _ b hx
theorem Dl{t:List Int}(ht:a6 t)(list:List Int):(mc (nl t) list).length<=20*list.length:=by
 induction list with
 | nil=>simp[mc]
 | cons x list ih=>
  have e:mc (nl t) (x::list)=bC (nl t) x.toNat++mc (nl t) list:=rfl;have hc:(bC (nl t) x.toNat).length<=20:=by
   unfold bC;rw[af,xT];by_cases hx:x.toNat<t.length
   ·have:=(ht.2.2.1 (t.getD x.toNat 0) (by
     rw[Nb,Nd hx]
     exact NL _)).2
    omega
   ·rw[Nb,Ny (by omega)];exact Nh _
  rw[e,Nc,Nv];omega
theorem tR(T:List (List Int))(P L:List Int)(hT:∀k,a6 (T.getD (P.getD k 0).toNat [])\/bY L k= []):∀k,((List.range k).map (jw T P L)).flatten.length<=1000*k
 | 0=>by simp
 | k+1=>by
  rw[Oi,NF,Rc,Nc];have ih:=tR T P L hT k;have:(jw T P L k).length<=1000:=by
   unfold jw;rcases hT k with h|h;·have h2:=Dl h (bY L k);have h3:=gw L k;omega
   ·rw[h];simp[mc]
  simp only[OB,Qx,QT,RH,NR];omega
theorem JM{L:List Int}{x:Int}(hx:x∈L):∃k,k<aR L.length/\x∈bY L k:=by obtain⟨i,hi,rfl⟩:=Pt hx;refine⟨i/50,by unfold aR;omega,?_⟩;unfold bY;refine List.mem_take_iff_getElem.2 ⟨i%50,by rw[Nq];omega,?_⟩;rw[Rt];congr 1;omega
theorem JY{L:List Int}{k:Nat}{x:Int}(hx:x∈bY L k):x∈L:=O9 (Po hx)
