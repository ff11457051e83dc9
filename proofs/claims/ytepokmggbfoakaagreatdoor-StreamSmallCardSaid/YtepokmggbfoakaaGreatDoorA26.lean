import Derived.Test.YtepokmggbfoakaaGreatDoorA24
import Derived.Test.YtepokmggbfoakaaGreatDoorA25
import Derived.Test.YtepokmggbfoakaaGreatDoorA11
import Derived.Laws.IdiomCopy
set_option maxHeartbeats 6400000
set_option maxRecDepth 100000
namespace Go.Proofs.YtepokmggbfoakaaGreatDoor
open Go.RowKit
theorem mg(w:World)(n:Int):Calls Tryz.prog 195 #[.int .i64 n] w fun e w'=>e=.returned (.bool (decide (3≤n∧n≤258)))∧w=w':=by
 by_cases h1:3≤n
 ·by_cases h2:n≤258;·have d1:decide (n≤(258:Int))=true:=L8 h2;have hd:decide (3≤n∧n≤258)=true:=L8 ⟨h1,h2⟩;go_enter Tryz.func195,Tryz.ntmps195;go_wp2_with fail;go_ret;first | exact⟨rfl,rfl⟩ | (rw [hd];exact⟨rfl,rfl⟩)
  ·have d1:decide (n≤(258:Int))=false:=L7 h2;have hd:decide (3≤n∧n≤258)=false:=aN (by omega);go_enter Tryz.func195,Tryz.ntmps195;go_wp2_with fail;go_ret;first | exact⟨rfl,rfl⟩ | (rw [hd];exact⟨rfl,rfl⟩)
 ·have hd:decide (3≤n∧n≤258)=false:=aN (by omega);go_enter Tryz.func195,Tryz.ntmps195;go_wp2_with fail;go_ret;first | exact⟨rfl,rfl⟩ | (rw [hd];exact⟨rfl,rfl⟩)
theorem jN(w:World)(m:Nat)(hm:m≤4000000000000000000):Calls Tryz.prog 105 #[.int .i64 m] w fun e w'=>e=.returned (.int .i64 (aQ m:Nat))∧w=w':=by obtain⟨q,hq⟩:∃q,q=aQ m:=⟨_,rfl⟩;rw[← hq];unfold aQ at hq;obtain⟨m1,h1⟩:∃m1,m1=m+50:=⟨_,rfl⟩;obtain⟨m2,h0⟩:∃m2,m2=m+49:=⟨_,rfl⟩;have z1:(m:Int)+50=(m1:Int):=(by omega);have z2:(m1:Int) - 1=(m2:Int):=(by omega);have z3:(m2:Int) / 50=(q:Int):=(by rw[hq,h0];omega);have b3:q≤5000000000000000000:=(by omega);clear hq h1 h0;go_enter Tryz.func105,Tryz.ntmps105;go_wp2_with fail;go_ret;exact⟨rfl,rfl⟩
theorem qv{L:List Int}{n:Nat}{a b m:Int}(hl:L.length=n)(ha:(∀ i,i<n→a≤L.getD i 0)∧∃i,i<n∧L.getD i 0=a)(hb:(∀ i,i<n→L.getD i 0≤b)∧∃i,i<n∧L.getD i 0=b):
 (∀ x∈L,0≤x∧x<m)↔0≤a∧b<m:=by
 have hg:∀i,i<n→L.getD i 0∈L:=fun i hi=>by rw[LU,LV (by omega)];exact Mu _
 refine⟨fun h=> ?_,fun h x hx=> ?_⟩;·obtain⟨i,hi,h0⟩:=ha.2;obtain⟨j,hj,h3⟩:=hb.2;have h1:=h _ (hg i hi);have h2:=h _ (hg j hj);omega
 ·obtain⟨i,hi,rfl⟩:=NU hx;have h1:=ha.1 i (by omega);have h2:=hb.1 i (by omega);rw[LU,LV hi]at h1 h2;simp only[Option.getD_some]at h1 h2;omega
theorem vq(w:World)(A:Option Addr)(n c:Nat)(L:List Int)(m:Int)(hL:ZIn w A n L)(hn:n≤maxLen):
 Calls Tryz.prog 145 #[.slice A n c,.int .i64 m] w fun e w'=>e=.returned (.bool (decide (ix L m)))∧w'=w:=by
 have hl:=hL.1;have HE:=aa (mg w m);unfold maxLen at hn;by_cases h1:3≤m∧m≤258
 ·rw[L8 h1]at HE;by_cases h2:n<1;·have d2:decide ((n:Int)<1)=true:=bD (by omega);(have hd:decide (ix L m)=false:=L7 fun h=>by have:=h.2.2.1;omega);rw[hd];clear hd hL hl h1;go_enter Tryz.func145,Tryz.ntmps145;go_wp2_with fail;refine HE.out.mono ?_;rintro e w1 ⟨rfl,rfl⟩;go_wp2_with fail;go_ret;exact⟨rfl,rfl⟩
  ·have d2:decide ((n:Int)<1)=false:=aN (by omega);by_cases h3:1638350<n;·have d3:decide ((1638350:Int)<(n:Int))=true:=bD (by omega);(have hd:decide (ix L m)=false:=L7 fun h=>by have:=h.2.2.2.1;omega);rw[hd];clear hd hL hl h1 h3 h2;go_enter Tryz.func145,Tryz.ntmps145;go_wp2_with fail;refine HE.out.mono ?_;rintro e w1 ⟨rfl,rfl⟩;go_wp2_with fail;go_ret;exact⟨rfl,rfl⟩
   ·have d3:decide ((1638350:Int)<(n:Int))=false:=aN (by omega);obtain⟨ans,h0⟩:∃ans,ans=decide (ix L m):=⟨_,rfl⟩;rw[← h0];have h9:=aa (rI w A n c L hL (by omega) (by unfold maxLen;omega));have h8:=aa (oN w A n c L hL (by omega) (by unfold maxLen;omega));have HD:Hid (∀ a b:Int,((∀ i,i<n→a≤L.getD i 0)∧∃i,i<n∧L.getD i 0=a)→((∀ i,i<n→L.getD i 0≤b)∧∃i,i<n∧L.getD i 0=b)→ans=decide (0≤a∧b<m)):=aa fun a b ha hb=>by
     have:=qv (m:=m) hl ha hb;rw[h0];congr 1;apply propext;constructor;·exact fun h=>this.1 h.2.2.2.2
     ·exact fun h=>⟨h1.1,h1.2,by omega,by omega,this.2 h⟩
    have HS:Hid (∃ b:Int,(∀ i,i<n→L.getD i 0≤b)∧∃i,i<n∧L.getD i 0=b):=aa (by
     have hc:∀k,1≤k→k≤n→∃b:Int,(∀ i,i<k→L.getD i 0≤b)∧∃i,i<k∧L.getD i 0=b:=by
      intro k
      induction k with
      | zero=>intro h;omega
      | succ k ih=>
        intro _ hk
        by_cases e:k=0
        ·subst e
         exact⟨L.getD 0 0,fun i hi=>by rw[show i=0 by omega];exact Pr _,0,by omega,rfl⟩
        ·obtain⟨b,hb,j,hj,he⟩:=ih (by omega) (by omega)
         by_cases e2:L.getD k 0≤b
         ·refine⟨b,fun i hi=> ?_,j,by omega,he⟩
          by_cases e3:i=k
          ·rw[e3];exact e2
          ·exact hb i (by omega)
         ·refine⟨L.getD k 0,fun i hi=> ?_,k,by omega,rfl⟩
          by_cases e3:i=k
          ·rw[e3];exact Pr _
          ·have:=hb i (by omega)
           omega
     exact hc n (by omega) (ag _))
    clear hL hl h1 h3 h0;go_enter Tryz.func145,Tryz.ntmps145;go_wp2_with fail;refine HE.out.mono ?_;rintro e w1 ⟨rfl,rfl⟩;clear HE;go_wp2_with fail;refine h9.out.mono ?_;rintro e w1 ⟨a,rfl,ha,rfl⟩;have h6:=aa (fun b=>HD.out a b ha);clear ha HD h9;by_cases h4:0≤a
    ·have d4:decide (0≤a)=true:=L8 h4;go_wp2_with fail;refine h8.out.mono ?_;rintro e w1 ⟨b,rfl,hb,rfl⟩;have h7:=aa (h6.out b hb);clear hb h6 h8 HS;by_cases h5:b<m;·have d5:decide (b<m)=true:=L8 h5;have hd:=h7.out.trans (L8 ⟨h4,h5⟩);subst hd;clear h7;go_wp2_with fail;go_ret;exact⟨rfl,rfl⟩
     ·have d5:decide (b<m)=false:=L7 h5;have hd:=h7.out.trans (L7 fun h=>h5 h.2);subst hd;clear h7;go_wp2_with fail;go_ret;exact⟨rfl,rfl⟩
    ·have d4:decide (0≤a)=false:=L7 h4;obtain⟨b,hb⟩:=HS.out;have hd:=(h6.out b hb).trans (L7 fun h=>h4 h.1);subst hd;clear h6 h8 HS hb;go_wp2_with fail;go_ret;exact⟨rfl,rfl⟩
 ·rw[L7 h1]at HE;have hd:decide (ix L m)=false:=L7 fun h=>h1 ⟨h.1,h.2.1⟩;rw[hd];clear hd hL hl h1;go_enter Tryz.func145,Tryz.ntmps145;go_wp2_with fail;refine HE.out.mono ?_;rintro e w1 ⟨rfl,rfl⟩;go_wp2_with fail;go_ret;exact⟨rfl,rfl⟩
theorem y7(w:World)(m:Int):Calls Tryz.prog 146 #[.int .i64 m] w fun e w'=>e=.returned (.tuple #[.int .i64 (cn m).1,.int .i64 (cn m).2])∧w'=w:=by
 by_cases h0:m<1;·rw[show cn m=(0,2)from by unfold cn dw;(repeat' split) <;>first | rfl | omega];go_enter Tryz.func146,Tryz.ntmps146;go_wp2_with fail;go_ret2;exact⟨rfl,rfl⟩
 by_cases h1:m<200;·rw[show cn m=(2,0)from by unfold cn dw;(repeat' split) <;>first | rfl | omega];go_enter Tryz.func146,Tryz.ntmps146;go_wp2_with fail;go_ret2;exact⟨rfl,rfl⟩
 by_cases h2:m<600;·rw[show cn m=(3,0)from by unfold cn dw;(repeat' split) <;>first | rfl | omega];go_enter Tryz.func146,Tryz.ntmps146;go_wp2_with fail;go_ret2;exact⟨rfl,rfl⟩
 by_cases h3:m<1200;·rw[show cn m=(4,0)from by unfold cn dw;(repeat' split) <;>first | rfl | omega];go_enter Tryz.func146,Tryz.ntmps146;go_wp2_with fail;go_ret2;exact⟨rfl,rfl⟩
 by_cases h4:m<2400;·rw[show cn m=(5,0)from by unfold cn dw;(repeat' split) <;>first | rfl | omega];go_enter Tryz.func146,Tryz.ntmps146;go_wp2_with fail;go_ret2;exact⟨rfl,rfl⟩
 rw[show cn m=(6,0)from by unfold cn dw;(repeat' split) <;>first | rfl | omega];go_enter Tryz.func146,Tryz.ntmps146;go_wp2_with fail;go_ret2;exact⟨rfl,rfl⟩
def bL(L:List Int)(k:Nat):List Int:=(L.drop (50*k)).take 50
theorem fZ(L:List Int)(k:Nat):(bL L k).length=min 50 (L.length - 50*k):=by unfold bL;rw[Mj,Mc]
theorem ZIn.cut{w:World}{A:Option Addr}{n k a:Nat}{L:List Int}(h:ZIn w A n L)(h0:a+k≤n):ZIn w (Option.map (fun x=>x.add a) A) k ((L.drop a).take k):=by refine⟨by rw[Mj,Mc,h.1];omega,fun hk=> ?_⟩;obtain⟨b,off,rfl,hc⟩:=h.2 (by omega);refine⟨b,off+a,by rw[Nn,NX],fun i hi=> ?_⟩;rw[Nu,hc (a+i) (by omega),LU,LU,Pd,LX hi,N3]
theorem EM(w:World)(A:Option Addr)(n c:Nat)(L:List Int)(k:Nat)(hL:ZIn w A n L)(he:n≤c)(hn:n≤2000000)(hk:50*k<n):
 Calls Tryz.prog 107 #[.slice A n c,.int .i64 k] w fun e w'=>∃A2 c2,e=.returned (.slice A2 (bL L k).length c2)∧ZIn w A2 (bL L k).length (bL L k)∧(bL L k).length≤c2∧(∀ a,A2=some a→∃a0,A=some a0∧a.block=a0.block)∧w'=w:=by
 have h0:=hL.1;obtain⟨m,hm⟩:∃m,m=(bL L k).length:=⟨_,rfl⟩;have h5:m=min 50 (n - 50*k):=by rw[hm,fZ,h0]
 obtain⟨b,off,rfl,_⟩:=hL.2 (by omega);obtain⟨lo,h1⟩:∃lo,lo=50*k:=⟨_,rfl⟩;have hf:(k:Int)*50=(lo:Int):=by omega
 have hcut:=ZIn.cut (k:=m) (a:=lo) hL (by omega);have hp:(L.drop lo).take m=bL L k:=by
  unfold bL;rw[← h1];by_cases e:m=50;·rw[e]
  ·rw[Mh (by rw[Mc];omega),Mh (by rw[Mc];omega)]
 rw[hp,Nn,NX]at hcut;rw[← hm];have HC:=aa hcut;obtain⟨hi,h3⟩:∃hi,hi=lo+50:=⟨_,rfl⟩;have hg:(lo:Int)+50=(hi:Int):=by omega
 have h8:lo≤3000000:=by omega
 have h6:hi≤3000000:=by omega
 by_cases e:n<hi;·have d4:((n:Int)<(hi:Int)):=(by omega);have ha:(n:Int) - (lo:Int)=(m:Int):=(by omega);have hb:n - lo=m:=(by omega);have h2:(0:Int)≤(lo:Int):=(by omega);have h9:(lo:Int)≤(n:Int):=(by omega);have hc:(n:Int)≤(c:Int):=(by omega);clear hL hcut hp hm h5 h1 h0 h3;go_enter Tryz.func107,Tryz.ntmps107;go_wp2_with fail;go_ret;exact⟨_,_,rfl,HC.out,by omega,fun a h=>by cases h;first | rfl | exact⟨_,rfl,rfl⟩,rfl⟩
 ·have d4:¬((n:Int)<(hi:Int)):=(by omega);have ha:(hi:Int) - (lo:Int)=(m:Int):=(by omega);have hb:hi - lo=m:=(by omega);have h2:(0:Int)≤(lo:Int):=(by omega);have h4:(lo:Int)≤(hi:Int):=(by omega);have h7:(hi:Int)≤(c:Int):=(by omega);clear hL hcut hp hm h5 h1 h0 h3;go_enter Tryz.func107,Tryz.ntmps107;go_wp2_with fail;go_ret;exact⟨_,_,rfl,HC.out,by omega,fun a h=>by cases h;first | rfl | exact⟨_,rfl,rfl⟩,rfl⟩
theorem CB(l:List Nat)(k:Nat):bL (l.map fun(x:Nat)=>(x:Int)) k=(df l k).map fun(x:Nat)=>(x:Int):=by unfold bL df;rw[QH,List.map_drop]
theorem sE(w:World)(A:Option Addr)(n c:Nat)(L:List Nat)(k:Nat)(hL:aU w A n L)(h0:n≤c)(hn:n≤2000000)(hk:50*k<n):
 Calls Tryz.prog 107 #[.slice A n c,.int .i64 k] w fun e w'=>∃A2 c2,e=.returned (.slice A2 (df L k).length c2)∧aU w A2 (df L k).length (df L k)∧(df L k).length≤c2∧(∀ a,A2=some a→∃a0,A=some a0∧a.block=a0.block)∧w'=w:=by
 refine(EM w A n c _ k (eC hL) h0 hn hk).mono ?_;rintro e w' ⟨A2,c2,rfl,h1,h2,h3,rfl⟩;rw[CB]at h1 h2 ⊢;rw[Mi]at h1 h2 ⊢;refine⟨A2,c2,rfl,?_,h2,h3,rfl⟩
 have h4:=fM h1 (fun x hx=>by
  obtain⟨y,_,rfl⟩:=List.mem_map.1 hx
  omega)
 rw[MX]at h4;have e:(Int.toNat ∘ fun(x:Nat)=>(x:Int))=id:=by funext x;simp
 rw[e,Pq]at h4;exact h4
theorem xA{l:List Nat}{x q:Nat}(h:q<aR l x):l.getD q 0≠x:=by
 induction l generalizing q with
 | nil=>exact absurd h (NY _)
 | cons y l ih=>
  rw[aR]at h;by_cases e:y=x;·rw[LX e]at h;exact absurd h (NY _)
  ·rw[LW e]at h
   match q with
   | 0=>exact e
   | q+1=>exact ih (by omega)
theorem BE(w:World)(A:Option Addr)(n c:Nat)(L:List Nat)(x:Nat)(hL:aU w A n L)(hx:x∈L)(hn:n≤1000000):
 Calls Tryz.prog 89 #[.slice A n c,.int .i64 x] w fun e w'=>e=.returned (.int .i64 (aR L x:Nat))∧w'=w:=by
 have hp:=fq L x hx;rw[hL.1]at hp;have HB:Hid (∀ q,q<aR L x→L.getD q 0≠x):=aa fun q hq=>xA hq;obtain⟨p,h1⟩:∃p,p=aR L x:=⟨_,rfl⟩;rw[← h1]at hp HB ⊢;obtain⟨h5,h2⟩:=hp;obtain⟨b,off,rfl,hc⟩:=hL.2 (by omega);have HC:=aa hc;have h3:=aa h2;clear hL hx hc h1 h2;go_enter Tryz.func89,Tryz.ntmps89;go_wp2_with fail;go_loopw [5,8] (fun s5 iv' wx=>∃q:Nat,q≤p∧iv'=.int .i64 q∧wx=w) (fun _ iv' _=>n - (intOf iv').toNat)
 case atStart=>exact⟨0,LY _,rfl,rfl⟩
 case round=>
  obtain⟨q,hq,rfl,rfl⟩:=hrel;have h4:q<n:=by omega
  have cq:=HC.out q h4;by_cases e:q=p;·subst e;rw[h3.out]at cq;have d2:((x:Int)==(x:Int))=true:=Oi _;go_wp2_with fail;go_ret;exact⟨rfl,rfl⟩
  ·have h0:=HB.out q (by omega);obtain⟨y,hy⟩:∃y,y=L.getD q 0:=⟨_,rfl⟩;rw[← hy]at cq h0;have d2:((x:Int)==(y:Int))=false:=(by rw[Mr];omega);have d3:(x==y)=false:=(by rw[Mr];exact fun h=>h0 h.symm);have e2:q+1≤p:=(by omega);clear hy h0;go_wp2_with fail;go_roundw;case rel=>exact⟨q+1,e2,by go_num,trivial⟩
   case measure=>simp[intOf];omega
theorem oo(w:World)(n:Nat)(hn:n≤1000):
 Calls Tryz.prog 156 #[.int .i64 n] w fun e w'=>e=.returned (.slice (some ⟨w.heap.size,0,none⟩) n n)∧aA w' w.heap.size w.heap.size n n (fun j=>j)∧Below w.heap.size w w':=by
 have h4:=bC w n (by omega);have HM:=aa (bh w w.heap.size n (ag _) (by omega));have h1:=aa ((L6 w.heap.size w).alloc (ag _) (.cells (madeCells #[.int .i64 0] n) 3));go_enter Tryz.func156,Tryz.ntmps156;go_wp2_with fail;go_loopw [4,9] (fun s4 iv' wx=>∃i:Nat,i≤n∧iv'=.int .i64 i∧aA wx w.heap.size w.heap.size n n (fun j=>if j<i then j else 0)∧Below w.heap.size w wx) (fun _ iv' _=>n - (intOf iv').toNat)
 case atStart=>refine⟨0,LY _,rfl,?_,h1.out⟩;have e:(fun j=>if j<0 then j else 0)=fun _=>0:=(by funext j;rw[LW (by omega)]);rw[e];exact HM.out
 case round=>
  clear HM h1 h4;obtain⟨i,hi,rfl,hf,hb⟩:=hrel;by_cases e:i<n
  ·have h5:(0:Int)≤(i:Int):=(by omega);have c3:=hf.cell i e;have f3:=hf.frozen i;have hs:=hf.set i i;have h2:(fun s=>if s=i then i else if s<i then s else 0)=fun s=>if s<i+1 then s else 0:=by
    funext s;by_cases es:s=i;·rw[LX es,LX (by omega),es]
    ·rw[LW es];by_cases e2:s<i;·rw[LX e2,LX (by omega)]
     ·rw[LW e2,LW (by omega)]
   rw[h2]at hs;have HS:=aa hs;have h0:=aa (hb.setCell (p:=⟨w.heap.size,i,none⟩) (ag _) (.int .i64 (i:Nat)));clear hf hb hs h2;go_wp2_with fail;go_roundw;case rel=>exact⟨i+1,by omega,by go_num,HS.out,h0.out⟩
   case measure=>simp[intOf];omega
  ·obtain rfl:i=n:=(by omega);have h3:wr.ownsRow w.heap.size 3 1 (.slice (some ⟨w.heap.size,0,none⟩) i i) i (cz i fun j=>if j<i then j else 0):=hf;rw[bW i _ (fun j=>j) fun j hj=>LX hj]at h3;have HS:=aa h3;have h0:=aa hb;clear hf hb h3;go_wp2_with fail;go_ret;exact⟨rfl,HS.out,h0.out⟩
theorem ia{B g c n:Nat}:∀(vs:List Nat) (o:Nat) (w:World) (f:Nat→Nat),aA w B g c n f→aA (w.setCells g o (vs.map iv)) B g c n (fun j=>if o≤j∧j<o+vs.length then vs.getD (j - o) 0 else f j)
 | [],o,w,f,h=>by have e:(fun j=>if o≤j∧j<o+([]:List Nat).length then([]:List Nat).getD (j - o) 0 else f j)=f:=(by funext j;rw[LW (by simp)]);rw[e];exact h
 | v :: vs,o,w,f,h=>by
  have h2:=ia vs (o+1) _ _ (h.set o v);have e:(fun j=>if o+1≤j∧j<o+1+vs.length then vs.getD (j - (o+1)) 0 else if j=o then v else f j)=fun j=>if o≤j∧j<o+(v :: vs).length then(v :: vs).getD (j - o) 0 else f j:=by
   funext j;by_cases e1:j=o;·rw[LW (by omega),LX e1,LX (by simp;omega),e1,Ng];rfl
   ·by_cases e2:o+1≤j∧j<o+1+vs.length;·rw[LX e2,LX (by simp;omega),show j - o=(j - (o+1))+1 by omega];rfl
    ·rw[LW e2,LW e1,LW (by simp;omega)]
  rw[e]at h2;exact h2
theorem pR(w:World)(g i:Nat)(j:Nat):w.cell? ((⟨g,i,none⟩:Addr).add j)=w.cell? ⟨g,i+j,none⟩:=by congr 1;unfold Addr.add;split <;>simp_all
theorem vB{P:Program}{w w':World}{ops:Array Oper}{rest:List Oper}{o:Oper}{a:Act}{Q:Exit→Act→World→Prop}(h1:o.guard=none)(d s:Operand)(dT sT:TypeId)
 (ho:o.op=.call { callee:=.builtin .copy,args:=#[d,s],argTypes:=#[dT,sT] }) (dv sv:Value) (k:Nat) (hd:a.eval d=dv) (hs:a.eval s=sv) (h0:(Builtin.copy_ #[dT,sT] o.type #[dv,sv]).run P w=.ok (goInt k) w')
 (h:wpList P ops Q rest (a.put o.dst (goInt k)) w'):wpList P ops Q (o :: rest) a w:=by refine wpList_plain h1 fun K hK=> ?_;unfold Oper.wp;simp[execOp,ho,resolve,invoke,builtin,hd,hs,h0,Result.andThen];exact hK _ _ h
theorem li{B:Nat}{w:World}{g:Nat}(hg:B≤g):∀(vs:List Value) (o:Nat) (w':World),Below B w w'→Below B w (w'.setCells g o vs)
 | [],_,_,h=>h
 | v :: vs,o,_,h=>li hg vs (o+1) _ (h.setCell (p:=⟨g,o,none⟩) hg v)
def mr(f:Nat→Nat)(p j:Nat):Nat:=if j=0 then f p else if j≤p then f (j - 1)else f j
def K5(B:Nat)(w:World)(g n c:Nat)(f:Nat→Nat)(p:Nat)(e:Ending)(w':World):Prop:=e=.returned (.tuple #[])∧aA w' B g c n (mr f p)∧ak B [g] [] w w'
theorem yL(B:Nat)(w:World)(g n c:Nat)(f:Nat→Nat)(p:Nat)(hf:aA w B g c n f)(hp:p<n)(hi:n≤1000000):
 Calls Tryz.prog 157 #[.slice (some ⟨g,0,none⟩) n c,.int .i64 p] w (K5 B w g n c f p):=by
 have hB:=hf.lt.1;obtain⟨A9,c9,hA,hl,_,_⟩:=ao hf;simp only[Ns]at hA;obtain⟨rfl,_,rfl⟩:=hA;obtain⟨i5,h5,hq,hh,hr⟩:=MT Tryz.info3;have h9:(cz p f).length=p:=dZ p f;have h7:∀j v,(cz p f)[j]? =some v→w.drew.cell? ((⟨g,0,none⟩:Addr).add j)=some v:=by intro j v hv;have hj:j<p:=(by have:=(List.getElem?_eq_some_iff.1 hv).1;omega);rw[pR,MG];show w.cell? _=_;rw[hf.cell j (by omega),←hv,kX p f j hj];rfl
 have h8:∀v∈cz p f,v.oneCell'=true:=by intro v hv;unfold cz at hv;obtain⟨x,_,rfl⟩:=List.mem_map.1 hv;rfl
 have h4:∀ty,(Builtin.copy_ #[57,57] ty #[.slice (if c=1 then some ⟨g,0,none⟩else some ⟨g,1,none⟩) (n - 1) (c - 1),.slice (some ⟨g,0,none⟩) p c]).run Tryz.prog w.drew=.ok (goInt p) (w.drew.setCells g 1 (cz p f)):=by
  intro ty;have h1:(Tryz.prog.info? 3).map (·.size)=some 1:=by rw[h5];exact congrArg some hh
  by_cases h0:p=0;·subst h0;have:=fun d=>run_copy_none (P:=Tryz.prog) w.drew 57 57 ty 3 d (some ⟨g,0,none⟩) (n - 1) (c - 1) 0 c Tryz.underlying57 h1 (Nat.zero_min _);exact this _
  ·rw[LW (by omega)]
   have:=QG (P:=Tryz.prog) w.drew 57 57 ty 3 g 1 (n - 1) (c - 1) ⟨g,0,none⟩ p c (cz p f) Tryz.underlying57 h1 (by rw[h9];exact(MN (by omega)).symm) h7
    (fun j hj=>by
      rw[h9]at hj
      show(w.cell? _).isSome=true
      rw[hf.cell (1+j) (by omega)]
      rfl) (fun j hj=>hf.frozen (1+j)) h8
   rw[h9]at this;exact this
 obtain⟨x,hx⟩:∃x,x=f p:=⟨_,rfl⟩;have hg:=hf.cell p hp;rw[← hx]at hg;have hm:(0:Int)≤(p:Int):=by omega
 have hn:(p:Int)<(n:Int):=by omega
 have ho:(p:Int)≤(c:Int):=by omega
 have hk:(1:Int)≤(n:Int):=by omega
 obtain⟨w2,ha⟩:∃w2,w2=w.drew.setCells g 1 (cz p f):=⟨_,rfl⟩;have h2:aA w2 B g c n (fun j=>if 1≤j∧j<1+p then f (j - 1)else f j):=by
  have h:=ia ((List.range p).map f) 1 w.drew f (hf.drew 1);have e:((List.range p).map f).map iv=cz p f:=by unfold cz;rw[MX];rfl
  rw[e,←ha]at h;have e2:(fun j=>if 1≤j∧j<1+((List.range p).map f).length then((List.range p).map f).getD (j - 1) 0 else f j)=fun j=>if 1≤j∧j<1+p then f (j - 1)else f j:=by
   funext j;rw[Mi,Mt];by_cases e3:1≤j∧j<1+p;·rw[LX e3,LX e3,du p f (j - 1) (by omega)]
   ·rw[LW e3,LW e3]
  rw[e2]at h;exact h
 have h3:ak B [g] [] w w2:=by
  rw[ha];have he:∀(vs:List Value) (o:Nat) (w':World),ak B [g] [] w w'→ak B [g] [] w (w'.setCells g o vs):=by
   intro vs
   induction vs with
   | nil=>exact fun _ _ h=>h
   | cons v r ih=>exact fun o w' h=>ih (o+1) _ (h.set (p:=⟨g,o,none⟩) hB (List.mem_singleton.2 rfl) v)
  exact he _ _ _ (ak.refl B [g] [] w).drew
 rw[← ha]at h4;have h0:=h2.cell 0 (by omega);have f0:=h2.frozen 0;have h6:K5 B w g n c f p (.returned (.tuple #[])) (w2.setCell ⟨g,0,none⟩ (.int .i64 x)):=by
  refine⟨rfl,?_,h3.set (p:=⟨g,0,none⟩) hB (List.mem_singleton.2 rfl) _⟩;have h:=h2.set 0 x;have e:(fun j=>if j=0 then x else if 1≤j∧j<1+p then f (j - 1)else f j)=mr f p:=by
   funext j;unfold mr;by_cases e1:j=0;·rw[LX e1,LX e1,hx]
   ·rw[LW e1,LW e1];by_cases e2:j≤p;·rw[LX (by omega),LX e2]
    ·rw[LW (by omega),LW e2]
  rw[e]at h;exact h
 obtain⟨z,hz⟩:∃z:Nat,z=(if 1≤0∧0<1+p then f (0 - 1)else f 0):=⟨_,rfl⟩;rw[← hz]at h0;have hb:=aa h6;have hc:=aa h4;clear h6 h4 ha h7 h8 h9 hf h2 h3 hz hx;generalize K5 B w g n c f p=PO at*;go_enter Tryz.func157,Tryz.ntmps157;go_upto_region 1 with fail;go_still_tail 5,(by kernel_rfl)
 change wpList _ _ _ _ _ w.drew;generalize (if c=1 then some (⟨g,0,none⟩:Addr)else some ⟨g,1,none⟩)=dA at*;refine vB rfl _ _ 57 57 rfl _ _ p rfl rfl (hc.out _) ?_;go_wp2_with fail;(try simp only[Exit.inBlock,Exit.then]);refine Mm (Ol rfl _ _ _) rfl ?_;exact hb.out
def ww(B:Nat)(w:World)(g c n:Nat)(f:Nat→Nat)(L:List Nat)(e:Ending)(w':World):Prop:=e=.returned (.tuple #[])∧aA w' B g c n (fun s=>f s+L.count s)∧ak B [g] [] w w'
theorem sD(L:List Nat)(i _:Nat)(h:i<L.length)(s:Nat):(L.take (i+1)).count s=(L.take i).count s+if L.getD i 0=s then 1 else 0:=by have e:L.take (i+1)=L.take i++ [L.getD i 0]:=(by rw[Mn h,LU,LV h];rfl);rw[e,List.count_append,List.count_singleton];simp only[NV]
theorem yA(B:Nat)(w:World)(g c n:Nat)(f:Nat→Nat)(hf:aA w B g c n f)(A:Option Addr)(m d:Nat)(L:List Nat)(hL:aU w A m L)(hA:∀a,A=some a→a.block≠g)(hm:m≤4000000)
 (h4:∀x∈L,x<n) (h6:∀s,s<n→f s≤4000000):
 Calls Tryz.prog 150 #[.slice (some ⟨g,0,none⟩) n c,.slice A m d] w (ww B w g c n f L):=by
 have hh:=hf.lt.1;have h9:=hL.1;have HF:=aa hf;have HL:=aa hL;have hg:=aa h4;have h1:=aa h9;have he:=aa h6;have HA:=aa hA;clear hf hL h4 h9 h6 hA;go_enter Tryz.func150,Tryz.ntmps150;go_wp2_with fail;go_loopw [5,8] (fun s5 iv' wx=>∃i:Nat,i≤m∧iv'=.int .i64 i∧aA wx B g c n (fun s=>f s+(L.take i).count s)∧ak B [g] [] w wx) (fun _ iv' _=>m - (intOf iv').toNat)
 case atStart=>refine⟨0,LY _,rfl,?_,ak.refl _ _ _ _⟩;have e:(fun s=>f s+(L.take 0).count s)=f:=(by funext s;simp);rw[e];exact HF.out
 case round=>
  clear HF;obtain⟨i,hi,rfl,hf,hb⟩:=hrel;by_cases e:i<m
  ·have hn:(0:Int)≤(i:Int):=(by omega);have ho:(i:Int)<(m:Int):=(by omega);obtain⟨lb,lo,rfl,h8⟩:=HL.out.2 (by omega);have hk:lb≠g:=HA.out _ rfl;have h0:=h8 i e;have h2:=sD L i 0 (by rw[h1.out];exact e)
   have h3:L.getD i 0<n:=hg.out _ (by
    rw[LU,LV (by rw[h1.out];exact e)]
    exact Mu _)
   have c2:wr.cell? ⟨lb,lo+i,none⟩=some (.int .i64 (L.getD i 0:Nat)):=by
    unfold World.cell? at h0 ⊢;revert h0
    cases hw:w.heap[lb]? with
    | none=>simp
    | some o=>
     intro h0
     cases o with
     | cells cs t fr=>rw[show wr.heap[lb]? =some (.cells cs t fr)from hb.keep lb cs t fr hw (by simp;exact hk) ay];exact h0
     | _=>simp at h0
   have h5:(L.take i).count (L.getD i 0)≤i:=Mk List.count_le_length (by rw[Mj];omega);obtain⟨x,hx⟩:∃x,x=L.getD i 0:=⟨_,rfl⟩;rw[← hx]at c2 h2 h3 h5;have c3:=hf.cell x h3;have f3:=hf.frozen x;have hj:=he.out x h3;obtain⟨v,hv⟩:∃v,v=f x+(L.take i).count x:=⟨_,rfl⟩;have hp:v≤8000000:=(by omega);rw[← hv]at c3;obtain⟨v1,ha⟩:∃v1,v1=v+1:=⟨_,rfl⟩;have hq:(v:Int)+1=(v1:Int):=(by omega);have hs:=hf.set x v1;have h7:(fun s=>if s=x then v1 else f s+(L.take i).count s)=fun s=>f s+(L.take (i+1)).count s:=by
    funext s;rw[h2 s];by_cases es:s=x;·rw[LX es,LX es.symm,es,ha,hv];omega
    ·rw[LW es,LW (fun h=>es h.symm),MM]
   rw[h7]at hs;have HS:=aa hs;have hc:=aa (hb.set (p:=⟨g,x,none⟩) hh (List.mem_singleton.2 rfl) (.int .i64 (v1:Nat)));have hr:(0:Int)≤(x:Int):=(by omega);have hl:(x:Int)<(n:Int):=(by omega);clear hf hb h8 h0 h2 hx hv ha hs h7 h5 hj;go_wp2_with fail;go_roundw;case rel=>exact⟨i+1,by omega,by go_num,HS.out,hc.out⟩
   case measure=>simp[intOf];omega
  ·obtain rfl:i=m:=(by omega);rw[Mh (Nr h1.out)]at hf;have HP:Hid (ww B w g c n f L (.returned (.tuple #[])) wr):=aa ⟨rfl,hf,hb⟩;clear hf hb;generalize ww B w g c n f L=PO at*;go_wp2_with fail;(try simp only[Exit.inBlock,Exit.then]);refine Mm (Ol rfl _ _ _) rfl ?_;exact HP.out
def wB(n0:Nat)(t:List Int):Prop:=¬(t.length=n0∧bU t)
instance (n0:Nat) (t:List Int):Decidable (wB n0 t):=inferInstanceAs (Decidable (¬ (_∧_)))
abbrev JN (bx:Nat):Value:=.func (.func 205) #[] #[.pointer (some ⟨bx,0,none⟩)]
theorem Dg(w:World)(bx:Nat)(At:Option Addr)(q d:Nat)(T:List (List Int))(hb:Blk w bx 88 #[.slice At q d])(hT:uF w At q T)(hq:0<q)(_:q≤d)(_:q≤maxLen)
 (A:Option Addr) (n c:Nat) (L:List Int) (hL:ZIn w A n L) (hn:n≤maxLen):
 Calls Tryz.prog 205 #[.slice A n c,.pointer (some ⟨bx,0,none⟩)] w fun e w'=>e=.returned (.bool (decide (wB (T.getD 0 []).length L)))∧w'=w:=by
 obtain⟨tb,tq,rfl,h5⟩:=hT.2 hq;obtain⟨A2,c2,h1,_,_,hm⟩:=h5 0 hq;rw[MM]at h1;have h3:=ac hb 0;have h2:=hL.1;have HC:=aa (lp w A n c L hL hn);obtain⟨m,h4⟩:∃m,m=(T.getD 0 []).length:=⟨_,rfl⟩;rw[← h4]at h1 hm ⊢;have q0:w.cell? ⟨bx,0,none⟩=some (.slice (some ⟨tb,tq,none⟩) q d):=h3.trans rfl;obtain⟨ans,h0⟩:∃ans,ans=decide (wB m L):=⟨_,rfl⟩;rw[← h0];unfold maxLen at hm hn;by_cases e:n=m
 ·by_cases e2:bU L;·rw[LX e2]at HC;have ha:ans=false:=(by rw[h0];exact L7 fun h=>h ⟨h2.trans e,e2⟩);have dd:((n:Int) != (m:Int))=false:=(by rw[e];exact bne_self_eq_false _);have dn:(n:Int)=(m:Int):=(by rw[e]);subst ha;clear hL hT h5 hb h3 h0 h4 e e2 h2;go_enter Tryz.func205,Tryz.ntmps205;go_wp2_with fail;refine HC.out.mono ?_;rintro e w1 ⟨rfl,rfl⟩;go_wp2_with fail;go_ret;exact⟨rfl,rfl⟩
  ·rw[LW e2]at HC;have ha:ans=true:=(by rw[h0];exact L8 fun h=>e2 h.2);have dd:((n:Int) != (m:Int))=false:=(by rw[e];exact bne_self_eq_false _);have dn:(n:Int)=(m:Int):=(by rw[e]);subst ha;clear hL hT h5 hb h3 h0 h4 e e2 h2;go_enter Tryz.func205,Tryz.ntmps205;go_wp2_with fail;refine HC.out.mono ?_;rintro e w1 ⟨rfl,rfl⟩;go_wp2_with fail;go_ret;exact⟨rfl,rfl⟩
 ·have ha:ans=true:=(by rw[h0];exact L8 fun h=>e (h2.symm.trans h.1));have dd:((n:Int) != (m:Int))=true:=(by rw[Oe];omega);have dn:¬(n:Int)=(m:Int):=(by omega);subst ha;clear hL hT h5 hb h3 h0 h4 h2 HC;go_enter Tryz.func205,Tryz.ntmps205;go_wp2_with fail;go_ret;exact⟨rfl,rfl⟩
theorem Jz(T:List (List Int))(i:Nat)(h:i<T.length):T.take (i+1)=T.take i++ [T.getD i []]:=by rw[Mn h,LU,LV h];rfl
theorem m7(T:List (List Int))(i:Nat)(h:i<T.length):T.getD i []∈T:=by rw[LU,LV h];exact Mu _
theorem yK(w:World)(bx:Nat)(At:Option Addr)(q d:Nat)(T:List (List Int))(hb:Blk w bx 88 #[.slice At q d])(hT:uF w At q T)(hq:0<q)(hj:q≤d)(ho:q≤1000000):
 Calls Tryz.prog 242 #[.slice At q d,JN bx] w fun e w'=>∃k:Int,e=.returned (.int .i64 k)∧(0≤k↔∃t∈T,wB (T.getD 0 []).length t)∧w'=w:=by
 have ha:=hT.1;have HW:=aa fun(A:Option Addr) (n c:Nat) (L:List Int) (hL:ZIn w A n L) (hn:n≤maxLen)=>Dg w bx At q d T hb hT hq hj (by unfold maxLen;omega) A n c L hL hn;obtain⟨n0,he⟩:∃n0,n0=(T.getD 0 []).length:=⟨_,rfl⟩;rw[← he]at HW ⊢;obtain⟨tb,tq,rfl,hg⟩:=hT.2 hq;have hh:=aa hg;have h7:=aa ha;clear hT hb hg ha he;go_enter Tryz.func242,Tryz.ntmps242;go_wp2_with fail;go_loopw [5,8] (fun s5 x wx=>∃i:Nat,i≤q∧x=.int .i64 i∧Hid (¬ ∃t∈T.take i,wB n0 t)∧wx=w) (fun _ x _=>q - (intOf x).toNat)
 case atStart=>refine⟨0,LY _,rfl,aa ?_,rfl⟩;rintro⟨x,hx,_⟩;cases hx
 case round=>
  obtain⟨i,hi,rfl,hf,rfl⟩:=hrel;by_cases e:i<q
  ·have hk:(0:Int)≤(i:Int):=(by omega);have hl:(i:Int)<(q:Int):=(by omega);obtain⟨A2,c2,h1,h2,_,hm⟩:=hh.out i e;have h3:=aa (HW.out A2 (T.getD i []).length c2 (T.getD i []) h2 hm);have h9:=aa (Jz T i (by rw[h7.out];exact e));have h4:=aa (m7 T i (by rw[h7.out];exact e));obtain⟨t,ht⟩:∃t,t=T.getD i []:=⟨_,rfl⟩;rw[← ht]at h1 hm h3 h9 h4;obtain⟨m,hc⟩:∃m,m=t.length:=⟨_,rfl⟩;rw[← hc]at h1 hm h3;clear h2 ht hc;by_cases hb:wB n0 t;·rw[L8 hb]at h3;have h6:=aa hb;clear hb;go_wp2_with fail;refine h3.out.mono ?_;rintro e w1 ⟨rfl,rfl⟩;go_wp2_with fail;go_ret;exact⟨i,rfl,⟨fun _=>⟨t,h4.out,h6.out⟩,fun _=>by omega⟩,rfl⟩
   ·rw[L7 hb]at h3;have h6:=aa hb;clear hb;go_wp2_with fail;refine h3.out.mono ?_;rintro e w1 ⟨rfl,rfl⟩;go_wp2_with fail;go_roundw;case rel=>
     refine⟨i+1,by omega,by go_num,aa ?_,trivial⟩;rw[h9.out];rintro⟨y,hy,h8⟩;rcases List.mem_append.1 hy with hy | hy;·exact hf.out ⟨y,hy,h8⟩
     ·rw[List.mem_singleton.1 hy]at h8;exact h6.out h8
    case measure=>simp[intOf];omega
  ·obtain rfl:i=q:=(by omega);have h0:=hf.out;rw[Mh (Nr h7.out)]at h0;have h5:=aa h0;clear h0;go_wp2_with fail;go_ret;exact⟨-1,rfl,⟨fun h=>absurd h (by omega),fun h=>absurd h h5.out⟩,rfl⟩
theorem sw(w:World)(bx:Nat)(At:Option Addr)(q d:Nat)(T:List (List Int))(hb:Blk w bx 88 #[.slice At q d])(hT:uF w At q T)(hq:0<q)(h2:q≤d)(h0:q≤1000000):
 Calls Tryz.prog 207 #[.slice At q d,JN bx] w fun e w'=>e=.returned (.bool (decide (∃ t∈T,wB (T.getD 0 []).length t)))∧w'=w:=by
 have HI:=aa (yK w bx At q d T hb hT hq h2 h0);clear hb hT;go_enter Tryz.func207,Tryz.ntmps207;go_wp2_with fail;refine HI.out.mono ?_;rintro e w1 ⟨k,rfl,hk,rfl⟩;by_cases h:∃t∈T,wB (T.getD 0 []).length t;·have d0:decide ((0:Int)≤k)=true:=L8 (hk.2 h);have HD:=aa (L8 h);clear hk h;go_wp2_with fail;go_ret;rw[HD.out];exact⟨rfl,rfl⟩
 ·have d0:decide ((0:Int)≤k)=false:=L7 fun h1=>h (hk.1 h1);have HD:=aa (L7 h);clear hk h;go_wp2_with fail;go_ret;rw[HD.out];exact⟨rfl,rfl⟩
def yb(T:List (List Int)):Prop:=2≤T.length∧T.length≤6∧3≤(T.getD 0 []).length∧∀t∈T,t.length=(T.getD 0 []).length∧bU t
instance (T:List (List Int)):Decidable (yb T):=inferInstanceAs (Decidable (_∧_))
theorem sJ(w:World)(At:Option Addr)(q d:Nat)(T:List (List Int))(hT:uF w At q T)(hj:q≤d)(hi:q≤maxLen):
 Calls Tryz.prog 153 #[.slice At q d] w fun e w'=>e=.returned (.bool (decide (yb T)))∧Below w.heap.size w w':=by
 have hf:=hT.1;obtain⟨ans,h0⟩:∃ans,ans=decide (yb T):=⟨_,rfl⟩;rw[← h0];have h7:Below w.heap.size w (w.alloc (.cells #[.slice At q d] 88)):=(L6 _ _).alloc (ag _) _;have h9:Blk (w.alloc (.cells #[.slice At q d] 88)) w.heap.size 88 #[.slice At q d]:=ah w _ _;have h8:=hT.below h7;unfold maxLen at hi;by_cases h1:q<2;·have d1:decide ((q:Int)<2)=true:=bD (by omega);(have ha:ans=false:=by rw[h0];exact L7 fun h=>by have:=h.1;omega);subst ha;have HB:=aa h7;clear h0 hT h8 h7 h9 hf;go_enter Tryz.func153,Tryz.ntmps153;go_wp2_with fail;go_ret;exact⟨rfl,HB.out⟩
 ·have d1:decide ((q:Int)<2)=false:=aN (by omega);by_cases h2:6<q;·have d2:decide ((6:Int)<(q:Int))=true:=bD (by omega);(have ha:ans=false:=by rw[h0];exact L7 fun h=>by have:=h.2.1;omega);subst ha;have HB:=aa h7;clear h0 hT h8 h7 h9 hf;go_enter Tryz.func153,Tryz.ntmps153;go_wp2_with fail;go_ret;exact⟨rfl,HB.out⟩
  ·have d2:decide ((6:Int)<(q:Int))=false:=aN (by omega);obtain⟨tb,tq,rfl,hh⟩:=h8.2 (by omega);obtain⟨A2,c2,h3,_,_,hm⟩:=hh 0 (by omega);rw[MM]at h3;have HE:=aa (mg (w.alloc (.cells #[.slice (some ⟨tb,tq,none⟩) q d] 88)) ((T.getD 0 []).length:Nat));have HC:=aa (sw _ w.heap.size _ q d T h9 h8 (by omega) hj (by omega));have q0:(w.alloc (.cells #[.slice (some ⟨tb,tq,none⟩) q d] 88)).cell? ⟨w.heap.size,0,none⟩=some (.slice (some ⟨tb,tq,none⟩) q d):=(ac h9 0).trans rfl;obtain⟨m,hg⟩:∃m,m=(T.getD 0 []).length:=⟨_,rfl⟩;have he:=aa hg;have h6:=aa h0;have HQ:=aa (show 2≤T.length∧T.length≤6 by omega);have hc:=aa (m7 T 0 (by omega));rw[← hg]at h3 hm HE;have HB:=aa h7;clear h0 hT h8 h7 h9 hf hh hg;unfold maxLen at hm;by_cases h4:3≤(m:Int)∧(m:Int)≤258
   ·rw[L8 h4]at HE;by_cases h5:∃t∈T,wB (T.getD 0 []).length t;·rw[L8 h5]at HC;have ha:ans=false:=(by rw[h6.out];refine L7 fun h=> ?_;obtain⟨t,ht,hb⟩:=h5;exact hb (h.2.2.2 t ht));subst ha;clear h5 h6 h4;go_enter Tryz.func153,Tryz.ntmps153;go_upto_region 1 with fail;generalize w.alloc (.cells #[.slice (some ⟨tb,tq,none⟩) q d] 88)=w1 at*;go_wp2_with fail;refine HE.out.mono ?_;rintro e w2 ⟨rfl,rfl⟩;go_wp2_with fail;refine HC.out.mono ?_;rintro e w2 ⟨rfl,rfl⟩;go_wp2_with fail;go_ret;exact⟨rfl,HB.out⟩
    ·rw[L7 h5]at HC;have ha:ans=true:=(by rw[h6.out];refine L8 ⟨HQ.out.1,HQ.out.2,by rw[← he.out];omega,fun t ht=> ?_⟩;refine Decidable.by_contra fun hb=>h5 ⟨t,ht,hb⟩);subst ha;clear h5 h6 h4;go_enter Tryz.func153,Tryz.ntmps153;go_upto_region 1 with fail;generalize w.alloc (.cells #[.slice (some ⟨tb,tq,none⟩) q d] 88)=w1 at*;go_wp2_with fail;refine HE.out.mono ?_;rintro e w2 ⟨rfl,rfl⟩;go_wp2_with fail;refine HC.out.mono ?_;rintro e w2 ⟨rfl,rfl⟩;go_wp2_with fail;go_ret;exact⟨rfl,HB.out⟩
   ·rw[L7 h4]at HE;have ha:ans=false:=by
     rw[h6.out];refine L7 fun h=>h4 ⟨?_,?_⟩;·have:=h.2.2.1;rw[← he.out]at this;omega
     ·have:=(h.2.2.2 _ hc.out).2.2.1;rw[← he.out]at this;omega
    subst ha;clear h6 h4 HC;go_enter Tryz.func153,Tryz.ntmps153;go_upto_region 1 with fail;generalize w.alloc (.cells #[.slice (some ⟨tb,tq,none⟩) q d] 88)=w1 at*;go_wp2_with fail;refine HE.out.mono ?_;rintro e w2 ⟨rfl,rfl⟩;go_wp2_with fail;go_ret;exact⟨rfl,HB.out⟩
theorem pY(f:Nat→Int):∀k,1≤k→∃b:Int,(∀ i,i<k→b≤f i)∧∃i,i<k∧f i=b
 | 0,h=>by omega
 | k+1,_=>by
  by_cases e:k=0;·subst e;exact⟨f 0,fun i hi=>by rw[show i=0 by omega];exact Pr _,0,by omega,rfl⟩
  ·obtain⟨b,hb,j,hj,h0⟩:=pY f k (by omega);by_cases e2:b≤f k
   ·refine⟨b,fun i hi=> ?_,j,by omega,h0⟩;by_cases e3:i=k;·rw[e3];exact e2
    ·exact hb i (by omega)
   ·refine⟨f k,fun i hi=> ?_,k,by omega,rfl⟩;by_cases e3:i=k;·rw[e3];exact Pr _
    ·have:=hb i (by omega);omega
theorem FJ(f:Nat→Int)(k:Nat)(h:1≤k):∃b:Int,(∀ i,i<k→f i≤b)∧∃i,i<k∧f i=b:=by obtain⟨b,hb,i,hi,h0⟩:=pY (fun i=> - f i) k h;exact⟨-b,fun j hj=>by have:=hb j hj;omega,i,hi,by omega⟩
theorem Lo(w:World)(A:Option Addr)(n c:Nat)(L:List Int)(hL:ZIn w A n L)(h1:1≤n)(hn:n≤maxLen)(a:Int)(ha:(∀ i,i<n→a≤L.getD i 0)∧∃i,i<n∧L.getD i 0=a):
 Calls Tryz.prog 154 #[.slice A n c] w fun e w'=>e=.returned (.int .i64 a)∧w'=w:=by refine(rI w A n c L hL h1 hn).mono ?_;rintro e w' ⟨b,rfl,hb,rfl⟩;have:b=a:=(by obtain⟨i,hi,h0⟩:=ha.2;obtain⟨j,hj,h3⟩:=hb.2;have h1:=ha.1 j hj;have h2:=hb.1 i hi;omega);rw[this];exact⟨rfl,rfl⟩
theorem Ln(w:World)(A:Option Addr)(n c:Nat)(L:List Int)(hL:ZIn w A n L)(h1:1≤n)(hn:n≤maxLen)(a:Int)(ha:(∀ i,i<n→L.getD i 0≤a)∧∃i,i<n∧L.getD i 0=a):
 Calls Tryz.prog 155 #[.slice A n c] w fun e w'=>e=.returned (.int .i64 a)∧w'=w:=by refine(oN w A n c L hL h1 hn).mono ?_;rintro e w' ⟨b,rfl,hb,rfl⟩;have:b=a:=(by obtain⟨i,hi,h0⟩:=ha.2;obtain⟨j,hj,h3⟩:=hb.2;have h1:=ha.1 j hj;have h2:=hb.1 i hi;omega);rw[this];exact⟨rfl,rfl⟩
theorem im{T:List (List Int)}{P:List Int}:cJ T P↔yb T∧1≤P.length∧P.length≤32767∧∀x∈P,0≤x∧x<(T.length:Int):=
 ⟨fun h=>⟨⟨h.1,h.2.1,h.2.2.2.2.2.2,h.2.2.2.2.1⟩,h.2.2.1,h.2.2.2.1,h.2.2.2.2.2.1⟩,fun h=>⟨h.1.1,h.1.2.1,h.2.1,h.2.2.1,h.1.2.2.2,h.2.2.2,h.1.2.2.1⟩⟩
theorem dp(w:World)(v:Value)(T:List (List Int))(P:List Int)(hv:bc w v T P):
 Calls Tryz.prog 102 #[v] w fun e w'=>e=.returned (.bool (decide (cJ T P)))∧Below w.heap.size w w':=by
 obtain⟨A,q,c,B,m,d,rfl,hT,ho,hq,hP,hp,hm⟩:=hv;obtain⟨ans,h5⟩:∃ans,ans=decide (cJ T P):=⟨_,rfl⟩;rw[← h5];have h7:Below w.heap.size w (w.alloc (.cells #[.slice A q c,.slice B m d] 90)):=(L6 _ _).alloc (ag _) _;have hc:Blk (w.alloc (.cells #[.slice A q c,.slice B m d] 90)) w.heap.size 90 #[.slice A q c,.slice B m d]:=ah w _ _;have HT:=aa (sJ _ A q c T (hT.below h7) ho hq);have hi:=hP.below h7;have hf:=hT.1;have hj:=hP.1;have hg:=hm;unfold maxLen at hm hq;by_cases h1:yb T
 ·rw[L8 h1]at HT;by_cases h2:m<1;·have d2:decide ((m:Int)<1)=true:=bD (by omega);(have ha:ans=false:=by rw[h5];exact L7 fun h=>by have:=(im.1 h).2.1;omega);subst ha;have HB:=aa h7;have HK:=aa hc;clear h5 hT hP h7 hc hi h1 hf hj hg;go_enter Tryz.func102,Tryz.ntmps102;go_upto_region 1 with fail;generalize w.alloc (.cells #[.slice A q c,.slice B m d] 90)=w1 at*;have q0:w1.cell? ⟨w.heap.size,0,none⟩=some (.slice A q c):=(ac HK.out 0).trans rfl;go_wp2_with fail;refine HT.out.mono ?_;rintro e w2 ⟨rfl,h0⟩;have h6:=aP h0 HK.out;have q1:w2.cell? ⟨w.heap.size,1,none⟩=some (.slice B m d):=(ac h6 1).trans rfl;have h9:=aa (aq HB.out h0);clear h6 h0 HB HK;go_wp2_with fail;go_ret;exact⟨rfl,h9.out⟩
  ·have d2:decide ((m:Int)<1)=false:=aN (by omega);by_cases h3:32767<m;·have d3:decide ((32767:Int)<(m:Int))=true:=bD (by omega);(have ha:ans=false:=by rw[h5];exact L7 fun h=>by have:=(im.1 h).2.2.1;omega);subst ha;have HB:=aa h7;have HK:=aa hc;clear h5 hT hP h7 hc hi h1 hf hj hg h3;go_enter Tryz.func102,Tryz.ntmps102;go_upto_region 1 with fail;generalize w.alloc (.cells #[.slice A q c,.slice B m d] 90)=w1 at*;have q0:w1.cell? ⟨w.heap.size,0,none⟩=some (.slice A q c):=(ac HK.out 0).trans rfl;go_wp2_with fail;refine HT.out.mono ?_;rintro e w2 ⟨rfl,h0⟩;have h6:=aP h0 HK.out;have q1:w2.cell? ⟨w.heap.size,1,none⟩=some (.slice B m d):=(ac h6 1).trans rfl;have h9:=aa (aq HB.out h0);clear h6 h0 HB HK;go_wp2_with fail;go_ret;exact⟨rfl,h9.out⟩
   ·have d3:decide ((32767:Int)<(m:Int))=false:=aN (by omega);obtain⟨a,ha⟩:=pY (fun i=>P.getD i 0) m (by omega);obtain⟨b,hb⟩:=FJ (fun i=>P.getD i 0) m (by omega);have hl:=aa fun(w1:World) (h:ZIn w1 B m P)=>Lo w1 B m d P h (by omega) hg a ha;have hn:=aa fun(w1:World) (h:ZIn w1 B m P)=>Ln w1 B m d P h (by omega) hg b hb;have he:=qv (m:=(q:Int)) hj ha hb
    have h8:Hid (ans=decide (0≤a∧b<(q:Int))):=aa (by
     rw[h5]
     refine decide_eq_decide.2 ⟨fun h=> ?_,fun h=> ?_⟩
     ·rw[← he,←hf]
      exact(im.1 h).2.2.2
     ·exact im.2 ⟨h1,by omega,by omega,by rw[hf];exact he.2 h⟩)
    have HB:=aa h7;have HK:=aa hc;have hk:=aa hi;clear h5 hT hP h7 hc hi h1 hf hj hg h3 ha hb he;by_cases h4:0≤a;·have d4:decide (0≤a)=true:=L8 h4;have hcut:ans=decide (b<(q:Int)):=(by rw[h8.out];exact decide_eq_decide.2 ⟨fun h=>h.2,fun h=>⟨h4,h⟩⟩);subst hcut;clear h8;go_enter Tryz.func102,Tryz.ntmps102;go_upto_region 1 with fail;generalize w.alloc (.cells #[.slice A q c,.slice B m d] 90)=w1 at*;have q0:w1.cell? ⟨w.heap.size,0,none⟩=some (.slice A q c):=(ac HK.out 0).trans rfl;go_wp2_with fail;refine HT.out.mono ?_;rintro e w2 ⟨rfl,h0⟩;have h6:=aP h0 HK.out;have q1:w2.cell? ⟨w.heap.size,1,none⟩=some (.slice B m d):=(ac h6 1).trans rfl;have q2:w2.cell? ⟨w.heap.size,0,none⟩=some (.slice A q c):=(ac h6 0).trans rfl;have h9:=aa (aq HB.out h0);have hh:=aa (hk.out.below h0);clear h6 h0 HB HK hk HT q0;go_upto_region 3 with fail;go_quiet (first | (go_at_call 154;exact Pz (hl.out _ (hh.out.below (aL (L6 _ _) _)))) | (go_at_call 155;exact Pz (hn.out _ (hh.out.below (aL (L6 _ _) _)))));go_wp2_with fail;go_ret;exact⟨rfl,aL h9.out _⟩
    ·have d4:decide (0≤a)=false:=L7 h4;have ha:ans=false:=(by rw[h8.out];exact L7 fun h=>h4 h.1);subst ha;clear h8;go_enter Tryz.func102,Tryz.ntmps102;go_upto_region 1 with fail;generalize w.alloc (.cells #[.slice A q c,.slice B m d] 90)=w1 at*;have q0:w1.cell? ⟨w.heap.size,0,none⟩=some (.slice A q c):=(ac HK.out 0).trans rfl;go_wp2_with fail;refine HT.out.mono ?_;rintro e w2 ⟨rfl,h0⟩;have h6:=aP h0 HK.out;have q1:w2.cell? ⟨w.heap.size,1,none⟩=some (.slice B m d):=(ac h6 1).trans rfl;have q2:w2.cell? ⟨w.heap.size,0,none⟩=some (.slice A q c):=(ac h6 0).trans rfl;have h9:=aa (aq HB.out h0);have hh:=aa (hk.out.below h0);clear h6 h0 HB HK hk HT q0;go_upto_region 3 with fail;go_quiet (first | (go_at_call 154;exact Pz (hl.out _ (hh.out.below (aL (L6 _ _) _)))) | (go_at_call 155;exact Pz (hn.out _ (hh.out.below (aL (L6 _ _) _)))));go_wp2_with fail;go_ret;exact⟨rfl,aL h9.out _⟩
 ·rw[L7 h1]at HT;have ha:ans=false:=(by rw[h5];exact L7 fun h=>h1 (im.1 h).1);subst ha;have HB:=aa h7;have HK:=aa hc;clear h5 hT hP h7 hc hi h1 hf hj hg;go_enter Tryz.func102,Tryz.ntmps102;go_upto_region 1 with fail;generalize w.alloc (.cells #[.slice A q c,.slice B m d] 90)=w1 at*;have q0:w1.cell? ⟨w.heap.size,0,none⟩=some (.slice A q c):=(ac HK.out 0).trans rfl;go_wp2_with fail;refine HT.out.mono ?_;rintro e w2 ⟨rfl,h0⟩;have h9:=aa (aq HB.out h0);clear h0 HB HK;go_wp2_with fail;go_ret;exact⟨rfl,h9.out⟩
theorem oX:∀(o r:List Nat) (x:Nat),x∈o→aR (o++r) x=aR o x
 | [],_,_,h=>by cases h
 | y :: o,r,x,h=>by
  rw[MI,aR,aR];by_cases e:y=x;·rw[LX e,LX e]
  ·rw[LW e,LW e,oX o r x (by
    rcases List.mem_cons.1 h with rfl | h
    ·exact absurd rfl e
    ·exact h)]
theorem oP(o r:List Nat)(k:Nat)(hk:k<o.length):eT (o++r) k=eT o k++r:=by unfold eT;rw[Nb (by omega),Nc (by omega),LU,ME hk,←LU];simp
theorem pX{o:List Nat}{k x:Nat}(hk:k<o.length)(hx:x∈o):x∈eT o k:=by
 unfold eT;obtain⟨i,hi,rfl⟩:=NU hx;rcases Nf i k with h | h | h;·refine Ma _ (N4 _ ?_);exact List.mem_take_iff_getElem.2 ⟨i,by omega,rfl⟩
 ·subst h;rw[LU,LV hk];exact L4 ..
 ·refine Ma _ (OK _ ?_);exact List.mem_drop_iff_getElem.2 ⟨i - (k+1),by omega,by simp only[show k+1+(i - (k+1))=i by omega]⟩
theorem lN:∀(P o r:List Nat),(∀ x∈P,x∈o)→aH (o++r) P=aH o P
 | [],_,_,_=>rfl
 | x :: P,o,r,h=>by have hx:=h x (L4 ..);have hp:=fq o x hx;rw[aH,aH,oX o r x hx,oP o r _ hp.1,lN P (eT o (aR o x)) r (fun y hy=>pX hp.1 (h y (Ma _ hy)))]
theorem vY{T:Nat}(h:T≤6):∃r, [0,1,2,3,4,5]=List.range T++r:=by refine⟨[0,1,2,3,4,5].drop T,?_⟩;have:T=0∨T=1∨T=2∨T=3∨T=4∨T=5∨T=6:=(by omega);rcases this with rfl | rfl | rfl | rfl | rfl | rfl | rfl <;>rfl
theorem t8{T:Nat}(h:T≤6)(P:List Nat)(hP:∀x∈P,x<T):aH [0,1,2,3,4,5] P=aH (List.range T) P:=by obtain⟨r,hr⟩:=vY h;rw[hr];exact lN P _ r fun x hx=>List.mem_range.2 (hP x hx)
theorem lP:∀(P o:List Nat) (T:Nat),o.length=T→(∀ x∈P,x∈o)→(aH o P).length≤T*P.length
 | [],_,_,_,_=>by simp[aH]
 | x :: P,o,T,hT,h=>by have hx:=h x (L4 ..);have hp:=fq o x hx;have ih:=lP P (eT o (aR o x)) T (by rw[iR hp.1,hT]) (fun y hy=>pX hp.1 (h y (Ma _ hy)));rw[aH,LR,Mo,Mb,Mb,Nat.mul_succ];omega
theorem nH(f:Nat→Nat)(n p:Nat)(h:p<n):(List.range n).map (mr f p)=eT ((List.range n).map f) p:=by
 have hl:((List.range n).map f).length=n:=by simp
 apply ML;intro j;by_cases hj:j<n
 ·rw[Me,Mx hj];unfold eT mr
  match j with
  | 0=>rw[List.getElem?_cons_zero,du n f p h];rfl
  | j+1=>
   rw[PT];by_cases e:j<p;·rw[ME (by simp;omega),Pd,LX e,Me,Mx (by omega)];show some (if j+1=0 then f p else if j+1≤p then f (j+1 - 1)else f (j+1))=_;rw[LW (by omega),LX (by omega)];rfl
   ·rw[MC (by simp;omega),N3,Mj,hl,MN (by omega),show p+1+(j - p)=j+1 by omega,Me,Mx (by omega)];show some (if j+1=0 then f p else if j+1≤p then f (j+1 - 1)else f (j+1))=_;rw[LW (by omega),LW (by omega)];rfl
 ·rw[Mf (by simp;omega),Mf (by rw[iR (by rw[hl];exact h),hl];omega)]
theorem CD(k:Nat)(h:k≤5):aj (2 ^ (k+1) - 2) (k+1)=List.replicate k 1++ [0]:=by have:k=0∨k=1∨k=2∨k=3∨k=4∨k=5:=(by omega);rcases this with rfl | rfl | rfl | rfl | rfl | rfl <;>decide
theorem FW(k:Nat)(hk:k≤5)(B:Nat)(w:World)(p:Nat)(v:Value)(L:List Nat)(hW:IsW B w p v L)(hL:L.length≤1000000000000)(x n:Int)(hx:x=((2 ^ (k+1) - 2:Nat):Int))(hn:n=((k+1:Nat):Int)):
 Calls Tryz.prog 60 #[.pointer (some ⟨p,0,none⟩),.int .u64 x,.int .i64 n] w fun e w'=>e=.returned (.int .i64 0)∧∃v',IsW B w' p v' (L++(List.replicate k 1++ [0]))∧ak B [p] [5] w w':=by rw[← CD k hk,hx,hn];refine eV B w p v L (2 ^ (k+1) - 2) (k+1) hW hL (by omega) ?_;have:=Nm (k+1);omega
def rU(B:Nat)(w:World)(p:Nat)(L:List Nat)(e:Ending)(w':World):Prop:=e=.returned (.tuple #[])∧(∃ v',IsW B w' p v' L)∧ak B [p] [5] w w'
theorem uI(B:Nat)(w:World)(p:Nat)(v:Value)(L:List Nat)(hW:IsW B w p v L)(hL:L.length≤1000000)(A:Option Addr)(T c:Nat)(Bp:Option Addr)(G d:Nat)(P:List Nat)(hP:aU w Bp G P)
 (H2:∀a,Bp=some a→a.block<B) (HW:2≤T) (HX:T≤6) (HQ:1≤G) (hG:G≤32767) (H1:∀x∈P,x<T):
 Calls Tryz.prog 103 #[.pointer (some ⟨p,0,none⟩),.agg #[.slice A T c,.slice Bp G d]] w (rU B w p (L++(aj T 3++aj G 15++aH (List.range T) P))):=by
 have hB:B≤w.heap.size:=Mk hW.lo (MB (aB hW.blk));have p0:=aB hW.blk;have HH:=hP.1;obtain⟨b,off,rfl,HJ⟩:=hP.2 HQ;have HR:b<B:=H2 _ rfl;have HO:=aa HJ;have hc:ak B [p] [5] w (w.alloc (.cells #[.slice A T c,.slice (some ⟨b,off,none⟩) G d] 90)):=(ak.refl _ _ _ _).alloc hB _;have H5:=hW.alloc (.cells #[.slice A T c,.slice (some ⟨b,off,none⟩) G d] 90);have HF:=ah w 90 #[.slice A T c,.slice (some ⟨b,off,none⟩) G d];obtain⟨F,hF⟩:∃F,F=L++(aj T 3++aj G 15++aH (List.range T) P):=⟨_,rfl⟩;have HM:=aa hF;have hR:Hid (∀ w' v',IsW B w' p v' F→ak B [p] [5] w w'→rU B w p F (.returned (.tuple #[])) w'):=aa fun w' v' h1 h2=>⟨rfl,⟨v',h1⟩,h2⟩;rw[← hF];generalize rU B w p F=PO at*;have hX:=aa H5;have hS:=aa hc;have he:=aa HF;have HP:=aa H1;have hf:=aa HH;clear hW hP H2 HJ hF hc H5 HF H1 HH;go_enter Tryz.func103,Tryz.ntmps103;go_upto_region 1 with fail;have HU:(w.alloc (.cells #[.slice A T c,.slice (some ⟨b,off,none⟩) G d] 90)).heap.size=w.heap.size+1:=by simp
 clear HU;generalize w.alloc (.cells #[.slice A T c,.slice (some ⟨b,off,none⟩) G d] 90)=w1 at*;have q0:w1.cell? ⟨w.heap.size,0,none⟩=some (.slice A T c):=(ac he.out 0).trans rfl;have q1:w1.cell? ⟨w.heap.size,1,none⟩=some (.slice (some ⟨b,off,none⟩) G d):=(ac he.out 1).trans rfl;have hO:Hid (Calls Tryz.prog 60 #[.pointer (some ⟨p,0,none⟩),.int .u64 T,.int .i64 3] w1 fun e w'=>e=.returned (.int .i64 0)∧∃v',IsW B w' p v' (L++aj T 3)∧ak B [p] [5] w1 w'):=aa (eV B w1 p v L T 3 hX.out (by omega) (by omega) (by omega));go_wp2_with fail;refine hO.out.mono ?_;rintro e w2 ⟨rfl,v2,H6,hs⟩;have HI:w.heap.size∉ [p]:=by simp;omega
 have hh:=hs.blk he.out HI (by decide);have q0:w2.cell? ⟨w.heap.size,0,none⟩=some (.slice A T c):=(ac hh 0).trans rfl;have q1:w2.cell? ⟨w.heap.size,1,none⟩=some (.slice (some ⟨b,off,none⟩) G d):=(ac hh 1).trans rfl;have hQ:Hid (Calls Tryz.prog 60 #[.pointer (some ⟨p,0,none⟩),.int .u64 G,.int .i64 15] w2 fun e w'=>e=.returned (.int .i64 0)∧∃v',IsW B w' p v' (L++aj T 3++aj G 15)∧ak B [p] [5] w2 w'):=aa (eV B w2 p v2 (L++aj T 3) G 15 H6 (by rw[LR,af];omega) (by omega) (by omega));have hH:=aa hh;have HS2:=aa (hS.out.trans hs);clear H6 hs hh hX hS he hO;go_wp2_with fail;refine hQ.out.mono ?_;rintro e w3 ⟨rfl,v3,H7,ht⟩;have hv:=ht.blk hH.out HI (by decide);have q0:w3.cell? ⟨w.heap.size,0,none⟩=some (.slice A T c):=(ac hv 0).trans rfl;have hJ:=aa hv;have hq:=aa (HS2.out.trans ht);have hY:=aa H7;have hE:=aa (oo w3 T (by omega));clear H7 ht hv HS2 hH hQ q1;go_wp2_with fail;refine hE.out.mono ?_;rintro e w4 ⟨rfl,hu,HB⟩;have h0:=an HB;have HG:=h0.blk hJ.out ay ay;have q1:w4.cell? ⟨w.heap.size,1,none⟩=some (.slice (some ⟨b,off,none⟩) G d):=(ac HG 1).trans rfl;have HV:w.heap.size≤w3.heap.size:=hq.out.size;have hT:=aa (hq.out.trans (h0.mono (Mk hB HV) (by simp) (by simp)));have hZ:=aa (hY.out.step h0 ay (fun _ _=>ay) ay ay);have hC:=aa hu;have hg:=aa hu.lt;clear hu HB h0 HG hE hJ hq hY;generalize w3.heap.size=g at*;go_wp2_with fail;go_loopw [6,7,27] (fun s6 s7 iv' wx=>∃(i:Nat) (f:Nat→Nat) (v':Value) (K:List Nat),i≤G∧iv'=.int .i64 i∧IsW B wx p v' K∧aA wx g g T T f∧Hid (K++aH ((List.range T).map f) (P.drop i)=F∧K.length≤2000000+6*i∧∀x,x<T→x∈(List.range T).map f)∧ak B [p] [5] w wx) (fun _ _ iv' _=>G - (intOf iv').toNat)
 case atStart=>
  refine⟨0,fun j=>j,v3,_,LY _,rfl,hZ.out,hC.out,⟨?_,?_,fun x hx=> ?_⟩,hT.out⟩;·rw[HM.out,List.map_id',PZ];simp only[LZ]
  ·rw[LR,LR,af,af];omega
  ·rw[List.map_id'];exact List.mem_range.2 hx
 case round=>
  clear hZ hC hT;rename World=>w5;obtain⟨i,f,v5,K,hi,rfl,h7,ha,hI,h6⟩:=hrel;by_cases e:i<G
  ·have HZ:(0:Int)≤(i:Int):=(by omega);have HY:(i:Int)<(G:Int):=(by omega);have h9:w5.cell? ⟨b,off+i,none⟩=some (.int .i64 (P.getD i 0:Nat)):=(h6.below.cell (p:=⟨b,off+i,none⟩) HR).trans (HO.out i e);obtain⟨x,hx⟩:∃x,x=P.getD i 0:=⟨_,rfl⟩;have HL:x∈P:=(by rw[hx,LU,LV (by rw[hf.out];exact e)];exact Mu _);have HK:=HP.out x HL;have hA:=hI.out.2.2 x HK;have HC:P.drop i=x :: P.drop (i+1):=(by rw[MA (by rw[hf.out];exact e),hx,LU,LV (by rw[hf.out];exact e)];rfl);rw[← hx]at h9;have ho:=aa (BE w5 (some ⟨g,0,none⟩) T T _ x ha.ints hA (by omega));have hm:=fq _ x hA;have hw:((List.range T).map f).length=T:=(by simp);obtain⟨k,hk⟩:∃k,k=aR ((List.range T).map f) x:=⟨_,rfl⟩;rw[← hk]at ho hm;rw[hw]at hm;have hl:=hm.1;have hM:=aa (yL g w5 g T T f k ha hl (by omega))
   have hN:Hid ((K++(List.replicate k 1++ [0]))++aH ((List.range T).map (mr f k)) (P.drop (i+1))=F):=aa (by
    rw[← hI.out.1,HC,aH,←hk,nH f T k hl]
    simp)
   (have hK:Hid (∀ y,y<T→y∈(List.range T).map (mr f k)):=aa fun y hy=>by rw[nH f T k hl];exact pX (by rw[hw];exact hl) (hI.out.2.2 y hy));have H0:=hI.out.2.1;have hp:=aa H0;have hr:=aa h7;have hV:=aa h6;have hD:=aa ha;clear hm hI h7 h6 ha hx HL hA HC hk hw H0 HK;go_wp2_with fail;refine ho.out.mono ?_;rintro e w6 ⟨rfl,rfl⟩;clear ho;go_wp2_with fail;refine hM.out.mono ?_;rintro e w7 ⟨rfl,HD,hz⟩;have HS:p∉ [g]:=by have:=hg.out;simp;omega
   have H8:=hr.out.step hz HS (fun k hk=>by
    rw[MK]
    intro e
    obtain⟨c1,f1,e1⟩:=Lib.ownsRow_kind hr.out.row g (by rw[hk,e])
    obtain⟨c2,f2,e2⟩:=Lib.ownsRow_kind hD.out g rfl
    rw[e1]at e2
    simp at e2) ay ay
   have H3:ak B [p] [5] w w7:=hV.out.after hz (by have:=hg.out;omega) (fun j hj=>.inr (by rw[List.mem_singleton.1 hj];have:=hg.out;omega)) (by simp);have hb:K.length≤1000000000000:=(by have:=hp.out;omega);have HT:k≤5:=(by omega);have h5:=aa fun(x n:Int) (hx:x=((2 ^ (k+1) - 2:Nat):Int)) (hn:n=((k+1:Nat):Int))=>FW k HT B w7 p v5 K H8 hb x n hx hn;have h4:Hid (∀ w8 v8,IsW B w8 p v8 (K++(List.replicate k 1++ [0]))→ak B [p] [5] w7 w8→∃(i':Nat) (f':Nat→Nat) (v':Value) (K':List Nat),i'≤G∧(.int .i64 (i+1:Nat):Value)=.int .i64 i'∧IsW B w8 p v' K'∧aA w8 g g T T f'∧Hid (K'++aH ((List.range T).map f') (P.drop i')=F∧K'.length≤2000000+6*i'∧∀x,x<T→x∈(List.range T).map f')∧ak B [p] [5] w w8):=aa fun w8 v8 h1 h2=>
    ⟨i+1,mr f k,v8,_,by omega,rfl,h1,h2.row HD (fun j hj=>by
      simp[Value.ownBlock]at hj
      have:=hg.out
      simp
      omega) (by decide),⟨hN.out,by
       rw[LR,LR,Mo,Mq]
       have:=hp.out
       omega,hK.out⟩,H3.trans h2⟩
   clear HD hz H8 H3 hb hM hN hK hp hr hV hD;have h8:k=0∨k=1∨k=2∨k=3∨k=4∨k=5:=(by omega);rcases h8 with rfl | rfl | rfl | rfl | rfl | rfl <;>
   ·go_wp2_with fail;refine(h5.out _ _ (by rfl) (by rfl)).mono ?_;rintro e w8 ⟨rfl,v8,HA,H4⟩;have HN:=aa (h4.out w8 v8 HA H4);clear HA H4 h4 h5;go_wp2_with fail;go_roundw;case rel=>exact HN.out
    case measure=>simp[intOf];omega
  ·obtain rfl:i=G:=(by omega);have h3:=hI.out.1;rw[MP (by rw[hf.out];exact L5 _),aH,Mv]at h3;rw[h3]at h7;have HE:=aa (hR.out w5 v5 h7 h6);clear h7 ha hI h6 h3 hR;go_wp2_with fail;(try simp only[Exit.inBlock,Exit.then]);refine Mm (Ol rfl _ _ _) rfl ?_;exact HE.out
def dQ(bits:List Nat)(a:Nat):Nat×Nat×Nat:=
 if bits.length<a+3 then(0,0,10)
 else if val ((bits.drop a).take 3)<2∨6<val ((bits.drop a).take 3)then(0,0,110)
 else if bits.length<a+18 then(0,0,10)
 else if val ((bits.drop (a+3)).take 15)=0 then(0,0,110)
 else(val ((bits.drop a).take 3),val ((bits.drop (a+3)).take 15),0)
def wC(B:Nat)(w:World)(p:Nat)(s:ByteArray)(a:Nat)(ans:Nat×Nat×Nat)(e:Ending)(w':World):Prop:=
 e=.returned (.tuple #[.int .i64 ans.1,.int .i64 ans.2.1,.int .i64 ans.2.2])∧(ans.2.2=0→IsR B w' p s (a+18))∧ak B [p] [] w w'
theorem yI(B:Nat)(w:World)(p:Nat)(s:ByteArray)(a:Nat)(hR:IsR B w p s a)(hs:s.size≤2000000)(ha:a≤8*s.size):
 Calls Tryz.prog 215 #[.pointer (some ⟨p,0,none⟩)] w (wC B w p s a (dQ (ai s.data.toList) a)):=by
 have hh:(ai s.data.toList).length=8*s.size:=by rw[aw];rfl
 obtain⟨bits,h4⟩:∃bits,bits=ai s.data.toList:=⟨_,rfl⟩;have hj:au bits:=by rw[h4];exact aI _
 have hg:dQ bits a=if 8*s.size<a+3 then(0,0,10)
  else if val ((bits.drop a).take 3)<2∨6<val ((bits.drop a).take 3)then(0,0,110)
  else if 8*s.size<a+18 then(0,0,10)
  else if val ((bits.drop (a+3)).take 15)=0 then(0,0,110)
  else(val ((bits.drop a).take 3),val ((bits.drop (a+3)).take 15),0):=by
  unfold dQ
  rw[h4,hh]
 rw[← h4];rw[← h4]at hh;have h9:Hid (∀ w' x y z,dQ bits a=(x,y,z)→(z=0→IsR B w' p s (a+18))→ak B [p] [] w w'→wC B w p s a (dQ bits a) (.returned (.tuple #[.int .i64 x,.int .i64 y,.int .i64 z])) w'):=aa fun w' x y z h1 h2 h3=>by rw[h1];exact⟨rfl,h2,h3⟩
 generalize wC B w p s a (dQ bits a)=PO at*;generalize dQ bits a=ans at*;have hc:=aa hg;by_cases e1:8*s.size<a+3;·have HT:Hid (Calls Tryz.prog 36 #[.pointer (some ⟨p,0,none⟩),.int .i64 3] w (ji B w p s a 0 0 10)):=aa (dL B w p s a 3 hR (by omega) (by omega) ha e1);have h0:=hc.out;rw[LX e1]at h0;have HA:=aa (h9.out · 0 0 10 h0 (fun h=>absurd h (by omega)));clear hg h0 hc h9 hh hj h4 hR;go_enter Tryz.func215,Tryz.ntmps215;go_wp2_with fail;refine HT.out.mono ?_;rintro e w2 ⟨rfl,_,h5⟩;have HE:=aa (HA.out w2 h5);clear h5 HA HT;go_wp2_with fail;go_ret3;exact HE.out
 ·have hT:=fA B w p s a 3 hR (by omega) (by omega) (by omega);rw[← h4]at hT;have hr:val ((bits.drop a).take 3)<2 ^ 3:=by have h:=iE _ ((hj.drop a).take 3);rw[Mj,Mc,hh,MN (by omega)]at h;exact h
  have h0:=hc.out;rw[LW e1]at h0;obtain⟨T,hn⟩:∃T,T=val ((bits.drop a).take 3):=⟨_,rfl⟩;rw[← hn]at hT hr h0;have h6:=aa h0;have HT:Hid (Calls Tryz.prog 36 #[.pointer (some ⟨p,0,none⟩),.int .i64 3] w (ji B w p s a 3 T 0)):=aa hT;have ho:=aa hj;have hq:=aa hh;have hp:=aa h4;clear hg h0 hc hh hj h4 hR hT hn;by_cases e2:T<2∨6<T
  ·have h0:=h6.out;rw[LX e2]at h0;have HA:=aa (h9.out · 0 0 110 h0 (fun h=>absurd h (by omega)));clear h0 h6 h9;by_cases e3:T<2;·have d5:decide ((T:Int)<2)=true:=bD (by omega);clear e2;go_enter Tryz.func215,Tryz.ntmps215;go_wp2_with fail;refine HT.out.mono ?_;rintro e w2 ⟨rfl,_,h5⟩;have HE:=aa (HA.out w2 h5);clear h5 HA HT;go_wp2_with fail;go_ret3;exact HE.out
   ·have d5:decide ((T:Int)<2)=false:=aN (by omega);have d6:decide ((6:Int)<(T:Int))=true:=bD (by omega);clear e2;go_enter Tryz.func215,Tryz.ntmps215;go_wp2_with fail;refine HT.out.mono ?_;rintro e w2 ⟨rfl,_,h5⟩;have HE:=aa (HA.out w2 h5);clear h5 HA HT;go_wp2_with fail;go_ret3;exact HE.out
  ·have h0:=h6.out;rw[LW e2]at h0;have h7:=aa h0;have d5:decide ((T:Int)<2)=false:=aN (by omega);have d6:decide ((6:Int)<(T:Int))=false:=aN (by omega);clear h0 h6 e2;by_cases e4:8*s.size<a+18;·have h0:=h7.out;rw[LX e4]at h0;have HA:=aa (h9.out · 0 0 10 h0 (fun h=>absurd h (by omega)));clear h0 h7 h9;go_enter Tryz.func215,Tryz.ntmps215;go_wp2_with fail;refine HT.out.mono ?_;rintro e w2 ⟨rfl,hb,h5⟩;have he:Hid (Calls Tryz.prog 36 #[.pointer (some ⟨p,0,none⟩),.int .i64 15] w2 (ji B w2 p s (a+3) 0 0 10)):=aa (dL B w2 p s (a+3) 15 hb (by omega) (by omega) (by omega) (by omega));have HS2:=aa h5;clear hb h5 HT;go_wp2_with fail;refine he.out.mono ?_;rintro e w3 ⟨rfl,_,hf⟩;have HE:=aa (HA.out w3 (HS2.out.trans hf));clear hf HA he;go_wp2_with fail;go_ret3;exact HE.out
   ·have hk:val ((bits.drop (a+3)).take 15)<2 ^ 15:=(by have h:=iE _ ((ho.out.drop (a+3)).take 15);rw[Mj,Mc,hq.out,MN (by omega)]at h;exact h);have h0:=h7.out;rw[LW e4]at h0;(have he:Hid (∀ w2,IsR B w2 p s (a+3)→Calls Tryz.prog 36 #[.pointer (some ⟨p,0,none⟩),.int .i64 15] w2 (ji B w2 p s (a+3) 15 (val ((bits.drop (a+3)).take 15)) 0)):=aa fun w2 hb=>by have h:=fA B w2 p s (a+3) 15 hb (by omega) (by omega) (by omega);rw[← hp.out]at h;exact h);obtain⟨K,hl⟩:∃K,K=val ((bits.drop (a+3)).take 15):=⟨_,rfl⟩;rw[← hl]at he hk h0;have h8:=aa h0;clear h0 h7 hl;by_cases e5:K=0;·have h0:=h8.out;rw[LX e5]at h0;have HA:=aa (h9.out · 0 0 110 h0 (fun h=>absurd h (by omega)));subst e5;clear h0 h8 h9;go_enter Tryz.func215,Tryz.ntmps215;go_wp2_with fail;refine HT.out.mono ?_;rintro e w2 ⟨rfl,hb,h5⟩;have hi:=aa (he.out w2 hb);have HS2:=aa h5;clear hb h5 HT he;go_wp2_with fail;refine hi.out.mono ?_;rintro e w3 ⟨rfl,_,hf⟩;have HE:=aa (HA.out w3 (HS2.out.trans hf));clear hf HA hi;go_wp2_with fail;go_ret3;exact HE.out
    ·have h0:=h8.out;rw[LW e5]at h0;have HA:=aa (h9.out · T K 0 h0);have d7:((K:Int)==0)=false:=(by rw[Mr];omega);clear h0 h8 h9;go_enter Tryz.func215,Tryz.ntmps215;go_wp2_with fail;refine HT.out.mono ?_;rintro e w2 ⟨rfl,hb,h5⟩;have hi:=aa (he.out w2 hb);have HS2:=aa h5;clear hb h5 HT he;go_wp2_with fail;refine hi.out.mono ?_;rintro e w3 ⟨rfl,hm,hf⟩;have HE:=aa (HA.out w3 (fun _=>hm) (HS2.out.trans hf));clear hm hf HA hi;go_wp2_with fail;go_ret3;exact HE.out
theorem ra:∀(c n T:Nat),n+c<T→cN (List.replicate c 1) n T=.short
 | 0,_,_,_=>rfl
 | c+1,n,T,h=>by rw[NJ,cN,LW (by omega),LW (by omega)];exact ra c (n+1) T (by omega)
theorem q6:∀(c n T:Nat) (r:List Nat),n+c=T→0<c→cN (List.replicate c 1++r) n T=.bad
 | c+1,n,T,r,h,_=>by
  rw[NJ,MI,cN,LW (by omega)];by_cases e:n+1=T;·rw[LX e]
  ·rw[LW e];exact q6 c (n+1) T r (by omega) (by omega)
theorem kZ(bits:List Nat)(T:Nat)(hT:0<T):∀(k:Nat) (o r:List Nat) (p:Nat) (out:List Nat),o.length=T→aC bits T k (o++r) p out=aC bits T k o p out
 | 0,_,_,_,_,_=>rfl
 | k+1,o,r,p,out,ho=>by
  cases hp:cN (bits.drop p) 0 T with
  | hit n=>have hn:=(xp _ _ _ _ hp hT).2.2;rw[eB hp,eB hp,oP o r n (by omega),kZ bits T hT k (eT o n) r _ _ (by rw[iR (by omega),ho])];congr 2;rw[LU,LU,ME (by omega)]
  | short=>rw[ew hp,ew hp]
  | bad=>rw[fu hp,fu hp]
theorem uV(bits:List Nat)(T:Nat)(hT:0<T)(h6:T≤6)(k p:Nat)(out:List Nat):aC bits T k [0,1,2,3,4,5] p out=aC bits T k (List.range T) p out:=by obtain⟨r,hr⟩:=vY h6;rw[hr];exact kZ bits T hT k _ r p out (by simp)
structure lf (w0 w:World) (v:Value) (X:List Nat) (g T:Nat) (f:Nat→Nat):Prop where
 out:w.ownsRow w0.heap.size 3 1 v X.length (X.map iv)
 ord:aA w w0.heap.size g T T f
 ne:v.ownBlock≠some g
theorem lf.step{w0 w w':World}{v:Value}{X:List Nat}{g T p B:Nat}{f:Nat→Nat}(h:lf w0 w v X g T f){u:TypeId}{ds:Array Value}(hk:Blk w p u ds)(h0:(3:TypeId)≠u)(hs:ak B [p] [] w w'):lf w0 w' v X g T f:=
 ⟨hs.row h.out (fun k hk2=>by rw[MK];exact dD h.out hk h0 k hk2) ay,hs.row h.ord (fun k hk2=>by rw[MK];exact dD h.ord hk h0 k hk2) ay,h.ne⟩
theorem lf.push{w0 w:World}{A:Option Addr}{N cap:Nat}{X:List Nat}{g T:Nat}{f:Nat→Nat}(h:lf w0 w (.slice A N cap) X g T f)(x:Nat)(hN:X.length=N)(hX:N≤1000000)(h1:w0.heap.size≤w.heap.size):
 ∃A2 cap2 w2,(Builtin.append_ #[57,57] 57 #[.slice A N cap,.slice (some ⟨w.heap.size,0,none⟩) 1 1]).run Tryz.prog (w.alloc (.cells #[.int .i64 x] 3))=.ok (.slice A2 (N+1) cap2) w2∧
  lf w0 w2 (.slice A2 (N+1) cap2) (X++ [x]) g T f∧Below w0.heap.size w w2:=by
 obtain⟨i3,h3,h4,h5,h6⟩:=MT Tryz.info3;subst hN
 obtain⟨v2,w2,hr,ho,hg,_,h0⟩:=run_append_own_at (P:=Tryz.prog) (w.alloc (.cells #[.int .i64 x] 3)) w0.heap.size 57 57 3 i3 (.int .i64 0) 1 8 Tryz.underlying57 h3 h4 h5 h6 rfl (by decide) _ _ _ (h.out.alloc _) ⟨w.heap.size,0,none⟩ 1 1 [iv x] rfl (cQ w (iv x) 3)
  (fun u hu=>by rw[List.mem_singleton.1 hu];rfl) (by unfold maxLen;omega) (by omega) (by simp;omega)
 obtain⟨A2,cap2,rfl,_,_,_⟩:=ao ho;have h7:=Nl h.ord g rfl;refine⟨A2,cap2,w2,hr,⟨?_,Oh (Qp h.ord _) hg (.inr fun e=>h.ne e.symm),?_⟩,?_⟩;·have h2:=ho;rw[show X.map iv++ [iv x]=(X++ [x]).map iv by simp]at h2;rw[LR];exact h2
 ·rcases h0 with e | e;·rw[e];exact h.ne
  ·rw[e];intro e2;have:=My e2;simp at this;omega
 ·exact((L6 _ _).alloc h1 _).grown hg (by simp;omega) (fun k hk=>(h.out.lt k hk).1)
theorem Js{B:Nat}{ps:List Nat}{ts:List TypeId}{w wx w2:World}(h:ak B ps ts w wx)(hb:Below w.heap.size wx w2)(hB:B≤w.heap.size):ak B ps ts w w2:=
 ⟨h.below.trans (hb.mono hB),fun k cs t fr hk hp ht=>(hb.block k (Array.getElem?_eq_some_iff.1 hk).1).trans (h.keep k cs t fr hk hp ht)⟩
def mL(B:Nat)(w:World)(p:Nat)(s:ByteArray)(ans:List Nat×Nat×Nat)(e:Ending)(w':World):Prop:=
 ∃v,e=.returned (.tuple #[v,.int .i64 ans.2.2])∧w'.ownsRow w.heap.size 3 1 v ans.1.length (ans.1.map iv)∧(ans.2.2=0→IsR B w' p s ans.2.1)∧ak B [p] [] w w'
theorem sK(B:Nat)(w:World)(p:Nat)(s:ByteArray)(a T K:Nat)(hR:IsR B w p s a)(hs:s.size≤2000000)(ha:a≤8*s.size)(HL:2≤T)(HH:T≤6)(hK:K≤40000):
 Calls Tryz.prog 216 #[.pointer (some ⟨p,0,none⟩),.int .i64 T,.int .i64 K] w (mL B w p s (aC (ai s.data.toList) T K [0,1,2,3,4,5] a [])):=by
 rw[uV _ T (by omega) HH];have hB:B≤w.heap.size:=Mk hR.lo (MB (aB hR.blk));have HJ:=aB hR.blk;have H3:(ai s.data.toList).length=8*s.size:=by rw[aw];rfl
 have hV:au (ai s.data.toList):=aI _;have hq:=aa fun(wx:World) (n:Nat) (h9:IsR B wx p s n) (hn:n≤8*s.size)=>show Calls Tryz.prog 244 #[.pointer (some ⟨p,0,none⟩),.int .i64 (T - 1:Nat)] wx fun e w'=>
  (∃ c,cN ((ai s.data.toList).drop n) 0 T=.hit c∧c<T∧e=.returned (.tuple #[.int .i64 c,.int .i64 0])∧IsR B w' p s (n+(c+1))∧n+(c+1)≤8*s.size∧ak B [p] [] wx w')∨
  (cN ((ai s.data.toList).drop n) 0 T=.short∧e=.returned (.tuple #[.int .i64 0,.int .i64 10])∧ak B [p] [] wx w')∨
  (cN ((ai s.data.toList).drop n) 0 T=.bad∧e=.returned (.tuple #[.int .i64 0,.int .i64 3])∧ak B [p] [] wx w')from by
  rcases AO (T - 1) ((ai s.data.toList).drop n) (hV.drop n)with⟨c,r,hc,hd⟩ | ⟨c,hc,hd⟩ | ⟨r,hd⟩;·refine(JJ B wx p s n c (T - 1) r h9 (by omega) (by omega) hc hd).mono ?_;rintro e w' ⟨rfl,hy,h7⟩;have hJ:=(AW hd).2;rw[H3]at hJ;refine .inl ⟨c,?_,by omega,rfl,hy,by omega,h7⟩;rw[hd,nM c 0 T r (by omega),MG]
  ·refine(AN B wx p s n c (T - 1) h9 hn (by omega) (by omega) hc hd).mono ?_;rintro e w' ⟨rfl,_,h7⟩;refine .inr (.inl ⟨?_,rfl,h7⟩);rw[hd];exact ra c 0 T (by omega)
  ·refine(GN B wx p s n (T - 1) r h9 (by omega) (by omega) hd).mono ?_;rintro e w' ⟨rfl,_,h7⟩;refine .inr (.inr ⟨?_,rfl,h7⟩);rw[hd];exact q6 (T - 1+1) 0 T r (by omega) (by omega)
 obtain⟨bits,he⟩:∃bits,bits=ai s.data.toList:=⟨_,rfl⟩;rw[← he]at hq ⊢;obtain⟨ANS,hh⟩:∃ANS,ANS=aC bits T K (List.range T) a []:=⟨_,rfl⟩;rw[← hh];have h8:=aa hh;have hu:Hid (∀ w' v (X:List Nat) (n:Nat),ANS=(X,n,0)→w'.ownsRow w.heap.size 3 1 v X.length (X.map iv)→IsR B w' p s n→ak B [p] [] w w'→mL B w p s ANS (.returned (.tuple #[v,.int .i64 0])) w'):=aa fun w' v X n h1 h2 h3 h4=>by rw[h1];exact⟨v,rfl,h2,fun _=>h3,h4⟩
 have hr:Hid (∀ w' (z:Nat),z≠0→ANS=([],0,z)→ak B [p] [] w w'→mL B w p s ANS (.returned (.tuple #[.slice none 0 0,.int .i64 z])) w'):=aa fun w' z h0 h1 h4=>by rw[h1];exact⟨_,rfl,Ml _ _ _ _,fun h=>absurd h h0,h4⟩
 generalize mL B w p s ANS=PO at*;have hM:=aa (oo w T (by omega));have HR:=aa hR;obtain⟨tm,H8⟩:∃tm,tm=T - 1:=⟨_,rfl⟩;rw[← H8]at hq;have HK:(T:Int) - 1=(tm:Int):=by omega
 clear hR H3 hV he hh H8;go_enter Tryz.func216,Tryz.ntmps216;go_wp2_with fail;refine hM.out.mono ?_;rintro e w1 ⟨rfl,H4,hF⟩;have hY:=HR.out.step (an hF) ay ay;have H0:ak B [p] [] w w1:=(an hF).mono hB (by simp) (by simp);have hP:Hid (lf w w1 (.slice none 0 0) [] w.heap.size T (fun j=>j)):=aa ⟨Ml _ _ _ _,H4,by simp[Value.ownBlock]⟩;have hQ:=aa hY;have hS:=aa H0;clear H4 hF hY H0 hM HR;go_wp2_with fail;go_loopw [9,10,11,15] (fun pv s10 s11 iv' wx=>∃(i:Nat) (f:Nat→Nat) (A9:Option Addr) (c9:Nat) (X:List Nat) (n:Nat),i≤K∧iv'=.int .i64 i∧pv=.slice A9 i c9∧lf w wx (.slice A9 i c9) X w.heap.size T f∧IsR B wx p s n∧Hid (X.length=i∧n≤8*s.size∧aC bits T (K - i) ((List.range T).map f) n X=ANS)∧ak B [p] [] w wx) (fun _ _ _ iv' _=>K - (intOf iv').toNat)
 case atStart=>refine⟨0,_,none,0, [],a,LY _,rfl,rfl,hP.out,hQ.out,⟨rfl,ha,?_⟩,hS.out⟩;rw[h8.out,List.map_id',Pv]
 case round=>
  clear hP hQ hS;rename World=>wx;obtain⟨i,f,A9,c9,X,n,hi,rfl,rfl,hO,h9,hI,hz⟩:=hrel;by_cases e:i<K
  ·have HU:=aa (hq.out wx n h9 hI.out.2.1);have hf:aC bits T (K - (i+1)+1) ((List.range T).map f) n X=ANS:=(by rw[show K - (i+1)+1=K - i by omega];exact hI.out.2.2);have ho:=aa hf;have hT:=aa hI.out.1;have HO:=aa hO;have hv:=aa h9;have hp:=aa hz;clear hf hI hO h9 hz;go_wp2_with fail;refine HU.out.mono ?_;intro e w2 hl;rcases hl with⟨c,h6,hG,rfl,hy,H5,h7⟩ | ⟨h6,rfl,h7⟩ | ⟨h6,rfl,h7⟩
   ·have hw:=HO.out.step hv.out.blk (by decide) h7;have ht:=hp.out.trans h7;have hN:=aa (yL w.heap.size w2 w.heap.size T T f c hw.ord hG (by omega));have hb:=aa hw.out;have hC:=aa hw.ne
    have HB:Hid (aC bits T (K - (i+1)) ((List.range T).map (mr f c)) (n+(c+1)) (X++ [f c])=ANS):=aa (by
     rw[← ho.out,eB h6,nH f T c hG,du T f c hG]
     rfl)
    have hD:=aa hy;have hg:=aa ht;clear h6 hy h7 hw ht HU ho HO hv hp;go_wp2_with fail;refine hN.out.mono ?_;rintro e w3 ⟨rfl,hH,hA⟩
    have H6:=hA.row hb.out (fun k hk=>by
     rw[MK]
     intro e
     exact hC.out (by rw[hk,e])) ay
    have hW:lf w w3 (.slice A9 i c9) X w.heap.size T (mr f c):=⟨H6,hH,hC.out⟩;have hL:w.heap.size≤w3.heap.size:=Mk hg.out.size hA.size;have HI:w3.cell? ⟨w.heap.size,0,none⟩=some (.int .i64 (f c:Nat)):=(by have:=hH.cell 0 (by omega);rw[this];unfold mr;rw[LX rfl]);obtain⟨x,hx⟩:∃x,x=f c:=⟨_,rfl⟩;rw[← hx]at HI;obtain⟨A4,c4,w4,H7,hX,H2⟩:=hW.push x hT.out (by omega) hL;have hj:Below w.heap.size w2 w4:=hA.below.trans H2;have hZ:IsR B w4 p s (n+(c+1)):=⟨hD.out.lo,(hj.block p HJ).trans hD.out.blk⟩;have H1:=Js hg.out hj hB;have HD:=aa H7;have HC:=aa hX;have hE:=aa hZ;have HF:=aa H1;have HG:=aa hx;have HA:=aa H5;clear H6 hW hH hA hx H7 hX H2 hj hZ H1 H5 hN hb hC hD hg;(go_wp2_with (at_builtin;refine Lib.wpList_append_run _ rfl (.tmp 32) (.tmp 36) 57 57 rfl (.slice A9 i c9) (.slice (some ⟨w3.heap.size,0,none⟩) 1 1) rfl rfl _ w4 HD.out ?_));go_roundw;case rel=>exact⟨i+1,_,A4,c4,_,_,by omega,by go_num,rfl,HC.out,hE.out,⟨by rw[LR,hT.out];rfl,HA.out,by rw[HG.out];exact HB.out⟩,HF.out⟩
    case measure=>simp[intOf];omega
   ·have h5:ANS=([],0,10):=(by rw[← ho.out,ew h6]);have HE:=aa (hr.out w2 10 (by omega) h5 (hp.out.trans h7));clear h6 h7 h5 HU ho HO hv hp hq hu hr h8;go_wp2_with fail;(first | go_ret2 | skip);exact HE.out
   ·have h5:ANS=([],0,110):=(by rw[← ho.out,fu h6]);have HE:=aa (hr.out w2 110 (by omega) h5 (hp.out.trans h7));clear h6 h7 h5 HU ho HO hv hp hq hu hr h8;go_wp2_with fail;(first | go_ret2 | skip);exact HE.out
  ·obtain rfl:i=K:=(by omega);have h5:ANS=(X,n,0):=(by rw[← hI.out.2.2,Ng];rfl);have hm:=hO.out;rw[hI.out.1]at hm;have HE:=aa (hu.out wx (.slice A9 i c9) X n h5 (by rw[hI.out.1];exact hm) h9 hz);clear h5 hm hO h9 hI hz hq hu hr h8;go_wp2_with fail;(first | go_ret2 | skip);exact HE.out
def oe(w:World)(T:Nat)(ans:List (List Nat)×Nat×Nat)(e:Ending)(w':World):Prop:=
 (ans.2.2=0∧∃A c F C,e=.returned (.tuple #[.slice A T c,.int .i64 ans.2.1,.int .i64 0])∧lU w w' (.slice A T c) T F C∧(List.range T).map C=ans.1∧∀t,t<T→(C t).length≤258)∨
 (ans.2.2≠0∧e=.returned (.tuple #[.slice none 0 0,.int .i64 0,.int .i64 ans.2.2])∧Below w.heap.size w w')
theorem uK(w:World)(s:ByteArray)(p n T:Nat)(hs:s.size≤2000000)(hp:p≤8*s.size)(_:n≤258)(hM:T≤6):
 Calls Tryz.prog 217 #[.string s,.int .i64 p,.int .i64 n,.int .i64 T] w (oe w T (dV (ai s.data.toList) n T p [])):=by
 have hG:(ai s.data.toList).length=8*s.size:=by rw[aw];rfl
 have hk:=aa fun(wx:World) (q:Nat)=>S10.pO wx s (q:Int) (n:Int) hs;have hf:=aa fun(q:Nat)=>np (ai s.data.toList) (q:Int) (n:Int);rw[hG]at hf;obtain⟨bits,h8⟩:∃bits,bits=ai s.data.toList:=⟨_,rfl⟩;rw[← h8]at hk hf ⊢;obtain⟨ANS,h9⟩:∃ANS,ANS=dV bits n T p []:=⟨_,rfl⟩;rw[← h9];have h7:=aa h9;have hu:Hid (∀ w' A c F C (q:Nat),ANS=((List.range T).map C,q,0)→lU w w' (.slice A T c) T F C→(∀ t,t<T→(C t).length≤258)→oe w T ANS (.returned (.tuple #[.slice A T c,.int .i64 q,.int .i64 0])) w'):=aa fun w' A c F C q h1 h2 h3=>by rw[h1];exact .inl ⟨rfl,A,c,F,C,rfl,h2,rfl,h3⟩
 have hg:Hid (∀ w' (z:Nat),z≠0→ANS=([],0,z)→Below w.heap.size w w'→oe w T ANS (.returned (.tuple #[.slice none 0 0,.int .i64 0,.int .i64 z])) w'):=aa fun w' z h0 h1 h4=>by rw[h1];exact .inr ⟨h0,rfl,h4⟩
 generalize oe w T ANS=PO at*;clear hG h8 h9;go_enter Tryz.func217,Tryz.ntmps217;go_wp2_with fail;go_loopw [1,11,12,13,14,16] (fun av tv s12 s13 s14 iv' wx=>∃(i q c:Nat) (A:Option Addr) (F:Nat→Value) (C:Nat→List Nat),i≤T∧iv'=.int .i64 i∧av=.int .i64 q∧tv=.slice A i c∧lU w wx (.slice A i c) i F C∧Hid (q≤8*s.size∧dV bits n (T - i) q ((List.range i).map C)=ANS∧∀t,t<i→(C t).length≤258)) (fun _ _ _ _ _ iv' _=>T - (intOf iv').toNat)
 case atStart=>refine⟨0,p,0,none,fun _=>.slice none 0 0,fun _=> [],LY _,rfl,rfl,rfl,lU.nil _ _ _ _ (L6 _ _),⟨hp,?_,fun t ht=>absurd ht (NY _)⟩⟩;rw[h7.out,Pv];rfl
 case round=>
  rename World=>wx;obtain⟨i,q,c,A,F,C,hi,rfl,rfl,rfl,hL,hI⟩:=hrel;by_cases e:i<T
  ·have HT:=aa (hk.out wx q);have hy:=hf.out q;have h5:dV bits n (T - (i+1)+1) q ((List.range i).map C)=ANS:=(by rw[show T - (i+1)+1=T - i by omega];exact hI.out.2.1);rw[nT]at h5;obtain⟨⟨X,q2,z⟩,ha⟩:∃ans,ans=ax bits (q:Int) (n:Int):=⟨_,rfl⟩;rw[← ha]at HT hy h5;dsimp only at hy h5;have hj:=aa h5;have hv:=aa hy;have hr:=aa hI.out.2.2;have hh:=aa hL;clear hL hI hy h5 ha;go_wp2_with fail;refine HT.out.mono ?_;rintro e w2 ⟨v2,rfl,hb,hn⟩;dsimp only at hb ⊢;obtain⟨A2,c2,rfl,hw,hx,_⟩:=ao hb;have ho:=aq hh.out.below hn;by_cases ez:z=0
   ·subst ez;have h6:=hj.out;rw[LX rfl]at h6;have hz:X.length≤maxLen:=Mk hw hx;have hc:ZIn w2 A2 X.length (zL X):=eC (ct hb);have he:=aa (lp w2 A2 X.length c2 (zL X) hc hz);by_cases eo:bU (zL X)
    ·rw[LX eo]at h6 he;have hF:X.length≤258:=(by have:=eo.2.1;unfold zL at this;rw[Mi]at this;exact this);(obtain⟨D,hD⟩:∃D:Nat→List Nat,D=fun t=>if t=i then X else C t:=⟨_,rfl⟩);have hl:D i=X:=(by rw[hD];exact LX rfl);have hB:(List.range i).map C++ [X]=(List.range (i+1)).map D:=(by rw[MQ,Mw,QE,hl];congr 1;apply MJ;intro t ht;have:=List.mem_range.1 ht;rw[hD];(show C t=if t=i then X else C t);rw[LW (by omega)]);(have hE:=hh.out.same (D:=D) fun t ht=>by rw[hD];(show C t=if t=i then X else C t);rw[LW (by omega)]);obtain⟨A3,c3,w3,hH,hC,_⟩:=hE.push (A1:=A2) (k1:=c2) (n:=X.length) (by rw[hl];exact hb) hn (by omega) (by rw[hl])
     have hJ:Hid (q2≤8*s.size∧dV bits n (T - (i+1)) q2 ((List.range (i+1)).map D)=ANS∧∀t,t<i+1→(D t).length≤258):=aa ⟨hv.out.1,by rw[← hB];exact h6,fun t ht=>by
      by_cases et:t=i
      ·rw[et,hl];exact hF
      ·rw[hD]
       show(if t=i then X else C t).length≤258
       rw[LW et]
       exact hr.out t (by omega)⟩
     have hA:=aa hH;have hK:=aa hC;obtain⟨xl,hq⟩:∃xl,xl=X.length:=⟨_,rfl⟩;rw[← hq]at he hA ⊢;clear h6 hc hz eo hF hD hl hB hE hH hC hb hn ho hw hx HT hj hr hh hv hq;go_wp2_with fail;refine he.out.mono ?_;rintro e w2 ⟨rfl,rfl⟩;(go_wp2_with (at_builtin;refine Lib.wpList_append_run _ rfl (.tmp 33) (.tmp 35) 88 88 rfl (.slice A i c) (.slice (some ⟨w2.heap.size,0,none⟩) 1 1) rfl rfl _ w3 hA.out ?_));go_roundw;case rel=>exact⟨i+1,q2,c3,A3,_,D,by omega,by go_num,rfl,rfl,hK.out,hJ⟩
     case measure=>simp[intOf];omega
    ·rw[LW eo]at h6 he;have HE:=aa (hg.out w2 80 (by omega) h6.symm ho);obtain⟨xl,hq⟩:∃xl,xl=X.length:=⟨_,rfl⟩;rw[← hq]at he ⊢;clear h6 hc hz eo hb hn ho hw hx HT hj hr hh hv hq hu hg h7 hk hf;go_wp2_with fail;refine he.out.mono ?_;rintro e w2 ⟨rfl,rfl⟩;go_wp2_with fail;(first | go_ret3 | skip);exact HE.out
   ·have h6:=hj.out;rw[LW ez]at h6;have HE:=aa (hg.out w2 z ez h6.symm ho);have dz:((z:Int)==0)=false:=(by rw[Mr];omega);have dz2:((z:Int) != 0)=true:=(by rw[Oe];omega);have dz4:(z==0)=false:=(by rw[Mr];exact ez);clear h6 hb hn ho hw hx HT hj hr hh hv hu hg h7 hk hf;go_wp2_with fail;(first | go_ret3 | skip);exact HE.out
  ·obtain rfl:i=T:=(by omega);have hm:ANS=((List.range i).map C,q,0):=(by rw[← hI.out.2.1,Ng];rfl);have HE:=aa (hu.out wx A c F C q hm hL hI.out.2.2);clear hm hL hI hu hg h7 hk hf;go_wp2_with fail;(first | go_ret3 | skip);exact HE.out
theorem Gy(bits:List Nat)(n a:Nat):un bits n a=if(dQ bits a).2.2=0 then wh bits n a (dQ bits a).1 (dQ bits a).2.1 else([], [],0,(dQ bits a).2.2):=by
 unfold un dQ;by_cases h1:bits.length<a+3;·rw[LX h1,LX h1,LW (by simp)]
 ·rw[LW h1,LW h1];by_cases h2:val ((bits.drop a).take 3)<2∨6<val ((bits.drop a).take 3);·rw[LX h2,LX h2,LW (by simp)]
  ·rw[LW h2,LW h2];by_cases h3:bits.length<a+18;·rw[LX h3,LX h3,LW (by simp)]
   ·rw[LW h3,LW h3];by_cases h4:val ((bits.drop (a+3)).take 15)=0;·rw[LX h4,LX h4,LW (by simp)]
    ·rw[LW h4,LW h4,LX rfl]
theorem Li(bits:List Nat)(a:Nat)(hb:au bits)(h:(dQ bits a).2.2=0):2≤(dQ bits a).1∧(dQ bits a).1≤6∧(dQ bits a).2.1≤32767∧a+18≤bits.length:=by
 unfold dQ at h ⊢;by_cases h1:bits.length<a+3;·rw[LX h1]at h;cases h
 ·rw[LW h1]at h ⊢;by_cases h2:val ((bits.drop a).take 3)<2∨6<val ((bits.drop a).take 3);·rw[LX h2]at h;cases h
  ·rw[LW h2]at h ⊢;by_cases h3:bits.length<a+18;·rw[LX h3]at h;cases h
   ·rw[LW h3]at h ⊢;by_cases h4:val ((bits.drop (a+3)).take 15)=0;·rw[LX h4]at h;cases h
    ·rw[LW h4];have h5:=iE _ ((hb.drop (a+3)).take 15);rw[Mj,Mc,MN (by omega)]at h5;exact⟨by dsimp only;omega,by dsimp only;omega,by dsimp only;omega,by omega⟩
theorem Hp(bits:List Nat)(a:Nat):(dQ bits a).2.2≤110:=by unfold dQ;(repeat' split) <;>simp
theorem BB(w:World)(s:ByteArray)(at' n:Int)(hs:s.size≤2000000):
 Calls Tryz.prog 178 #[.string s,.int .i64 at',.int .i64 n] w (Dk w (dU (ai s.data.toList) at' n)):=by
 have hE:(ai s.data.toList).length=8*s.size:=by rw[aw];rfl
 obtain⟨w1,hI⟩:∃w1,w1=w.alloc (.cells #[.slice none 0 0,.slice none 0 0] 90):=⟨_,rfl⟩;have HL:Below w.heap.size w w1:=b9 hI;have HM:Blk w1 w.heap.size 90 #[.slice none 0 0,.slice none 0 0]:=fL hI;have hG:dU (ai s.data.toList) at' n=if at'<0∨((8*s.size:Nat):Int)<at'∨n<3∨258<n then([], [],0,2)else un (ai s.data.toList) n.toNat at'.toNat:=by unfold dU;rw[hE]
 have h4:Hid (∀ (wx:World) (k:Nat),dU (ai s.data.toList) at' n=([], [],0,k)→Below w.heap.size w wx→Dk w (dU (ai s.data.toList) at' n) (.returned (.tuple #[.agg #[.slice none 0 0,.slice none 0 0],.int .i64 0,.int .i64 k])) ((wx.setCell ⟨w.heap.size,0,none⟩ (.slice none 0 0)).setCell ⟨w.heap.size,1,none⟩ (.slice none 0 0))):=aa fun wx k h1 h3=>by rw[h1];exact⟨_,rfl,FX _,(h3.setCell (p:=⟨w.heap.size,0,none⟩) (ag _) _).setCell (p:=⟨w.heap.size,1,none⟩) (ag _) _⟩
 have ho:Hid (∀ (wx:World) (v:Value) (T:List (List Int)) (P:List Int) (pl:Nat),dU (ai s.data.toList) at' n=(T,P,pl,0)→bc wx v T P→Below w.heap.size w wx→Dk w (dU (ai s.data.toList) at' n) (.returned (.tuple #[v,.int .i64 pl,.int .i64 0])) wx):=aa fun wx v T P pl h1 h2 h3=>⟨v,by rw[h1];rfl,by rw[h1];exact h2,h3⟩;generalize Dk w (dU (ai s.data.toList) at' n)=PO at*;generalize dU (ai s.data.toList) at' n=ans at*;have h7:=aa hG;have hn:=aa HM;have hM:=aa HL;have HS:w1.heap.size=w.heap.size+1:=by rw[hI];simp
 have HV:=aa HS;have hB:=aa hI.symm;clear hG HM HL HS hI;have q0:=(ac hn.out 0).trans rfl;have q1:=(ac hn.out 1).trans rfl;have f0:=ae hn.out 0;have f1:=ae hn.out 1;by_cases h1:at'<0∨8*(s.size:Int)<at';·have h0:=h7.out;rw[LX (by omega)]at h0;have hz:=aa (kR w1 s at' (by omega) h1);have HE:=aa (h4.out w1 2 h0 hM.out);clear h0 h1 h4 ho h7 hE;go_enter Tryz.func178,Tryz.ntmps178;go_upto_region 1 with fail;rw[hB.out];clear hB;go_wp2_with fail;refine hz.out.mono ?_;rintro e w1 ⟨rfl,rfl⟩;go_wp2_with fail;refine Mm (v:=.tuple #[.agg #[.slice none 0 0,.slice none 0 0],.int .i64 0,.int .i64 2]) ?_ rfl HE.out;simp[results,Tryz.results178,go_sem,q0,q1]
 ·obtain⟨a,rfl⟩:=O5 (show 0≤at' by omega);have ha:a≤8*s.size:=by omega
  have hz:=aa (eU w1 s (a:Int) (by omega) (by omega) (by omega));have HI:=iQ w1 w1.heap.size (ag _) s a;have H1:Below w1.heap.size w1 (w1.alloc (.cells #[.bool true,.string s,.int .i64 a] 120)):=(L6 _ _).alloc (ag _) _;have HN:=aP H1 hn.out;have hA:=aa HI;have hc:=aa HN;have hl:=aa (aq hM.out H1);have hy:=aa fun(wx:World)=>mg wx n;clear HI H1 HN h1 q0 q1 f0 f1;by_cases h2:3≤n∧n≤258
  ·rw[L8 h2]at hy;obtain⟨m,rfl⟩:=O5 (show 0≤n by omega);have h0:=h7.out;rw[LW (by omega),L9,L9,Gy]at h0;have he:=aa h0;have hv:=Li (ai s.data.toList) a (aI _);rw[hE]at hv;have hi:=aa hv;have hh:=aa fun(wx:World) (hR:IsR w1.heap.size wx w1.heap.size s a)=>yI w1.heap.size wx w1.heap.size s a hR hs ha;obtain⟨⟨T,K,z⟩,H3⟩:∃c,c=dQ (ai s.data.toList) a:=⟨_,rfl⟩;rw[← H3]at he hi hh;have HT:z≤110:=(by have:=Hp (ai s.data.toList) a;rw[← H3]at this;exact this);have p1:=aa HT;obtain⟨bits,h9⟩:∃bits,bits=ai s.data.toList:=⟨_,rfl⟩;have h5:=aa h9;have HB:=aa hE;rw[← h9]at he;clear h0 hv H3 h7 HT hE h9;go_enter Tryz.func178,Tryz.ntmps178;go_upto_region 1 with fail;rw[hB.out];clear hB;go_wp2_with fail;refine hz.out.mono ?_;rintro e w2 ⟨rfl,hJ⟩;rw[← hJ]at hA hc hl;clear hJ hz hn hM;generalize w1.heap.size=p at*;go_wp2_with fail;refine(hy.out w2).mono ?_;rintro e w2 ⟨rfl,rfl⟩;clear hy;go_wp2_with fail;refine(hh.out w2 hA.out).mono ?_;rintro e w3 ⟨rfl,hD,hP⟩;dsimp only at hD ⊢;have hW:w.heap.size<p:=(by rw[HV.out];exact Og _);have hw:Blk w3 w.heap.size 90 #[.slice none 0 0,.slice none 0 0]:=(hP.below.block w.heap.size hW).trans hc.out;have hT:=hl.out.trans (hP.below.mono (MB hW));have HC:=aa hw;have HA:=aa hT;by_cases ez:z=0
   ·subst ez;have hD:=hD rfl;obtain⟨HX,HJ,hK,hr⟩:=hi.out rfl;have h0:=he.out;rw[LX rfl]at h0;unfold wh at h0;have hO:=sK p w3 p s (a+18) T K hD hs hr HX HJ (by omega);have hb:=iD bits T (by omega) K [0,1,2,3,4,5] (a+18) [] (by rw[h5.out,HB.out];exact hr);rw[← h5.out]at hO;obtain⟨⟨X,q,y⟩,HO⟩:∃c,c=aC bits T K [0,1,2,3,4,5] (a+18) []:=⟨_,rfl⟩;rw[← HO]at hO h0 hb;dsimp only at h0 hb;rw[h5.out,HB.out]at hb;have hY:=aa hO;have hf:=aa h0;have hp:=aa hb;clear hw hT hD hP hr h0 hO hb HO he hi hh hA hc hl;go_wp2_with fail;refine hY.out.mono ?_;rintro e w4 ⟨v4,rfl,hH,hq,hQ⟩;dsimp only at hH hq ⊢;have hx:Blk w4 w.heap.size 90 #[.slice none 0 0,.slice none 0 0]:=(hQ.below.block w.heap.size hW).trans HC.out;have hV:=HA.out.trans (hQ.below.mono (MB hW));have hF:=aa hx;have hm:=aa hV;by_cases ey:y=0
    ·subst ey;have hq:=hq rfl;have h0:=hf.out;rw[LX rfl]at h0;have hS:=uK w4 s q m T hs hp.out.1 (by omega) HJ;rw[← h5.out]at hS;obtain⟨⟨TS,q5,z5⟩,HQ⟩:∃c,c=dV bits m T q []:=⟨_,rfl⟩;rw[← HQ]at hS h0;dsimp only at h0;have hZ:=aa hS;have hg:=aa h0;have hX:=aa (jU w4 p (q:Nat) (by have:=ac hq.blk 0;simpa using this) (by have:=ac hq.blk 2;simpa using this));obtain⟨A4,c4,rfl,H2,p0,HW⟩:=ao hH;have hN:=aa hH;clear hx hV hq hQ h0 hS HQ hH HW hY hf hp HC HA;obtain⟨xl,H8⟩:∃xl,xl=X.length:=⟨_,rfl⟩;rw[← H8]at hN H2 ⊢;have HU:=aa H8;clear H8;go_wp2_with fail;refine hX.out.mono ?_;rintro e w4 ⟨rfl,rfl⟩;go_wp2_with fail;refine hZ.out.mono ?_;intro e w5 hu;rcases hu with⟨hL,A5,c5,F,C,rfl,hC,H0,HD⟩ | ⟨hL,rfl,hj⟩
     ·dsimp only at hL H0 ⊢;subst hL;have hj:=hC.below;have h6:=aP hj hF.out;have h8:=aq hm.out hj;have HF:lU w w5 (.slice A5 T c5) T F C:=⟨World.ownsRow.mono hC.row hm.out.size,fun t ht=>⟨(hC.each t ht).1,World.ownsRow.mono (hC.each t ht).2 hm.out.size⟩,h8⟩;have H5:=gi hN.out hj;have HG:=HF.store h6 (by decide) (by decide) (ag _) 0 (.slice A5 T c5);have H4:=az h6 0 (.slice A5 T c5);have HH:=HG.store H4 (by decide) (by decide) (ag _) 1 (.slice A4 xl c4)
      have H7:ak w.heap.size [w.heap.size] [] w5 ((w5.setCell ⟨w.heap.size,0,none⟩ (.slice A5 T c5)).setCell ⟨w.heap.size,1,none⟩ (.slice A4 xl c4)):=
       ((ak.refl _ _ _ _).set (p:=⟨w.heap.size,0,none⟩) (ag _) (by simp) _).set (p:=⟨w.heap.size,1,none⟩) (ag _) (by simp) _
      have H6:=H7.row H5 (fun k hk=>by rw[MK];exact dD H5 h6 (by decide) k hk) ay;have HZ:=az H4 1 (.slice A4 xl c4);obtain⟨_,_,HR,HY,_,_⟩:=ao hC.row;simp only[Ns]at HR;obtain⟨rfl,_,rfl⟩:=HR;have h0:=hg.out;rw[LX rfl]at h0;have HK:TS.map zL=(List.range T).map fun t=>zL (C t):=(by rw[← H0,MX];rfl);rw[HK]at h0
      have HP:bc _ (.agg #[.slice A5 T c5,.slice A4 xl c4]) ((List.range T).map fun t=>zL (C t)) (zL X):=
       ⟨_,T,c5,_,xl,c4,rfl,HH.tabZ (fun t ht=>by have:=HD t ht;omega),HY,by unfold maxLen;omega,by rw[HU.out]at H6 ⊢;exact eC (ct H6),H2,Mk H2 p0⟩
      have HE:=aa (ho.out _ _ _ _ q5 h0 HP (h8.trans H7.below));have g0:=(ac h6 0).trans (rfl:_=some (Value.slice none 0 0));have g1:=(ac h6 1).trans (rfl:_=some (Value.slice none 0 0));have f0:=ae h6 0;have f1:=ae h6 1;clear hj h6 h8 HF H5 HG H4 HH H7 H6 HZ h0 HK HP hC H0 HD ho h4 hg hZ hX hN hF hm;go_wp2_with fail;refine Mm (v:=.tuple #[.agg #[.slice A5 T c5,.slice A4 xl c4],.int .i64 q5,.int .i64 0]) ?_ rfl HE.out;simp[results,Tryz.results178,go_sem,g0,g1]
     ·dsimp only at hL ⊢;have h6:=aP hj hF.out;have h8:=aq hm.out hj;have h0:=hg.out;rw[LW hL]at h0;have HE:=aa (h4.out w5 z5 h0 h8);have g0:=(ac h6 0).trans (rfl:_=some (Value.slice none 0 0));have g1:=(ac h6 1).trans (rfl:_=some (Value.slice none 0 0));have f0:=ae h6 0;have f1:=ae h6 1;have dz2:((z5:Int) != 0)=true:=(by rw[Oe];omega);clear h6 h8 h0 hj ho h4 hg hZ hX hN hF hm;go_wp2_with fail;refine Mm (v:=.tuple #[.agg #[.slice none 0 0,.slice none 0 0],.int .i64 0,.int .i64 z5]) ?_ rfl HE.out;simp[results,Tryz.results178,go_sem,g0,g1]
    ·have h0:=hf.out;rw[LW ey]at h0;have HE:=aa (h4.out w4 y h0 hV);have g0:=(ac hx 0).trans (rfl:_=some (Value.slice none 0 0));have g1:=(ac hx 1).trans (rfl:_=some (Value.slice none 0 0));have f0:=ae hx 0;have f1:=ae hx 1;have dz2:((y:Int) != 0)=true:=(by rw[Oe];omega);clear h0 hx hV hH hq hQ hY hf hp ho h4 hF hm;go_wp2_with fail;refine Mm (v:=.tuple #[.agg #[.slice none 0 0,.slice none 0 0],.int .i64 0,.int .i64 y]) ?_ rfl HE.out;simp[results,Tryz.results178,go_sem,g0,g1]
   ·have h0:=he.out;rw[LW ez]at h0;have HE:=aa (h4.out w3 z h0 hT);have g0:=(ac hw 0).trans (rfl:_=some (Value.slice none 0 0));have g1:=(ac hw 1).trans (rfl:_=some (Value.slice none 0 0));have f0:=ae hw 0;have f1:=ae hw 1;have dz2:((z:Int) != 0)=true:=(by rw[Oe];omega);clear h0 hw hT hD hP he hi hh ho h4 hA hc hl;go_wp2_with fail;refine Mm (v:=.tuple #[.agg #[.slice none 0 0,.slice none 0 0],.int .i64 0,.int .i64 z]) ?_ rfl HE.out;simp[results,Tryz.results178,go_sem,g0,g1]
  ·rw[L7 h2]at hy;have h0:=h7.out;rw[LX (by omega)]at h0;have he:=aa h0;clear h0 h7 hE h2;go_enter Tryz.func178,Tryz.ntmps178;go_upto_region 1 with fail;rw[hB.out];clear hB;go_wp2_with fail;refine hz.out.mono ?_;rintro e w2 ⟨rfl,hJ⟩;rw[← hJ]at hA hc hl;clear hJ hz hn hM hA;go_wp2_with fail;refine(hy.out w2).mono ?_;rintro e w2 ⟨rfl,rfl⟩;have HE:=aa (h4.out w2 2 he.out hl.out);have g0:=(ac hc.out 0).trans (rfl:_=some (Value.slice none 0 0));have g1:=(ac hc.out 1).trans (rfl:_=some (Value.slice none 0 0));have f0:=ae hc.out 0;have f1:=ae hc.out 1;clear hy h4 ho he hc hl;go_wp2_with fail;refine Mm (v:=.tuple #[.agg #[.slice none 0 0,.slice none 0 0],.int .i64 0,.int .i64 2]) ?_ rfl HE.out;simp[results,Tryz.results178,go_sem,g0,g1]
theorem nC(l bs:List Nat)(en:Int)(h:fQ l):∀(k a:Nat) (o:List Nat),o.length≤a→a≤bs.length→(fU l bs en k a o).1.length≤bs.length∧(fU l bs en k a o).2.1≤bs.length∧(fU l bs en k a o).2.2≤90
 | 0,a,o,h1,h2=>⟨Mk h1 h2,h2,LY _⟩
 | k+1,a,o,h1,h2=>by
  rw[pz]
  cases hx:iI l (bs.drop a)with
  | hit i=>
   have h0:=tF 20 1 (show fp l (bs.drop a) 20 1=.hit i from hx);have h3:=(h.one h0.2.1).1;have h4:=h0.1;rw[Mc]at h4;have h5:(o++ [i]).length≤a+l.getD i 0:=(by rw[LR];show o.length+1≤_;omega);show(if(i:Int)=en then(o++ [i],a+l.getD i 0,0)else fU l bs en k (a+l.getD i 0) (o++ [i])).1.length≤_∧(if(i:Int)=en then(o++ [i],a+l.getD i 0,0)else fU l bs en k (a+l.getD i 0) (o++ [i])).2.1≤_∧(if(i:Int)=en then(o++ [i],a+l.getD i 0,0)else fU l bs en k (a+l.getD i 0) (o++ [i])).2.2≤_;by_cases e:(i:Int)=en;·rw[LX e];exact⟨by show(o++ [i]).length≤_;omega,by show a+l.getD i 0≤_;omega,LY _⟩
   ·rw[LW e];exact nC l bs en h k _ _ h5 (by omega)
  | short=>exact⟨LY _,LY _,by show 10≤90;omega⟩
  | code=>exact⟨LY _,LY _,L5 _⟩
theorem sX(T:List (List Nat))(P bits:List Nat)(n0 g r:Nat)(pre:List Nat)(h0:1≤n0):∀(k a:Nat) (out:List Nat),k≤50→(∀ x∈out,x+1≠n0)→
 ((fU (T.getD (P.getD g 0) []) bits (n0 - 1:Nat) k a out).2.2≠0∧j8 T P bits n0 (k+r) (50*g+(50 - k)) a (pre++out)=([],0,(fU (T.getD (P.getD g 0) []) bits (n0 - 1:Nat) k a out).2.2))∨
 ((fU (T.getD (P.getD g 0) []) bits (n0 - 1:Nat) k a out).2.2=0∧(∃ o,(fU (T.getD (P.getD g 0) []) bits (n0 - 1:Nat) k a out).1=o++ [n0 - 1])∧j8 T P bits n0 (k+r) (50*g+(50 - k)) a (pre++out)=(pre++(fU (T.getD (P.getD g 0) []) bits (n0 - 1:Nat) k a out).1,(fU (T.getD (P.getD g 0) []) bits (n0 - 1:Nat) k a out).2.1,0))∨
 ((fU (T.getD (P.getD g 0) []) bits (n0 - 1:Nat) k a out).2.2=0∧(∀ x∈(fU (T.getD (P.getD g 0) []) bits (n0 - 1:Nat) k a out).1,x+1≠n0)∧(fU (T.getD (P.getD g 0) []) bits (n0 - 1:Nat) k a out).1.length=out.length+k∧j8 T P bits n0 (k+r) (50*g+(50 - k)) a (pre++out)=j8 T P bits n0 r (50*g+50) (fU (T.getD (P.getD g 0) []) bits (n0 - 1:Nat) k a out).2.1 (pre++(fU (T.getD (P.getD g 0) []) bits (n0 - 1:Nat) k a out).1))
 | 0,a,out,_,ho=>.inr (.inr ⟨rfl,ho,rfl,by rw[MG,Pv];rfl⟩)
 | k+1,a,out,hk,ho=>by
  have hi:(50*g+(50 - (k+1))) / 50=g:=by omega
  rw[pz,show k+1+r=(k+r)+1 by omega,kL,hi]
  cases hx:iI (T.getD (P.getD g 0) []) (bits.drop a)with
  | hit x=>
   dsimp only;by_cases e:x+1=n0
   ·have e1:((x:Int)=((n0 - 1:Nat):Int)):=(by omega);rw[LX e1,LX e];refine .inr (.inl ⟨rfl,⟨out,?_⟩,?_⟩);·rw[show n0 - 1=x by omega]
    ·simp
   ·have e1:¬((x:Int)=((n0 - 1:Nat):Int)):=(by omega);rw[LW e1,LW e]
    have ih:=sX T P bits n0 g r pre h0 k (a+(T.getD (P.getD g 0) []).getD x 0) (out++ [x]) (by omega) (fun y hy=>by
     rcases List.mem_append.1 hy with hy | hy
     ·exact ho y hy
     ·rw[List.mem_singleton.1 hy]
      exact e)
    rw[show 50*g+(50 - (k+1))+1=50*g+(50 - k) by omega,LZ];rcases ih with⟨h1,h2⟩ | ⟨h1,h2,h3⟩ | ⟨h1,h2,h3,h4⟩;·exact .inl ⟨h1,h2⟩
    ·exact .inr (.inl ⟨h1,h2,h3⟩)
    ·exact .inr (.inr ⟨h1,h2,by rw[h3,LR,Mq];omega,h4⟩)
  | short=>exact .inl ⟨by show(10:Nat)≠0;omega,rfl⟩
  | code=>exact .inl ⟨by show(90:Nat)≠0;omega,rfl⟩
theorem Hl(w:World)(v:Value)(T:List (List Int))(P:List Int)(h:bc w v T P)(s:ByteArray)(at':Int)(hM:¬cJ T P):
 Calls Tryz.prog 179 #[v,.string s,.int .i64 at'] w (bz w (ij T P (ai s.data.toList) at')):=by rw[show ij T P (ai s.data.toList) at'=([],0,110)from LW hM];obtain⟨A,q,c,B,m,d,rfl,_⟩:=id h;have h1:Below w.heap.size w (w.alloc (.cells #[.slice A q c,.slice B m d] 90)):=(L6 _ _).alloc (ag _) _;have h5:=ah w 90 #[.slice A q c,.slice B m d];have HM:=aa (dp _ _ T P (h.below h1));rw[L7 hM]at HM;have h2:=aa h1;have h0:=aa h5;have h3:Hid (∀ w',Below w.heap.size w w'→bz w ([],0,110) (.returned (.tuple #[.slice none 0 0,.int .i64 0,.int .i64 110])) w'):=aa fun w' hb=>⟨_,rfl,Ml _ _ _ _,hb⟩;generalize bz w ([],0,110)=PO at*;clear h hM h1 h5;go_enter Tryz.func179,Tryz.ntmps179;go_upto_region 1 with fail;generalize w.alloc (.cells #[.slice A q c,.slice B m d] 90)=w1 at*;have p0:w1.cell? ⟨w.heap.size,0,none⟩=some (.slice A q c):=(ac h0.out 0).trans rfl;have p1:w1.cell? ⟨w.heap.size,1,none⟩=some (.slice B m d):=(ac h0.out 1).trans rfl;go_wp2_with fail;refine HM.out.mono ?_;rintro e w2 ⟨rfl,h4⟩;have HE:=aa (h3.out w2 (aq h2.out h4));clear h4 h3 h2 h0 HM;go_wp2_with fail;(first | go_ret3 | skip);exact HE.out
end Go.Proofs.YtepokmggbfoakaaGreatDoor
