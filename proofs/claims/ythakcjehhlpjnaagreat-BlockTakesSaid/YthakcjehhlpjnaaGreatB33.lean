import Derived.Test.YthakcjehhlpjnaaGreatB13
import Derived.Test.YthakcjehhlpjnaaGreatB04
import Derived.Laws.IdiomCopy
set_option maxHeartbeats 1600000
set_option maxRecDepth 100000
namespace Go.Proofs.YthakcjehhlpjnaaGreat
open Go.RowKit
theorem li(w:World)(n:Int):Calls Tryz.prog 144 #[.int .i64 n] w fun e w'=>e=.returned (.bool (decide (3≤n∧n≤258)))∧w=w':=by
 by_cases h1:3≤n
 ·by_cases h2:n≤258
  ·have d0:decide ((3:Int)≤n)=true:=decide_eq_true h1
   have d1:decide (n≤(258:Int))=true:=decide_eq_true h2
   have hd:decide (3≤n∧n≤258)=true:=decide_eq_true ⟨h1,h2⟩
   go_enter Tryz.func144,Tryz.ntmps144
   go_wp2_with fail
   go_ret
   first | exact⟨rfl,rfl⟩ | (rw [hd];exact⟨rfl,rfl⟩)
  ·have d0:decide ((3:Int)≤n)=true:=decide_eq_true h1
   have d1:decide (n≤(258:Int))=false:=decide_eq_false h2
   have hd:decide (3≤n∧n≤258)=false:=ao (by omega)
   go_enter Tryz.func144,Tryz.ntmps144
   go_wp2_with fail
   go_ret
   first | exact⟨rfl,rfl⟩ | (rw [hd];exact⟨rfl,rfl⟩)
 ·have d0:decide ((3:Int)≤n)=false:=decide_eq_false h1
  have hd:decide (3≤n∧n≤258)=false:=ao (by omega)
  go_enter Tryz.func144,Tryz.ntmps144
  go_wp2_with fail
  go_ret
  first | exact⟨rfl,rfl⟩ | (rw [hd];exact⟨rfl,rfl⟩)
theorem jp(w:World)(m:Nat)(hm:m≤4000000000000000000):Calls Tryz.prog 68 #[.int .i64 m] w fun e w'=>e=.returned (.int .i64 (aQ m:Nat))∧w=w':=by
 obtain⟨q,hq⟩:∃q,q=aQ m:=⟨_,rfl⟩
 rw[← hq]
 unfold aQ at hq
 obtain⟨m1,h1⟩:∃m1,m1=m+50:=⟨_,rfl⟩
 obtain⟨m2,h0⟩:∃m2,m2=m+49:=⟨_,rfl⟩
 have z1:(m:Int)+50=(m1:Int):=by omega
 have z2:(m1:Int) - 1=(m2:Int):=by omega
 have z3:(m2:Int) / 50=(q:Int):=by rw[hq,h0];omega
 have b1:m1≤5000000000000000000:=by omega
 have b2:m2≤5000000000000000000:=by omega
 have b3:q≤5000000000000000000:=by omega
 clear hq h1 h0
 go_enter Tryz.func68,Tryz.ntmps68
 go_wp2_with fail
 go_ret
 exact⟨rfl,rfl⟩
theorem pU{L:List Int}{n:Nat}{a b m:Int}(hl:L.length=n)(ha:(∀ i,i<n→a≤L.getD i 0)∧∃i,i<n∧L.getD i 0=a)(hb:(∀ i,i<n→L.getD i 0≤b)∧∃i,i<n∧L.getD i 0=b):
 (∀ x∈L,0≤x∧x<m)↔0≤a∧b<m:=by
 have hg:∀i,i<n→L.getD i 0∈L:=fun i hi=>by
  rw[List.getD_eq_getElem?_getD,List.getElem?_eq_getElem (by omega)]
  exact List.getElem_mem _
 refine⟨fun h=> ?_,fun h x hx=> ?_⟩
 ·obtain⟨i,hi,h0⟩:=ha.2
  obtain⟨j,hj,h3⟩:=hb.2
  have h1:=h _ (hg i hi)
  have h2:=h _ (hg j hj)
  omega
 ·obtain⟨i,hi,rfl⟩:=List.getElem_of_mem hx
  have h1:=ha.1 i (by omega)
  have h2:=hb.1 i (by omega)
  rw[List.getD_eq_getElem?_getD,List.getElem?_eq_getElem hi]at h1 h2
  simp only[Option.getD_some]at h1 h2
  omega
theorem uk(w:World)(A:Option Addr)(n c:Nat)(L:List Int)(m:Int)(hL:ZIn w A n L)(hn:n≤maxLen):
 Calls Tryz.prog 111 #[.slice A n c,.int .i64 m] w fun e w'=>e=.returned (.bool (decide (g9 L m)))∧w'=w:=by
 have hl:=hL.1
 have HE:=aa (li w m)
 unfold maxLen at hn
 by_cases h1:3≤m∧m≤258
 ·rw[decide_eq_true h1]at HE
  by_cases h2:n<1
  ·have d2:decide ((n:Int)<1)=true:=ar (by omega)
   have hd:decide (g9 L m)=false:=decide_eq_false fun h=>by have:=h.2.2.1;omega
   rw[hd]
   clear hd hL hl h1
   go_enter Tryz.func111,Tryz.ntmps111
   go_wp2_with fail
   refine HE.out.mono ?_
   rintro e w1 ⟨rfl,rfl⟩
   go_wp2_with fail
   go_ret
   exact⟨rfl,rfl⟩
  ·have d2:decide ((n:Int)<1)=false:=ao (by omega)
   by_cases h3:1638350<n
   ·have d3:decide ((1638350:Int)<(n:Int))=true:=ar (by omega)
    have hd:decide (g9 L m)=false:=decide_eq_false fun h=>by have:=h.2.2.2.1;omega
    rw[hd]
    clear hd hL hl h1 h3 h2
    go_enter Tryz.func111,Tryz.ntmps111
    go_wp2_with fail
    refine HE.out.mono ?_
    rintro e w1 ⟨rfl,rfl⟩
    go_wp2_with fail
    go_ret
    exact⟨rfl,rfl⟩
   ·have d3:decide ((1638350:Int)<(n:Int))=false:=ao (by omega)
    obtain⟨ans,h0⟩:∃ans,ans=decide (g9 L m):=⟨_,rfl⟩
    rw[← h0]
    have h9:=aa (qp w A n c L hL (by omega) (by unfold maxLen;omega))
    have h8:=aa (nD w A n c L hL (by omega) (by unfold maxLen;omega))
    have HD:Hid (∀ a b:Int,((∀ i,i<n→a≤L.getD i 0)∧∃i,i<n∧L.getD i 0=a)→((∀ i,i<n→L.getD i 0≤b)∧∃i,i<n∧L.getD i 0=b)→ans=decide (0≤a∧b<m)):=aa fun a b ha hb=>by
     have:=pU (m:=m) hl ha hb
     rw[h0]
     congr 1
     apply propext
     constructor
     ·exact fun h=>this.1 h.2.2.2.2
     ·exact fun h=>⟨h1.1,h1.2,by omega,by omega,this.2 h⟩
    have HS:Hid (∃ b:Int,(∀ i,i<n→L.getD i 0≤b)∧∃i,i<n∧L.getD i 0=b):=aa (by
     have hc:∀k,1≤k→k≤n→∃b:Int,(∀ i,i<k→L.getD i 0≤b)∧∃i,i<k∧L.getD i 0=b:=by
      intro k
      induction k with
      | zero=>intro h;omega
      | succ k ih=>
        intro _ hk
        by_cases e:k=0
        ·subst e
         exact⟨L.getD 0 0,fun i hi=>by rw[show i=0 by omega];exact Int.le_refl _,0,by omega,rfl⟩
        ·obtain⟨b,hb,j,hj,he⟩:=ih (by omega) (by omega)
         by_cases e2:L.getD k 0≤b
         ·refine⟨b,fun i hi=> ?_,j,by omega,he⟩
          by_cases e3:i=k
          ·rw[e3];exact e2
          ·exact hb i (by omega)
         ·refine⟨L.getD k 0,fun i hi=> ?_,k,by omega,rfl⟩
          by_cases e3:i=k
          ·rw[e3];exact Int.le_refl _
          ·have:=hb i (by omega)
           omega
     exact hc n (by omega) (ah _))
    clear hL hl h1 h3 h0
    go_enter Tryz.func111,Tryz.ntmps111
    go_wp2_with fail
    refine HE.out.mono ?_
    rintro e w1 ⟨rfl,rfl⟩
    clear HE
    go_wp2_with fail
    refine h9.out.mono ?_
    rintro e w1 ⟨a,rfl,ha,rfl⟩
    have h6:=aa (fun b=>HD.out a b ha)
    clear ha HD h9
    by_cases h4:0≤a
    ·have d4:decide (0≤a)=true:=decide_eq_true h4
     go_wp2_with fail
     refine h8.out.mono ?_
     rintro e w1 ⟨b,rfl,hb,rfl⟩
     have h7:=aa (h6.out b hb)
     clear hb h6 h8 HS
     by_cases h5:b<m
     ·have d5:decide (b<m)=true:=decide_eq_true h5
      have hd:=h7.out.trans (decide_eq_true ⟨h4,h5⟩)
      subst hd
      clear h7
      go_wp2_with fail
      go_ret
      exact⟨rfl,rfl⟩
     ·have d5:decide (b<m)=false:=decide_eq_false h5
      have hd:=h7.out.trans (decide_eq_false fun h=>h5 h.2)
      subst hd
      clear h7
      go_wp2_with fail
      go_ret
      exact⟨rfl,rfl⟩
    ·have d4:decide (0≤a)=false:=decide_eq_false h4
     obtain⟨b,hb⟩:=HS.out
     have hd:=(h6.out b hb).trans (decide_eq_false fun h=>h4 h.1)
     subst hd
     clear h6 h8 HS hb
     go_wp2_with fail
     go_ret
     exact⟨rfl,rfl⟩
 ·rw[decide_eq_false h1]at HE
  have hd:decide (g9 L m)=false:=decide_eq_false fun h=>h1 ⟨h.1,h.2.1⟩
  rw[hd]
  clear hd hL hl h1
  go_enter Tryz.func111,Tryz.ntmps111
  go_wp2_with fail
  refine HE.out.mono ?_
  rintro e w1 ⟨rfl,rfl⟩
  go_wp2_with fail
  go_ret
  exact⟨rfl,rfl⟩
theorem xx(w:World)(m:Int):Calls Tryz.prog 112 #[.int .i64 m] w fun e w'=>e=.returned (.tuple #[.int .i64 (bU m).1,.int .i64 (bU m).2])∧w'=w:=by
 by_cases h0:m<1
 ·have d0:decide (m<1)=true:=decide_eq_true h0
  rw[show bU m=(0,2)from by unfold bU cL;(repeat' split) <;>first | rfl | omega]
  go_enter Tryz.func112,Tryz.ntmps112
  go_wp2_with fail
  go_ret2
  exact⟨rfl,rfl⟩
 have d0:decide (m<1)=false:=decide_eq_false h0
 by_cases h1:m<200
 ·have d1:decide (m<200)=true:=decide_eq_true h1
  rw[show bU m=(2,0)from by unfold bU cL;(repeat' split) <;>first | rfl | omega]
  go_enter Tryz.func112,Tryz.ntmps112
  go_wp2_with fail
  go_ret2
  exact⟨rfl,rfl⟩
 have d1:decide (m<200)=false:=decide_eq_false h1
 by_cases h2:m<600
 ·have d2:decide (m<600)=true:=decide_eq_true h2
  rw[show bU m=(3,0)from by unfold bU cL;(repeat' split) <;>first | rfl | omega]
  go_enter Tryz.func112,Tryz.ntmps112
  go_wp2_with fail
  go_ret2
  exact⟨rfl,rfl⟩
 have d2:decide (m<600)=false:=decide_eq_false h2
 by_cases h3:m<1200
 ·have d3:decide (m<1200)=true:=decide_eq_true h3
  rw[show bU m=(4,0)from by unfold bU cL;(repeat' split) <;>first | rfl | omega]
  go_enter Tryz.func112,Tryz.ntmps112
  go_wp2_with fail
  go_ret2
  exact⟨rfl,rfl⟩
 have d3:decide (m<1200)=false:=decide_eq_false h3
 by_cases h4:m<2400
 ·have d4:decide (m<2400)=true:=decide_eq_true h4
  rw[show bU m=(5,0)from by unfold bU cL;(repeat' split) <;>first | rfl | omega]
  go_enter Tryz.func112,Tryz.ntmps112
  go_wp2_with fail
  go_ret2
  exact⟨rfl,rfl⟩
 have d4:decide (m<2400)=false:=decide_eq_false h4
 rw[show bU m=(6,0)from by unfold bU cL;(repeat' split) <;>first | rfl | omega]
 go_enter Tryz.func112,Tryz.ntmps112
 go_wp2_with fail
 go_ret2
 exact⟨rfl,rfl⟩
def bH(L:List Int)(k:Nat):List Int:=(L.drop (50*k)).take 50
theorem fV(L:List Int)(k:Nat):(bH L k).length=min 50 (L.length - 50*k):=by
 unfold bH
 rw[List.length_take,List.length_drop]
theorem ZIn.cut{w:World}{A:Option Addr}{n k a:Nat}{L:List Int}(h:ZIn w A n L)(h0:a+k≤n):ZIn w (Option.map (fun x=>x.add a) A) k ((L.drop a).take k):=by
 refine⟨by rw[List.length_take,List.length_drop,h.1];omega,fun hk=> ?_⟩
 obtain⟨b,off,rfl,hc⟩:=h.2 (by omega)
 refine⟨b,off+a,by rw[Option.map_some,Addr.add_lit],fun i hi=> ?_⟩
 rw[Nat.add_assoc,hc (a+i) (by omega),List.getD_eq_getElem?_getD,List.getD_eq_getElem?_getD,List.getElem?_take,if_pos hi,List.getElem?_drop]
theorem Cq(w:World)(A:Option Addr)(n c:Nat)(L:List Int)(k:Nat)(hL:ZIn w A n L)(he:n≤c)(hn:n≤2000000)(hk:50*k<n):
 Calls Tryz.prog 70 #[.slice A n c,.int .i64 k] w fun e w'=>∃A2 c2,e=.returned (.slice A2 (bH L k).length c2)∧ZIn w A2 (bH L k).length (bH L k)∧(bH L k).length≤c2∧(∀ a,A2=some a→∃a0,A=some a0∧a.block=a0.block)∧w'=w:=by
 have h0:=hL.1
 obtain⟨m,hm⟩:∃m,m=(bH L k).length:=⟨_,rfl⟩
 have h5:m=min 50 (n - 50*k):=by rw[hm,fV,h0]
 obtain⟨b,off,rfl,_⟩:=hL.2 (by omega)
 obtain⟨lo,h1⟩:∃lo,lo=50*k:=⟨_,rfl⟩
 have hf:(k:Int)*50=(lo:Int):=by omega
 have hcut:=ZIn.cut (k:=m) (a:=lo) hL (by omega)
 have hp:(L.drop lo).take m=bH L k:=by
  unfold bH
  rw[← h1]
  by_cases e:m=50
  ·rw[e]
  ·rw[List.take_of_length_le (by rw[List.length_drop];omega),List.take_of_length_le (by rw[List.length_drop];omega)]
 rw[hp,Option.map_some,Addr.add_lit]at hcut
 rw[← hm]
 have HC:=aa hcut
 obtain⟨hi,h3⟩:∃hi,hi=lo+50:=⟨_,rfl⟩
 have hg:(lo:Int)+50=(hi:Int):=by omega
 have h8:lo≤3000000:=by omega
 have h6:hi≤3000000:=by omega
 by_cases e:n<hi
 ·have d1:decide ((hi:Int)<(n:Int))=false:=ao (by omega)
  have d2:decide ((n:Int)<(hi:Int))=true:=ar (by omega)
  have d3:¬((hi:Int)<(n:Int)):=by omega
  have d4:((n:Int)<(hi:Int)):=by omega
  have d5:¬(hi<n):=by omega
  have ha:(n:Int) - (lo:Int)=(m:Int):=by omega
  have hb:n - lo=m:=by omega
  have h2:(0:Int)≤(lo:Int):=by omega
  have h9:(lo:Int)≤(n:Int):=by omega
  have hc:(n:Int)≤(c:Int):=by omega
  clear hL hcut hp hm h5 h1 h0 h3
  go_enter Tryz.func70,Tryz.ntmps70
  go_wp2_with fail
  go_ret
  exact⟨_,_,rfl,HC.out,by omega,fun a h=>by cases h;first | rfl | exact⟨_,rfl,rfl⟩,rfl⟩
 ·have d1:decide ((hi:Int)<(n:Int))=decide (hi<n):=decide_eq_decide.2 (by omega)
  have d2:decide ((n:Int)<(hi:Int))=false:=ao (by omega)
  have d4:¬((n:Int)<(hi:Int)):=by omega
  have d5:(hi:Int)≤(n:Int):=by omega
  have ha:(hi:Int) - (lo:Int)=(m:Int):=by omega
  have hb:hi - lo=m:=by omega
  have h2:(0:Int)≤(lo:Int):=by omega
  have h4:(lo:Int)≤(hi:Int):=by omega
  have h7:(hi:Int)≤(c:Int):=by omega
  clear hL hcut hp hm h5 h1 h0 h3
  go_enter Tryz.func70,Tryz.ntmps70
  go_wp2_with fail
  go_ret
  exact⟨_,_,rfl,HC.out,by omega,fun a h=>by cases h;first | rfl | exact⟨_,rfl,rfl⟩,rfl⟩
theorem zj(l:List Nat)(k:Nat):bH (l.map fun(x:Nat)=>(x:Int)) k=(cD l k).map fun(x:Nat)=>(x:Int):=by
 unfold bH cD
 rw[List.map_take,List.map_drop]
theorem qD(w:World)(A:Option Addr)(n c:Nat)(L:List Nat)(k:Nat)(hL:aw w A n L)(h0:n≤c)(hn:n≤2000000)(hk:50*k<n):
 Calls Tryz.prog 70 #[.slice A n c,.int .i64 k] w fun e w'=>∃A2 c2,e=.returned (.slice A2 (cD L k).length c2)∧aw w A2 (cD L k).length (cD L k)∧(cD L k).length≤c2∧(∀ a,A2=some a→∃a0,A=some a0∧a.block=a0.block)∧w'=w:=by
 refine(Cq w A n c _ k (cR hL) h0 hn hk).mono ?_
 rintro e w' ⟨A2,c2,rfl,h1,h2,h3,rfl⟩
 rw[zj]at h1 h2 ⊢
 rw[List.length_map]at h1 h2 ⊢
 refine⟨A2,c2,rfl,?_,h2,h3,rfl⟩
 have h4:=eA h1 (fun x hx=>by
  obtain⟨y,_,rfl⟩:=List.mem_map.1 hx
  omega)
 rw[List.map_map]at h4
 have e:(Int.toNat ∘ fun(x:Nat)=>(x:Int))=id:=by
  funext x
  simp
 rw[e,List.map_id]at h4
 exact h4
theorem vS{l:List Nat}{x q:Nat}(h:q<aP l x):l.getD q 0≠x:=by
 induction l generalizing q with
 | nil=>exact absurd h (Nat.not_lt_zero _)
 | cons y l ih=>
   rw[aP]at h
   by_cases e:y=x
   ·rw[if_pos e]at h
    exact absurd h (Nat.not_lt_zero _)
   ·rw[if_neg e]at h
    match q with
    | 0=>exact e
    | q+1=>exact ih (by omega)
theorem zd(w:World)(A:Option Addr)(n c:Nat)(L:List Nat)(x:Nat)(hL:aw w A n L)(hx:x∈L)(hn:n≤1000000):
 Calls Tryz.prog 48 #[.slice A n c,.int .i64 x] w fun e w'=>e=.returned (.int .i64 (aP L x:Nat))∧w'=w:=by
 have hp:=eX L x hx
 rw[hL.1]at hp
 have HB:Hid (∀ q,q<aP L x→L.getD q 0≠x):=aa fun q hq=>vS hq
 obtain⟨p,h1⟩:∃p,p=aP L x:=⟨_,rfl⟩
 rw[← h1]at hp HB ⊢
 obtain⟨h5,h2⟩:=hp
 obtain⟨b,off,rfl,hc⟩:=hL.2 (by omega)
 have HC:=aa hc
 have h3:=aa h2
 clear hL hx hc h1 h2
 go_enter Tryz.func48,Tryz.ntmps48
 go_wp2_with fail
 go_loopw [5,8] (fun s5 iv' wx=>∃q:Nat,q≤p∧iv'=.int .i64 q∧wx=w) (fun _ iv' _=>n - (intOf iv').toNat)
 case atStart=>exact⟨0,Nat.zero_le _,rfl,rfl⟩
 case round=>
  obtain⟨q,hq,rfl,rfl⟩:=hrel
  have h4:q<n:=by omega
  have dq:decide ((q:Int)<(n:Int))=true:=ar (by omega)
  have cq:=HC.out q h4
  by_cases e:q=p
  ·subst e
   rw[h3.out]at cq
   have d2:((x:Int)==(x:Int))=true:=beq_self_eq_true _
   go_wp2_with fail
   go_ret
   exact⟨rfl,rfl⟩
  ·have h0:=HB.out q (by omega)
   obtain⟨y,hy⟩:∃y,y=L.getD q 0:=⟨_,rfl⟩
   rw[← hy]at cq h0
   have d2:((x:Int)==(y:Int))=false:=by rw[beq_eq_false_iff_ne];omega
   have d3:(x==y)=false:=by rw[beq_eq_false_iff_ne];exact fun h=>h0 h.symm
   have e2:q+1≤p:=by omega
   clear hy h0
   go_wp2_with fail
   go_roundw
   case rel=>exact⟨q+1,e2,by go_num,trivial⟩
   case measure=>simp[intOf];omega
theorem nI(w:World)(n:Nat)(hn:n≤1000):
 Calls Tryz.prog 123 #[.int .i64 n] w fun e w'=>e=.returned (.slice (some ⟨w.heap.size,0,none⟩) n n)∧aB w' w.heap.size w.heap.size n n (fun j=>j)∧Below w.heap.size w w':=by
 have h4:=bA w n (by omega)
 have HM:=aa (a9 w w.heap.size n (ah _) (by omega))
 have h1:=aa ((Below.refl w.heap.size w).alloc (ah _) (.cells (madeCells #[.int .i64 0] n) 3))
 go_enter Tryz.func123,Tryz.ntmps123
 go_wp2_with fail
 go_loopw [4,9] (fun s4 iv' wx=>∃i:Nat,i≤n∧iv'=.int .i64 i∧aB wx w.heap.size w.heap.size n n (fun j=>if j<i then j else 0)∧Below w.heap.size w wx) (fun _ iv' _=>n - (intOf iv').toNat)
 case atStart=>
  refine⟨0,Nat.zero_le _,rfl,?_,h1.out⟩
  have e:(fun j=>if j<0 then j else 0)=fun _=>0:=by
   funext j
   rw[if_neg (by omega)]
  rw[e]
  exact HM.out
 case round=>
  clear HM h1 h4
  obtain⟨i,hi,rfl,hf,hb⟩:=hrel
  by_cases e:i<n
  ·have di:decide ((i:Int)<(n:Int))=true:=ar (by omega)
   have h5:(0:Int)≤(i:Int):=by omega
   have c3:=hf.cell i e
   have f3:=hf.frozen i
   have hs:=hf.set i i
   have h2:(fun s=>if s=i then i else if s<i then s else 0)=fun s=>if s<i+1 then s else 0:=by
    funext s
    by_cases es:s=i
    ·rw[if_pos es,if_pos (by omega),es]
    ·rw[if_neg es]
     by_cases e2:s<i
     ·rw[if_pos e2,if_pos (by omega)]
     ·rw[if_neg e2,if_neg (by omega)]
   rw[h2]at hs
   have HS:=aa hs
   have h0:=aa (hb.setCell (p:=⟨w.heap.size,i,none⟩) (ah _) (.int .i64 (i:Nat)))
   clear hf hb hs h2
   go_wp2_with fail
   go_roundw
   case rel=>exact⟨i+1,by omega,by go_num,HS.out,h0.out⟩
   case measure=>simp[intOf];omega
  ·obtain rfl:i=n:=by omega
   have di:decide ((i:Int)<(i:Int))=false:=ao (by omega)
   have h3:wr.ownsRow w.heap.size 3 1 (.slice (some ⟨w.heap.size,0,none⟩) i i) i (bY i fun j=>if j<i then j else 0):=hf
   rw[bN i _ (fun j=>j) fun j hj=>if_pos hj]at h3
   have HS:=aa h3
   have h0:=aa hb
   clear hf hb h3
   go_wp2_with fail
   go_ret
   exact⟨rfl,HS.out,h0.out⟩
theorem gw{B g c n:Nat}:∀(vs:List Nat) (o:Nat) (w:World) (f:Nat→Nat),aB w B g c n f→aB (w.setCells g o (vs.map iv)) B g c n (fun j=>if o≤j∧j<o+vs.length then vs.getD (j - o) 0 else f j)
 | [],o,w,f,h=>by
   have e:(fun j=>if o≤j∧j<o+([]:List Nat).length then([]:List Nat).getD (j - o) 0 else f j)=f:=by
    funext j
    rw[if_neg (by simp)]
   rw[e]
   exact h
 | v :: vs,o,w,f,h=>by
   have h2:=gw vs (o+1) _ _ (h.set o v)
   have e:(fun j=>if o+1≤j∧j<o+1+vs.length then vs.getD (j - (o+1)) 0 else if j=o then v else f j)=fun j=>if o≤j∧j<o+(v :: vs).length then(v :: vs).getD (j - o) 0 else f j:=by
    funext j
    by_cases e1:j=o
    ·rw[if_neg (by omega),if_pos e1,if_pos (by simp;omega),e1,Nat.sub_self]
     rfl
    ·by_cases e2:o+1≤j∧j<o+1+vs.length
     ·rw[if_pos e2,if_pos (by simp;omega),show j - o=(j - (o+1))+1 by omega]
      rfl
     ·rw[if_neg e2,if_neg e1,if_neg (by simp;omega)]
   rw[e]at h2
   exact h2
theorem n8(w:World)(g i:Nat)(j:Nat):w.cell? ((⟨g,i,none⟩:Addr).add j)=w.cell? ⟨g,i+j,none⟩:=by
 congr 1
 unfold Addr.add
 split <;>simp_all
theorem tN{P:Program}{w w':World}{ops:Array Oper}{rest:List Oper}{o:Oper}{a:Act}{Q:Exit→Act→World→Prop}(h1:o.guard=none)(d s:Operand)(dT sT:TypeId)
 (ho:o.op=.call { callee:=.builtin .copy,args:=#[d,s],argTypes:=#[dT,sT] }) (dv sv:Value) (k:Nat) (hd:a.eval d=dv) (hs:a.eval s=sv) (h0:(Builtin.copy_ #[dT,sT] o.type #[dv,sv]).run P w=.ok (goInt k) w')
 (h:wpList P ops Q rest (a.put o.dst (goInt k)) w'):wpList P ops Q (o :: rest) a w:=by
 refine wpList_plain h1 fun K hK=> ?_
 unfold Oper.wp
 simp[execOp,ho,resolve,invoke,builtin,hd,hs,h0,Result.andThen]
 exact hK _ _ h
theorem kB{B:Nat}{w:World}{g:Nat}(hg:B≤g):∀(vs:List Value) (o:Nat) (w':World),Below B w w'→Below B w (w'.setCells g o vs)
 | [],_,_,h=>h
 | v :: vs,o,_,h=>kB hg vs (o+1) _ (h.setCell (p:=⟨g,o,none⟩) hg v)
def lH(f:Nat→Nat)(p j:Nat):Nat:=if j=0 then f p else if j≤p then f (j - 1)else f j
def Jr(B:Nat)(w:World)(g n c:Nat)(f:Nat→Nat)(p:Nat)(e:Ending)(w':World):Prop:=e=.returned (.tuple #[])∧aB w' B g c n (lH f p)∧ak B [g] [] w w'
theorem yQ(B:Nat)(w:World)(g n c:Nat)(f:Nat→Nat)(p:Nat)(hf:aB w B g c n f)(hp:p<n)(hi:n≤1000000):
 Calls Tryz.prog 124 #[.slice (some ⟨g,0,none⟩) n c,.int .i64 p] w (Jr B w g n c f p):=by
 have hB:=hf.lt.1
 obtain⟨A9,c9,hA,hn,_,_⟩:=aj hf
 simp only[Value.slice.injEq]at hA
 obtain⟨rfl,_,rfl⟩:=hA
 obtain⟨i5,h5,hs,hh,ht⟩:=info_parts Tryz.info3
 have h9:(bY p f).length=p:=dO p f
 have h7:∀j v,(bY p f)[j]? =some v→w.drew.cell? ((⟨g,0,none⟩:Addr).add j)=some v:=by
  intro j v hv
  have hj:j<p:=by have:=(List.getElem?_eq_some_iff.1 hv).1;omega
  rw[n8,Nat.zero_add]
  show w.cell? _=_
  rw[hf.cell j (by omega),←hv,jQ p f j hj]
  rfl
 have h8:∀v∈bY p f,v.oneCell'=true:=by
  intro v hv
  unfold bY at hv
  obtain⟨x,_,rfl⟩:=List.mem_map.1 hv
  rfl
 have h4:∀ty,(Builtin.copy_ #[36,36] ty #[.slice (if c=1 then some ⟨g,0,none⟩else some ⟨g,1,none⟩) (n - 1) (c - 1),.slice (some ⟨g,0,none⟩) p c]).run Tryz.prog w.drew=.ok (goInt p) (w.drew.setCells g 1 (bY p f)):=by
  intro ty
  have h1:(Tryz.prog.info? 3).map (·.size)=some 1:=by rw[h5];exact congrArg some hh
  by_cases h0:p=0
  ·subst h0
   have:=fun d=>run_copy_none (P:=Tryz.prog) w.drew 36 36 ty 3 d (some ⟨g,0,none⟩) (n - 1) (c - 1) 0 c Tryz.underlying36 h1 (Nat.zero_min _)
   exact this _
  ·rw[if_neg (by omega)]
   have:=run_copy_cells (P:=Tryz.prog) w.drew 36 36 ty 3 g 1 (n - 1) (c - 1) ⟨g,0,none⟩ p c (bY p f) Tryz.underlying36 h1 (by rw[h9];exact(Nat.min_eq_left (by omega)).symm) h7
    (fun j hj=>by
      rw[h9]at hj
      show(w.cell? _).isSome=true
      rw[hf.cell (1+j) (by omega)]
      rfl) (fun j hj=>hf.frozen (1+j)) h8
   rw[h9]at this
   exact this
 obtain⟨x,hx⟩:∃x,x=f p:=⟨_,rfl⟩
 have hg:=hf.cell p hp
 rw[← hx]at hg
 have ho:(0:Int)≤(p:Int):=by omega
 have hq:(p:Int)<(n:Int):=by omega
 have hr:(p:Int)≤(c:Int):=by omega
 have hk:(1:Int)≤(n:Int):=by omega
 have hl:(0:Int)<(n:Int):=by omega
 have hm:(n:Int)≤(c:Int):=by omega
 obtain⟨w2,ha⟩:∃w2,w2=w.drew.setCells g 1 (bY p f):=⟨_,rfl⟩
 have h2:aB w2 B g c n (fun j=>if 1≤j∧j<1+p then f (j - 1)else f j):=by
  have h:=gw ((List.range p).map f) 1 w.drew f (hf.drew 1)
  have e:((List.range p).map f).map iv=bY p f:=by unfold bY;rw[List.map_map];rfl
  rw[e,←ha]at h
  have e2:(fun j=>if 1≤j∧j<1+((List.range p).map f).length then((List.range p).map f).getD (j - 1) 0 else f j)=fun j=>if 1≤j∧j<1+p then f (j - 1)else f j:=by
   funext j
   rw[List.length_map,List.length_range]
   by_cases e3:1≤j∧j<1+p
   ·rw[if_pos e3,if_pos e3,cH p f (j - 1) (by omega)]
   ·rw[if_neg e3,if_neg e3]
  rw[e2]at h
  exact h
 have h3:ak B [g] [] w w2:=by
  rw[ha]
  have he:∀(vs:List Value) (o:Nat) (w':World),ak B [g] [] w w'→ak B [g] [] w (w'.setCells g o vs):=by
   intro vs
   induction vs with
   | nil=>exact fun _ _ h=>h
   | cons v r ih=>exact fun o w' h=>ih (o+1) _ (h.set (p:=⟨g,o,none⟩) hB (List.mem_singleton.2 rfl) v)
  exact he _ _ _ (ak.refl B [g] [] w).drew
 rw[← ha]at h4
 have h0:=h2.cell 0 (by omega)
 have f0:=h2.frozen 0
 have h6:Jr B w g n c f p (.returned (.tuple #[])) (w2.setCell ⟨g,0,none⟩ (.int .i64 x)):=by
  refine⟨rfl,?_,h3.set (p:=⟨g,0,none⟩) hB (List.mem_singleton.2 rfl) _⟩
  have h:=h2.set 0 x
  have e:(fun j=>if j=0 then x else if 1≤j∧j<1+p then f (j - 1)else f j)=lH f p:=by
   funext j
   unfold lH
   by_cases e1:j=0
   ·rw[if_pos e1,if_pos e1,hx]
   ·rw[if_neg e1,if_neg e1]
    by_cases e2:j≤p
    ·rw[if_pos (by omega),if_pos e2]
    ·rw[if_neg (by omega),if_neg e2]
  rw[e]at h
  exact h
 obtain⟨z,hz⟩:∃z:Nat,z=(if 1≤0∧0<1+p then f (0 - 1)else f 0):=⟨_,rfl⟩
 rw[← hz]at h0
 have hb:=aa h6
 have hc:=aa h4
 clear h6 h4 ha h7 h8 h9 hf h2 h3 hz hx
 generalize Jr B w g n c f p=PO at*
 go_enter Tryz.func124,Tryz.ntmps124
 go_upto_region 1 with fail
 go_still_tail 5,(by kernel_rfl)
 change wpList _ _ _ _ _ w.drew
 generalize (if c=1 then some (⟨g,0,none⟩:Addr)else some ⟨g,1,none⟩)=dA at*
 refine tN rfl _ _ 36 36 rfl _ _ p rfl rfl (hc.out _) ?_
 go_wp2_with fail
 (try simp only[Exit.inBlock,Exit.then])
 refine bodyPost_ret (results_none rfl _ _ _) rfl ?_
 exact hb.out
def vm(B:Nat)(w:World)(g c n:Nat)(f:Nat→Nat)(L:List Nat)(e:Ending)(w':World):Prop:=e=.returned (.tuple #[])∧aB w' B g c n (fun s=>f s+L.count s)∧ak B [g] [] w w'
theorem rS(L:List Nat)(i _:Nat)(h:i<L.length)(s:Nat):(L.take (i+1)).count s=(L.take i).count s+if L.getD i 0=s then 1 else 0:=by
 have e:L.take (i+1)=L.take i++ [L.getD i 0]:=by
  rw[List.take_succ_eq_append_getElem h,List.getD_eq_getElem?_getD,List.getElem?_eq_getElem h]
  rfl
 rw[e,List.count_append,List.count_singleton]
 simp only[beq_iff_eq]
theorem x8(B:Nat)(w:World)(g c n:Nat)(f:Nat→Nat)(hf:aB w B g c n f)(A:Option Addr)(m d:Nat)(L:List Nat)(hL:aw w A m L)(hA:∀a,A=some a→a.block≠g)(hm:m≤4000000)
 (h4:∀x∈L,x<n) (h6:∀s,s<n→f s≤4000000):
 Calls Tryz.prog 116 #[.slice (some ⟨g,0,none⟩) n c,.slice A m d] w (vm B w g c n f L):=by
 have hh:=hf.lt.1
 have h9:=hL.1
 have HF:=aa hf
 have HL:=aa hL
 have hg:=aa h4
 have h1:=aa h9
 have he:=aa h6
 have HA:=aa hA
 clear hf hL h4 h9 h6 hA
 go_enter Tryz.func116,Tryz.ntmps116
 go_wp2_with fail
 go_loopw [5,8] (fun s5 iv' wx=>∃i:Nat,i≤m∧iv'=.int .i64 i∧aB wx B g c n (fun s=>f s+(L.take i).count s)∧ak B [g] [] w wx) (fun _ iv' _=>m - (intOf iv').toNat)
 case atStart=>
  refine⟨0,Nat.zero_le _,rfl,?_,ak.refl _ _ _ _⟩
  have e:(fun s=>f s+(L.take 0).count s)=f:=by
   funext s
   simp
  rw[e]
  exact HF.out
 case round=>
  clear HF
  obtain⟨i,hi,rfl,hf,hb⟩:=hrel
  by_cases e:i<m
  ·have di:decide ((i:Int)<(m:Int))=true:=ar (by omega)
   have hn:(0:Int)≤(i:Int):=by omega
   have ho:(i:Int)<(m:Int):=by omega
   obtain⟨lb,lo,rfl,h8⟩:=HL.out.2 (by omega)
   have hk:lb≠g:=HA.out _ rfl
   have h0:=h8 i e
   have h2:=rS L i 0 (by rw[h1.out];exact e)
   have h3:L.getD i 0<n:=hg.out _ (by
    rw[List.getD_eq_getElem?_getD,List.getElem?_eq_getElem (by rw[h1.out];exact e)]
    exact List.getElem_mem _)
   have c2:wr.cell? ⟨lb,lo+i,none⟩=some (.int .i64 (L.getD i 0:Nat)):=by
    unfold World.cell? at h0 ⊢
    revert h0
    cases hw:w.heap[lb]? with
    | none=>simp
    | some o=>
      intro h0
      cases o with
      | cells cs t fr=>rw[show wr.heap[lb]? =some (.cells cs t fr)from hb.keep lb cs t fr hw (by simp;exact hk) aq];exact h0
      | _=>simp at h0
   have h5:(L.take i).count (L.getD i 0)≤i:=Nat.le_trans List.count_le_length (by rw[List.length_take];omega)
   obtain⟨x,hx⟩:∃x,x=L.getD i 0:=⟨_,rfl⟩
   rw[← hx]at c2 h2 h3 h5
   have c3:=hf.cell x h3
   have f3:=hf.frozen x
   have hj:=he.out x h3
   obtain⟨v,hv⟩:∃v,v=f x+(L.take i).count x:=⟨_,rfl⟩
   have hp:v≤8000000:=by omega
   rw[← hv]at c3
   obtain⟨v1,ha⟩:∃v1,v1=v+1:=⟨_,rfl⟩
   have hq:(v:Int)+1=(v1:Int):=by omega
   have hs:=hf.set x v1
   have h7:(fun s=>if s=x then v1 else f s+(L.take i).count s)=fun s=>f s+(L.take (i+1)).count s:=by
    funext s
    rw[h2 s]
    by_cases es:s=x
    ·rw[if_pos es,if_pos es.symm,es,ha,hv]
     omega
    ·rw[if_neg es,if_neg (fun h=>es h.symm),Nat.add_zero]
   rw[h7]at hs
   have HS:=aa hs
   have hc:=aa (hb.set (p:=⟨g,x,none⟩) hh (List.mem_singleton.2 rfl) (.int .i64 (v1:Nat)))
   have hr:(0:Int)≤(x:Int):=by omega
   have hl:(x:Int)<(n:Int):=by omega
   clear hf hb h8 h0 h2 hx hv ha hs h7 h5 hj
   go_wp2_with fail
   go_roundw
   case rel=>exact⟨i+1,by omega,by go_num,HS.out,hc.out⟩
   case measure=>simp[intOf];omega
  ·obtain rfl:i=m:=by omega
   have di:decide ((i:Int)<(i:Int))=false:=ao (by omega)
   rw[List.take_of_length_le (Nat.le_of_eq h1.out)]at hf
   have HP:Hid (vm B w g c n f L (.returned (.tuple #[])) wr):=aa ⟨rfl,hf,hb⟩
   clear hf hb
   generalize vm B w g c n f L=PO at*
   go_wp2_with fail
   (try simp only[Exit.inBlock,Exit.then])
   refine bodyPost_ret (results_none rfl _ _ _) rfl ?_
   exact HP.out
def uK(n0:Nat)(t:List Int):Prop:=¬(t.length=n0∧aY t)
instance (n0:Nat) (t:List Int):Decidable (uK n0 t):=inferInstanceAs (Decidable (¬ (_∧_)))
abbrev GE (bx:Nat):Value:=.func (.func 175) #[] #[.pointer (some ⟨bx,0,none⟩)]
theorem zn(w:World)(bx:Nat)(At:Option Addr)(q d:Nat)(T:List (List Int))(hb:Blk w bx 50 #[.slice At q d])(hT:sV w At q T)(hq:0<q)(_:q≤d)(_:q≤maxLen)
 (A:Option Addr) (n c:Nat) (L:List Int) (hL:ZIn w A n L) (hn:n≤maxLen):
 Calls Tryz.prog 175 #[.slice A n c,.pointer (some ⟨bx,0,none⟩)] w fun e w'=>e=.returned (.bool (decide (uK (T.getD 0 []).length L)))∧w'=w:=by
 obtain⟨tb,tq,rfl,h5⟩:=hT.2 hq
 obtain⟨A2,c2,h1,_,_,hm⟩:=h5 0 hq
 rw[Nat.add_zero]at h1
 have h3:=ac hb 0
 have h2:=hL.1
 have HC:=aa (kN w A n c L hL hn)
 have h6:(0:Int)<(q:Int):=by omega
 obtain⟨m,h4⟩:∃m,m=(T.getD 0 []).length:=⟨_,rfl⟩
 rw[← h4]at h1 hm ⊢
 have q0:w.cell? ⟨bx,0,none⟩=some (.slice (some ⟨tb,tq,none⟩) q d):=h3.trans rfl
 obtain⟨ans,h0⟩:∃ans,ans=decide (uK m L):=⟨_,rfl⟩
 rw[← h0]
 unfold maxLen at hm hn
 by_cases e:n=m
 ·by_cases e2:aY L
  ·rw[if_pos e2]at HC
   have ha:ans=false:=by rw[h0];exact decide_eq_false fun h=>h ⟨h2.trans e,e2⟩
   have dd:((n:Int) != (m:Int))=false:=by rw[e];exact bne_self_eq_false _
   have dn:(n:Int)=(m:Int):=by rw[e]
   subst ha
   clear hL hT h5 hb h3 h0 h4 e e2 h2
   go_enter Tryz.func175,Tryz.ntmps175
   go_wp2_with fail
   refine HC.out.mono ?_
   rintro e w1 ⟨rfl,rfl⟩
   go_wp2_with fail
   go_ret
   exact⟨rfl,rfl⟩
  ·rw[if_neg e2]at HC
   have ha:ans=true:=by rw[h0];exact decide_eq_true fun h=>e2 h.2
   have dd:((n:Int) != (m:Int))=false:=by rw[e];exact bne_self_eq_false _
   have dn:(n:Int)=(m:Int):=by rw[e]
   subst ha
   clear hL hT h5 hb h3 h0 h4 e e2 h2
   go_enter Tryz.func175,Tryz.ntmps175
   go_wp2_with fail
   refine HC.out.mono ?_
   rintro e w1 ⟨rfl,rfl⟩
   go_wp2_with fail
   go_ret
   exact⟨rfl,rfl⟩
 ·have ha:ans=true:=by rw[h0];exact decide_eq_true fun h=>e (h2.symm.trans h.1)
  have dd:((n:Int) != (m:Int))=true:=by rw[bne_iff_ne];omega
  have dn:¬(n:Int)=(m:Int):=by omega
  subst ha
  clear hL hT h5 hb h3 h0 h4 h2 HC
  go_enter Tryz.func175,Tryz.ntmps175
  go_wp2_with fail
  go_ret
  exact⟨rfl,rfl⟩
theorem Gm(T:List (List Int))(i:Nat)(h:i<T.length):T.take (i+1)=T.take i++ [T.getD i []]:=by
 rw[List.take_succ_eq_append_getElem h,List.getD_eq_getElem?_getD,List.getElem?_eq_getElem h]
 rfl
theorem lW(T:List (List Int))(i:Nat)(h:i<T.length):T.getD i []∈T:=by
 rw[List.getD_eq_getElem?_getD,List.getElem?_eq_getElem h]
 exact List.getElem_mem _
theorem xJ(w:World)(bx:Nat)(At:Option Addr)(q d:Nat)(T:List (List Int))(hb:Blk w bx 50 #[.slice At q d])(hT:sV w At q T)(hq:0<q)(hj:q≤d)(ho:q≤1000000):
 Calls Tryz.prog 214 #[.slice At q d,GE bx] w fun e w'=>∃k:Int,e=.returned (.int .i64 k)∧(0≤k↔∃t∈T,uK (T.getD 0 []).length t)∧w'=w:=by
 have ha:=hT.1
 have HW:=aa fun(A:Option Addr) (n c:Nat) (L:List Int) (hL:ZIn w A n L) (hn:n≤maxLen)=>zn w bx At q d T hb hT hq hj (by unfold maxLen;omega) A n c L hL hn
 obtain⟨n0,he⟩:∃n0,n0=(T.getD 0 []).length:=⟨_,rfl⟩
 rw[← he]at HW ⊢
 obtain⟨tb,tq,rfl,hg⟩:=hT.2 hq
 have hh:=aa hg
 have h7:=aa ha
 clear hT hb hg ha he
 go_enter Tryz.func214,Tryz.ntmps214
 go_wp2_with fail
 go_loopw [5,8] (fun s5 x wx=>∃i:Nat,i≤q∧x=.int .i64 i∧Hid (¬ ∃t∈T.take i,uK n0 t)∧wx=w) (fun _ x _=>q - (intOf x).toNat)
 case atStart=>
  refine⟨0,Nat.zero_le _,rfl,aa ?_,rfl⟩
  rintro⟨x,hx,_⟩
  cases hx
 case round=>
  obtain⟨i,hi,rfl,hf,rfl⟩:=hrel
  by_cases e:i<q
  ·have d0:decide ((i:Int)<(q:Int))=true:=ar (by omega)
   have hk:(0:Int)≤(i:Int):=by omega
   have hl:(i:Int)<(q:Int):=by omega
   obtain⟨A2,c2,h1,h2,_,hm⟩:=hh.out i e
   have h3:=aa (HW.out A2 (T.getD i []).length c2 (T.getD i []) h2 hm)
   have h9:=aa (Gm T i (by rw[h7.out];exact e))
   have h4:=aa (lW T i (by rw[h7.out];exact e))
   obtain⟨t,ht⟩:∃t,t=T.getD i []:=⟨_,rfl⟩
   rw[← ht]at h1 hm h3 h9 h4
   obtain⟨m,hc⟩:∃m,m=t.length:=⟨_,rfl⟩
   rw[← hc]at h1 hm h3
   clear h2 ht hc
   by_cases hb:uK n0 t
   ·rw[decide_eq_true hb]at h3
    have h6:=aa hb
    clear hb
    go_wp2_with fail
    refine h3.out.mono ?_
    rintro e w1 ⟨rfl,rfl⟩
    go_wp2_with fail
    go_ret
    exact⟨i,rfl,⟨fun _=>⟨t,h4.out,h6.out⟩,fun _=>by omega⟩,rfl⟩
   ·rw[decide_eq_false hb]at h3
    have h6:=aa hb
    clear hb
    go_wp2_with fail
    refine h3.out.mono ?_
    rintro e w1 ⟨rfl,rfl⟩
    go_wp2_with fail
    go_roundw
    case rel=>
     refine⟨i+1,by omega,by go_num,aa ?_,trivial⟩
     rw[h9.out]
     rintro⟨y,hy,h8⟩
     rcases List.mem_append.1 hy with hy | hy
     ·exact hf.out ⟨y,hy,h8⟩
     ·rw[List.mem_singleton.1 hy]at h8
      exact h6.out h8
    case measure=>simp[intOf];omega
  ·obtain rfl:i=q:=by omega
   have d0:decide ((i:Int)<(i:Int))=false:=ao (by omega)
   have h0:=hf.out
   rw[List.take_of_length_le (Nat.le_of_eq h7.out)]at h0
   have h5:=aa h0
   clear h0
   go_wp2_with fail
   go_ret
   exact⟨-1,rfl,⟨fun h=>absurd h (by omega),fun h=>absurd h h5.out⟩,rfl⟩
theorem rF(w:World)(bx:Nat)(At:Option Addr)(q d:Nat)(T:List (List Int))(hb:Blk w bx 50 #[.slice At q d])(hT:sV w At q T)(hq:0<q)(h2:q≤d)(h0:q≤1000000):
 Calls Tryz.prog 177 #[.slice At q d,GE bx] w fun e w'=>e=.returned (.bool (decide (∃ t∈T,uK (T.getD 0 []).length t)))∧w'=w:=by
 have HI:=aa (xJ w bx At q d T hb hT hq h2 h0)
 clear hb hT
 go_enter Tryz.func177,Tryz.ntmps177
 go_wp2_with fail
 refine HI.out.mono ?_
 rintro e w1 ⟨k,rfl,hk,rfl⟩
 by_cases h:∃t∈T,uK (T.getD 0 []).length t
 ·have d0:decide ((0:Int)≤k)=true:=decide_eq_true (hk.2 h)
  have HD:=aa (decide_eq_true h)
  clear hk h
  go_wp2_with fail
  go_ret
  rw[HD.out]
  exact⟨rfl,rfl⟩
 ·have d0:decide ((0:Int)≤k)=false:=decide_eq_false fun h1=>h (hk.1 h1)
  have HD:=aa (decide_eq_false h)
  clear hk h
  go_wp2_with fail
  go_ret
  rw[HD.out]
  exact⟨rfl,rfl⟩
def wb(T:List (List Int)):Prop:=2≤T.length∧T.length≤6∧3≤(T.getD 0 []).length∧∀t∈T,t.length=(T.getD 0 []).length∧aY t
instance (T:List (List Int)):Decidable (wb T):=inferInstanceAs (Decidable (_∧_))
theorem rD(w:World)(At:Option Addr)(q d:Nat)(T:List (List Int))(hT:sV w At q T)(hj:q≤d)(hi:q≤maxLen):
 Calls Tryz.prog 120 #[.slice At q d] w fun e w'=>e=.returned (.bool (decide (wb T)))∧Below w.heap.size w w':=by
 have hf:=hT.1
 obtain⟨ans,h0⟩:∃ans,ans=decide (wb T):=⟨_,rfl⟩
 rw[← h0]
 have h7:Below w.heap.size w (w.alloc (.cells #[.slice At q d] 50)):=(Below.refl _ _).alloc (ah _) _
 have h9:Blk (w.alloc (.cells #[.slice At q d] 50)) w.heap.size 50 #[.slice At q d]:=ag w _ _
 have h8:=hT.below h7
 unfold maxLen at hi
 by_cases h1:q<2
 ·have d1:decide ((q:Int)<2)=true:=ar (by omega)
  have ha:ans=false:=by rw[h0];exact decide_eq_false fun h=>by have:=h.1;omega
  subst ha
  have HB:=aa h7
  clear h0 hT h8 h7 h9 hf
  go_enter Tryz.func120,Tryz.ntmps120
  go_wp2_with fail
  go_ret
  exact⟨rfl,HB.out⟩
 ·have d1:decide ((q:Int)<2)=false:=ao (by omega)
  by_cases h2:6<q
  ·have d2:decide ((6:Int)<(q:Int))=true:=ar (by omega)
   have ha:ans=false:=by rw[h0];exact decide_eq_false fun h=>by have:=h.2.1;omega
   subst ha
   have HB:=aa h7
   clear h0 hT h8 h7 h9 hf
   go_enter Tryz.func120,Tryz.ntmps120
   go_wp2_with fail
   go_ret
   exact⟨rfl,HB.out⟩
  ·have d2:decide ((6:Int)<(q:Int))=false:=ao (by omega)
   obtain⟨tb,tq,rfl,hh⟩:=h8.2 (by omega)
   obtain⟨A2,c2,h3,_,_,hm⟩:=hh 0 (by omega)
   rw[Nat.add_zero]at h3
   have HE:=aa (li (w.alloc (.cells #[.slice (some ⟨tb,tq,none⟩) q d] 50)) ((T.getD 0 []).length:Nat))
   have HC:=aa (rF _ w.heap.size _ q d T h9 h8 (by omega) hj (by omega))
   have q0:(w.alloc (.cells #[.slice (some ⟨tb,tq,none⟩) q d] 50)).cell? ⟨w.heap.size,0,none⟩=some (.slice (some ⟨tb,tq,none⟩) q d):=(ac h9 0).trans rfl
   have hk:(0:Int)<(q:Int):=by omega
   obtain⟨m,hg⟩:∃m,m=(T.getD 0 []).length:=⟨_,rfl⟩
   have he:=aa hg
   have h6:=aa h0
   have HQ:=aa (show 2≤T.length∧T.length≤6 by omega)
   have hc:=aa (lW T 0 (by omega))
   rw[← hg]at h3 hm HE
   have HB:=aa h7
   clear h0 hT h8 h7 h9 hf hh hg
   unfold maxLen at hm
   by_cases h4:3≤(m:Int)∧(m:Int)≤258
   ·rw[decide_eq_true h4]at HE
    by_cases h5:∃t∈T,uK (T.getD 0 []).length t
    ·rw[decide_eq_true h5]at HC
     have ha:ans=false:=by
      rw[h6.out]
      refine decide_eq_false fun h=> ?_
      obtain⟨t,ht,hb⟩:=h5
      exact hb (h.2.2.2 t ht)
     subst ha
     clear h5 h6 h4
     go_enter Tryz.func120,Tryz.ntmps120
     go_upto_region 1 with fail
     generalize w.alloc (.cells #[.slice (some ⟨tb,tq,none⟩) q d] 50)=w1 at*
     go_wp2_with fail
     refine HE.out.mono ?_
     rintro e w2 ⟨rfl,rfl⟩
     go_wp2_with fail
     refine HC.out.mono ?_
     rintro e w2 ⟨rfl,rfl⟩
     go_wp2_with fail
     go_ret
     exact⟨rfl,HB.out⟩
    ·rw[decide_eq_false h5]at HC
     have ha:ans=true:=by
      rw[h6.out]
      refine decide_eq_true ⟨HQ.out.1,HQ.out.2,by rw[← he.out];omega,fun t ht=> ?_⟩
      refine Decidable.by_contra fun hb=>h5 ⟨t,ht,hb⟩
     subst ha
     clear h5 h6 h4
     go_enter Tryz.func120,Tryz.ntmps120
     go_upto_region 1 with fail
     generalize w.alloc (.cells #[.slice (some ⟨tb,tq,none⟩) q d] 50)=w1 at*
     go_wp2_with fail
     refine HE.out.mono ?_
     rintro e w2 ⟨rfl,rfl⟩
     go_wp2_with fail
     refine HC.out.mono ?_
     rintro e w2 ⟨rfl,rfl⟩
     go_wp2_with fail
     go_ret
     exact⟨rfl,HB.out⟩
   ·rw[decide_eq_false h4]at HE
    have ha:ans=false:=by
     rw[h6.out]
     refine decide_eq_false fun h=>h4 ⟨?_,?_⟩
     ·have:=h.2.2.1
      rw[← he.out]at this
      omega
     ·have:=(h.2.2.2 _ hc.out).2.2.1
      rw[← he.out]at this
      omega
    subst ha
    clear h6 h4 HC
    go_enter Tryz.func120,Tryz.ntmps120
    go_upto_region 1 with fail
    generalize w.alloc (.cells #[.slice (some ⟨tb,tq,none⟩) q d] 50)=w1 at*
    go_wp2_with fail
    refine HE.out.mono ?_
    rintro e w2 ⟨rfl,rfl⟩
    go_wp2_with fail
    go_ret
    exact⟨rfl,HB.out⟩
theorem oN(f:Nat→Int):∀k,1≤k→∃b:Int,(∀ i,i<k→b≤f i)∧∃i,i<k∧f i=b
 | 0,h=>by omega
 | k+1,_=>by
   by_cases e:k=0
   ·subst e
    exact⟨f 0,fun i hi=>by rw[show i=0 by omega];exact Int.le_refl _,0,by omega,rfl⟩
   ·obtain⟨b,hb,j,hj,h0⟩:=oN f k (by omega)
    by_cases e2:b≤f k
    ·refine⟨b,fun i hi=> ?_,j,by omega,h0⟩
     by_cases e3:i=k
     ·rw[e3];exact e2
     ·exact hb i (by omega)
    ·refine⟨f k,fun i hi=> ?_,k,by omega,rfl⟩
     by_cases e3:i=k
     ·rw[e3];exact Int.le_refl _
     ·have:=hb i (by omega)
      omega
theorem DL(f:Nat→Int)(k:Nat)(h:1≤k):∃b:Int,(∀ i,i<k→f i≤b)∧∃i,i<k∧f i=b:=by
 obtain⟨b,hb,i,hi,h0⟩:=oN (fun i=> - f i) k h
 exact⟨-b,fun j hj=>by have:=hb j hj;omega,i,hi,by omega⟩
theorem Jm(w:World)(A:Option Addr)(n c:Nat)(L:List Int)(hL:ZIn w A n L)(h1:1≤n)(hn:n≤maxLen)(a:Int)(ha:(∀ i,i<n→a≤L.getD i 0)∧∃i,i<n∧L.getD i 0=a):
 Calls Tryz.prog 121 #[.slice A n c] w fun e w'=>e=.returned (.int .i64 a)∧w'=w:=by
 refine(qp w A n c L hL h1 hn).mono ?_
 rintro e w' ⟨b,rfl,hb,rfl⟩
 have:b=a:=by
  obtain⟨i,hi,h0⟩:=ha.2
  obtain⟨j,hj,h3⟩:=hb.2
  have h1:=ha.1 j hj
  have h2:=hb.1 i hi
  omega
 rw[this]
 exact⟨rfl,rfl⟩
theorem Jw(w:World)(A:Option Addr)(n c:Nat)(L:List Int)(hL:ZIn w A n L)(h1:1≤n)(hn:n≤maxLen)(a:Int)(ha:(∀ i,i<n→L.getD i 0≤a)∧∃i,i<n∧L.getD i 0=a):
 Calls Tryz.prog 122 #[.slice A n c] w fun e w'=>e=.returned (.int .i64 a)∧w'=w:=by
 refine(nD w A n c L hL h1 hn).mono ?_
 rintro e w' ⟨b,rfl,hb,rfl⟩
 have:b=a:=by
  obtain⟨i,hi,h0⟩:=ha.2
  obtain⟨j,hj,h3⟩:=hb.2
  have h1:=ha.1 j hj
  have h2:=hb.1 i hi
  omega
 rw[this]
 exact⟨rfl,rfl⟩
theorem gH{T:List (List Int)}{P:List Int}:aR T P↔wb T∧1≤P.length∧P.length≤32767∧∀x∈P,0≤x∧x<(T.length:Int):=
 ⟨fun h=>⟨⟨h.1,h.2.1,h.2.2.2.2.2.2,h.2.2.2.2.1⟩,h.2.2.1,h.2.2.2.1,h.2.2.2.2.2.1⟩,fun h=>⟨h.1.1,h.1.2.1,h.2.1,h.2.2.1,h.1.2.2.2,h.2.2.2,h.1.2.2.1⟩⟩
theorem cK(w:World)(v:Value)(T:List (List Int))(P:List Int)(hv:aN w v T P):
 Calls Tryz.prog 65 #[v] w fun e w'=>e=.returned (.bool (decide (aR T P)))∧Below w.heap.size w w':=by
 obtain⟨A,q,c,B,m,d,rfl,hT,ho,hq,hP,hp,hm⟩:=hv
 obtain⟨ans,h5⟩:∃ans,ans=decide (aR T P):=⟨_,rfl⟩
 rw[← h5]
 have h7:Below w.heap.size w (w.alloc (.cells #[.slice A q c,.slice B m d] 52)):=(Below.refl _ _).alloc (ah _) _
 have hc:Blk (w.alloc (.cells #[.slice A q c,.slice B m d] 52)) w.heap.size 52 #[.slice A q c,.slice B m d]:=ag w _ _
 have HT:=aa (rD _ A q c T (hT.below h7) ho hq)
 have hi:=hP.below h7
 have hf:=hT.1
 have hj:=hP.1
 have hg:=hm
 unfold maxLen at hm hq
 by_cases h1:wb T
 ·rw[decide_eq_true h1]at HT
  by_cases h2:m<1
  ·have d2:decide ((m:Int)<1)=true:=ar (by omega)
   have ha:ans=false:=by rw[h5];exact decide_eq_false fun h=>by have:=(gH.1 h).2.1;omega
   subst ha
   have HB:=aa h7
   have HK:=aa hc
   clear h5 hT hP h7 hc hi h1 hf hj hg
   go_enter Tryz.func65,Tryz.ntmps65
   go_upto_region 1 with fail
   generalize w.alloc (.cells #[.slice A q c,.slice B m d] 52)=w1 at*
   have q0:w1.cell? ⟨w.heap.size,0,none⟩=some (.slice A q c):=(ac HK.out 0).trans rfl
   go_wp2_with fail
   refine HT.out.mono ?_
   rintro e w2 ⟨rfl,h0⟩
   have h6:=aL h0 HK.out
   have q1:w2.cell? ⟨w.heap.size,1,none⟩=some (.slice B m d):=(ac h6 1).trans rfl
   have h9:=aa (ap HB.out h0)
   clear h6 h0 HB HK
   go_wp2_with fail
   go_ret
   exact⟨rfl,h9.out⟩
  ·have d2:decide ((m:Int)<1)=false:=ao (by omega)
   by_cases h3:32767<m
   ·have d3:decide ((32767:Int)<(m:Int))=true:=ar (by omega)
    have ha:ans=false:=by rw[h5];exact decide_eq_false fun h=>by have:=(gH.1 h).2.2.1;omega
    subst ha
    have HB:=aa h7
    have HK:=aa hc
    clear h5 hT hP h7 hc hi h1 hf hj hg h3
    go_enter Tryz.func65,Tryz.ntmps65
    go_upto_region 1 with fail
    generalize w.alloc (.cells #[.slice A q c,.slice B m d] 52)=w1 at*
    have q0:w1.cell? ⟨w.heap.size,0,none⟩=some (.slice A q c):=(ac HK.out 0).trans rfl
    go_wp2_with fail
    refine HT.out.mono ?_
    rintro e w2 ⟨rfl,h0⟩
    have h6:=aL h0 HK.out
    have q1:w2.cell? ⟨w.heap.size,1,none⟩=some (.slice B m d):=(ac h6 1).trans rfl
    have h9:=aa (ap HB.out h0)
    clear h6 h0 HB HK
    go_wp2_with fail
    go_ret
    exact⟨rfl,h9.out⟩
   ·have d3:decide ((32767:Int)<(m:Int))=false:=ao (by omega)
    obtain⟨a,ha⟩:=oN (fun i=>P.getD i 0) m (by omega)
    obtain⟨b,hb⟩:=DL (fun i=>P.getD i 0) m (by omega)
    have hl:=aa fun(w1:World) (h:ZIn w1 B m P)=>Jm w1 B m d P h (by omega) hg a ha
    have hn:=aa fun(w1:World) (h:ZIn w1 B m P)=>Jw w1 B m d P h (by omega) hg b hb
    have he:=pU (m:=(q:Int)) hj ha hb
    have h8:Hid (ans=decide (0≤a∧b<(q:Int))):=aa (by
     rw[h5]
     refine decide_eq_decide.2 ⟨fun h=> ?_,fun h=> ?_⟩
     ·rw[← he,←hf]
      exact(gH.1 h).2.2.2
     ·exact gH.2 ⟨h1,by omega,by omega,by rw[hf];exact he.2 h⟩)
    have HB:=aa h7
    have HK:=aa hc
    have hk:=aa hi
    clear h5 hT hP h7 hc hi h1 hf hj hg h3 ha hb he
    by_cases h4:0≤a
    ·have d4:decide (0≤a)=true:=decide_eq_true h4
     have hcut:ans=decide (b<(q:Int)):=by
      rw[h8.out]
      exact decide_eq_decide.2 ⟨fun h=>h.2,fun h=>⟨h4,h⟩⟩
     subst hcut
     clear h8
     go_enter Tryz.func65,Tryz.ntmps65
     go_upto_region 1 with fail
     generalize w.alloc (.cells #[.slice A q c,.slice B m d] 52)=w1 at*
     have q0:w1.cell? ⟨w.heap.size,0,none⟩=some (.slice A q c):=(ac HK.out 0).trans rfl
     go_wp2_with fail
     refine HT.out.mono ?_
     rintro e w2 ⟨rfl,h0⟩
     have h6:=aL h0 HK.out
     have q1:w2.cell? ⟨w.heap.size,1,none⟩=some (.slice B m d):=(ac h6 1).trans rfl
     have q2:w2.cell? ⟨w.heap.size,0,none⟩=some (.slice A q c):=(ac h6 0).trans rfl
     have h9:=aa (ap HB.out h0)
     have hh:=aa (hk.out.below h0)
     clear h6 h0 HB HK hk HT q0
     go_upto_region 3 with fail
     go_quiet (first | (go_at_call 121;exact Calls.quiet_of_same (hl.out _ (hh.out.below (az (Below.refl _ _) _)))) | (go_at_call 122;exact Calls.quiet_of_same (hn.out _ (hh.out.below (az (Below.refl _ _) _)))))
     go_wp2_with fail
     go_ret
     exact⟨rfl,az h9.out _⟩
    ·have d4:decide (0≤a)=false:=decide_eq_false h4
     have ha:ans=false:=by rw[h8.out];exact decide_eq_false fun h=>h4 h.1
     subst ha
     clear h8
     go_enter Tryz.func65,Tryz.ntmps65
     go_upto_region 1 with fail
     generalize w.alloc (.cells #[.slice A q c,.slice B m d] 52)=w1 at*
     have q0:w1.cell? ⟨w.heap.size,0,none⟩=some (.slice A q c):=(ac HK.out 0).trans rfl
     go_wp2_with fail
     refine HT.out.mono ?_
     rintro e w2 ⟨rfl,h0⟩
     have h6:=aL h0 HK.out
     have q1:w2.cell? ⟨w.heap.size,1,none⟩=some (.slice B m d):=(ac h6 1).trans rfl
     have q2:w2.cell? ⟨w.heap.size,0,none⟩=some (.slice A q c):=(ac h6 0).trans rfl
     have h9:=aa (ap HB.out h0)
     have hh:=aa (hk.out.below h0)
     clear h6 h0 HB HK hk HT q0
     go_upto_region 3 with fail
     go_quiet (first | (go_at_call 121;exact Calls.quiet_of_same (hl.out _ (hh.out.below (az (Below.refl _ _) _)))) | (go_at_call 122;exact Calls.quiet_of_same (hn.out _ (hh.out.below (az (Below.refl _ _) _)))))
     go_wp2_with fail
     go_ret
     exact⟨rfl,az h9.out _⟩
 ·rw[decide_eq_false h1]at HT
  have ha:ans=false:=by rw[h5];exact decide_eq_false fun h=>h1 (gH.1 h).1
  subst ha
  have HB:=aa h7
  have HK:=aa hc
  clear h5 hT hP h7 hc hi h1 hf hj hg
  go_enter Tryz.func65,Tryz.ntmps65
  go_upto_region 1 with fail
  generalize w.alloc (.cells #[.slice A q c,.slice B m d] 52)=w1 at*
  have q0:w1.cell? ⟨w.heap.size,0,none⟩=some (.slice A q c):=(ac HK.out 0).trans rfl
  go_wp2_with fail
  refine HT.out.mono ?_
  rintro e w2 ⟨rfl,h0⟩
  have h9:=aa (ap HB.out h0)
  clear h0 HB HK
  go_wp2_with fail
  go_ret
  exact⟨rfl,h9.out⟩
end Go.Proofs.YthakcjehhlpjnaaGreat
