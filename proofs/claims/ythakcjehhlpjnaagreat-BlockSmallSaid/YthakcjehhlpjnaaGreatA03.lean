import Derived.Test.YthakcjehhlpjnaaGreatA02
import Derived.Deep.CutRange
set_option maxHeartbeats 3200000
set_option maxRecDepth 100000
namespace Go.Proofs.YthakcjehhlpjnaaGreat
open Go.RowKit
theorem eZ{w:World}{A:Option Addr}{m:Nat}{L:List Int}(h:ZIn w A m L)(hv:∀x∈L,0≤x):aT w A m (L.map Int.toNat):=by
 refine⟨by rw[List.length_map];exact h.1,fun hm=> ?_⟩
 obtain⟨b,off,rfl,hc⟩:=h.2 hm
 refine⟨b,off,rfl,fun i hi=> ?_⟩
 have h1:i<L.length:=by rw[h.1];exact hi
 rw[hc i hi,List.getD_eq_getElem?_getD,List.getD_eq_getElem?_getD,List.getElem?_map,List.getElem?_eq_getElem (by rw[h.1];exact hi)]
 have h0:=hv (L[i]'h1) (List.getElem_mem _)
 show some (Value.int .i64 (L[i]'h1))=some (.int .i64 (((L[i]'h1).toNat:Nat):Int))
 rw[Int.toNat_of_nonneg h0]
def qU(L:List Int)(j:Nat):Nat:=max (L.getD j 0).toNat 1
def iS(L:List Int):List Nat:=(List.range L.length).map (qU L)
def jt(w:World)(L:List Int)(most:Int)(e:Ending)(w':World):Prop:=
 ((¬ iG L∨most<12∨20<most)∧∃v,e=.returned (.tuple #[v,.int .i64 2])∧w'.ownsRow w.heap.size 3 1 v 0 []∧Below w.heap.size w w')∨
 (iG L∧12≤most∧most≤20∧∃v len,gn (iS L) most.toNat len∧e=.returned (.tuple #[v,.int .i64 0])∧w'.ownsRow w.heap.size 3 1 v L.length (bW L.length len)∧Below w.heap.size w w')
theorem aB.lower{w:World}{B B' g c n:Nat}{f:Nat→Nat}(h:aB w B g c n f)(hB:B'≤B):aB w B' g c n f:=World.ownsRow.mono h hB
theorem nK(n:Nat)(f:Nat→Nat)(hn:n≤258)(h:∀j,j<n→f j≤1073741824):((List.range n).map f).sum≤1099511627776:=by
 have h1:=uX 1073741824 ((List.range n).map f) (fun x hx=>by
  obtain⟨j,hj,rfl⟩:=List.mem_map.1 hx
  exact h j (List.mem_range.1 hj))
 rw[List.length_map,List.length_range]at h1
 have h2:1073741824*n≤1073741824*258:=Nat.mul_le_mul_left _ hn
 omega
def Ip(w wx:World)(W0:List Nat)(n most gA cA t:Nat)(v:Value):Prop:=∃(gX cX:Nat) (len f:Nat→Nat),t≤40∧v=.slice (some ⟨gX,0,none⟩) n cX∧aB wx w.heap.size gA cA n f∧aB wx w.heap.size gX cX n len∧
 cz W0 t=(List.range n).map f∧j8 (cz W0 t) len∧(∀ j,j<n→f j≤1073741824)∧(∀ q,q<t→∃L1,j8 (cz W0 q) L1∧∃i,i<n∧most<L1 i)∧Below w.heap.size w wx
theorem qw(n:Nat)(f:Nat→Nat):half ((List.range n).map f)=(List.range n).map fun j=>f j / 2+1:=by
 unfold half
 rw[List.map_map]
 rfl
theorem FC(w:World)(A:Option Addr)(n c:Nat)(L:List Int)(most:Nat)(hL:ZIn w A n L)(hM:iG L)(HZ:12≤most)(p0:most≤20):Calls Tryz.prog 186 #[.slice A n c,.int .i64 most] w (jt w L most):=by
 have hT:=hL.1
 have p1:2≤n:=by have:=hM.1;omega
 have hn:n≤258:=by have:=hM.2.1;omega
 have HM:=aa (GD w A n c L hL (by unfold maxLen;omega))
 rw[show decide (iG L)=true from decide_eq_true hM]at HM
 have HP:=eZ hL fun x hx=>(hM.2.2 x hx).1
 have hc:(w.alloc (.cells #[] 3)).ownsRow w.heap.size 3 1 (.slice (some ⟨w.heap.size,0,none⟩) 0 0) 0 []:=World.ownsRow_made w #[] 0 (ah _) (Nat.zero_le _) rfl
 have hY:Below w.heap.size w (w.alloc (.cells #[] 3)):=(Below.refl _ w).alloc (ah _) _
 obtain⟨v3,w3,H3,hU,HN⟩:=iW (w.alloc (.cells #[] 3)) w.heap.size _ 0 [] hc A n c _ (cU HP hY) (by omega) (by simp)
 have HH:Below w.heap.size w w3:=hY.grown HN (by simp) (fun k hk=>(hc.lt k hk).1)
 obtain⟨A3,cA,rfl,HI,_,HD⟩:=aq hU
 obtain⟨gA,rfl⟩:=HD (by omega)
 rw[Nat.zero_add]at hU H3 HI
 obtain⟨f0,hS⟩:∃f0:Nat→Nat,f0=fun j=>(L.getD j 0).toNat:=⟨_,rfl⟩
 have HJ:aB w3 w.heap.size gA cA n f0:=by
  have:=hU
  rw[List.nil_append,nY,List.length_map,hT]at this
  have e:bW n (fun j=>(L.map Int.toNat).getD j 0)=bW n f0:=bJ n _ _ fun j hj=>by
   rw[hS]
   show(L.map Int.toNat).getD j 0=(L.getD j 0).toNat
   rw[List.getD_eq_getElem?_getD,List.getD_eq_getElem?_getD,List.getElem?_map,List.getElem?_eq_getElem (by omega)]
   rfl
  rw[e]at this
  exact this
 have hB:∀j,j<n→f0 j≤1073741824:=by
  intro j hj
  rw[hS]
  have:=(hM.2.2 _ (fb L j (by omega))).2
  show(L.getD j 0).toNat≤_
  omega
 have HE:iS L=(List.range n).map fun j=>max (f0 j) 1:=by
  unfold iS
  rw[hT,hS]
  rfl
 have hP:Hid (∀ (v:Value) (len:Nat→Nat) w',gn (iS L) most len→w'.ownsRow w.heap.size 3 1 v n (bW n len)→Below w.heap.size w w'→jt w L most (.returned (.tuple #[v,.int .i64 0])) w'):=aa fun v len w' h1 h2 h3=>
  .inr ⟨hM,by omega,by omega,v,len,by rw[Int.toNat_natCast];exact h1,rfl,by rw[hT];exact h2,h3⟩
 have m1:decide ((most:Int)<12)=false:=au (by omega)
 have m2:decide ((20:Int)<(most:Int))=false:=au (by omega)
 have HC:=aa H3
 have H6:=aa HJ
 have H5:=aa HH
 have hE:=aa hB
 have hR:=aa HE
 have H8:=aa Cy
 have HU:=aa vb
 generalize jt w L most=PO at*
 clear hL hT hM HP hc hY H3 hU HN HH HD HI hS HJ hB HE
 go_enter Tryz.func186,Tryz.ntmps186
 go_wp2_with fail
 refine HM.out.mono ?_
 rintro e w' ⟨rfl,rfl⟩
 clear HM
 go_wp2_with (at_builtin;refine Lib.wpList_append_run _ rfl (.tmp 22) (.tmp 23) 36 36 rfl (.slice (some ⟨w'.heap.size,0,none⟩) 0 0) (.slice A n c) rfl rfl _ w3 HC.out ?_)
 go_loopw [7] (fun x wx=>∃i:Nat,i≤n∧x=.int .i64 i∧aB wx w'.heap.size gA cA n (fun j=>if j<i then max (f0 j) 1 else f0 j)∧Below w'.heap.size w' wx) (fun x _=>n - (intOf x).toNat)
 case atStart=>
  refine⟨0,Nat.zero_le _,rfl,?_,H5.out⟩
  have e0:(fun j=>if j<0 then max (f0 j) 1 else f0 j)=f0:=by
   funext j
   rw[if_neg (by omega)]
  rw[e0]
  exact H6.out
 case round=>
  obtain⟨i,hi,rfl,hf,hb⟩:=hrel
  by_cases e:i<n
  ·have di:decide ((i:Int)<(n:Int))=true:=aC (by omega)
   have p2:(0:Int)≤(i:Int):=by omega
   have ci:=hf.cell i e
   have fi:=hf.frozen i
   rw[if_neg (by omega)]at ci
   have hg:=hf.lt
   obtain⟨x,hx⟩:∃x,x=f0 i:=⟨_,rfl⟩
   rw[← hx]at ci
   have hO:∀m:Nat,m=max x 1→(fun j=>if j=i then m else if j<i then max (f0 j) 1 else f0 j)=fun j=>if j<i+1 then max (f0 j) 1 else f0 j:=by
    intro m hm
    funext j
    by_cases ej:j=i
    ·rw[if_pos ej,if_pos (by omega),ej,hm,hx]
    ·rw[if_neg ej]
     by_cases ej2:j<i
     ·rw[if_pos ej2,if_pos (by omega)]
     ·rw[if_neg ej2,if_neg (by omega)]
   have H7:=aa hO
   have HF:=aa hf
   have HB:=aa hb
   have HO:w'.heap.size≤gA:=hg.1
   have HW:x≤1073741824:=by rw[hx];exact hE.out i e
   clear hf hb hO hx hg
   by_cases h0:x=0
   ·subst h0
    have hs:=HF.out.set i 1
    rw[H7.out 1 rfl]at hs
    have HS:=aa hs
    have hC:=aa (HB.out.setCell (p:=⟨gA,i,none⟩) HO (.int .i64 ((1:Nat):Int)))
    clear hs
    go_wp2_with fail
    go_roundw
    case rel=>exact⟨i+1,by omega,by go_num,HS.out,hC.out⟩
    case measure=>simp[intOf];omega
   ·have hs:=HF.out.set i x
    rw[H7.out x (by omega)]at hs
    have HS:=aa hs
    have hC:=aa (HB.out.setCell (p:=⟨gA,i,none⟩) HO (.int .i64 (x:Int)))
    have dx:decide ((x:Int)<1)=false:=au (by omega)
    have p4:¬((x:Int)<1):=by omega
    clear hs
    go_wp2_with fail
    go_roundw
    case rel=>exact⟨i+1,by omega,by go_num,HS.out,hC.out⟩
    case measure=>simp[intOf];omega
  ·obtain rfl:i=n:=by omega
   have di:decide ((i:Int)<(i:Int))=false:=au (by omega)
   have ho:aB wr w'.heap.size gA cA i (fun j=>max (f0 j) 1):=by
    have h3:wr.ownsRow w'.heap.size 3 1 (.slice (some ⟨gA,0,none⟩) i cA) i (bW i fun j=>if j<i then max (f0 j) 1 else f0 j):=hf
    rw[bJ i _ (fun j=>max (f0 j) 1) fun j hj=>if_pos hj]at h3
    exact h3
   have h6:∀j,j<i→(fun j=>max (f0 j) 1) j≤1073741824:=fun j hj=>by
    have:=hE.out j hj
    show max (f0 j) 1≤_
    omega
   have hv:=H8.out wr (some ⟨gA,0,none⟩) i cA _ ho.ints (by omega) (by omega) (nK i _ (by omega) h6)
   rw[← hR.out]at hv
   have hH:=aa hv
   have hD:=aa ho
   have hA:=aa hb
   have H2:=ho.lt
   clear hf hb ho hv h6
   go_wp2_with fail
   refine hH.out.mono ?_
   rintro e w5 ⟨gX,cX,len,h5,rfl,HK,hZ⟩
   have H4:=hA.out.size
   have he:Ip w' w5 (iS L) i most gA cA 0 (.slice (some ⟨gX,0,none⟩) i cX):=
    ⟨gX,cX,len,_,by omega,rfl,hD.out.below hZ H2.2,HK.lower H4,hR.out,h5,(fun j hj=>by
      have:=hE.out j hj
      show max (f0 j) 1≤_
      omega),(fun q hq=>by omega),hA.out.trans (hZ.mono H4)⟩
   have hl:=aa he
   have hJ:Hid ((iS L).length=i∧∀x∈iS L,x≤2 ^ 30):=aa (by
    rw[hR.out]
    refine⟨by simp,fun x hx=> ?_⟩
    obtain⟨j,hj,rfl⟩:=List.mem_map.1 hx
    have:=hE.out j (List.mem_range.1 hj)
    show max (f0 j) 1≤2 ^ 30
    have e30:(2:Nat) ^ 30=1073741824:=by decide
    omega)
   clear h5 HK hZ he H4 hR hE hD hA H6 H5 HC hH
   generalize iS L=W0 at*
   go_wp2_with fail
   go_loopw [8,9,10] (fun v x z wx=>∃t:Nat,x=.int .i64 t∧Ip w' wx W0 i most gA cA t v) (fun _ x _ _=>41 - (intOf x).toNat)
   case atStart=>exact⟨0,rfl,hl.out⟩
   case round=>
    clear hl
    rename World=>w6
    obtain⟨t,rfl,gY,cY,len,f,ht,rfl,H1,hN,hw,h5,hB,hq,hb⟩:=hrel
    have hQ:=aa H1
    have hV:=aa hN
    have hW:=aa hw
    have h7:=aa h5
    have hG:=aa hB
    have HQ:=aa hq
    have HB:=aa hb
    have HY:=hb.size
    have h8:(∀ j,j<i→len j≤most)→PO (.returned (.tuple #[.slice (some ⟨gY,0,none⟩) i cY,.int .i64 0])) w6:=fun hall=>by
     have hm:gn (cz W0 t) most len:=.done h5 (by rw[dO,hJ.out.1];exact hall)
     have HV:=mr (w:=W0) t (fun q hq2=>by rw[hJ.out.1];exact hq q hq2) hm
     exact hP.out _ len w6 HV hN hb
    have h4:=aa h8
    by_cases e:t<40
    ·have dt:decide ((t:Int)<40)=true:=aC (by omega)
     have HG:=aa (HU.out w6 (some ⟨gY,0,none⟩) i cY _ hN.ints (by omega) (by omega))
     clear H1 hN hw h5 hB hq hb h8
     go_wp2_with fail
     refine HG.out.mono ?_
     rintro e w7 ⟨g,rfl,hz,rfl⟩
     have hh:Hid ((∀ j,j<i→len j≤g)∧∃j,j<i∧len j=g):=aa (by
      refine⟨fun j hj=> ?_,?_⟩
      ·have h3:((List.range i).map len).getD j 0≤g:=hz.1 j hj
       rw[cI i len j hj]at h3
       exact h3
      ·obtain⟨j,hj,h⟩:=hz.2
       have h3:((List.range i).map len).getD j 0=g:=h
       rw[cI i len j hj]at h3
       exact⟨j,hj,h3⟩)
     clear hz HG
     by_cases e2:most<g
     ·have dg:decide ((most:Int)<(g:Int))=true:=aC (by omega)
      have HA:Hid (∀ q,q<t+1→∃L1,j8 (cz W0 q) L1∧∃j,j<i∧most<L1 j):=aa (by
       intro q hq
       by_cases eq:q=t
       ·subst eq
        obtain⟨j,hj,h⟩:=hh.out.2
        exact⟨len,h7.out,j,hj,by rw[h];exact e2⟩
       ·exact HQ.out q (by omega))
      clear h4 hh HQ h7 hV
      go_wp2_with fail
      go_loopw [10] (fun z wx=>∃j:Nat,j≤i∧z=.int .i64 j∧aB wx w'.heap.size gA cA i (fun a=>if a<j then f a / 2+1 else f a)∧Below w'.heap.size w' wx) (fun z _=>i - (intOf z).toNat)
      case atStart=>
       refine⟨0,Nat.zero_le _,rfl,?_,HB.out⟩
       have e0:(fun a=>if a<0 then f a / 2+1 else f a)=f:=by
        funext a
        rw[if_neg (by omega)]
       rw[e0]
       exact hQ.out
      case round=>
       clear hQ HB HY
       rename World=>w8
       obtain⟨j,hj,rfl,hu,hK⟩:=hrel
       by_cases e3:j<i
       ·have dj:decide ((j:Int)<(i:Int))=true:=aC (by omega)
        have p3:(0:Int)≤(j:Int):=by omega
        have cj:=hu.cell j e3
        have fj:=hu.frozen j
        rw[if_neg (by omega)]at cj
        have hg:=hu.lt
        obtain⟨x,hx⟩:∃x,x=f j:=⟨_,rfl⟩
        rw[← hx]at cj
        obtain⟨y,hy⟩:∃y,y=x / 2:=⟨_,rfl⟩
        obtain⟨y1,HR⟩:∃y1,y1=y+1:=⟨_,rfl⟩
        have pb:(x:Int) / 2=(y:Int):=by omega
        have HW:x≤1073741824:=by rw[hx];exact hG.out j e3
        have p5:y≤1073741824:=by omega
        have HX:(y:Int)+1=(y1:Int):=by omega
        have hs:=hu.set j y1
        have hO:(fun a=>if a=j then y1 else if a<j then f a / 2+1 else f a)=fun a=>if a<j+1 then f a / 2+1 else f a:=by
         funext a
         by_cases ea:a=j
         ·rw[if_pos ea,if_pos (by omega),ea,HR,hy,hx]
         ·rw[if_neg ea]
          by_cases ea2:a<j
          ·rw[if_pos ea2,if_pos (by omega)]
          ·rw[if_neg ea2,if_neg (by omega)]
        rw[hO]at hs
        have HS:=aa hs
        have hC:=aa (hK.setCell (p:=⟨gA,j,none⟩) hg.1 (.int .i64 (y1:Nat)))
        clear hu hK hs hO hx hy HR hg
        go_wp2_with fail
        go_roundw
        case rel=>exact⟨j+1,by omega,by go_num,HS.out,hC.out⟩
        case measure=>simp[intOf];omega
       ·obtain rfl:j=i:=by omega
        have dj:decide ((j:Int)<(j:Int))=false:=au (by omega)
        have ho:aB w8 w'.heap.size gA cA j (fun a=>f a / 2+1):=by
         have h3:w8.ownsRow w'.heap.size 3 1 (.slice (some ⟨gA,0,none⟩) j cA) j (bW j fun a=>if a<j then f a / 2+1 else f a):=hu
         rw[bJ j _ (fun a=>f a / 2+1) fun a ha=>if_pos ha]at h3
         exact h3
        have h6:∀a,a<j→(fun a=>f a / 2+1) a≤1073741824:=fun a ha=>by
         have:=hG.out a ha
         show f a / 2+1≤_
         omega
        have h9:cz W0 (t+1)=(List.range j).map fun a=>f a / 2+1:=by
         rw[cz,hW.out,qw]
        have hv:=H8.out w8 (some ⟨gA,0,none⟩) j cA _ ho.ints (by omega) (by omega) (nK j _ (by omega) h6)
        rw[← h9]at hv
        have hI:=aa hv
        have hD:=aa ho
        have hA:=aa hK
        have hF:=aa h6
        have hp:=aa h9
        have H2:=ho.lt
        have HT:=hK.size
        clear hu hK ho hv h6 h9
        go_wp2_with fail
        refine hI.out.mono ?_
        rintro e w9 ⟨gZ,cZ,len2,hr,rfl,HL,H0⟩
        have he:Ip w' w9 W0 j most gA cA (t+1) (.slice (some ⟨gZ,0,none⟩) j cZ):=
         ⟨gZ,cZ,len2,_,by omega,rfl,hD.out.below H0 H2.2,HL.lower HT,hp.out,hr,hF.out,HA.out,hA.out.trans (H0.mono HT)⟩
        have hl:=aa he
        clear hr HL H0 he hI hD hA hF hp HA
        go_wp2_with fail
        go_roundw
        case rel=>exact⟨t+1,by go_num,hl.out⟩
        case measure=>simp[intOf];omega
     ·have dg:decide ((most:Int)<(g:Int))=false:=au (by omega)
      have hX:=aa (h4.out fun j hj=>by
       have:=hh.out.1 j hj
       omega)
      clear h4 hh HQ h7 hV hQ HB
      go_wp2_with fail
      exact hX.out
    ·have dt:decide ((t:Int)<40)=false:=au (by omega)
     have hX:=aa (h4.out fun j hj=>by
      have:=oY (w:=W0) hJ.out.2 (by rw[hJ.out.1];exact hn) t (by omega) h7.out j (by rw[hJ.out.1];exact hj)
      omega)
     clear h4 HQ h7 hV hQ HB H1 hN hw h5 hB hq hb h8
     go_wp2_with fail
     exact hX.out
def cP(L:List Int):Nat:=(L.map fun x=>2 ^ (20 - x.toNat)).sum
def bL(L:List Int):Prop:=2≤L.length∧L.length≤258∧(∀ x∈L,1≤x∧x≤20)∧cP L≤1048576
instance (L:List Int):Decidable (bL L):=inferInstanceAs (Decidable (_∧_))
theorem yE(L:List Int)(x:Int):cP (L++ [x])=cP L+2 ^ (20 - x.toNat):=by
 unfold cP
 rw[List.map_append,List.sum_append]
 simp
def qV(w:World)(L:List Int)(e:Ending)(w':World):Prop:=
 (¬ iG L∧∃v,e=.returned (.tuple #[v,.int .i64 2])∧w'.ownsRow w.heap.size 3 1 v 0 []∧Below w.heap.size w w')∨
 (iG L∧∃v k,2 ^ k≤L.length∧L.length<2 ^ (k+1)∧e=.returned (.tuple #[v,.int .i64 0])∧w'.ownsRow w.heap.size 3 1 v L.length (bW L.length (bE k (2 ^ (k+1) - L.length) (iS L)))∧Below w.heap.size w w')
theorem xu:∀(l:List Nat) (x:Nat),(∀ y∈l,1≤y)→x∈l→x+(l.length - 1)≤l.sum
 | [],x,_,hx=>absurd hx az
 | z :: l,x,h,hx=>by
   have hl:∀l:List Nat,(∀ y∈l,1≤y)→l.length≤l.sum:=by
    intro l
    induction l with
    | nil=>intro _;exact Nat.le_refl _
    | cons a l ih=>
      intro h
      have:=ih fun y hy=>h y (List.mem_cons_of_mem _ hy)
      have:=h a List.mem_cons_self
      rw[List.length_cons,List.sum_cons]
      omega
   rw[List.length_cons,List.sum_cons]
   rcases List.mem_cons.1 hx with rfl | hx
   ·have:=hl l fun y hy=>h y (List.mem_cons_of_mem _ hy)
    omega
   ·have h1:=xu l x (fun y hy=>h y (List.mem_cons_of_mem _ hy)) hx
    have h2:=h z List.mem_cons_self
    have h3:0<l.length:=List.length_pos_of_mem hx
    omega
def Cn(a:List Nat):List Int:=a.map fun(x:Nat)=>(x:Int)
theorem Eo{n:Nat}{len:Nat→Nat}(h2:2≤n)(hn:n≤258)(hl:∀i,i<n→len i≤20)(hs:((List.range n).map fun i=>2 ^ (20 - len i)).sum=2 ^ 20):bL (Cn ((List.range n).map len))∧cP (Cn ((List.range n).map len))=1048576:=by
 have hk:cP (Cn ((List.range n).map len))=1048576:=by
  unfold cP Cn
  rw[List.map_map,List.map_map]
  have e:(((fun x:Int=>2 ^ (20 - x.toNat)) ∘ fun(x:Nat)=>(x:Int)) ∘ len)=fun i=>2 ^ (20 - len i):=by
   funext i
   show 2 ^ (20 - ((len i:Nat):Int).toNat)=_
   rw[Int.toNat_natCast]
  rw[e,hs]
 have h3:(Cn ((List.range n).map len)).length=n:=by simp[Cn]
 refine⟨⟨by rw[h3];exact h2,by rw[h3];exact hn,fun x hx=> ?_,by rw[hk];exact Nat.le_refl _⟩,hk⟩
 obtain⟨y,hy,rfl⟩:=List.mem_map.1 hx
 obtain⟨i,hi,rfl⟩:=List.mem_map.1 hy
 have hi:=List.mem_range.1 hi
 have h4:=hl i hi
 have h1:1≤len i:=by
  rcases Nat.eq_zero_or_pos (len i)with h0 | h0
  ·exfalso
   have hm:2 ^ 20∈(List.range n).map fun i=>2 ^ (20 - len i):=List.mem_map.2 ⟨i,List.mem_range.2 hi,by rw[h0]⟩
   have:=xu _ _ (fun y hy=>by
    obtain⟨j,_,rfl⟩:=List.mem_map.1 hy
    exact Nat.one_le_two_pow) hm
   rw[hs,List.length_map,List.length_range]at this
   omega
  ·exact h0
 omega
theorem D2(w:World)(L:List Nat):aT (w.alloc (.cells (L.map iv).toArray 3)) (some ⟨w.heap.size,0,none⟩) L.length L:=by
 refine⟨rfl,fun _=>⟨w.heap.size,0,rfl,fun i hi=> ?_⟩⟩
 rw[Nat.zero_add,ac (ag w 3 _)]
 simp[iv,hi]
end Go.Proofs.YthakcjehhlpjnaaGreat
