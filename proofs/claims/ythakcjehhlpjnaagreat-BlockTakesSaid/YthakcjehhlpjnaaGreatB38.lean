import Derived.Test.YthakcjehhlpjnaaGreatB36
import Derived.Test.YthakcjehhlpjnaaGreatB06
import Derived.Test.YthakcjehhlpjnaaGreatB37
set_option maxHeartbeats 6400000
set_option maxRecDepth 100000
namespace Go.Proofs.YthakcjehhlpjnaaGreat
open Go.RowKit
def cgN(L P:List Nat)(t s:Nat):Nat→Nat
 | 0=>0
 | k+1=>cgN L P t s k+if P.getD k 0=t then(cD L k).count s else 0
theorem m6(L P:List Nat)(t s k:Nat):∀m,m≤50→50*k+m≤L.length→ib L P t s (50*k+m)=ib L P t s (50*k)+if P.getD k 0=t then((L.drop (50*k)).take m).count s else 0
 | 0,_,_=>by simp
 | m+1,hm,hl=>by
   rw[← Nat.add_assoc,pr,m6 L P t s k m (by omega) (by omega),show(50*k+m) / 50=k by omega]
   have e:(L.drop (50*k)).take (m+1)=(L.drop (50*k)).take m++ [L.getD (50*k+m) 0]:=by
    rw[List.take_succ_eq_append_getElem (by rw[List.length_drop];omega),List.getElem_drop,List.getD_eq_getElem?_getD,List.getElem?_eq_getElem (by omega)]
    rfl
   rw[e,List.count_append,List.count_singleton]
   by_cases h1:P.getD k 0=t
   ·simp only[h1,if_true,true_and,beq_iff_eq]
    omega
   ·simp only[h1,if_false,false_and]
theorem oZ(L P:List Nat)(t s:Nat):∀k,cgN L P t s k=ib L P t s (min (50*k) L.length)
 | 0=>by simp[cgN,ib]
 | k+1=>by
   rw[cgN,oZ L P t s k]
   by_cases h:50*k≤L.length
   ·rw[Nat.min_eq_left h]
    obtain⟨m,hm⟩:∃m,m=min 50 (L.length - 50*k):=⟨_,rfl⟩
    have h2:=m6 L P t s k m (by omega) (by omega)
    rw[show min (50*(k+1)) L.length=50*k+m by omega,h2]
    have e:cD L k=(L.drop (50*k)).take m:=by
     unfold cD
     by_cases e:m=50
     ·rw[e]
     ·rw[List.take_of_length_le (by rw[List.length_drop];omega),List.take_of_length_le (by rw[List.length_drop];omega)]
    rw[e]
   ·rw[Nat.min_eq_right (by omega),Nat.min_eq_right (by omega)]
    have e:cD L k= []:=by
     unfold cD
     rw[List.drop_eq_nil_of_le (by omega)]
     rfl
    rw[e]
    simp
theorem JF(L P:List Nat)(t s k:Nat):cgN L P t s k≤L.length:=by
 rw[oZ]
 exact Nat.le_trans (mf L P t s _) (Nat.min_le_right _ _)
theorem Iu(L P:List Nat)(t s:Nat):cgN L P t s (aQ L.length)=jA L P t s:=by
 rw[oZ,Nat.min_eq_right (by unfold aQ;omega)]
 rfl
theorem vY(w:World)(A:Option Addr)(n c:Nat)(L:List Nat)(hL:aw w A n L)(p4:n≤c)(hn:n≤2000000)(pl:1≤n)(B:Option Addr)(G d:Nat)(P:List Nat)(hP:aw w B G P)(hG:G=aQ n)
 (T m:Nat) (ps:1≤T) (pv:T≤6) (q3:3≤m) (hm:m≤258) (hV:∀x∈L,x<m) (hW:∀x∈P,x<T):
 Calls Tryz.prog 115 #[.slice B G d,.slice A n c,.int .i64 T,.int .i64 m] w fun e w'=>∃g,e=.returned (.slice (some ⟨g,0,none⟩) T T)∧cG w' w.heap.size g T (fun t=>gD (bh L P t m))∧Below w.heap.size w w':=by
 have H2:=hL.1
 have H3:=hP.1
 have pn:G≤40001∧n≤50*G∧50*G<n+50:=by rw[hG];unfold aQ;omega
 have hw:=sB w T (by omega)
 have hQ:=aa (wf w w.heap.size T m (ah _) (by omega) (fun _=>0) (fun _ _=>0))
 have hN:Hid (Below w.heap.size w (w.alloc (.cells (madeCells #[.slice none 0 0] T) 36))):=aa ((Below.refl _ _).alloc (ah _) _)
 have HM:=aa hL
 have HL:=aa fun(w1:World) (hb:Below w.heap.size w w1)=>bF hL hb
 have HP:=aa fun(w1:World) (hb:Below w.heap.size w w1)=>bF hP hb
 have HJ:=aa hV
 have HO:=aa hW
 have hA:=aa H2
 have HK:=aa H3
 have HG:=aa hG
 clear hL hP hV hW H2 H3 hG
 go_enter Tryz.func115,Tryz.ntmps115
 go_wp2_with fail
 clear hw
 go_loopw [10,20] (fun s10 tv wx=>∃(t:Nat) (R:Nat→Nat),t≤T∧tv=.int .i64 t∧gg wx w.heap.size w.heap.size T m t R (fun _ _=>0)∧Below w.heap.size w wx) (fun _ tv _=>T - (intOf tv).toNat)
 case atStart=>exact⟨0,fun _=>0,Nat.zero_le _,rfl,hQ.out,hN.out⟩
 case round=>
  clear hQ hN
  rename World=>w1
  obtain⟨t,R,ht,rfl,hD,hb⟩:=hrel
  by_cases e:t<T
  ·have dt:decide ((t:Int)<(T:Int))=true:=ar (by omega)
   have pg:(0:Int)≤(t:Int):=by omega
   have pj:(t:Int)<(T:Int):=by omega
   have hv:=hD.lt
   have hw:=bA w1 m (by omega)
   have h2:=a9 w1 w1.heap.size m (ah _) (by omega)
   have hh:Below w1.heap.size w1 (w1.alloc (.cells (madeCells #[.int .i64 0] m) 3)):=(Below.refl _ _).alloc (ah _) _
   have hp:=hD.push hh (by omega) h2 (ah _)
   have q0:(w1.alloc (.cells (madeCells #[.int .i64 0] m) 3)).frozen? ⟨w.heap.size,t,none⟩=false:=(hD.step (am hh)).frozen t
   have hZ:∃v,(w1.alloc (.cells (madeCells #[.int .i64 0] m) 3)).cell? ⟨w.heap.size,t,none⟩=some v:=by
    have:=World.ownsRow.cellAt (hD.step (am hh)).own t (by omega)
    rw[List.getElem?_map,List.getElem?_range e]at this
    exact⟨_,this⟩
   obtain⟨v,hZ⟩:=hZ
   have hJ:=(ap hb hh).setCell (p:=⟨w.heap.size,t,none⟩) (ah _) (.slice (some ⟨w1.heap.size,0,none⟩) m m)
   rw[World.setCell_alloc_past _ _ _ _ hv.2]at hp hJ
   have HN:=aa (hp.same (D:=fun _ _=>0) fun j _=>by
    by_cases ej:j=t
    ·rw[if_pos ej]
    ·rw[if_neg ej])
   have HH:=aa hJ
   clear hp hJ h2 hh hD hb
   go_wp2_with fail
   go_roundw
   case rel=>exact⟨t+1,_,by omega,by go_num,HN.out,HH.out⟩
   case measure=>simp[intOf];omega
  ·obtain rfl:T=t:=by omega
   have dt:decide ((T:Int)<(T:Int))=false:=ao (by omega)
   have HD:=aa hD
   have HB:=aa hb
   have hv:=hD.lt
   clear hD hb
   go_wp2_with fail
   go_loopw [11,12,31] (fun s11 s12 kv wx=>∃k:Nat,k≤G∧kv=.int .i64 k∧gg wx w.heap.size w.heap.size T m T R (fun t s=>cgN L P t s k)∧Below w.heap.size w wx) (fun _ _ kv _=>G - (intOf kv).toNat)
   case atStart=>exact⟨0,Nat.zero_le _,rfl,HD.out,HB.out⟩
   case round=>
    clear HD HB hv
    rename World=>w3
    obtain⟨k,hk,rfl,hD,hb⟩:=hrel
    by_cases e4:k<G
    ·have dk:decide ((k:Int)<(G:Int))=true:=ar (by omega)
     have q2:(0:Int)≤(k:Int):=by omega
     have q1:(k:Int)<(G:Int):=by omega
     have H5:=HP.out w3 hb
     obtain⟨pb,po,rfl,H4⟩:=H5.2 (by omega)
     have pf:=H4 k e4
     obtain⟨y,hy⟩:∃y,y=P.getD k 0:=⟨_,rfl⟩
     have h9:y<T:=by
      rw[hy]
      refine HO.out _ ?_
      rw[List.getD_eq_getElem?_getD,List.getElem?_eq_getElem (by rw[HK.out];exact e4)]
      exact List.getElem_mem _
     rw[← hy]at pf
     have q7:(0:Int)≤(y:Int):=by omega
     have pk:(y:Int)<(T:Int):=by omega
     have c1:=hD.cell y h9 h9
     have hF:=hD.step ((ak.refl w.heap.size [] [] w3).drew)
     have h2:=hF.rows y h9
     have p1:w.heap.size≤R y:=h2.lt.1
     have hT:∀a,A=some a→a.block<w.heap.size:=fun a ha=>by
      obtain⟨b,off,he,hc⟩:=HM.out.2 (by omega)
      rw[he]at ha
      cases ha
      exact World.block_lt_of_cell? w _ (hc 0 (by omega))
     have hI:Below w.heap.size w w3.drew:=hb.drew
     have h5:=aa (qD w3.drew A n c L k (HL.out w3.drew hI) p4 hn (by omega))
     have h6:=aa fun(A2:Option Addr) (c2:Nat) (HS:aw w3.drew A2 (cD L k).length (cD L k)) (HR:∀a,A2=some a→∃a0,A=some a0∧a.block=a0.block)=>x8 w.heap.size w3.drew (R y) m m _ h2 A2 (cD L k).length c2 (cD L k) HS
      (fun a ha=>by
        obtain⟨a0,h0,h1⟩:=HR a ha
        have:=hT a0 h0
        omega) (by rw[na];omega) (fun x hx=>HJ.out x (List.mem_of_mem_drop (List.mem_of_mem_take hx))) (fun s _=>by
        have:=JF L P y s k
        have:=hA.out
        omega)
     obtain⟨gy,h8⟩:∃gy,gy=R y:=⟨_,rfl⟩
     rw[← h8]at c1 h6
     have HD:=aa hF
     have HB:=aa hI
     have HY:=aa hy
     have hr:=aa h8
     clear H5 H4 hy hF h2 p1 hT hI h8 hD hb
     go_wp2_with fail
     go_upto_region 10 with fail
     go_region_held3 (fun w'=>w'.cell? ⟨w.heap.size,y,none⟩=some (.slice (some ⟨gy,0,none⟩) m m)) (first | exact c1 | exact HZ | go_keep)
      (first
        | (go_at_call 70;refine h5.out.mono ?_;rintro e w7 ⟨A2,c2,rfl,p2,pM,HV,rfl⟩;have HI:=aa p2;have HF:=aa HV)
        | (go_at_call 116;refine(h6.out A2 c2 HI.out HF.out).mono ?_;rintro e w8 ⟨rfl,hu,ho⟩;have HZ:w8.cell? ⟨w.heap.size,y,none⟩=some (.slice (some ⟨gy,0,none⟩) m m):=(HD.out.upd h9 (by rw[← hr.out];exact hu) (by rw[← hr.out];exact ho)).cell y h9 h9 |>.trans (by rw[← hr.out])))
     rw[hr.out]at hu ho
     have hq:=HD.out.upd h9 hu ho
     have HU:=aa (hq.same (D:=fun t s=>cgN L P t s (k+1)) fun j hj=>by
      by_cases ej:j=y
      ·rw[if_pos ej,ej]
       funext s
       rw[cgN,←HY.out,if_pos rfl]
      ·rw[if_neg ej]
       funext s
       rw[cgN,←HY.out,if_neg fun h=>ej h.symm,Nat.add_zero])
     have HC:=aa (HB.out.trans ho.below)
     clear hq hu ho HD HB h5 h6
     go_wp2_with fail
     go_roundw
     case rel=>exact⟨k+1,by omega,by go_num,HU.out,HC.out⟩
     case measure=>simp[intOf];omega
    ·obtain rfl:G=k:=by omega
     have dk:decide ((G:Int)<(G:Int))=false:=ao (by omega)
     have hC:=hD.same (D:=fun t s=>jA L P t s) fun j _=>by
      funext s
      rw[← Iu,hA.out,←HG.out]
     have hw:=sB w3 T (by omega)
     have H8:w.heap.size≤w3.heap.size:=hb.size
     have hv:=hC.lt
     have HX:Hid (n6 (w3.alloc (.cells (madeCells #[.slice none 0 0] T) 36)) w3.heap.size w3.heap.size T (fun _=> []) w.heap.size):=aa
      ⟨fun _=>.slice none 0 0,(xt w3 w3.heap.size T (ah _) (by omega)).own,fun j _=>⟨none,0,rfl,Nat.le_refl _,World.ownsRow_nil _ _ _ _,by simp[Value.ownBlock]⟩⟩
     have hO:Hid (Below w3.heap.size w3 (w3.alloc (.cells (madeCells #[.slice none 0 0] T) 36))):=aa ((Below.refl _ _).alloc (ah _) _)
     have HD:=aa hC
     have HB:=aa hb
     clear hD hC hb
     go_wp2_with fail
     clear hw
     go_loopw [14,15,49] (fun s14 s15 tv wx=>∃t:Nat,t≤T∧tv=.int .i64 t∧n6 wx w3.heap.size w3.heap.size T (fun j=>if j<t then gD (bh L P j m)else []) w.heap.size∧Below w3.heap.size w3 wx) (fun _ _ tv _=>T - (intOf tv).toNat)
     case atStart=>
      refine⟨0,Nat.zero_le _,rfl,HX.out.same fun j _=> ?_,hO.out⟩
      rw[if_neg (by omega)]
     case round=>
      clear HX hO
      rename World=>w7
      obtain⟨t,q4,rfl,hX,hi⟩:=hrel
      by_cases e5:t<T
      ·have dt2:decide ((t:Int)<(T:Int))=true:=ar (by omega)
       have pg:(0:Int)≤(t:Int):=by omega
       have pj:(t:Int)<(T:Int):=by omega
       have hE:=HD.out.step (am hi)
       have c1:=hE.cell t e5 e5
       have h2:=hE.rows t e5
       have hz:=cR h2.ints
       have hY:∀s,jA L P t s≤2000000:=fun s=>by
        have:=mf L P t s L.length
        unfold jA
        have:=hA.out
        omega
       have h7:iM (((List.range m).map (jA L P t)).map fun(x:Nat)=>(x:Int)):=by
        refine⟨by simp;omega,by simp;omega,fun x hx=> ?_⟩
        obtain⟨y,hy,rfl⟩:=List.mem_map.1 hx
        obtain⟨s,_,rfl⟩:=List.mem_map.1 hy
        have:=hY s
        omega
       have hB:=aa (CG w7 (some ⟨R t,0,none⟩) m m _ 17 hz h7 (by omega) (by omega))
       have HX:=aa hX
       have hf:=aa hi
       have hg:=aa h7
       obtain⟨gt,H1⟩:∃gt,gt=R t:=⟨_,rfl⟩
       rw[← H1]at c1 hB
       clear hE h2 hz hY h7 hX hi H1
       go_wp2_with fail
       refine hB.out.mono ?_
       intro e w9 p3
       rcases p3 with⟨p5,_⟩ | ⟨_,_,_,v,len,hR,rfl,h3,hH⟩
       ·exact absurd hg.out (p5.resolve_right (by omega))
       ·obtain⟨A9,c9,rfl,p0,_,hS⟩:=aj h3
        have HT:(((List.range m).map (jA L P t)).map fun(x:Nat)=>(x:Int)).length=m:=by simp
        rw[HT]at h3 p0 hS ⊢
        rw[ou,show((17:Nat):Int).toNat=17 from rfl]at hR
        have hl:=yo hR
        have hK:gD (bh L P t m)=(List.range m).map len:=by
         unfold gD bh
         rw[hl,List.length_map,List.length_range]
        have h2:w9.ownsRow w7.heap.size 3 1 (.slice A9 m c9) m ((gD (bh L P t m)).map iv):=by
         rw[hK,List.map_map]
         exact h3
        have hM:(gD (bh L P t m)).length=m:=by rw[hK];simp
        have HA:w3.heap.size≤w7.heap.size:=hf.out.size
        have hs:=HX.out.step (am hH)
        have h4:=hs.set (i:=t) (A:=A9) (k:=c9) (L:=gD (bh L P t m)) (by rw[hM];exact World.ownsRow.mono h2 HA) (by omega) (by
         intro e
         have:=(World.ownsRow.lt h2 w.heap.size (by rw[hM]at e;exact e)).1
         omega)
        rw[hM]at h4
        have H0:(fun j=>if j=t then gD (bh L P t m)else if j<t then gD (bh L P j m)else [])=fun j=>if j<t+1 then gD (bh L P j m)else []:=by
         funext j
         by_cases ej:j=t
         ·rw[if_pos ej,if_pos (by omega),ej]
         ·rw[if_neg ej]
          by_cases ej2:j<t
          ·rw[if_pos ej2,if_pos (by omega)]
          ·rw[if_neg ej2,if_neg (by omega)]
        rw[H0]at h4
        obtain⟨u9,q5⟩:=hs.tabW.there t e5
        have fz9:=hs.tabW.frozen t
        have HQ:=aa h4
        have HE:=aa ((hf.out.trans (hH.mono HA)).setCell (p:=⟨w3.heap.size,t,none⟩) (ah _) (.slice A9 m c9))
        clear hR h3 hH hl hK h2 hs h4 H0 hS hB hg HX hf
        go_wp2_with fail
        go_roundw
        case rel=>exact⟨t+1,by omega,by go_num,HQ.out,HE.out⟩
        case measure=>simp[intOf];omega
      ·obtain rfl:T=t:=by omega
       have dt2:decide ((T:Int)<(T:Int))=false:=ao (by omega)
       have HW:Hid (cG w7 w.heap.size w3.heap.size T (fun j=>gD (bh L P j m))):=aa ((hX.same fun j hj=>if_pos hj).tabW.mono H8)
       have hf:=aa (HB.out.trans (hi.mono H8))
       clear hX hi
       go_wp2_with fail
       go_ret
       exact⟨_,rfl,HW.out,hf.out⟩
theorem cG.apart{w w':World}{B B' g n pb:Nat}{C:Nat→List Nat}{cs:Array Value}(h:cG w B g n C)(hk:Blk w pb 52 cs)(hs:ak B' [pb] [] w w'):cG w' B g n C:=by
 obtain⟨F,h1,h2⟩:=h
 refine⟨F,hs.row h1 (fun k hk2=> ?_) aq,fun j hj=> ?_⟩
 ·rw[List.mem_singleton]
  exact cI h1 hk (by decide) k hk2
 ·obtain⟨A,k,x,y,z⟩:=h2 j hj
  refine⟨A,k,x,y,hs.row z (fun k2 hk2=> ?_) aq⟩
  rw[List.mem_singleton]
  exact cI z hk (by decide) k2 hk2
theorem aB.apart{w w':World}{B B' g c n pb:Nat}{f:Nat→Nat}{cs:Array Value}(h:aB w B g c n f)(hk:Blk w pb 52 cs)(hs:ak B' [pb] [] w w'):aB w' B g c n f:=by
 refine hs.row h (fun k hk2=> ?_) aq
 rw[List.mem_singleton]
 exact cI h hk (by decide) k hk2
theorem cG.steps{w w':World}{B B' g n:Nat}{C:Nat→List Nat}(h:cG w B g n C)(hs:ak B' [] [] w w'):cG w' B g n C:=by
 obtain⟨F,h1,h2⟩:=h
 refine⟨F,hs.row h1 (fun _ _=>aq) aq,fun j hj=> ?_⟩
 obtain⟨A,k,x,y,z⟩:=h2 j hj
 exact⟨A,k,x,y,hs.row z (fun _ _=>aq) aq⟩
structure Ab (w wx:World) (rb pb T G:Nat) (l:List Nat) (m r:Nat) (gT:Nat) (vP:Value) (C:Nat→List Nat):Prop where
 box:Blk wx pb 52 #[.slice (some ⟨gT,0,none⟩) T T,vP]
 res:Blk wx rb 52 #[.slice none 0 0,.slice none 0 0]
 tab:cG wx w.heap.size gT T C
 pick:r=0∧vP=.slice none 0 0∨∃gP P,vP=.slice (some ⟨gP,0,none⟩) G G∧aB wx w.heap.size gP G G P∧(List.range G).map P=(bZ l m T r).2
 tabs:(List.range T).map C=(bZ l m T r).1
 size:∀j,j<T→(C j).length=m∧∀x∈C j,x≤1000
 below:Below w.heap.size w wx
theorem yb(w:World)(W:List Nat)(h2:2≤W.length)(hn:W.length≤258)(hx:∀x∈W,x≤1073741824):(gD W).length=W.length∧∀x∈gD W,x≤1000:=by
 have h:=ug w W h2 hn hx
 refine⟨h.1,fun x hx=> ?_⟩
 have h3:=h.2.1.2.2.1 (x:Int) (by unfold zL;exact List.mem_map.2 ⟨x,hx,rfl⟩)
 omega
theorem ya(w:World)(A:Option Addr)(n c:Nat)(L:List Int)(m:Nat)(hL:ZIn w A n L)(HQ:n≤c)(hM:g9 L m):
 Calls Tryz.prog 57 #[.slice A n c,.int .i64 m] w (dU w (aU L m)):=by
 have H4:=hL.1
 have HY:1≤n:=by have:=hM.2.2.1;omega
 have hn:n≤1638350:=by have:=hM.2.2.2.1;omega
 have HP:3≤m:=by have:=hM.1;omega
 have hc:m≤258:=by have:=hM.2.1;omega
 obtain⟨l,hl⟩:∃l,l=hU L:=⟨_,rfl⟩
 have HN:l.length=n:=by rw[hl];unfold hU;rw[List.length_map,H4]
 have HO:∀x∈l,x<m:=by
  intro x hx
  rw[hl]at hx
  obtain⟨y,hy,rfl⟩:=List.mem_map.1 hx
  have:=hM.2.2.2.2 y hy
  omega
 have HM:aw w A n l:=by rw[hl];exact eA hL fun x hx=>(hM.2.2.2.2 x hx).1
 obtain⟨T,hT⟩:∃T,T=cL n:=⟨_,rfl⟩
 have H0:2≤T∧T≤6:=by rw[hT];exact pE _
 have hH:bU n=(T,0):=by
  unfold bU
  rw[if_neg (by omega),hT]
 have hp:aU L m=((bZ l m T 4).1.map zL,zL (bZ l m T 4).2,0):=by
  unfold aU
  rw[if_pos hM,←hl,Int.toNat_natCast,H4,←hT]
 obtain⟨R,hR⟩:∃R,R=bZ l m T 4:=⟨_,rfl⟩
 rw[← hR]at hp
 rw[hp]
 obtain⟨G,hG⟩:∃G,G=aQ n:=⟨_,rfl⟩
 have p5:G≤40000∧n≤50*G∧50*G<n+50:=by rw[hG];unfold aQ;omega
 have hY:=aa fun(w1:World) (hb:ZIn w1 A n L)=>uk w1 A n c L m hb (by unfold maxLen;omega)
 rw[show decide (g9 L m)=true from decide_eq_true hM]at hY
 have hZ:=aa fun(w1:World)=>xx w1 (n:Int)
 rw[hH]at hZ
 have H1:Below w.heap.size w (w.alloc (.cells #[.slice none 0 0,.slice none 0 0] 52)):=(Below.refl _ _).alloc (ah _) _
 have HT:Blk (w.alloc (.cells #[.slice none 0 0,.slice none 0 0] 52)) w.heap.size 52 #[.slice none 0 0,.slice none 0 0]:=ag w _ _
 have HL:=aa (hL.below H1)
 have HB:=aa fun(w1:World) (hb:Below w.heap.size w w1)=>bF HM hb
 have HC:=aa HN
 have hu:=aa HO
 have HG:=aa hG
 have HE:Hid (∀ (gT gP:Nat) (C:Nat→List Nat) (P:Nat→Nat) (w' w'':World),cG w' w.heap.size gT T C→(List.range T).map C=(bZ l m T 4).1→(∀ t,t<T→(C t).length=m)→aB w' w.heap.size gP G G P→(List.range G).map P=(bZ l m T 4).2→Below w.heap.size w w'→
  dU w (R.1.map zL,zL R.2,0) (.returned (.tuple #[.agg #[.slice (some ⟨gT,0,none⟩) T T,.slice (some ⟨gP,0,none⟩) G G],.int .i64 0])) w'):=aa fun gT gP C P w' _ h1 h2 h3 h4 h5 h6=>by
  rw[hR,←h2,←h5]
  refine⟨_,rfl,⟨_,T,T,_,G,G,rfl,⟨by simp,fun _=>⟨gT,0,rfl,fun i hi=> ?_⟩⟩,Nat.le_refl _,by unfold maxLen;omega,cR h4.ints,Nat.le_refl _,by unfold maxLen;omega⟩,h6⟩
  have e:(((List.range T).map C).map zL).getD i []=zL (C i):=by
   rw[List.getD_eq_getElem?_getD,List.getElem?_map,List.getElem?_map,List.getElem?_range hi]
   rfl
  obtain⟨A2,k2,a,b,d⟩:=h1.read i hi
  have e2:(zL (C i)).length=(C i).length:=by unfold zL;simp
  rw[e,e2]
  refine⟨A2,k2,by rw[Nat.zero_add];exact a,?_,d,by have:=h3 i hi;unfold maxLen;omega⟩
  exact cR b
 generalize dU w (R.1.map zL,zL R.2,0)=PO at*
 have hX:=aa HT
 have hS:=aa H1
 clear hR hL HM hM H4 hl HN HO hT hH hp hG HT H1
 go_enter Tryz.func57,Tryz.ntmps57
 go_wp2_with fail
 refine(hY.out _ HL.out).mono ?_
 rintro e w1 ⟨rfl,rfl⟩
 generalize w.alloc (.cells #[.slice none 0 0,.slice none 0 0] 52)=w1 at*
 have HW:w.heap.size<w1.heap.size:=ay hX.out
 clear HL hY
 go_wp2_with fail
 refine(hZ.out _).mono ?_
 rintro e w2 ⟨rfl,rfl⟩
 clear hZ
 have HF:=aa (Aa w2 T m (by omega) H0.2 HP hc)
 go_wp2_with fail
 refine HF.out.mono ?_
 rintro e w3 ⟨rfl,HV,hC⟩
 obtain⟨v9,hO⟩:∃v9,v9=w3.alloc (.cells #[.slice (some ⟨w2.heap.size,0,none⟩) T T,.slice none 0 0] 52):=⟨_,rfl⟩
 have hJ:Below w3.heap.size w3 v9:=bR hO
 have hE:Blk v9 w3.heap.size 52 #[.slice (some ⟨w2.heap.size,0,none⟩) T T,.slice none 0 0]:=ee hO
 have HH:=aa (show Ab w v9 w.heap.size w3.heap.size T G l m 0 w2.heap.size (.slice none 0 0) (fun t=>(List.range m).map (n5 m T t))from
  ⟨hE,(am hJ).blk (aL hC hX.out) aq aq,(HV.mono (Nat.le_of_lt HW)).steps (am hJ),.inl ⟨rfl,rfl⟩,rfl,fun j _=>⟨by simp,fun x hx=>by
    obtain⟨s,_,rfl⟩:=List.mem_map.1 hx
    unfold n5
    split <;>omega⟩,(ap hS.out hC).trans (hJ.mono (Nat.le_trans hS.out.size hC.size))⟩)
 have HX:w.heap.size<w3.heap.size:=Nat.lt_of_lt_of_le HW hC.size
 have hz:=aa hO.symm
 clear HV hC hJ hE HF hX hS hO
 go_upto_region 5 with fail
 rw[hz.out]
 clear hz
 generalize w3.heap.size=pb at*
 generalize w2.heap.size=gT0 at*
 go_wp2_with fail
 go_loopw [24] (fun rv wx=>∃(r gT:Nat) (vP:Value) (C:Nat→List Nat),r≤4∧rv=.int .i64 r∧Ab w wx w.heap.size pb T G l m r gT vP C) (fun rv _=>4 - (intOf rv).toNat)
 case atStart=>exact⟨0,_,_,_,Nat.zero_le _,rfl,HH.out⟩
 case round=>
  clear HH
  rename World=>w5
  obtain⟨r,gT,vP,C,hr,rfl,hR⟩:=hrel
  have p2:w5.cell? ⟨pb,0,none⟩=some (.slice (some ⟨gT,0,none⟩) T T):=(ac hR.box 0).trans rfl
  have H5:w5.cell? ⟨pb,1,none⟩=some vP:=(ac hR.box 1).trans rfl
  by_cases e3:r<4
  ·have dr:decide ((r:Int)<4)=true:=ar (by omega)
   have HD:=aa (vf w5 A n c l (HB.out w5 hR.below) HQ (by omega) gT T m C hR.tab.read (by omega) H0.2 hc hR.size hu.out G HG.out)
   have HR:=aa hR
   clear hR H5
   go_wp2_with fail
   refine HD.out.mono ?_
   rintro e w6 ⟨rfl,HJ,hK⟩
   have hs:=am hK
   have h7:=hs.blk HR.out.box aq aq
   have H5:w6.cell? ⟨pb,1,none⟩=some vP:=(ac h7 1).trans rfl
   have p1:=ae h7 1
   obtain⟨w7,hP⟩:∃w7,w7=w6.setCell ⟨pb,1,none⟩ (.slice (some ⟨w5.heap.size,0,none⟩) G G):=⟨_,rfl⟩
   have hf:ak w.heap.size [pb] [] w6 w7:=by
    rw[hP]
    exact(ak.refl w.heap.size [pb] [] w6).set (p:=⟨pb,1,none⟩) (Nat.le_of_lt HX) (List.mem_singleton.2 rfl) _
   have p4:w5.heap.size≤w6.heap.size:=hK.size
   have hD:Below w.heap.size w6 w7:=hf.below
   have hF:Below w.heap.size w w6:=ap HR.out.below hK
   have hq:=hF.trans hD
   have ha:Blk w7 pb 52 #[.slice (some ⟨gT,0,none⟩) T T,.slice (some ⟨w5.heap.size,0,none⟩) G G]:=by rw[hP];exact au h7 1 _
   have hm:Blk w7 w.heap.size 52 #[.slice none 0 0,.slice none 0 0]:=hf.blk (hs.blk HR.out.res aq aq) (by simp;omega) aq
   have H3:aB w7 w.heap.size w5.heap.size G G (fun k=>j6 ((List.range T).map C) (cD l k)):=aB.apart (World.ownsRow.mono HJ HR.out.below.size) h7 hf
   have hI:Hid ((List.range G).map (fun k=>j6 ((List.range T).map C) (cD l k))=ky l (bZ l m T r).1):=aa (by
    rw[HR.out.tabs]
    unfold ky
    rw[HC.out,←HG.out])
   have HS:∀x∈(List.range G).map (fun k=>j6 ((List.range T).map C) (cD l k)),x<T:=by
    intro x hx
    obtain⟨k,_,rfl⟩:=List.mem_map.1 hx
    have:=(xF ((List.range T).map C) (cD l k) (by simp;omega)).1
    simpa using this
   have hW:=aa (vY w7 A n c l (HB.out w7 hq) HQ (by omega) HY (some ⟨w5.heap.size,0,none⟩) G G _ H3.ints HG.out T m (by omega) H0.2 HP hc hu.out HS)
   have p3:w7.cell? ⟨pb,1,none⟩=some (.slice (some ⟨w5.heap.size,0,none⟩) G G):=(ac ha 1).trans rfl
   have hh:=aa ha
   have hj:=aa hm
   have HA:=aa H3
   have ho:=aa hq
   have hA:=aa hP.symm
   obtain⟨pl,H8⟩:∃pl,pl=(List.range G).map (fun k=>j6 ((List.range T).map C) (cD l k)):=⟨_,rfl⟩
   have hw:=aa H8
   rw[← H8]at hI hW
   clear HJ hK hs h7 hf hD hF hq ha hm H3 HS HD hP H8
   go_upto_region 8 with fail
   rw[hA.out]
   clear hA p2 H5 p1
   go_wp2_with fail
   refine hW.out.mono ?_
   rintro e w8 ⟨g2,rfl,HU,H2⟩
   have hg:=am H2
   have h0:=hg.blk hh.out aq aq
   have HZ:w8.cell? ⟨pb,0,none⟩=some (.slice (some ⟨gT,0,none⟩) T T):=(ac h0 0).trans rfl
   have p0:=ae h0 0
   obtain⟨w9,hQ⟩:∃w9,w9=w8.setCell ⟨pb,0,none⟩ (.slice (some ⟨g2,0,none⟩) T T):=⟨_,rfl⟩
   have he:ak w.heap.size [pb] [] w8 w9:=by
    rw[hQ]
    exact(ak.refl w.heap.size [pb] [] w8).set (p:=⟨pb,0,none⟩) (Nat.le_of_lt HX) (List.mem_singleton.2 rfl) _
   have hk:Blk w9 pb 52 #[.slice (some ⟨g2,0,none⟩) T T,.slice (some ⟨w5.heap.size,0,none⟩) G G]:=by rw[hQ];exact au h0 0 _
   have hv:Hid (Ab w w9 w.heap.size pb T G l m (r+1) g2 (.slice (some ⟨w5.heap.size,0,none⟩) G G) (fun t=>gD (bh l pl t m))):=aa
    ⟨hk,he.blk (hg.blk hj.out aq aq) (by simp;omega) aq,(HU.mono ho.out.size).apart h0 he,
      .inr ⟨_,_,rfl,aB.apart (hg.row HA.out (fun _ _=>aq) aq) h0 he,by rw[bZ,←hw.out];exact hI.out⟩,
      by rw[bZ,←hI.out];rfl,fun j _=>by
       have h9:=yb w (bh l pl j m) (by unfold bh;simp;omega) (by unfold bh;simp;omega) (fun x hx=>by
        unfold bh at hx
        obtain⟨s,_,rfl⟩:=List.mem_map.1 hx
        have:=mf l pl j s l.length
        unfold jA
        have:=HC.out
        omega)
       refine⟨h9.1.trans (by unfold bh;simp),h9.2⟩,(ap ho.out H2).trans he.below⟩
   have hB:=aa hQ.symm
   clear HU H2 hg h0 he hk hQ hh hj HA ho hI hw hW HR
   go_upto_region 9 with fail
   rw[hB.out]
   clear hB HZ p0 p3
   go_wp2_with fail
   go_roundw
   case rel=>exact⟨r+1,_,_,_,by omega,by go_num,hv.out⟩
   case measure=>simp[intOf];omega
  ·obtain rfl:r=4:=by omega
   have dr:decide (((4:Nat):Int)<4)=false:=by decide
   obtain⟨gP,P,rfl,HK,HI⟩:=hR.pick.resolve_left (fun h=>absurd h.1 (by omega))
   have h8:=hR.res
   have c0:w5.cell? ⟨w.heap.size,0,none⟩=some (.slice none 0 0):=(ac h8 0).trans rfl
   have c1:w5.cell? ⟨w.heap.size,1,none⟩=some (.slice none 0 0):=(ac h8 1).trans rfl
   have f0:=ae h8 0
   have f1:=ae h8 1
   have hN:ak w.heap.size [w.heap.size] [] w5 ((w5.setCell ⟨w.heap.size,0,none⟩ (.slice (some ⟨gT,0,none⟩) T T)).setCell ⟨w.heap.size,1,none⟩ (.slice (some ⟨gP,0,none⟩) G G)):=
    ((ak.refl w.heap.size [w.heap.size] [] w5).set (p:=⟨w.heap.size,0,none⟩) (ah _) (List.mem_singleton.2 rfl) _).set (p:=⟨w.heap.size,1,none⟩) (ah _) (List.mem_singleton.2 rfl) _
   have hV:=aa (HE.out gT gP C P _ w (hR.tab.apart h8 hN) hR.tabs (fun t ht=>(hR.size t ht).1) (aB.apart HK h8 hN) HI (hR.below.trans hN.below))
   clear hR HK HI h8 hN HE
   go_wp2_with fail
   refine bodyPost_ret (v:=.tuple #[.agg #[.slice (some ⟨gT,0,none⟩) T T,.slice (some ⟨gP,0,none⟩) G G],.int .i64 0]) ?_ rfl hV.out
   simp[results,Tryz.results57,go_sem,c0,c1]
theorem ny(L:List Nat)(g s:Nat):∀q,q≤L.length→ib L (List.replicate g 0) 0 s q=(L.take q).count s
 | 0,_=>by simp[ib]
 | q+1,h=>by
   rw[pr,ny L g s q (by omega),rS L q 0 (by omega) s]
   have e:(List.replicate g 0).getD (q / 50) 0=0:=by
    rw[List.getD_eq_getElem?_getD,List.getElem?_replicate]
    split <;>rfl
   simp only[e,true_and]
theorem As(L:List Nat)(g s:Nat):jA L (List.replicate g 0) 0 s=L.count s:=by
 unfold jA
 rw[ny L g s L.length (ah _),List.take_of_length_le (ah _)]
theorem zk(R:List Nat)(m:Nat)(h:R.length=m):(List.range m).map (fun j=>((zL R).getD j 0).toNat)=R:=by
 subst h
 apply List.ext_getElem?
 intro j
 by_cases hj:j<R.length
 ·rw[List.getElem?_map,List.getElem?_range hj,List.getElem?_eq_getElem hj]
  unfold zL
  rw[Option.map_some,List.getD_eq_getElem?_getD,List.getElem?_map,List.getElem?_eq_getElem hj]
  simp
 ·rw[List.getElem?_eq_none (by simp;omega),List.getElem?_eq_none (by omega)]
theorem AK(w:World)(A:Option Addr)(n c:Nat)(L:List Int)(m:Nat)(hL:ZIn w A n L)(hM:g9 L m):
 Calls Tryz.prog 58 #[.slice A n c,.int .i64 m] w (dU w (aZ L m)):=by
 have hQ:=hL.1
 have pn:1≤n:=by have:=hM.2.2.1;omega
 have hn:n≤1638350:=by have:=hM.2.2.2.1;omega
 have pv:3≤m:=by have:=hM.1;omega
 have HQ:m≤258:=by have:=hM.2.1;omega
 obtain⟨l,hl⟩:∃l,l=hU L:=⟨_,rfl⟩
 have HO:l.length=n:=by rw[hl];unfold hU;rw[List.length_map,hQ]
 have HP:∀x∈l,x<m:=by
  intro x hx
  rw[hl]at hx
  obtain⟨y,hy,rfl⟩:=List.mem_map.1 hx
  have:=hM.2.2.2.2 y hy
  omega
 have hP:aw w A n l:=by rw[hl];exact eA hL fun x hx=>(hM.2.2.2.2 x hx).1
 have HD:∀a,A=some a→a.block<w.heap.size:=fun a ha=>by
  obtain⟨b,off,he,hc⟩:=hP.2 (by omega)
  rw[he]at ha
  cases ha
  exact World.block_lt_of_cell? w _ (hc 0 (by omega))
 obtain⟨G,hG⟩:∃G,G=aQ n:=⟨_,rfl⟩
 have po:G≤40000∧n≤50*G∧50*G<n+50:=by rw[hG];unfold aQ;omega
 obtain⟨R,hR⟩:∃R,R=kD l m:=⟨_,rfl⟩
 have hi:aZ L m=([zL R,zL R],zL (List.replicate G 0),0):=by
  unfold aZ
  rw[if_pos hM,←hl,Int.toNat_natCast,hQ,←hG,hR]
 rw[hi]
 have HB:Hid (∀ v w',aN w' v [zL R,zL R] (zL (List.replicate G 0))→Below w.heap.size w w'→dU w ([zL R,zL R],zL (List.replicate G 0),0) (.returned (.tuple #[v,.int .i64 0])) w'):=aa fun v w' h1 h2=>⟨v,rfl,h1,h2⟩
 generalize dU w ([zL R,zL R],zL (List.replicate G 0),0)=PO at*
 have hH:=aa fun(w1:World) (hb:ZIn w1 A n L)=>uk w1 A n c L m hb (by unfold maxLen;omega)
 rw[show decide (g9 L m)=true from decide_eq_true hM]at hH
 have hC:=aa fun(w1:World)=>jp w1 n (by omega)
 rw[← hG]at hC
 have hI:Below w.heap.size w (w.alloc (.cells #[.slice none 0 0,.slice none 0 0] 52)):=(Below.refl _ _).alloc (ah _) _
 have HU:Blk (w.alloc (.cells #[.slice none 0 0,.slice none 0 0] 52)) w.heap.size 52 #[.slice none 0 0,.slice none 0 0]:=ag w _ _
 have HL:=aa (hL.below hI)
 have p2:=aa fun(w1:World) (hb:Below w.heap.size w w1)=>bF hP hb
 have p3:=aa HO
 have hF:=aa HP
 have p0:=aa HD
 have HC:Hid (R=nU ((List.range m).map fun s=>0+l.count s)):=aa (by
  rw[hR]
  unfold kD bh
  congr 1
  apply List.map_congr_left
  intro s _
  rw[As,Nat.zero_add])
 have hE:=aa HU
 have hY:=aa hI
 clear hL hP hM hQ hl HO HP hi hG hR hI HU HD
 go_enter Tryz.func58,Tryz.ntmps58
 go_wp2_with fail
 refine(hH.out _ HL.out).mono ?_
 rintro e w1 ⟨rfl,rfl⟩
 generalize w.alloc (.cells #[.slice none 0 0,.slice none 0 0] 52)=w1 at*
 have HZ:w.heap.size<w1.heap.size:=ay hE.out
 clear HL hH
 have hS:=bA w1 m (by omega)
 have h0:=a9 w1 w.heap.size m (Nat.le_of_lt HZ) (by omega)
 have hJ:Below w1.heap.size w1 (w1.alloc (.cells (madeCells #[.int .i64 0] m) 3)):=(Below.refl _ _).alloc (ah _) _
 have h7:=ap hY.out hJ
 have hg:=aa (x8 w1.heap.size (w1.alloc (.cells (madeCells #[.int .i64 0] m) 3)) w1.heap.size m m _ (a9 w1 w1.heap.size m (ah _) (by omega)) A n c l (p2.out _ h7) (fun a ha=>by
  have:=p0.out a ha
  omega) (by omega) hF.out (fun s _=>Nat.zero_le _))
 have H5:=aa (aL hJ hE.out)
 have hZ:=aa h7
 clear h0 hJ h7 hE hY
 go_wp2_with fail
 clear hS
 refine hg.out.mono ?_
 rintro e w3 ⟨rfl,hK,hV⟩
 have HJ:=hV.blk H5.out (by simp;omega) aq
 have q2:=hK.lt
 have hm:=hZ.out.trans (hV.below.mono (Nat.le_of_lt HZ))
 have hz:=cR hK.ints
 have h6:iM (((List.range m).map fun s=>0+l.count s).map fun(x:Nat)=>(x:Int)):=by
  refine⟨by simp;omega,by simp;omega,fun x hx=> ?_⟩
  obtain⟨y,hy,rfl⟩:=List.mem_map.1 hx
  obtain⟨s,_,rfl⟩:=List.mem_map.1 hy
  have h1:l.count s≤l.length:=List.count_le_length
  have:=p3.out
  omega
 have H4:=aa (C1 w3 (some ⟨w1.heap.size,0,none⟩) m m _ hz h6)
 have hh:=aa h6
 have H8:=aa HJ
 have H0:=aa hm
 clear hK hV HJ hm hz h6 hg H5 hZ
 go_wp2_with fail
 refine H4.out.mono ?_
 intro e w5 pk
 rcases pk with⟨pl,_⟩ | ⟨_,v,k,HH,HI,rfl,h3,hs⟩
 ·exact absurd hh.out pl
 ·have HG:(((List.range m).map fun s=>0+l.count s).map fun(x:Nat)=>(x:Int)).length=m:=by simp
  rw[HG]at h3 HH HI
  rw[ou]at h3
  have HN:=Ir HH HI
  have h0:w5.ownsRow w3.heap.size 3 1 v m (R.map iv):=by
   rw[HC.out]
   unfold nU
   rw[show ((List.range m).map fun s=>0+l.count s).length=m by simp,←HN,List.map_map]
   exact h3
  have HE:R.length=m:=by rw[HC.out];unfold nU;simp
  obtain⟨A5,c5,rfl,pg,pM,pf⟩:=aj h0
  have hO:aw w5 A5 m R:=aJ h0
  have ho:=ap H0.out hs
  have HK:=aL hs H8.out
  have H3:=aa (lQ w5 A5 m c5 (zL R) (cR hO) (fun x hx=>by
   unfold zL at hx
   obtain⟨y,_,rfl⟩:=List.mem_map.1 hx
   omega) (by omega) (by omega))
  have p1:=aa hO
  have H1:=aa ho
  have HA:=aa HK
  have p4:=aa HE
  have h5:=aa h0
  have p5:=aa (show w.heap.size<w3.heap.size by omega)
  have pb:=aa (show w3.heap.size≤w5.heap.size from hs.size)
  clear h3 HN h0 HE pf hO ho HK hs HG H4 hh H8 H0
  go_wp2_with fail
  refine H3.out.mono ?_
  rintro e w6 ⟨gC,cC,rfl,hN,ht⟩
  have pj:m≤cC:=by
   obtain⟨A9,c9,he,ps,_,_⟩:=aj hN
   simp only[Value.slice.injEq]at he
   omega
  have hj:Below w6.heap.size w6 (w6.alloc (.cells #[.slice A5 m c5,.slice (some ⟨gC,0,none⟩) m cC] 36)):=(Below.refl _ _).alloc (ah _) _
  have HM:Blk (w6.alloc (.cells #[.slice A5 m c5,.slice (some ⟨gC,0,none⟩) m cC] 36)) w6.heap.size 36 #[.slice A5 m c5,.slice (some ⟨gC,0,none⟩) m cC]:=ag w6 _ _
  have hp:=ap H1.out ht
  have hq:=ap hp hj
  have HV:=(am hj).blk (aL ht HA.out) aq aq
  have hD:=aa ((am hj).row ((am ht).row h5.out (fun _ _=>aq) aq) (fun _ _=>aq) aq)
  have hA:=aa ((am hj).row hN (fun _ _=>aq) aq)
  have hr:=aa HM
  have h4:=aa HV
  have H2:=aa hq
  clear hN ht hj HM hp hq HV H3 p1 H1 HA h5
  go_wp2_with fail
  refine(hC.out _).mono ?_
  rintro e w8 ⟨rfl,rfl⟩
  generalize w6.alloc (.cells #[.slice A5 m c5,.slice (some ⟨gC,0,none⟩) m cC] 36)=w7 at*
  generalize w6.heap.size=g7 at*
  have hv:=ay h4.out
  have k0:=(ac h4.out 0).trans (rfl:_=some (Value.slice none 0 0))
  have k1:=(ac h4.out 1).trans (rfl:_=some (Value.slice none 0 0))
  have f0:=ae h4.out 0
  have f1:=ae h4.out 1
  have hS:=bA w7 G (by omega)
  have HR:=a9 w7 w7.heap.size G (ah _) (by omega)
  have hu:Below w7.heap.size w7 (w7.alloc (.cells (madeCells #[.int .i64 0] G) 3)):=(Below.refl _ _).alloc (ah _) _
  have hf:ak w.heap.size [w.heap.size] [] (w7.alloc (.cells (madeCells #[.int .i64 0] G) 3)) (((w7.alloc (.cells (madeCells #[.int .i64 0] G) 3)).setCell ⟨w.heap.size,0,none⟩ (.slice (some ⟨g7,0,none⟩) 2 2)).setCell ⟨w.heap.size,1,none⟩ (.slice (some ⟨w7.heap.size,0,none⟩) G G)):=
   ((ak.refl _ _ _ _).set (p:=⟨w.heap.size,0,none⟩) (ah _) (by simp) _).set (p:=⟨w.heap.size,1,none⟩) (ah _) (by simp) _
  have HW:=aL hu h4.out
  have hW:=p5.out
  have hX:=pb.out
  have HX:=hf.row (hD.out.alloc (.cells (madeCells #[.int .i64 0] G) 3)) (fun k hk=>by
   have:=(World.ownsRow.lt hD.out k hk).1
   simp
   omega) aq
  have HY:=hf.row (World.ownsRow.alloc hA.out (.cells (madeCells #[.int .i64 0] G) 3)) (fun k hk=>by
   have:=(World.ownsRow.lt hA.out k hk).1
   simp
   omega) aq
  have HF:=hf.blk (aL hu hr.out) (by
   have:=ay hr.out
   simp
   intro e
   have h1:=hr.out
   have h2:=h4.out
   unfold Blk at h1 h2
   rw[e,h2]at h1
   simp at h1) aq
  have HS:aB _ w7.heap.size w7.heap.size G G fun _=>0:=hf.row HR (fun k hk=>by simp[Value.ownBlock]at hk;simp;omega) aq
  have hT:=cR HS.ints
  rw[show (List.range G).map (fun _=>0)=List.replicate G 0 by rw[List.map_const',List.length_range]]at hT
  have h9:=aB.ints HY
  rw[zk R m p4.out]at h9
  have HT:aN _ (.agg #[.slice (some ⟨g7,0,none⟩) 2 2,.slice (some ⟨w7.heap.size,0,none⟩) G G]) [zL R,zL R] (zL (List.replicate G 0)):=
   ⟨_,2,2,_,G,G,rfl,Gk HF (aJ HX) pg h9 pj (by unfold maxLen;omega),Nat.le_refl _,by unfold maxLen;omega,hT,Nat.le_refl _,by unfold maxLen;omega⟩
  have h8:=HB.out _ _ HT ((ap H2.out hu).trans hf.below)
  rw[World.setCell_alloc_past _ _ _ _ hv,World.setCell_alloc_past _ _ _ _ (by simpa using hv)]at h8
  have hw:=au (au HW 0 (.slice (some ⟨g7,0,none⟩) 2 2)) 1 (.slice (some ⟨w7.heap.size,0,none⟩) G G)
  rw[World.setCell_alloc_past _ _ _ _ hv,World.setCell_alloc_past _ _ _ _ (by simpa using hv)]at hw
  have q0:=(ac hw 0).trans (rfl:_=some (Value.slice (some ⟨g7,0,none⟩) 2 2))
  have q1:=(ac hw 1).trans (rfl:_=some (Value.slice (some ⟨w7.heap.size,0,none⟩) G G))
  have hB:=aa h8
  clear hw HR hu hf HW hW hX HX HY HF HS hT h9 HT h8 hD hA hr h4 H2 HB hC
  go_wp2_with fail
  clear hS
  refine bodyPost_ret (v:=.tuple #[.agg #[.slice (some ⟨g7,0,none⟩) 2 2,.slice (some ⟨w7.heap.size,0,none⟩) G G],.int .i64 0]) ?_ rfl hB.out
  simp[results,Tryz.results58,go_sem,q0,q1]
theorem C9(w:World)(A:Option Addr)(n c:Nat)(L:List Int)(m:Nat)(hL:ZIn w A n L)(hY:n≤c)(hn:n≤1000000)(hM:g9 L m):
 Calls Tryz.prog 20 #[.slice A n c,.int .i64 m] w (dU w (fo L m)):=by
 have hV:=p6 w hM
 have hW:=oJ hM
 obtain⟨w1,hq⟩:∃w1,w1=w.alloc (.cells #[.slice none 0 0,.slice none 0 0] 52):=⟨_,rfl⟩
 have hh:Below w.heap.size w w1:=bR hq
 have hX:Blk w1 w.heap.size 52 #[.slice none 0 0,.slice none 0 0]:=ee hq
 have HC:=aa (ya w1 A n c L m (hL.below hh) hY hM)
 have HF:=aa fun(wx:World) (hb:Below w1.heap.size w1 wx)=>AK wx A n c L m ((hL.below hh).below hb) hM
 have HA:=aa (hL.below hh)
 have hS:(aU L m).2.2=0:=by rw[aU,if_pos hM]
 have hT:(aZ L m).2.2=0:=by rw[aZ,if_pos hM]
 have h3:fo L m=if(ff (aZ L m).1 (aZ L m).2.1 L).1<(ff (aU L m).1 (aU L m).2.1 L).1 then aZ L m else aU L m:=if_pos hM
 have hO:=aa (uj hV hM)
 have hP:=aa (uj hW hM)
 have HS:=aa fun(wx:World) (v:Value) (T:List (List Int)) (P:List Int) (h:aN wx v T P) (hb:Below w1.heap.size w1 wx)=>Da wx v T P h A n c L ((hL.below hh).below hb) hY (by omega)
 have hZ:(ff (aU L m).1 (aU L m).2.1 L).1≤41000000:=by
  have h1:=im (aU L m).1 (aU L m).2.1 L (by rw[hL.1];omega)
  have h2:=jo (aU L m).1 (aU L m).2.1
  unfold ff
  split
  ·show _+_≤_
   omega
  ·exact Nat.zero_le _
 have H0:(ff (aZ L m).1 (aZ L m).2.1 L).1≤41000000:=by
  have h1:=im (aZ L m).1 (aZ L m).2.1 L (by rw[hL.1];omega)
  have h2:=jo (aZ L m).1 (aZ L m).2.1
  unfold ff
  split
  ·show _+_≤_
   omega
  ·exact Nat.zero_le _
 generalize fo L m=ba at*
 generalize aU L m=ca at*
 generalize aZ L m=fa at*
 obtain⟨Tc,Pc,kc⟩:=ca
 obtain⟨Tf,Pf,kf⟩:=fa
 dsimp only at hS hT h3 hO hP hZ H0
 subst hS hT
 obtain⟨x,hx⟩:∃x,x=(ff Tc Pc L).1:=⟨_,rfl⟩
 obtain⟨y,hy⟩:∃y,y=(ff Tf Pf L).1:=⟨_,rfl⟩
 obtain⟨x2,H1⟩:∃x2,x2=(ff Tc Pc L).2:=⟨_,rfl⟩
 obtain⟨y2,H2⟩:∃y2,y2=(ff Tf Pf L).2:=⟨_,rfl⟩
 rw[← hx,←hy]at h3
 rw[← hx]at hZ
 rw[← hy]at H0
 have HX:=aa hx
 have HY:=aa hy
 have H5:=aa H1
 have H8:=aa H2
 have hj:=aa h3
 have H3:=aa hh
 have H4:=aa hX
 clear hL h3 hh hX hV hW hx hy H1 H2 hM
 go_enter Tryz.func20,Tryz.ntmps20
 go_wp2_with fail
 rw[← hq]
 clear hq
 refine HC.out.mono ?_
 rintro e w2 ⟨v2,rfl,hD,hC⟩
 obtain⟨A2,n2,c2,B2,m2,d2,rfl,hm⟩:∃A2 n2 c2 B2 m2 d2,v2=.agg #[.slice A2 n2 c2,.slice B2 m2 d2]∧aN w2 (.agg #[.slice A2 n2 c2,.slice B2 m2 d2]) Tc Pc:=by
  obtain⟨A2,n2,c2,B2,m2,d2,hv,hr⟩:=id hD
  exact⟨A2,n2,c2,B2,m2,d2,hv,by rw[← hv];exact hD⟩
 have h5:Below w2.heap.size w2 (w2.alloc (.cells #[.slice A2 n2 c2,.slice B2 m2 d2] 52)):=(Below.refl _ _).alloc (ah _) _
 have hJ:=aa (ag w2 52 #[.slice A2 n2 c2,.slice B2 m2 d2])
 have hF:=aa (ap hC h5)
 have hI:=aa (HF.out _ (ap hC h5))
 have hQ:=aa (hm.below h5)
 clear hC h5 HF HC hD hm
 go_upto_region 2 with fail
 generalize w2.alloc (.cells #[.slice A2 n2 c2,.slice B2 m2 d2] 52)=w3 at*
 generalize w2.heap.size=g6 at*
 go_wp2_with fail
 refine hI.out.mono ?_
 rintro e w4 ⟨v4,rfl,hE,hR⟩
 obtain⟨A4,n4,c4,B4,m4,d4,rfl,ho⟩:∃A4 n4 c4 B4 m4 d4,v4=.agg #[.slice A4 n4 c4,.slice B4 m4 d4]∧aN w4 (.agg #[.slice A4 n4 c4,.slice B4 m4 d4]) Tf Pf:=by
  obtain⟨A4,n4,c4,B4,m4,d4,hv,hr⟩:=id hE
  exact⟨A4,n4,c4,B4,m4,d4,hv,by rw[← hv];exact hE⟩
 have he:Below w4.heap.size w4 (w4.alloc (.cells #[.slice A4 n4 c4,.slice B4 m4 d4] 52)):=(Below.refl _ _).alloc (ah _) _
 have h6:=ap hR he
 have hK:=aa (ag w4 52 #[.slice A4 n4 c4,.slice B4 m4 d4])
 have h0:=aa (aL h6 hJ.out)
 have hc:=aa (hQ.out.below h6)
 have hk:=aa (ho.below he)
 have hs:=aa (ap hF.out h6)
 clear hR he h6 hI hE ho hQ hF hJ
 go_upto_region 5 with fail
 generalize w4.alloc (.cells #[.slice A4 n4 c4,.slice B4 m4 d4] 52)=w5 at*
 generalize w4.heap.size=g8 at*
 have p0:=(ac h0.out 0).trans rfl
 have p1:=(ac h0.out 1).trans rfl
 have hB:=aa (HS.out w5 _ Tc Pc hc.out hs.out)
 rw[← HX.out,←H5.out]at hB
 go_wp2_with fail
 clear p0 p1
 refine hB.out.mono ?_
 rintro e w6 ⟨rfl,hi⟩
 have ht:=aa (aL hi h0.out)
 have h9:=aa (aL hi hK.out)
 have hu:=aa (hc.out.below hi)
 have hl:=aa (hk.out.below hi)
 have hG:=aa (ap hs.out hi)
 clear hi hB h0 hK hc hk hs
 have p0:=(ac h9.out 0).trans rfl
 have p1:=(ac h9.out 1).trans rfl
 have hp:=aa (HS.out w6 _ Tf Pf hl.out hG.out)
 rw[← HY.out,←H8.out]at hp
 go_wp2_with fail
 clear p0 p1
 refine hp.out.mono ?_
 rintro e w7 ⟨rfl,hf⟩
 have h7:=aL hf ht.out
 have h8:=aL hf h9.out
 have hw:=aa (hu.out.below hf)
 have hA:=aa (hl.out.below hf)
 have h4:=ap hG.out hf
 have hg:=aL h4 H4.out
 have hN:=aa hg
 have hH:=aa (ap H3.out h4)
 have r0:=(ac hg 0).trans rfl
 have r1:=(ac hg 1).trans rfl
 have f0:=ae hg 0
 have f1:=ae hg 1
 by_cases e:y<x
 ·have d0:decide ((y:Int)<(x:Int))=true:=ar (by omega)
  have p0:=(ac h8 0).trans rfl
  have p1:=(ac h8 1).trans rfl
  have ha:=hj.out
  rw[if_pos e]at ha
  have hz:Hid (dU w ba (.returned (.tuple #[.agg #[.slice A4 n4 c4,.slice B4 m4 d4],.int .i64 0])) ((w7.setCell ⟨w.heap.size,0,none⟩ (.slice A4 n4 c4)).setCell ⟨w.heap.size,1,none⟩ (.slice B4 m4 d4))):=aa (by
   rw[ha]
   exact⟨_,rfl,hA.out.past hP.out hN.out (kr _ _ _ _),(hH.out.setCell (p:=⟨w.heap.size,0,none⟩) (ah _) _).setCell (p:=⟨w.heap.size,1,none⟩) (ah _) _⟩)
  generalize dU w ba=PO at*
  clear ha h7 h8 h4 hg hf hp
  go_wp2_with fail
  refine bodyPost_ret (v:=.tuple #[.agg #[.slice A4 n4 c4,.slice B4 m4 d4],.int .i64 0]) ?_ rfl hz.out
  simp[results,Tryz.results20,go_sem,r0,r1]
 ·have d0:decide ((y:Int)<(x:Int))=false:=ao (by omega)
  have p0:=(ac h7 0).trans rfl
  have p1:=(ac h7 1).trans rfl
  have ha:=hj.out
  rw[if_neg e]at ha
  have hz:Hid (dU w ba (.returned (.tuple #[.agg #[.slice A2 n2 c2,.slice B2 m2 d2],.int .i64 0])) ((w7.setCell ⟨w.heap.size,0,none⟩ (.slice A2 n2 c2)).setCell ⟨w.heap.size,1,none⟩ (.slice B2 m2 d2))):=aa (by
   rw[ha]
   exact⟨_,rfl,hw.out.past hO.out hN.out (kr _ _ _ _),(hH.out.setCell (p:=⟨w.heap.size,0,none⟩) (ah _) _).setCell (p:=⟨w.heap.size,1,none⟩) (ah _) _⟩)
  generalize dU w ba=PO at*
  clear ha h7 h8 h4 hg hf hp
  go_wp2_with fail
  refine bodyPost_ret (v:=.tuple #[.agg #[.slice A2 n2 c2,.slice B2 m2 d2],.int .i64 0]) ?_ rfl hz.out
  simp[results,Tryz.results20,go_sem,r0,r1]
end Go.Proofs.YthakcjehhlpjnaaGreat
