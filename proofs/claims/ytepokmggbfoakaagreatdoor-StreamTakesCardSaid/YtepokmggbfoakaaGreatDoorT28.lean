import Derived.Test.YtepokmggbfoakaaGreatDoorT27
import Derived.Test.YtepokmggbfoakaaGreatDoorT04
set_option maxHeartbeats 6400000
set_option maxRecDepth 100000
namespace Go.Proofs.YtepokmggbfoakaaGreatDoor
open _root_.Go.Proofs.Tryz
open Go.RowKit
def cgN(L P:List Nat)(t s:Nat):Nat->Nat
 | 0=>0
 | k+1=>cgN L P t s k+if P.getD k 0=t then(dc L k).count s else 0
theorem oK(L P:List Nat)(t s k:Nat):∀m,m<=50->50*k+m<=L.length->iM L P t s (50*k+m)=iM L P t s (50*k)+if P.getD k 0=t then((L.drop (50*k)).take m).count s else 0
 | 0,_,_=>by simp
 | m+1,hm,hl=>by
  rw[<- OL,ra,oK L P t s k m (by omega) (by omega),show(50*k+m)/50=k by omega];have e:(L.drop (50*k)).take (m+1)=(L.drop (50*k)).take m++ [L.getD (50*k+m) 0]:=by rw[NI (by rw[Nq];omega),Rt,Nb,Nd (by omega)];rfl
  rw[e,List.count_append,List.count_singleton];by_cases h1:P.getD k 0=t;·simp only[h1,if_true,true_and,O0];omega
  ·simp only[h1,RK,false_and]
theorem p8(L P:List Nat)(t s:Nat):∀k,cgN L P t s k=iM L P t s (min (50*k) L.length)
 | 0=>by simp[cgN,iM]
 | k+1=>by
  rw[cgN,p8 L P t s k];by_cases h:50*k<=L.length
  ·rw[Oh h];obtain⟨m,hm⟩:∃m,m=min 50 (L.length-50*k):=⟨_,rfl⟩;have h2:=oK L P t s k m (by omega) (by omega);rw[show min (50*(k+1)) L.length=50*k+m by omega,h2];have e:dc L k=(L.drop (50*k)).take m:=by
    unfold dc;by_cases e:m=50;·rw[e]
    ·rw[Nt (by rw[Nq];omega),Nt (by rw[Nq];omega)]
   rw[e]
  ·rw[PD (by omega),PD (by omega)];have e:dc L k= []:=(by unfold dc;rw[OY (by omega)];rfl);rw[e];simp
theorem Mv(L P:List Nat)(t s k:Nat):cgN L P t s k<=L.length:=by rw[p8];exact NH (m7 L P t s _) (Nat.min_le_right _ _)
theorem Lj(L P:List Nat)(t s:Nat):cgN L P t s (aR L.length)=kr L P t s:=by rw[p8,PD (by unfold aR;omega)];rfl
theorem zp(w:World)(A:Option Addr)(n c:Nat)(L:List Nat)(hL:aw w A n L)(p4:n<=c)(hn:n<=2000000)(pj:1<=n)(B:Option Addr)(G d:Nat)(P:List Nat)(hP:aw w B G P)(hG:G=aR n)
 (T m:Nat) (pl:1<=T) (pn:T<=6) (q2:3<=m) (hm:m<=258) (hV:∀x∈L,x<m) (hW:∀x∈P,x<T):
 Calls prog 149 #[.slice B G d,.slice A n c,.int .i64 T,.int .i64 m] w fun e w'=>∃g,e=.returned (.slice (some ⟨g,0,none⟩) T T)/\dp w' w.heap.size g T (fun t=>iE (bD L P t m))/\Below w.heap.size w w':=by
 have H2:=hL.1;have H3:=hP.1;have pk:G<=40001/\n<=50*G/\50*G<n+50:=by rw[hG];unfold aR;omega
 have hw:=ud w T (by omega);have hQ:=aa (Bn w w.heap.size T m (ah _) (by omega) (fun _=>0) (fun _ _=>0));have hN:Hid (Below w.heap.size w (w.alloc (.cells (madeCells #[.slice none 0 0] T) 57))):=aa ((Nj _ _).alloc (ah _) _);have HM:=aa hL;have HL:=aa fun(w1:World) (hb:Below w.heap.size w w1)=>bN hL hb;have HP:=aa fun(w1:World) (hb:Below w.heap.size w w1)=>bN hP hb;have HJ:=aa hV;have HO:=aa hW;have hA:=aa H2;have HK:=aa H3;have HG:=aa hG;clear hL hP hV hW H2 H3 hG;go_enter func149,ntmps149;go_wp2_with fail;clear hw;go_loopw [10,20] (fun s10 tv wx=>∃(t:Nat) (R:Nat->Nat),t<=T/\tv=.int .i64 t/\gJ wx w.heap.size w.heap.size T m t R (fun _ _=>0)/\Below w.heap.size w wx) (fun _ tv _=>T-(intOf tv).toNat)
 case atStart=>exact⟨0,fun _=>0,Nh _,rfl,hQ.out,hN.out⟩
 case round=>
  clear hQ hN;rename World=>w1;obtain⟨t,R,ht,rfl,hD,hb⟩:=hrel;by_cases e:t<T
  ·have p7:(0:Int)<=(t:Int):=(by omega);have pf:(t:Int)<(T:Int):=(by omega);have hv:=hD.lt;have hw:=bK w1 m (by omega);have h2:=bz w1 w1.heap.size m (ah _) (by omega);have hh:Below w1.heap.size w1 (w1.alloc (.cells (madeCells #[.int .i64 0] m) 3)):=(Nj _ _).alloc (ah _) _;have hp:=hD.push hh (by omega) h2 (ah _);have pv:(w1.alloc (.cells (madeCells #[.int .i64 0] m) 3)).frozen? ⟨w.heap.size,t,none⟩=false:=(hD.step (an hh)).frozen t;have hZ:∃v,(w1.alloc (.cells (madeCells #[.int .i64 0] m) 3)).cell? ⟨w.heap.size,t,none⟩=some v:=(by have:=OR (hD.step (an hh)).own t (by omega);rw[Np,NN e]at this;exact⟨_,this⟩);obtain⟨v,hZ⟩:=hZ;have hJ:=(ap hb hh).setCell (p:=⟨w.heap.size,t,none⟩) (ah _) (.slice (some ⟨w1.heap.size,0,none⟩) m m);rw[P0 _ _ _ _ hv.2]at hp hJ
   have HN:=aa (hp.same (D:=fun _ _=>0) fun j _=>by
    by_cases ej:j=t
    ·rw[Ng ej]
    ·rw[Nf ej])
   have HH:=aa hJ;clear hp hJ h2 hh hD hb;go_wp2_with fail;go_roundw;case rel=>exact⟨t+1,_,by omega,by go_num,HN.out,HH.out⟩
   case measure=>simp[intOf];omega
  ·obtain rfl:T=t:=(by omega);have HD:=aa hD;have HB:=aa hb;have hv:=hD.lt;clear hD hb;go_wp2_with fail;(go_loopw [11,12,31] (fun s11 s12 kv wx=>∃k:Nat,k<=G/\kv=.int .i64 k/\gJ wx w.heap.size w.heap.size T m T R (fun t s=>cgN L P t s k)/\Below w.heap.size w wx) (fun _ _ kv _=>G-(intOf kv).toNat));case atStart=>exact⟨0,Nh _,rfl,HD.out,HB.out⟩
   case round=>
    clear HD HB hv;rename World=>w3;obtain⟨k,hk,rfl,hD,hb⟩:=hrel;by_cases e4:k<G
    ·have q1:(0:Int)<=(k:Int):=(by omega);have q0:(k:Int)<(G:Int):=(by omega);have H5:=HP.out w3 hb;obtain⟨pb,po,rfl,H4⟩:=H5.2 (by omega);have p6:=H4 k e4;obtain⟨y,hy⟩:∃y,y=P.getD k 0:=⟨_,rfl⟩;have h9:y<T:=(by rw[hy];refine HO.out _ ?_;rw[Nb,Nd (by rw[HK.out];exact e4)];exact NL _);rw[<- hy]at p6;have q5:(0:Int)<=(y:Int):=(by omega);have pg:(y:Int)<(T:Int):=(by omega);have c1:=hD.cell y h9 h9;have hF:=hD.step ((al.refl w.heap.size [] [] w3).drew);have h2:=hF.rows y h9;have p1:w.heap.size<=R y:=h2.lt.1;(have hT:∀a,A=some a->a.block<w.heap.size:=fun a ha=>by obtain⟨b,off,he,hc⟩:=HM.out.2 (by omega);rw[he]at ha;cases ha;exact Nr w _ (hc 0 (by omega)));have hI:Below w.heap.size w w3.drew:=hb.drew;have h5:=aa (tj w3.drew A n c L k (HL.out w3.drew hI) p4 hn (by omega))
     have h6:=aa fun(A2:Option Addr) (c2:Nat) (HS:aw w3.drew A2 (dc L k).length (dc L k)) (HR:∀a,A2=some a->∃a0,A=some a0/\a.block=a0.block)=>zc w.heap.size w3.drew (R y) m m _ h2 A2 (dc L k).length c2 (dc L k) HS
      (fun a ha=>by
        obtain⟨a0,h0,h1⟩:=HR a ha
        have:=hT a0 h0
        omega) (by rw[pd];omega) (fun x hx=>HJ.out x (O9 (Po hx))) (fun s _=>by
        have:=Mv L P y s k
        have:=hA.out
        omega)
     obtain⟨gy,h8⟩:∃gy,gy=R y:=⟨_,rfl⟩;rw[<- h8]at c1 h6;have HD:=aa hF;have HB:=aa hI;have HY:=aa hy;have hr:=aa h8;clear H5 H4 hy hF h2 p1 hT hI h8 hD hb;go_wp2_with fail;go_upto_region 10 with fail
     go_region_held3 (fun w'=>w'.cell? ⟨w.heap.size,y,none⟩=some (.slice (some ⟨gy,0,none⟩) m m)) (first|exact c1|exact HZ|go_keep)
      (first
        | (go_at_call 107;refine h5.out.mono ?_;rintro e w7 ⟨A2,c2,rfl,p2,ps,HV,rfl⟩;have HI:=aa p2;have HF:=aa HV)
        | (go_at_call 150;refine(h6.out A2 c2 HI.out HF.out).mono ?_;rintro e w8 ⟨rfl,hu,ho⟩;have HZ:w8.cell? ⟨w.heap.size,y,none⟩=some (.slice (some ⟨gy,0,none⟩) m m):=(HD.out.upd h9 (by rw[<- hr.out];exact hu) (by rw[<- hr.out];exact ho)).cell y h9 h9 |>.trans (by rw[<- hr.out])))
     rw[hr.out]at hu ho;have hq:=HD.out.upd h9 hu ho
     have HU:=aa (hq.same (D:=fun t s=>cgN L P t s (k+1)) fun j hj=>by
      by_cases ej:j=y
      ·rw[Ng ej,ej]
       funext s
       rw[cgN,<-HY.out,Ng rfl]
      ·rw[Nf ej]
       funext s
       rw[cgN,<-HY.out,Nf fun h=>ej h.symm,Og])
     have HC:=aa (HB.out.trans ho.below);clear hq hu ho HD HB h5 h6;go_wp2_with fail;go_roundw;case rel=>exact⟨k+1,by omega,by go_num,HU.out,HC.out⟩
     case measure=>simp[intOf];omega
    ·obtain rfl:G=k:=(by omega);(have hC:=hD.same (D:=fun t s=>kr L P t s) fun j _=>by funext s;rw[<- Lj,hA.out,<-HG.out]);have hw:=ud w3 T (by omega);have H8:w.heap.size<=w3.heap.size:=hb.size;have hv:=hC.lt
     have HX:Hid (pM (w3.alloc (.cells (madeCells #[.slice none 0 0] T) 57)) w3.heap.size w3.heap.size T (fun _=> []) w.heap.size):=aa
      ⟨fun _=>.slice none 0 0,(Bo w3 w3.heap.size T (ah _) (by omega)).own,fun j _=>⟨none,0,rfl,Nm _,Ns _ _ _ _,by simp[Value.ownBlock]⟩⟩
     have hO:Hid (Below w3.heap.size w3 (w3.alloc (.cells (madeCells #[.slice none 0 0] T) 57))):=aa ((Nj _ _).alloc (ah _) _);have HD:=aa hC;have HB:=aa hb;clear hD hC hb;go_wp2_with fail;clear hw;(go_loopw [14,15,49] (fun s14 s15 tv wx=>∃t:Nat,t<=T/\tv=.int .i64 t/\pM wx w3.heap.size w3.heap.size T (fun j=>if j<t then iE (bD L P j m)else []) w.heap.size/\Below w3.heap.size w3 wx) (fun _ _ tv _=>T-(intOf tv).toNat));case atStart=>refine⟨0,Nh _,rfl,HX.out.same fun j _=> ?_,hO.out⟩;rw[Nf (by omega)]
     case round=>
      clear HX hO;rename World=>w7;obtain⟨t,q3,rfl,hX,hi⟩:=hrel;by_cases e5:t<T
      ·have p7:(0:Int)<=(t:Int):=(by omega);have pf:(t:Int)<(T:Int):=(by omega);have hE:=HD.out.step (an hi);have c1:=hE.cell t e5 e5;have h2:=hE.rows t e5;have hz:=dK h2.ints;(have hY:∀s,kr L P t s<=2000000:=fun s=>by have:=m7 L P t s L.length;unfold kr;have:=hA.out;omega);have h7:jk (((List.range m).map (kr L P t)).map fun(x:Nat)=>(x:Int)):=(by refine⟨by simp;omega,by simp;omega,fun x hx=> ?_⟩;obtain⟨y,hy,rfl⟩:=List.mem_map.1 hx;obtain⟨s,_,rfl⟩:=List.mem_map.1 hy;have:=hY s;omega);have hB:=aa (Fv w7 (some ⟨R t,0,none⟩) m m _ 17 hz h7 (by omega) (by omega));have HX:=aa hX;have hf:=aa hi;have hg:=aa h7;obtain⟨gt,H1⟩:∃gt,gt=R t:=⟨_,rfl⟩;rw[<- H1]at c1 hB;clear hE h2 hz hY h7 hX hi H1;go_wp2_with fail;refine hB.out.mono ?_;intro e w9 p3;rcases p3 with⟨p5,_⟩|⟨_,_,_,v,len,hR,rfl,h3,hH⟩;·exact absurd hg.out (p5.resolve_right (by omega))
       ·obtain⟨A9,c9,rfl,p0,_,hS⟩:=ak h3;have HT:(((List.range m).map (kr L P t)).map fun(x:Nat)=>(x:Int)).length=m:=(by simp);rw[HT]at h3 p0 hS |-;rw[qu,show((17:Nat):Int).toNat=17 from rfl]at hR;have hl:=Av hR;have hK:iE (bD L P t m)=(List.range m).map len:=(by unfold iE bD;rw[hl,NC,NK]);have h2:w9.ownsRow w7.heap.size 3 1 (.slice A9 m c9) m ((iE (bD L P t m)).map iv):=(by rw[hK,Ov];exact h3);have hM:(iE (bD L P t m)).length=m:=(by rw[hK];simp);have HA:w3.heap.size<=w7.heap.size:=hf.out.size;have hs:=HX.out.step (an hH)
        have h4:=hs.set (i:=t) (A:=A9) (k:=c9) (L:=iE (bD L P t m)) (by rw[hM];exact World.ownsRow.mono h2 HA) (by omega) (by
         intro e
         have:=(OD h2 w.heap.size (by rw[hM]at e;exact e)).1
         omega)
        rw[hM]at h4;have H0:(fun j=>if j=t then iE (bD L P t m)else if j<t then iE (bD L P j m)else [])=fun j=>if j<t+1 then iE (bD L P j m)else []:=by
         funext j;by_cases ej:j=t;·rw[Ng ej,Ng (by omega),ej]
         ·rw[Nf ej];by_cases ej2:j<t;·rw[Ng ej2,Ng (by omega)]
          ·rw[Nf ej2,Nf (by omega)]
        rw[H0]at h4;obtain⟨u9,q4⟩:=hs.tabW.there t e5;have fz9:=hs.tabW.frozen t;have HQ:=aa h4;have HE:=aa ((hf.out.trans (hH.mono HA)).setCell (p:=⟨w3.heap.size,t,none⟩) (ah _) (.slice A9 m c9));clear hR h3 hH hl hK h2 hs h4 H0 hS hB hg HX hf;go_wp2_with fail;go_roundw;case rel=>exact⟨t+1,by omega,by go_num,HQ.out,HE.out⟩
        case measure=>simp[intOf];omega
      ·obtain rfl:T=t:=(by omega);have HW:Hid (dp w7 w.heap.size w3.heap.size T (fun j=>iE (bD L P j m))):=aa ((hX.same fun j hj=>Ng hj).tabW.mono H8);have hf:=aa (HB.out.trans (hi.mono H8));clear hX hi;go_wp2_with fail;go_ret;exact⟨_,rfl,HW.out,hf.out⟩
theorem dp.apart{w w':World}{B B' g n pb:Nat}{C:Nat->List Nat}{cs:Array Value}(h:dp w B g n C)(hk:Blk w pb 90 cs)(hs:al B' [pb] [] w w'):dp w' B g n C:=by
 obtain⟨F,h1,h2⟩:=h;refine⟨F,hs.row h1 (fun k hk2=> ?_) ar,fun j hj=> ?_⟩;·rw[Ok];exact dJ h1 hk (by decide) k hk2
 ·obtain⟨A,k,x,y,z⟩:=h2 j hj;refine⟨A,k,x,y,hs.row z (fun k2 hk2=> ?_) ar⟩;rw[Ok];exact dJ z hk (by decide) k2 hk2
theorem aA.apart{w w':World}{B B' g c n pb:Nat}{f:Nat->Nat}{cs:Array Value}(h:aA w B g c n f)(hk:Blk w pb 90 cs)(hs:al B' [pb] [] w w'):aA w' B g c n f:=by refine hs.row h (fun k hk2=> ?_) ar;rw[Ok];exact dJ h hk (by decide) k hk2
theorem dp.steps{w w':World}{B B' g n:Nat}{C:Nat->List Nat}(h:dp w B g n C)(hs:al B' [] [] w w'):dp w' B g n C:=by obtain⟨F,h1,h2⟩:=h;refine⟨F,hs.row h1 (fun _ _=>ar) ar,fun j hj=> ?_⟩;obtain⟨A,k,x,y,z⟩:=h2 j hj;exact⟨A,k,x,y,hs.row z (fun _ _=>ar) ar⟩
structure BJ (w wx:World) (rb pb T G:Nat) (l:List Nat) (m r:Nat) (gT:Nat) (vP:Value) (C:Nat->List Nat):Prop where
 box:Blk wx pb 90 #[.slice (some ⟨gT,0,none⟩) T T,vP]
 res:Blk wx rb 90 #[.slice none 0 0,.slice none 0 0]
 tab:dp wx w.heap.size gT T C
 pick:r=0/\vP=.slice none 0 0\/∃gP P,vP=.slice (some ⟨gP,0,none⟩) G G/\aA wx w.heap.size gP G G P/\(List.range G).map P=(cI l m T r).2
 tabs:(List.range T).map C=(cI l m T r).1
 size:∀j,j<T->(C j).length=m/\∀x∈C j,x<=1000
 below:Below w.heap.size w wx
theorem Aw(w:World)(W:List Nat)(h2:2<=W.length)(hn:W.length<=258)(hx:∀x∈W,x<=1073741824):(iE W).length=W.length/\∀x∈iE W,x<=1000:=by have h:=wH w W h2 hn hx;refine⟨h.1,fun x hx=> ?_⟩;have h3:=h.2.1.2.2.1 (x:Int) (by unfold zL;exact List.mem_map.2 ⟨x,hx,rfl⟩);omega
theorem zl(w:World)(A:Option Addr)(n c:Nat)(L:List Int)(m:Nat)(hL:ZIn w A n L)(HQ:n<=c)(hM:iJ L m):
 Calls prog 98 #[.slice A n c,.int .i64 m] w (eK w (a9 L m)):=by
 have H4:=hL.1;have HY:1<=n:=by have:=hM.2.2.1;omega
 have hn:n<=1638350:=by have:=hM.2.2.2.1;omega
 have HP:3<=m:=by have:=hM.1;omega
 have hc:m<=258:=by have:=hM.2.1;omega
 obtain⟨l,hl⟩:∃l,l=iP L:=⟨_,rfl⟩;have HN:l.length=n:=by rw[hl];unfold iP;rw[NC,H4]
 have HO:∀x∈l,x<m:=by intro x hx;rw[hl]at hx;obtain⟨y,hy,rfl⟩:=List.mem_map.1 hx;have:=hM.2.2.2.2 y hy;omega
 have HM:aw w A n l:=by rw[hl];exact fg hL fun x hx=>(hM.2.2.2.2 x hx).1
 obtain⟨T,hT⟩:∃T,T=dD n:=⟨_,rfl⟩;have hZ:2<=T/\T<=6:=by rw[hT];exact rN _
 have hH:cD n=(T,0):=by unfold cD;rw[Nf (by omega),hT]
 have hp:a9 L m=((cI l m T 4).1.map zL,zL (cI l m T 4).2,0):=by unfold a9;rw[Ng hM,<-hl,Nn,H4,<-hT]
 obtain⟨R,hR⟩:∃R,R=cI l m T 4:=⟨_,rfl⟩;rw[<- hR]at hp;rw[hp];obtain⟨G,hG⟩:∃G,G=aR n:=⟨_,rfl⟩;have p4:G<=40000/\n<=50*G/\50*G<n+50:=by rw[hG];unfold aR;omega
 have hX:=aa fun(w1:World) (hb:ZIn w1 A n L)=>vW w1 A n c L m hb (by unfold maxLen;omega);rw[show decide (iJ L m)=true from No hM]at hX;have hY:=aa fun(w1:World)=>zO w1 (n:Int);rw[hH]at hY;have H0:Below w.heap.size w (w.alloc (.cells #[.slice none 0 0,.slice none 0 0] 90)):=(Nj _ _).alloc (ah _) _;have HT:Blk (w.alloc (.cells #[.slice none 0 0,.slice none 0 0] 90)) w.heap.size 90 #[.slice none 0 0,.slice none 0 0]:=aj w _ _;have HL:=aa (hL.below H0);have HB:=aa fun(w1:World) (hb:Below w.heap.size w w1)=>bN HM hb;have HC:=aa HN;have hu:=aa HO;have HG:=aa hG
 have HE:Hid (∀ (gT gP:Nat) (C:Nat->List Nat) (P:Nat->Nat) (w' w'':World),dp w' w.heap.size gT T C->(List.range T).map C=(cI l m T 4).1->(∀ t,t<T->(C t).length=m)->aA w' w.heap.size gP G G P->(List.range G).map P=(cI l m T 4).2->Below w.heap.size w w'->
  eK w (R.1.map zL,zL R.2,0) (.returned (.tuple #[.agg #[.slice (some ⟨gT,0,none⟩) T T,.slice (some ⟨gP,0,none⟩) G G],.int .i64 0])) w'):=aa fun gT gP C P w' _ h1 h2 h3 h4 h5 h6=>by
  rw[hR,<-h2,<-h5]
  refine⟨_,rfl,⟨_,T,T,_,G,G,rfl,⟨by simp,fun _=>⟨gT,0,rfl,fun i hi=> ?_⟩⟩,Nm _,by unfold maxLen;omega,dK h4.ints,Nm _,by unfold maxLen;omega⟩,h6⟩
  have e:(((List.range T).map C).map zL).getD i []=zL (C i):=by
   rw[Nb,Np,Np,NN hi]
   rfl
  obtain⟨A2,k2,a,b,d⟩:=h1.read i hi
  have e2:(zL (C i)).length=(C i).length:=by unfold zL;simp
  rw[e,e2]
  refine⟨A2,k2,by rw[N8];exact a,?_,d,by have:=h3 i hi;unfold maxLen;omega⟩
  exact dK b
 generalize eK w (R.1.map zL,zL R.2,0)=PO at*;have hW:=aa HT;have hQ:=aa H0;clear hR hL HM hM H4 hl HN HO hT hH hp hG HT H0;go_enter func98,ntmps98;go_wp2_with fail;refine(hX.out _ HL.out).mono ?_;rintro e w1 ⟨rfl,rfl⟩;generalize w.alloc (.cells #[.slice none 0 0,.slice none 0 0] 90)=w1 at*;have HW:w.heap.size<w1.heap.size:=az hW.out;clear HL hX;go_wp2_with fail;refine(hY.out _).mono ?_;rintro e w2 ⟨rfl,rfl⟩;clear hY;have HF:=aa (B9 w2 T m (by omega) hZ.2 HP hc);go_wp2_with fail;refine HF.out.mono ?_;rintro e w3 ⟨rfl,HV,hC⟩;obtain⟨v9,hN⟩:∃v9,v9=w3.alloc (.cells #[.slice (some ⟨w2.heap.size,0,none⟩) T T,.slice none 0 0] 90):=⟨_,rfl⟩;have hJ:Below w3.heap.size w3 v9:=bQ hN;have hE:Blk v9 w3.heap.size 90 #[.slice (some ⟨w2.heap.size,0,none⟩) T T,.slice none 0 0]:=eJ hN
 have HH:=aa (show BJ w v9 w.heap.size w3.heap.size T G l m 0 w2.heap.size (.slice none 0 0) (fun t=>(List.range m).map (qH m T t))from
  ⟨hE,(an hJ).blk (aO hC hW.out) ar ar,(HV.mono (NV HW)).steps (an hJ),.inl ⟨rfl,rfl⟩,rfl,fun j _=>⟨by simp,fun x hx=>by
    obtain⟨s,_,rfl⟩:=List.mem_map.1 hx
    unfold qH
    split <;>omega⟩,(ap hQ.out hC).trans (hJ.mono (NH hQ.out.size hC.size))⟩)
 have HX:w.heap.size<w3.heap.size:=OM HW hC.size;have hz:=aa hN.symm;clear HV hC hJ hE HF hW hQ hN;go_upto_region 5 with fail;rw[hz.out];clear hz;generalize w3.heap.size=pb at*;generalize w2.heap.size=gT0 at*;go_wp2_with fail;go_loopw [24] (fun rv wx=>∃(r gT:Nat) (vP:Value) (C:Nat->List Nat),r<=4/\rv=.int .i64 r/\BJ w wx w.heap.size pb T G l m r gT vP C) (fun rv _=>4-(intOf rv).toNat)
 case atStart=>exact⟨0,_,_,_,Nh _,rfl,HH.out⟩
 case round=>
  clear HH;rename World=>w5;obtain⟨r,gT,vP,C,hr,rfl,hR⟩:=hrel;have p2:w5.cell? ⟨pb,0,none⟩=some (.slice (some ⟨gT,0,none⟩) T T):=(ac hR.box 0).trans rfl;have H5:w5.cell? ⟨pb,1,none⟩=some vP:=(ac hR.box 1).trans rfl;by_cases e3:r<4
  ·have dr:decide ((r:Int)<4)=true:=aX (by omega);have HD:=aa (xJ w5 A n c l (HB.out w5 hR.below) HQ (by omega) gT T m C hR.tab.read (by omega) hZ.2 hc hR.size hu.out G HG.out);have HR:=aa hR;clear hR H5;go_wp2_with fail;refine HD.out.mono ?_;rintro e w6 ⟨rfl,HJ,H1⟩;have hs:=an H1;have h7:=hs.blk HR.out.box ar ar;have H5:w6.cell? ⟨pb,1,none⟩=some vP:=(ac h7 1).trans rfl;have p1:=ae h7 1;obtain⟨w7,hO⟩:∃w7,w7=w6.setCell ⟨pb,1,none⟩ (.slice (some ⟨w5.heap.size,0,none⟩) G G):=⟨_,rfl⟩;have hf:al w.heap.size [pb] [] w6 w7:=(by rw[hO];exact(al.refl w.heap.size [pb] [] w6).set (p:=⟨pb,1,none⟩) (NV HX) (List.mem_singleton.2 rfl) _);have hD:Below w.heap.size w6 w7:=hf.below;have hF:Below w.heap.size w w6:=ap HR.out.below H1;have hq:=hF.trans hD;have ha:Blk w7 pb 90 #[.slice (some ⟨gT,0,none⟩) T T,.slice (some ⟨w5.heap.size,0,none⟩) G G]:=(by rw[hO];exact au h7 1 _);have hm:Blk w7 w.heap.size 90 #[.slice none 0 0,.slice none 0 0]:=hf.blk (hs.blk HR.out.res ar ar) (by simp;omega) ar;have H3:aA w7 w.heap.size w5.heap.size G G (fun k=>k6 ((List.range T).map C) (dc l k)):=aA.apart (World.ownsRow.mono HJ HR.out.below.size) h7 hf
   have hI:Hid ((List.range G).map (fun k=>k6 ((List.range T).map C) (dc l k))=lF l (cI l m T r).1):=aa (by
    rw[HR.out.tabs]
    unfold lF
    rw[HC.out,<-HG.out])
   have HS:∀x∈(List.range G).map (fun k=>k6 ((List.range T).map C) (dc l k)),x<T:=(by intro x hx;obtain⟨k,_,rfl⟩:=List.mem_map.1 hx;have:=(AI ((List.range T).map C) (dc l k) (by simp;omega)).1;simpa using this);have hV:=aa (zp w7 A n c l (HB.out w7 hq) HQ (by omega) HY (some ⟨w5.heap.size,0,none⟩) G G _ H3.ints HG.out T m (by omega) hZ.2 HP hc hu.out HS);have p3:w7.cell? ⟨pb,1,none⟩=some (.slice (some ⟨w5.heap.size,0,none⟩) G G):=(ac ha 1).trans rfl;have hh:=aa ha;have hj:=aa hm;have HA:=aa H3;have ho:=aa hq;have hA:=aa hO.symm;obtain⟨pl,H8⟩:∃pl,pl=(List.range G).map (fun k=>k6 ((List.range T).map C) (dc l k)):=⟨_,rfl⟩;have hw:=aa H8;rw[<- H8]at hI hV;clear HJ H1 hs h7 hf hD hF hq ha hm H3 HS HD hO H8;go_upto_region 8 with fail;rw[hA.out];clear hA p2 H5 p1;go_wp2_with fail;refine hV.out.mono ?_;rintro e w8 ⟨g2,rfl,HU,H2⟩;have hg:=an H2;have h0:=hg.blk hh.out ar ar;have HZ:w8.cell? ⟨pb,0,none⟩=some (.slice (some ⟨gT,0,none⟩) T T):=(ac h0 0).trans rfl;have p0:=ae h0 0;obtain⟨w9,hP⟩:∃w9,w9=w8.setCell ⟨pb,0,none⟩ (.slice (some ⟨g2,0,none⟩) T T):=⟨_,rfl⟩;have he:al w.heap.size [pb] [] w8 w9:=(by rw[hP];exact(al.refl w.heap.size [pb] [] w8).set (p:=⟨pb,0,none⟩) (NV HX) (List.mem_singleton.2 rfl) _);have hk:Blk w9 pb 90 #[.slice (some ⟨g2,0,none⟩) T T,.slice (some ⟨w5.heap.size,0,none⟩) G G]:=by rw[hP];exact au h0 0 _
   have hv:Hid (BJ w w9 w.heap.size pb T G l m (r+1) g2 (.slice (some ⟨w5.heap.size,0,none⟩) G G) (fun t=>iE (bD l pl t m))):=aa
    ⟨hk,he.blk (hg.blk hj.out ar ar) (by simp;omega) ar,(HU.mono ho.out.size).apart h0 he,
      .inr ⟨_,_,rfl,aA.apart (hg.row HA.out (fun _ _=>ar) ar) h0 he,by rw[cI,<-hw.out];exact hI.out⟩,
      by rw[cI,<-hI.out];rfl,fun j _=>by
       have h9:=Aw w (bD l pl j m) (by unfold bD;simp;omega) (by unfold bD;simp;omega) (fun x hx=>by
        unfold bD at hx
        obtain⟨s,_,rfl⟩:=List.mem_map.1 hx
        have:=m7 l pl j s l.length
        unfold kr
        have:=HC.out
        omega)
       refine⟨h9.1.trans (by unfold bD;simp),h9.2⟩,(ap ho.out H2).trans he.below⟩
   have hB:=aa hP.symm;clear HU H2 hg h0 he hk hP hh hj HA ho hI hw hV HR;go_upto_region 9 with fail;rw[hB.out];clear hB HZ p0 p3;go_wp2_with fail;go_roundw;case rel=>exact⟨r+1,_,_,_,by omega,by go_num,hv.out⟩
   case measure=>simp[intOf];omega
  ·obtain rfl:r=4:=(by omega);have dr:decide (((4:Nat):Int)<4)=false:=(by decide);obtain⟨gP,P,rfl,HK,HI⟩:=hR.pick.resolve_left (fun h=>absurd h.1 (by omega));have h8:=hR.res;have c0:w5.cell? ⟨w.heap.size,0,none⟩=some (.slice none 0 0):=(ac h8 0).trans rfl;have c1:w5.cell? ⟨w.heap.size,1,none⟩=some (.slice none 0 0):=(ac h8 1).trans rfl;have f0:=ae h8 0;have f1:=ae h8 1
   have hK:al w.heap.size [w.heap.size] [] w5 ((w5.setCell ⟨w.heap.size,0,none⟩ (.slice (some ⟨gT,0,none⟩) T T)).setCell ⟨w.heap.size,1,none⟩ (.slice (some ⟨gP,0,none⟩) G G)):=
    ((al.refl w.heap.size [w.heap.size] [] w5).set (p:=⟨w.heap.size,0,none⟩) (ah _) (List.mem_singleton.2 rfl) _).set (p:=⟨w.heap.size,1,none⟩) (ah _) (List.mem_singleton.2 rfl) _
   have hS:=aa (HE.out gT gP C P _ w (hR.tab.apart h8 hK) hR.tabs (fun t ht=>(hR.size t ht).1) (aA.apart HK h8 hK) HI (hR.below.trans hK.below));clear hR HK HI h8 hK HE;go_wp2_with fail;refine ND (v:=.tuple #[.agg #[.slice (some ⟨gT,0,none⟩) T T,.slice (some ⟨gP,0,none⟩) G G],.int .i64 0]) ?_ rfl hS.out;simp[results,results98,go_sem,c0,c1]
theorem oL(L:List Nat)(g s:Nat):∀q,q<=L.length->iM L (List.replicate g 0) 0 s q=(L.take q).count s
 | 0,_=>by simp[iM]
 | q+1,h=>by rw[ra,oL L g s q (by omega),ti L q 0 (by omega) s];have e:(List.replicate g 0).getD (q/50) 0=0:=(by rw[Nb,Pm];split <;>rfl);simp only[e,true_and]
theorem Cl(L:List Nat)(g s:Nat):kr L (List.replicate g 0) 0 s=L.count s:=by unfold kr;rw[oL L g s L.length (ah _),Nt (ah _)]
theorem Dn(R:List Nat)(m:Nat)(h:R.length=m):(List.range m).map (fun j=>((zL R).getD j 0).toNat)=R:=by
 subst h;apply Oa;intro j;by_cases hj:j<R.length;·rw[Np,NN hj,Nd hj];unfold zL;rw[Oy,Nb,Np,Nd hj];simp
 ·rw[Ny (by simp;omega),Ny (by omega)]
theorem Cc(w:World)(A:Option Addr)(n c:Nat)(L:List Int)(m:Nat)(hL:ZIn w A n L)(hM:iJ L m):
 Calls prog 99 #[.slice A n c,.int .i64 m] w (eK w (bi L m)):=by
 have hP:=hL.1;have pj:1<=n:=by have:=hM.2.2.1;omega
 have hn:n<=1638350:=by have:=hM.2.2.2.1;omega
 have pn:3<=m:=by have:=hM.1;omega
 have HQ:m<=258:=by have:=hM.2.1;omega
 obtain⟨l,hl⟩:∃l,l=iP L:=⟨_,rfl⟩;have HO:l.length=n:=by rw[hl];unfold iP;rw[NC,hP]
 have HP:∀x∈l,x<m:=by intro x hx;rw[hl]at hx;obtain⟨y,hy,rfl⟩:=List.mem_map.1 hx;have:=hM.2.2.2.2 y hy;omega
 have hO:aw w A n l:=by rw[hl];exact fg hL fun x hx=>(hM.2.2.2.2 x hx).1
 have HC:∀a,A=some a->a.block<w.heap.size:=fun a ha=>by obtain⟨b,off,he,hc⟩:=hO.2 (by omega);rw[he]at ha;cases ha;exact Nr w _ (hc 0 (by omega))
 obtain⟨G,hG⟩:∃G,G=aR n:=⟨_,rfl⟩;have pk:G<=40000/\n<=50*G/\50*G<n+50:=by rw[hG];unfold aR;omega
 obtain⟨R,hR⟩:∃R,R=lx l m:=⟨_,rfl⟩;have hi:bi L m=([zL R,zL R],zL (List.replicate G 0),0):=by unfold bi;rw[Ng hM,<-hl,Nn,hP,<-hG,hR]
 rw[hi];have HA:Hid (∀ v w',aQ w' v [zL R,zL R] (zL (List.replicate G 0))->Below w.heap.size w w'->eK w ([zL R,zL R],zL (List.replicate G 0),0) (.returned (.tuple #[v,.int .i64 0])) w'):=aa fun v w' h1 h2=>⟨v,rfl,h1,h2⟩;generalize eK w ([zL R,zL R],zL (List.replicate G 0),0)=PO at*;have hH:=aa fun(w1:World) (hb:ZIn w1 A n L)=>vW w1 A n c L m hb (by unfold maxLen;omega);rw[show decide (iJ L m)=true from No hM]at hH;have hC:=aa fun(w1:World)=>jX w1 n (by omega);rw[<- hG]at hC;have hI:Below w.heap.size w (w.alloc (.cells #[.slice none 0 0,.slice none 0 0] 90)):=(Nj _ _).alloc (ah _) _;have HU:Blk (w.alloc (.cells #[.slice none 0 0,.slice none 0 0] 90)) w.heap.size 90 #[.slice none 0 0,.slice none 0 0]:=aj w _ _;have HL:=aa (hL.below hI);have p1:=aa fun(w1:World) (hb:Below w.heap.size w w1)=>bN hO hb;have p2:=aa HO;have hF:=aa HP;have p0:=aa HC
 have HB:Hid (R=oV ((List.range m).map fun s=>0+l.count s)):=aa (by
  rw[hR]
  unfold lx bD
  congr 1
  apply Oc
  intro s _
  rw[Cl,N8])
 have hE:=aa HU;have hX:=aa hI;clear hL hO hM hP hl HO HP hi hG hR hI HU HC;go_enter func99,ntmps99;go_wp2_with fail;refine(hH.out _ HL.out).mono ?_;rintro e w1 ⟨rfl,rfl⟩;generalize w.alloc (.cells #[.slice none 0 0,.slice none 0 0] 90)=w1 at*;have HZ:w.heap.size<w1.heap.size:=az hE.out;clear HL hH;have hQ:=bK w1 m (by omega);have h0:=bz w1 w.heap.size m (NV HZ) (by omega);have hJ:Below w1.heap.size w1 (w1.alloc (.cells (madeCells #[.int .i64 0] m) 3)):=(Nj _ _).alloc (ah _) _;have h7:=ap hX.out hJ
 have hg:=aa (zc w1.heap.size (w1.alloc (.cells (madeCells #[.int .i64 0] m) 3)) w1.heap.size m m _ (bz w1 w1.heap.size m (ah _) (by omega)) A n c l (p1.out _ h7) (fun a ha=>by
  have:=p0.out a ha
  omega) (by omega) hF.out (fun s _=>Nh _))
 have H4:=aa (aO hJ hE.out);have hY:=aa h7;clear h0 hJ h7 hE hX;go_wp2_with fail;clear hQ;refine hg.out.mono ?_;rintro e w3 ⟨rfl,hK,hT⟩;have HJ:=hT.blk H4.out (by simp;omega) ar;have ps:=hK.lt;have hm:=hY.out.trans (hT.below.mono (NV HZ));have hz:=dK hK.ints;have h6:jk (((List.range m).map fun s=>0+l.count s).map fun(x:Nat)=>(x:Int)):=by refine⟨by simp;omega,by simp;omega,fun x hx=> ?_⟩;obtain⟨y,hy,rfl⟩:=List.mem_map.1 hx;obtain⟨s,_,rfl⟩:=List.mem_map.1 hy;have h1:l.count s<=l.length:=List.count_le_length;have:=p2.out;omega
 have H3:=aa (Fr w3 (some ⟨w1.heap.size,0,none⟩) m m _ hz h6);have hh:=aa h6;have H5:=aa HJ;have hZ:=aa hm;clear hK hT HJ hm hz h6 hg H4 hY;go_wp2_with fail;refine H3.out.mono ?_;intro e w5 pf;rcases pf with⟨pg,_⟩|⟨_,v,k,HH,HI,rfl,h3,hs⟩;·exact absurd hh.out pg
 ·have HF:(((List.range m).map fun s=>0+l.count s).map fun(x:Nat)=>(x:Int)).length=m:=by simp
  rw[HF]at h3 HH HI;rw[qu]at h3;have HN:=Lz HH HI;have h0:w5.ownsRow w3.heap.size 3 1 v m (R.map iv):=by rw[HB.out];unfold oV;rw[show ((List.range m).map fun s=>0+l.count s).length=m by simp,<-HN,Ov];exact h3
  have HD:R.length=m:=by rw[HB.out];unfold oV;simp
  obtain⟨A5,c5,rfl,p7,po,p6⟩:=ak h0;have HG:aw w5 A5 m R:=aN h0;have ho:=ap hZ.out hs;have HK:=aO hs H5.out
  have H2:=aa (m6 w5 A5 m c5 (zL R) (dK HG) (fun x hx=>by
   unfold zL at hx
   obtain⟨y,_,rfl⟩:=List.mem_map.1 hx
   omega) (by omega) (by omega))
  have H0:=aa ho;have H8:=aa HK;have p3:=aa HD;have h5:=aa h0;have p4:=aa (show w.heap.size<w3.heap.size by omega);have p5:=aa (show w3.heap.size<=w5.heap.size from hs.size);clear h3 HN h0 HD p6 HG ho HK hs HF H3 hh H5 hZ;go_wp2_with fail;refine H2.out.mono ?_;rintro e w6 ⟨gC,cC,rfl,hN,ht⟩;have pb:m<=cC:=by obtain⟨A9,c9,he,pl,_,_⟩:=ak hN;simp only[Ou]at he;omega
  have hj:Below w6.heap.size w6 (w6.alloc (.cells #[.slice A5 m c5,.slice (some ⟨gC,0,none⟩) m cC] 57)):=(Nj _ _).alloc (ah _) _;have HM:Blk (w6.alloc (.cells #[.slice A5 m c5,.slice (some ⟨gC,0,none⟩) m cC] 57)) w6.heap.size 57 #[.slice A5 m c5,.slice (some ⟨gC,0,none⟩) m cC]:=aj w6 _ _;have hp:=ap H0.out ht;have hq:=ap hp hj;have HV:=(an hj).blk (aO ht H8.out) ar ar;have hD:=aa ((an hj).row ((an ht).row h5.out (fun _ _=>ar) ar) (fun _ _=>ar) ar);have hA:=aa ((an hj).row hN (fun _ _=>ar) ar);have hr:=aa HM;have h4:=aa HV;have H1:=aa hq;clear hN ht hj HM hp hq HV H2 H0 H8 h5;go_wp2_with fail;refine(hC.out _).mono ?_;rintro e w8 ⟨rfl,rfl⟩;generalize w6.alloc (.cells #[.slice A5 m c5,.slice (some ⟨gC,0,none⟩) m cC] 57)=w7 at*;generalize w6.heap.size=g7 at*;have hv:=az h4.out;have k0:=(ac h4.out 0).trans (rfl:_=some (Value.slice none 0 0));have k1:=(ac h4.out 1).trans (rfl:_=some (Value.slice none 0 0));have f0:=ae h4.out 0;have f1:=ae h4.out 1;have hQ:=bK w7 G (by omega);have HR:=bz w7 w7.heap.size G (ah _) (by omega);have hu:Below w7.heap.size w7 (w7.alloc (.cells (madeCells #[.int .i64 0] G) 3)):=(Nj _ _).alloc (ah _) _
  have hf:al w.heap.size [w.heap.size] [] (w7.alloc (.cells (madeCells #[.int .i64 0] G) 3)) (((w7.alloc (.cells (madeCells #[.int .i64 0] G) 3)).setCell ⟨w.heap.size,0,none⟩ (.slice (some ⟨g7,0,none⟩) 2 2)).setCell ⟨w.heap.size,1,none⟩ (.slice (some ⟨w7.heap.size,0,none⟩) G G)):=
   ((al.refl _ _ _ _).set (p:=⟨w.heap.size,0,none⟩) (ah _) (by simp) _).set (p:=⟨w.heap.size,1,none⟩) (ah _) (by simp) _
  have HW:=aO hu h4.out;have hV:=p4.out;have hW:=p5.out
  have HX:=hf.row (hD.out.alloc (.cells (madeCells #[.int .i64 0] G) 3)) (fun k hk=>by
   have:=(OD hD.out k hk).1
   simp
   omega) ar
  have HY:=hf.row (RW hA.out (.cells (madeCells #[.int .i64 0] G) 3)) (fun k hk=>by
   have:=(OD hA.out k hk).1
   simp
   omega) ar
  have HE:=hf.blk (aO hu hr.out) (by
   have:=az hr.out
   simp
   intro e
   have h1:=hr.out
   have h2:=h4.out
   unfold Blk at h1 h2
   rw[e,h2]at h1
   simp at h1) ar
  have HS:aA _ w7.heap.size w7.heap.size G G fun _=>0:=hf.row HR (fun k hk=>by simp[Value.ownBlock]at hk;simp;omega) ar;have hS:=dK HS.ints;rw[show (List.range G).map (fun _=>0)=List.replicate G 0 by rw[QL,NK]]at hS;have h9:=aA.ints HY;rw[Dn R m p3.out]at h9
  have HT:aQ _ (.agg #[.slice (some ⟨g7,0,none⟩) 2 2,.slice (some ⟨w7.heap.size,0,none⟩) G G]) [zL R,zL R] (zL (List.replicate G 0)):=
   ⟨_,2,2,_,G,G,rfl,KA HE (aN HX) p7 h9 pb (by unfold maxLen;omega),Nm _,by unfold maxLen;omega,hS,Nm _,by unfold maxLen;omega⟩
  have h8:=HA.out _ _ HT ((ap H1.out hu).trans hf.below);rw[P0 _ _ _ _ hv,P0 _ _ _ _ (by simpa using hv)]at h8;have hw:=au (au HW 0 (.slice (some ⟨g7,0,none⟩) 2 2)) 1 (.slice (some ⟨w7.heap.size,0,none⟩) G G);rw[P0 _ _ _ _ hv,P0 _ _ _ _ (by simpa using hv)]at hw;have q0:=(ac hw 0).trans (rfl:_=some (Value.slice (some ⟨g7,0,none⟩) 2 2));have q1:=(ac hw 1).trans (rfl:_=some (Value.slice (some ⟨w7.heap.size,0,none⟩) G G));have hB:=aa h8;clear hw HR hu hf HW hV hW HX HY HE HS hS h9 HT h8 hD hA hr h4 H1 HA hC;go_wp2_with fail;clear hQ;refine ND (v:=.tuple #[.agg #[.slice (some ⟨g7,0,none⟩) 2 2,.slice (some ⟨w7.heap.size,0,none⟩) G G],.int .i64 0]) ?_ rfl hB.out;simp[results,results99,go_sem,q0,q1]
theorem Fn(w:World)(A:Option Addr)(n c:Nat)(L:List Int)(m:Nat)(hL:ZIn w A n L)(hY:n<=c)(hn:n<=1000000)(hM:iJ L m):
 Calls prog 49 #[.slice A n c,.int .i64 m] w (eK w (fN L m)):=by
 have hV:=rg w hM;have hW:=qg hM;obtain⟨w1,hq⟩:∃w1,w1=w.alloc (.cells #[.slice none 0 0,.slice none 0 0] 90):=⟨_,rfl⟩;have hl:Below w.heap.size w w1:=bQ hq;have hX:Blk w1 w.heap.size 90 #[.slice none 0 0,.slice none 0 0]:=eJ hq;have HC:=aa (zl w1 A n c L m (hL.below hl) hY hM);have HF:=aa fun(wx:World) (hb:Below w1.heap.size w1 wx)=>Cc wx A n c L m ((hL.below hl).below hb) hM;have hS:(a9 L m).2.2=0:=by rw[a9,Ng hM]
 have hT:(bi L m).2.2=0:=by rw[bi,Ng hM]
 have h3:fN L m=if(fK (bi L m).1 (bi L m).2.1 L).1<(fK (a9 L m).1 (a9 L m).2.1 L).1 then bi L m else a9 L m:=Ng hM
 have hO:=aa (wC hV hM);have hP:=aa (wC hW hM);have HS:=aa fun(wx:World) (v:Value) (T:List (List Int)) (P:List Int) (h:aQ wx v T P) (hb:Below w1.heap.size w1 wx)=>FE wx v T P h A n c L ((hL.below hl).below hb) hY (by omega);have hZ:(fK (a9 L m).1 (a9 L m).2.1 L).1<=41000000:=by
  have h1:=iU (a9 L m).1 (a9 L m).2.1 L (by rw[hL.1];omega);have h2:=jW (a9 L m).1 (a9 L m).2.1;unfold fK;split;·show _+_<=_;omega
  ·exact Nh _
 have H0:(fK (bi L m).1 (bi L m).2.1 L).1<=41000000:=by
  have h1:=iU (bi L m).1 (bi L m).2.1 L (by rw[hL.1];omega);have h2:=jW (bi L m).1 (bi L m).2.1;unfold fK;split;·show _+_<=_;omega
  ·exact Nh _
 generalize fN L m=ba at*;generalize a9 L m=ca at*;generalize bi L m=fa at*;obtain⟨Tc,Pc,kc⟩:=ca;obtain⟨Tf,Pf,kf⟩:=fa;dsimp only at hS hT h3 hO hP hZ H0;subst hS hT;obtain⟨x,hx⟩:∃x,x=(fK Tc Pc L).1:=⟨_,rfl⟩;obtain⟨y,hy⟩:∃y,y=(fK Tf Pf L).1:=⟨_,rfl⟩;obtain⟨x2,H1⟩:∃x2,x2=(fK Tc Pc L).2:=⟨_,rfl⟩;obtain⟨y2,H2⟩:∃y2,y2=(fK Tf Pf L).2:=⟨_,rfl⟩;rw[<- hx,<-hy]at h3;rw[<- hx]at hZ;rw[<- hy]at H0;have HX:=aa hx;have HY:=aa hy;have H5:=aa H1;have H8:=aa H2;have hi:=aa h3;have H3:=aa hl;have H4:=aa hX;clear hL h3 hl hX hV hW hx hy H1 H2 hM;go_enter func49,ntmps49;go_wp2_with fail;rw[<- hq];clear hq;refine HC.out.mono ?_;rintro e w2 ⟨v2,rfl,hD,hC⟩;obtain⟨A2,n2,c2,B2,m2,d2,rfl,hm⟩:∃A2 n2 c2 B2 m2 d2,v2=.agg #[.slice A2 n2 c2,.slice B2 m2 d2]/\aQ w2 (.agg #[.slice A2 n2 c2,.slice B2 m2 d2]) Tc Pc:=by obtain⟨A2,n2,c2,B2,m2,d2,hv,hr⟩:=id hD;exact⟨A2,n2,c2,B2,m2,d2,hv,by rw[<- hv];exact hD⟩
 have h5:Below w2.heap.size w2 (w2.alloc (.cells #[.slice A2 n2 c2,.slice B2 m2 d2] 90)):=(Nj _ _).alloc (ah _) _;have hJ:=aa (aj w2 90 #[.slice A2 n2 c2,.slice B2 m2 d2]);have hF:=aa (ap hC h5);have hI:=aa (HF.out _ (ap hC h5));have hQ:=aa (hm.below h5);clear hC h5 HF HC hD hm;go_upto_region 2 with fail;generalize w2.alloc (.cells #[.slice A2 n2 c2,.slice B2 m2 d2] 90)=w3 at*;generalize w2.heap.size=g6 at*;go_wp2_with fail;refine hI.out.mono ?_;rintro e w4 ⟨v4,rfl,hE,hR⟩;obtain⟨A4,n4,c4,B4,m4,d4,rfl,ho⟩:∃A4 n4 c4 B4 m4 d4,v4=.agg #[.slice A4 n4 c4,.slice B4 m4 d4]/\aQ w4 (.agg #[.slice A4 n4 c4,.slice B4 m4 d4]) Tf Pf:=by obtain⟨A4,n4,c4,B4,m4,d4,hv,hr⟩:=id hE;exact⟨A4,n4,c4,B4,m4,d4,hv,by rw[<- hv];exact hE⟩
 have he:Below w4.heap.size w4 (w4.alloc (.cells #[.slice A4 n4 c4,.slice B4 m4 d4] 90)):=(Nj _ _).alloc (ah _) _;have h6:=ap hR he;have hK:=aa (aj w4 90 #[.slice A4 n4 c4,.slice B4 m4 d4]);have h0:=aa (aO h6 hJ.out);have hc:=aa (hQ.out.below h6);have hj:=aa (ho.below he);have hs:=aa (ap hF.out h6);clear hR he h6 hI hE ho hQ hF hJ;go_upto_region 5 with fail;generalize w4.alloc (.cells #[.slice A4 n4 c4,.slice B4 m4 d4] 90)=w5 at*;generalize w4.heap.size=g8 at*;have p0:=(ac h0.out 0).trans rfl;have p1:=(ac h0.out 1).trans rfl;have hB:=aa (HS.out w5 _ Tc Pc hc.out hs.out);rw[<- HX.out,<-H5.out]at hB;go_wp2_with fail;clear p0 p1;refine hB.out.mono ?_;rintro e w6 ⟨rfl,hh⟩;have ht:=aa (aO hh h0.out);have h9:=aa (aO hh hK.out);have hu:=aa (hc.out.below hh);have hk:=aa (hj.out.below hh);have hG:=aa (ap hs.out hh);clear hh hB h0 hK hc hj hs;have p0:=(ac h9.out 0).trans rfl;have p1:=(ac h9.out 1).trans rfl;have hp:=aa (HS.out w6 _ Tf Pf hk.out hG.out);rw[<- HY.out,<-H8.out]at hp;go_wp2_with fail;clear p0 p1;refine hp.out.mono ?_;rintro e w7 ⟨rfl,hf⟩;have h7:=aO hf ht.out;have h8:=aO hf h9.out;have hw:=aa (hu.out.below hf);have hA:=aa (hk.out.below hf);have h4:=ap hG.out hf;have hg:=aO h4 H4.out;have hN:=aa hg;have hH:=aa (ap H3.out h4);have r0:=(ac hg 0).trans rfl;have r1:=(ac hg 1).trans rfl;have f0:=ae hg 0;have f1:=ae hg 1;by_cases e:y<x
 ·have p0:=(ac h8 0).trans rfl;have p1:=(ac h8 1).trans rfl;have ha:=hi.out;rw[Ng e]at ha
  have hz:Hid (eK w ba (.returned (.tuple #[.agg #[.slice A4 n4 c4,.slice B4 m4 d4],.int .i64 0])) ((w7.setCell ⟨w.heap.size,0,none⟩ (.slice A4 n4 c4)).setCell ⟨w.heap.size,1,none⟩ (.slice B4 m4 d4))):=aa (by
   rw[ha]
   exact⟨_,rfl,hA.out.past hP.out hN.out (lH _ _ _ _),(hH.out.setCell (p:=⟨w.heap.size,0,none⟩) (ah _) _).setCell (p:=⟨w.heap.size,1,none⟩) (ah _) _⟩)
  generalize eK w ba=PO at*;clear ha h7 h8 h4 hg hf hp;go_wp2_with fail;refine ND (v:=.tuple #[.agg #[.slice A4 n4 c4,.slice B4 m4 d4],.int .i64 0]) ?_ rfl hz.out;simp[results,results49,go_sem,r0,r1]
 ·have p0:=(ac h7 0).trans rfl;have p1:=(ac h7 1).trans rfl;have ha:=hi.out;rw[Nf e]at ha
  have hz:Hid (eK w ba (.returned (.tuple #[.agg #[.slice A2 n2 c2,.slice B2 m2 d2],.int .i64 0])) ((w7.setCell ⟨w.heap.size,0,none⟩ (.slice A2 n2 c2)).setCell ⟨w.heap.size,1,none⟩ (.slice B2 m2 d2))):=aa (by
   rw[ha]
   exact⟨_,rfl,hw.out.past hO.out hN.out (lH _ _ _ _),(hH.out.setCell (p:=⟨w.heap.size,0,none⟩) (ah _) _).setCell (p:=⟨w.heap.size,1,none⟩) (ah _) _⟩)
  generalize eK w ba=PO at*;clear ha h7 h8 h4 hg hf hp;go_wp2_with fail;refine ND (v:=.tuple #[.agg #[.slice A2 n2 c2,.slice B2 m2 d2],.int .i64 0]) ?_ rfl hz.out;simp[results,results49,go_sem,r0,r1]
