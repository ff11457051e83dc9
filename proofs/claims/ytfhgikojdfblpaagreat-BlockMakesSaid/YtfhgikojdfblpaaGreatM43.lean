import Derived.Test.YtfhgikojdfblpaaGreatM42
import Derived.Test.YtfhgikojdfblpaaGreatM08
set_option maxHeartbeats 6400000
set_option maxRecDepth 100000
namespace Go.Proofs.YtfhgikojdfblpaaGreat
open _root_.Go.Proofs.Tryz
open Go.RowKit
def cgN(L P:List Nat)(t s:Nat):Nat->Nat
 | 0=>0
 | k+1=>cgN L P t s k+if P.getD k 0=t then(bI L k).count s else 0
theorem pI(L P:List Nat)(t s k:Nat):∀m,m<=50->50*k+m<=L.length->eK L P t s (50*k+m)=eK L P t s (50*k)+if P.getD k 0=t then((L.drop (50*k)).take m).count s else 0
 | 0,_,_=>by simp
 | m+1,hm,hl=>by
  rw[<- OQ,mO,pI L P t s k m (by omega) (by omega),show(50*k+m)/50=k by omega];have e:(L.drop (50*k)).take (m+1)=(L.drop (50*k)).take m++ [L.getD (50*k+m) 0]:=by rw[NF (by rw[Ny];omega),Rp,Na,Nc (by omega)];rfl
  rw[e,List.count_append,List.count_singleton];by_cases h1:P.getD k 0=t;·simp only[h1,if_true,true_and,Pn];omega
  ·simp only[h1,RA,false_and]
theorem qP(L P:List Nat)(t s:Nat):∀k,cgN L P t s k=eK L P t s (min (50*k) L.length)
 | 0=>by simp[cgN,eK]
 | k+1=>by
  rw[cgN,qP L P t s k];by_cases h:50*k<=L.length
  ·rw[OJ h];obtain⟨m,hm⟩:∃m,m=min 50 (L.length-50*k):=⟨_,rfl⟩;have h2:=pI L P t s k m (by omega) (by omega);rw[show min (50*(k+1)) L.length=50*k+m by omega,h2];have e:bI L k=(L.drop (50*k)).take m:=by
    unfold bI;by_cases e:m=50;·rw[e]
    ·rw[Nr (by rw[Ny];omega),Nr (by rw[Ny];omega)]
   rw[e]
  ·rw[PQ (by omega),PQ (by omega)];have e:bI L k= []:=(by unfold bI;rw[Pp (by omega)];rfl);rw[e];simp
theorem Mv(L P:List Nat)(t s k:Nat):cgN L P t s k<=L.length:=by rw[qP];exact ND (ie L P t s _) (Nat.min_le_right _ _)
theorem Lp(L P:List Nat)(t s:Nat):cgN L P t s (aH L.length)=em L P t s:=by rw[qP,PQ (by unfold aH;omega)];rfl
theorem zN(w:World)(A:Option Addr)(n c:Nat)(L:List Nat)(hL:aB w A n L)(p2:n<=c)(hn:n<=2000000)(p8:1<=n)(B:Option Addr)(G d:Nat)(P:List Nat)(hP:aB w B G P)(hG:G=aH n)
 (T m:Nat) (pf:1<=T) (pg:T<=6) (pn:3<=m) (hm:m<=258) (hV:∀x∈L,x<m) (hW:∀x∈P,x<T):
 Calls prog 87 #[.slice B G d,.slice A n c,.int .i64 T,.int .i64 m] w fun e w'=>∃g,e=.returned (.slice (some ⟨g,0,none⟩) T T)/\dC w' w.heap.size g T (fun t=>dH (aM L P t m))/\Below w.heap.size w w':=by
 have H2:=hL.1;have H3:=hP.1;have p9:G<=40001/\n<=50*G/\50*G<n+50:=by rw[hG];unfold aH;omega
 have hw:=pU w T (by omega);have hQ:=aa (BJ w w.heap.size T m (ag _) (by omega) (fun _=>0) (fun _ _=>0));have hN:Hid (Below w.heap.size w (w.alloc (.cells (madeCells #[.slice none 0 0] T) 37))):=aa ((Nj _ _).alloc (ag _) _);have HJ:=aa hL;have HL:=aa fun(w1:World) (hb:Below w.heap.size w w1)=>cF hL hb;have HP:=aa fun(w1:World) (hb:Below w.heap.size w w1)=>cF hP hb;have HH:=aa hV;have HM:=aa hW;have hA:=aa H2;have HI:=aa H3;have HG:=aa hG;clear hL hP hV hW H2 H3 hG;go_enter func87,ntmps87;go_wp2_with fail;clear hw;go_loopw [10,20] (fun s10 tv wx=>∃(t:Nat) (R:Nat->Nat),t<=T/\tv=.int .i64 t/\gV wx w.heap.size w.heap.size T m t R (fun _ _=>0)/\Below w.heap.size w wx) (fun _ tv _=>T-(intOf tv).toNat)
 case atStart=>exact⟨0,fun _=>0,Ng _,rfl,hQ.out,hN.out⟩
 case round=>
  clear hQ hN;rename World=>w1;obtain⟨t,R,ht,rfl,hD,hb⟩:=hrel;by_cases e:t<T
  ·have p5:(0:Int)<=(t:Int):=(by omega);have p6:(t:Int)<(T:Int):=(by omega);have hv:=hD.lt;have hw:=bu w1 m (by omega);have h2:=bf w1 w1.heap.size m (ag _) (by omega);have hh:Below w1.heap.size w1 (w1.alloc (.cells (madeCells #[.int .i64 0] m) 3)):=(Nj _ _).alloc (ag _) _;have hp:=hD.push hh (by omega) h2 (ag _);have pk:(w1.alloc (.cells (madeCells #[.int .i64 0] m) 3)).frozen? ⟨w.heap.size,t,none⟩=false:=(hD.step (an hh)).frozen t;have hZ:∃v,(w1.alloc (.cells (madeCells #[.int .i64 0] m) 3)).cell? ⟨w.heap.size,t,none⟩=some v:=(by have:=Oy (hD.step (an hh)).own t (by omega);rw[Np,NJ e]at this;exact⟨_,this⟩);obtain⟨v,hZ⟩:=hZ;have hJ:=(aq hb hh).setCell (p:=⟨w.heap.size,t,none⟩) (ag _) (.slice (some ⟨w1.heap.size,0,none⟩) m m);rw[PS _ _ _ _ hv.2]at hp hJ
   have HK:=aa (hp.same (D:=fun _ _=>0) fun j _=>by
    by_cases ej:j=t
    ·rw[Nf ej]
    ·rw[Nd ej])
   have HE:=aa hJ;clear hp hJ h2 hh hD hb;go_wp2_with fail;go_roundw;case rel=>exact⟨t+1,_,by omega,by go_num,HK.out,HE.out⟩
   case measure=>simp[intOf];omega
  ·obtain rfl:T=t:=(by omega);have HD:=aa hD;have HB:=aa hb;have hv:=hD.lt;clear hD hb;go_wp2_with fail;(go_loopw [11,12,31] (fun s11 s12 kv wx=>∃k:Nat,k<=G/\kv=.int .i64 k/\gV wx w.heap.size w.heap.size T m T R (fun t s=>cgN L P t s k)/\Below w.heap.size w wx) (fun _ _ kv _=>G-(intOf kv).toNat));case atStart=>exact⟨0,Ng _,rfl,HD.out,HB.out⟩
   case round=>
    clear HD HB hv;rename World=>w3;obtain⟨k,hk,rfl,hD,hb⟩:=hrel;by_cases e4:k<G
    ·have pm:(0:Int)<=(k:Int):=(by omega);have pl:(k:Int)<(G:Int):=(by omega);have H5:=HP.out w3 hb;obtain⟨pb,po,rfl,H4⟩:=H5.2 (by omega);have p4:=H4 k e4;obtain⟨y,hy⟩:∃y,y=P.getD k 0:=⟨_,rfl⟩;have h9:y<T:=(by rw[hy];refine HM.out _ ?_;rw[Na,Nc (by rw[HI.out];exact e4)];exact NM _);rw[<- hy]at p4;have pv:(0:Int)<=(y:Int):=(by omega);have p7:(y:Int)<(T:Int):=(by omega);have c1:=hD.cell y h9 h9;have hF:=hD.step ((ak.refl w.heap.size [] [] w3).drew);have h2:=hF.rows y h9;have HZ:w.heap.size<=R y:=h2.lt.1;(have hT:∀a,A=some a->a.block<w.heap.size:=fun a ha=>by obtain⟨b,off,he,hc⟩:=HJ.out.2 (by omega);rw[he]at ha;cases ha;exact No w _ (hc 0 (by omega)));have hI:Below w.heap.size w w3.drew:=hb.drew;have h5:=aa (tE w3.drew A n c L k (HL.out w3.drew hI) p2 hn (by omega))
     have h6:=aa fun(A2:Option Addr) (c2:Nat) (HQ:aB w3.drew A2 (bI L k).length (bI L k)) (HO:∀a,A2=some a->∃a0,A=some a0/\a.block=a0.block)=>zC w.heap.size w3.drew (R y) m m _ h2 A2 (bI L k).length c2 (bI L k) HQ
      (fun a ha=>by
        obtain⟨a0,h0,h1⟩:=HO a ha
        have:=hT a0 h0
        omega) (by rw[jc];omega) (fun x hx=>HH.out x (OS (OC hx))) (fun s _=>by
        have:=Mv L P y s k
        have:=hA.out
        omega)
     obtain⟨gy,h8⟩:∃gy,gy=R y:=⟨_,rfl⟩;rw[<- h8]at c1 h6;have HD:=aa hF;have HB:=aa hI;have HY:=aa hy;have hr:=aa h8;clear H5 H4 hy hF h2 HZ hT hI h8 hD hb;go_wp2_with fail;go_upto_region 10 with fail
     go_region_held3 (fun w'=>w'.cell? ⟨w.heap.size,y,none⟩=some (.slice (some ⟨gy,0,none⟩) m m)) (first|exact c1|exact HT|go_keep)
      (first
        | (go_at_call 54;refine h5.out.mono ?_;rintro e w7 ⟨A2,c2,rfl,p0,pj,HS,rfl⟩;have HF:=aa p0;have HC:=aa HS)
        | (go_at_call 88;refine(h6.out A2 c2 HF.out HC.out).mono ?_;rintro e w8 ⟨rfl,hu,ho⟩;have HT:w8.cell? ⟨w.heap.size,y,none⟩=some (.slice (some ⟨gy,0,none⟩) m m):=(HD.out.upd h9 (by rw[<- hr.out];exact hu) (by rw[<- hr.out];exact ho)).cell y h9 h9 |>.trans (by rw[<- hr.out])))
     rw[hr.out]at hu ho;have hq:=HD.out.upd h9 hu ho
     have HU:=aa (hq.same (D:=fun t s=>cgN L P t s (k+1)) fun j hj=>by
      by_cases ej:j=y
      ·rw[Nf ej,ej]
       funext s
       rw[cgN,<-HY.out,Nf rfl]
      ·rw[Nd ej]
       funext s
       rw[cgN,<-HY.out,Nd fun h=>ej h.symm,NY])
     have H8:=aa (HB.out.trans ho.below);clear hq hu ho HD HB h5 h6;go_wp2_with fail;go_roundw;case rel=>exact⟨k+1,by omega,by go_num,HU.out,H8.out⟩
     case measure=>simp[intOf];omega
    ·obtain rfl:G=k:=(by omega);(have hC:=hD.same (D:=fun t s=>em L P t s) fun j _=>by funext s;rw[<- Lp,hA.out,<-HG.out]);have hw:=pU w3 T (by omega);have H6:w.heap.size<=w3.heap.size:=hb.size;have hv:=hC.lt
     have HX:Hid (iH (w3.alloc (.cells (madeCells #[.slice none 0 0] T) 37)) w3.heap.size w3.heap.size T (fun _=> []) w.heap.size):=aa
      ⟨fun _=>.slice none 0 0,(vh w3 w3.heap.size T (ag _) (by omega)).own,fun j _=>⟨none,0,rfl,Nk _,Nt _ _ _ _,by simp[Value.ownBlock]⟩⟩
     have hO:Hid (Below w3.heap.size w3 (w3.alloc (.cells (madeCells #[.slice none 0 0] T) 37))):=aa ((Nj _ _).alloc (ag _) _);have HD:=aa hC;have HB:=aa hb;clear hD hC hb;go_wp2_with fail;clear hw;(go_loopw [14,15,49] (fun s14 s15 tv wx=>∃t:Nat,t<=T/\tv=.int .i64 t/\iH wx w3.heap.size w3.heap.size T (fun j=>if j<t then dH (aM L P j m)else []) w.heap.size/\Below w3.heap.size w3 wx) (fun _ _ tv _=>T-(intOf tv).toNat));case atStart=>refine⟨0,Ng _,rfl,HX.out.same fun j _=> ?_,hO.out⟩;rw[Nd]
     case round=>
      clear HX hO;rename World=>w7;obtain⟨t,pr,rfl,hX,hi⟩:=hrel;by_cases e5:t<T
      ·have p5:(0:Int)<=(t:Int):=(by omega);have p6:(t:Int)<(T:Int):=(by omega);have hE:=HD.out.step (an hi);have c1:=hE.cell t e5 e5;have h2:=hE.rows t e5;have hz:=dw h2.ints;(have hY:∀s,em L P t s<=2000000:=fun s=>by have:=ie L P t s L.length;unfold em;have:=hA.out;omega);have h7:gU (((List.range m).map (em L P t)).map fun(x:Nat)=>(x:Int)):=(by refine⟨by simp;omega,by simp;omega,fun x hx=> ?_⟩;obtain⟨y,hy,rfl⟩:=List.mem_map.1 hx;obtain⟨s,_,rfl⟩:=List.mem_map.1 hy;have:=hY s;omega);have hB:=aa (Fz w7 (some ⟨R t,0,none⟩) m m _ 17 hz h7 (by omega) (by omega));have HX:=aa hX;have hf:=aa hi;have hg:=aa h7;obtain⟨gt,H1⟩:∃gt,gt=R t:=⟨_,rfl⟩;rw[<- H1]at c1 hB;clear hE h2 hz hY h7 hX hi H1;go_wp2_with fail;refine hB.out.mono ?_;intro e w9 p1;rcases p1 with⟨p3,_⟩|⟨_,_,_,v,len,hR,rfl,h3,hH⟩;·exact absurd hg.out (p3.resolve_right (by omega))
       ·obtain⟨A9,c9,rfl,HV,_,hS⟩:=ai h3;have HR:(((List.range m).map (em L P t)).map fun(x:Nat)=>(x:Int)).length=m:=(by simp);rw[HR]at h3 HV hS |-;rw[ly,show((17:Nat):Int).toNat=17 from rfl]at hR;have hl:=ur hR;have hK:dH (aM L P t m)=(List.range m).map len:=(by unfold dH aM;rw[hl,Nu,NE]);have h2:w9.ownsRow w7.heap.size 3 1 (.slice A9 m c9) m ((dH (aM L P t m)).map iv):=(by rw[hK,Ou];exact h3);have hM:(dH (aM L P t m)).length=m:=(by rw[hK];simp);have H7:w3.heap.size<=w7.heap.size:=hf.out.size;have hs:=HX.out.step (an hH)
        have h4:=hs.set (i:=t) (A:=A9) (k:=c9) (L:=dH (aM L P t m)) (by rw[hM];exact World.ownsRow.mono h2 H7) (by omega) (by
         intro e
         have:=(NS h2 w.heap.size (by rw[hM]at e;exact e)).1
         omega)
        rw[hM]at h4;have H0:(fun j=>if j=t then dH (aM L P t m)else if j<t then dH (aM L P j m)else [])=fun j=>if j<t+1 then dH (aM L P j m)else []:=by
         funext j;by_cases ej:j=t;·rw[Nf ej,Nf,ej]
         ·rw[Nd ej];by_cases ej2:j<t;·rw[Nf ej2,Nf]
          ·rw[Nd ej2,Nd]
        rw[H0]at h4;obtain⟨u9,ps⟩:=hs.tabW.there t e5;have fz9:=hs.tabW.frozen t;have HN:=aa h4;have HA:=aa ((hf.out.trans (hH.mono H7)).setCell (p:=⟨w3.heap.size,t,none⟩) (ag _) (.slice A9 m c9));clear hR h3 hH hl hK h2 hs h4 H0 hS hB hg HX hf;go_wp2_with fail;go_roundw;case rel=>exact⟨t+1,by omega,by go_num,HN.out,HA.out⟩
        case measure=>simp[intOf];omega
      ·obtain rfl:T=t:=(by omega);have HW:Hid (dC w7 w.heap.size w3.heap.size T (fun j=>dH (aM L P j m))):=aa ((hX.same fun j hj=>Nf hj).tabW.mono H6);have hf:=aa (HB.out.trans (hi.mono H6));clear hX hi;go_wp2_with fail;go_ret;exact⟨_,rfl,HW.out,hf.out⟩
theorem dC.apart{w w':World}{B B' g n pb:Nat}{C:Nat->List Nat}{cs:Array Value}(h:dC w B g n C)(hk:Blk w pb 43 cs)(hs:ak B' [pb] [] w w'):dC w' B g n C:=by
 obtain⟨F,h1,h2⟩:=h;refine⟨F,hs.row h1 (fun k hk2=> ?_) aw,fun j hj=> ?_⟩;·rw[Og];exact dV h1 hk (by decide) k hk2
 ·obtain⟨A,k,x,y,z⟩:=h2 j hj;refine⟨A,k,x,y,hs.row z (fun k2 hk2=> ?_) aw⟩;rw[Og];exact dV z hk (by decide) k2 hk2
theorem az.apart{w w':World}{B B' g c n pb:Nat}{f:Nat->Nat}{cs:Array Value}(h:az w B g c n f)(hk:Blk w pb 43 cs)(hs:ak B' [pb] [] w w'):az w' B g c n f:=by refine hs.row h (fun k hk2=> ?_) aw;rw[Og];exact dV h hk (by decide) k hk2
theorem dC.steps{w w':World}{B B' g n:Nat}{C:Nat->List Nat}(h:dC w B g n C)(hs:ak B' [] [] w w'):dC w' B g n C:=by obtain⟨F,h1,h2⟩:=h;refine⟨F,hs.row h1 (fun _ _=>aw) aw,fun j hj=> ?_⟩;obtain⟨A,k,x,y,z⟩:=h2 j hj;exact⟨A,k,x,y,hs.row z (fun _ _=>aw) aw⟩
structure Cb (w wx:World) (rb pb T G:Nat) (l:List Nat) (m r:Nat) (gT:Nat) (vP:Value) (C:Nat->List Nat):Prop where
 box:Blk wx pb 43 #[.slice (some ⟨gT,0,none⟩) T T,vP]
 res:Blk wx rb 43 #[.slice none 0 0,.slice none 0 0]
 tab:dC wx w.heap.size gT T C
 pick:r=0/\vP=.slice none 0 0\/∃gP P,vP=.slice (some ⟨gP,0,none⟩) G G/\az wx w.heap.size gP G G P/\(List.range G).map P=(bF l m T r).2
 tabs:(List.range T).map C=(bF l m T r).1
 size:∀j,j<T->(C j).length=m/\∀x∈C j,x<=1000
 below:Below w.heap.size w wx
theorem AN(w:World)(W:List Nat)(h2:2<=W.length)(hn:W.length<=258)(hx:∀x∈W,x<=1073741824):(dH W).length=W.length/\∀x∈dH W,x<=1000:=by have h:=wR w W h2 hn hx;refine⟨h.1,fun x hx=> ?_⟩;have h3:=h.2.1.2.2.1 (x:Int) (by unfold zL;exact List.mem_map.2 ⟨x,hx,rfl⟩);omega
theorem zI(w:World)(A:Option Addr)(n c:Nat)(L:List Int)(m:Nat)(hL:ZIn w A n L)(HO:n<=c)(hM:eY L m):
 Calls prog 41 #[.slice A n c,.int .i64 m] w (bP w (aG L m)):=by
 have H4:=hL.1;have HW:1<=n:=by have:=hM.2.2.1;omega
 have hn:n<=1638350:=by have:=hM.2.2.2.1;omega
 have HN:3<=m:=by have:=hM.1;omega
 have hc:m<=258:=by have:=hM.2.1;omega
 obtain⟨l,hl⟩:∃l,l=gu L:=⟨_,rfl⟩;have HK:l.length=n:=by rw[hl];unfold gu;rw[Nu,H4]
 have HM:∀x∈l,x<m:=by intro x hx;rw[hl]at hx;obtain⟨y,hy,rfl⟩:=List.mem_map.1 hx;have:=hM.2.2.2.2 y hy;omega
 have HJ:aB w A n l:=by rw[hl];exact dN hL fun x hx=>(hM.2.2.2.2 x hx).1
 obtain⟨T,hT⟩:∃T,T=bQ n:=⟨_,rfl⟩;have hZ:2<=T/\T<=6:=by rw[hT];exact nu _
 have hH:bJ n=(T,0):=by unfold bJ;rw[Nd,hT]
 have hp:aG L m=((bF l m T 4).1.map zL,zL (bF l m T 4).2,0):=by unfold aG;rw[Nf hM,<-hl,Nv,H4,<-hT]
 obtain⟨R,hR⟩:∃R,R=bF l m T 4:=⟨_,rfl⟩;rw[<- hR]at hp;rw[hp];obtain⟨G,hG⟩:∃G,G=aH n:=⟨_,rfl⟩;have p2:G<=40000/\n<=50*G/\50*G<n+50:=by rw[hG];unfold aH;omega
 have hX:=aa fun(w1:World) (hb:ZIn w1 A n L)=>wn w1 A n c L m hb (by unfold maxLen;omega);rw[show decide (eY L m)=true from Nn hM]at hX;have hY:=aa fun(w1:World)=>Ah w1 (n:Int);rw[hH]at hY;have H0:Below w.heap.size w (w.alloc (.cells #[.slice none 0 0,.slice none 0 0] 43)):=(Nj _ _).alloc (ag _) _;have HQ:Blk (w.alloc (.cells #[.slice none 0 0,.slice none 0 0] 43)) w.heap.size 43 #[.slice none 0 0,.slice none 0 0]:=aj w _ _;have HL:=aa (hL.below H0);have H8:=aa fun(w1:World) (hb:Below w.heap.size w w1)=>cF HJ hb;have HA:=aa HK;have hu:=aa HM;have HG:=aa hG
 have HC:Hid (∀ (gT gP:Nat) (C:Nat->List Nat) (P:Nat->Nat) (w' w'':World),dC w' w.heap.size gT T C->(List.range T).map C=(bF l m T 4).1->(∀ t,t<T->(C t).length=m)->az w' w.heap.size gP G G P->(List.range G).map P=(bF l m T 4).2->Below w.heap.size w w'->
  bP w (R.1.map zL,zL R.2,0) (.returned (.tuple #[.agg #[.slice (some ⟨gT,0,none⟩) T T,.slice (some ⟨gP,0,none⟩) G G],.int .i64 0])) w'):=aa fun gT gP C P w' _ h1 h2 h3 h4 h5 h6=>by
  rw[hR,<-h2,<-h5]
  refine⟨_,rfl,⟨_,T,T,_,G,G,rfl,⟨by simp,fun _=>⟨gT,0,rfl,fun i hi=> ?_⟩⟩,Nk _,by unfold maxLen;omega,dw h4.ints,Nk _,by unfold maxLen;omega⟩,h6⟩
  have e:(((List.range T).map C).map zL).getD i []=zL (C i):=by
   rw[Na,Np,Np,NJ hi]
   rfl
  obtain⟨A2,k2,a,b,d⟩:=h1.read i hi
  have e2:(zL (C i)).length=(C i).length:=by unfold zL;simp
  rw[e,e2]
  refine⟨A2,k2,by rw[N8];exact a,?_,d,by have:=h3 i hi;unfold maxLen;omega⟩
  exact dw b
 generalize bP w (R.1.map zL,zL R.2,0)=PO at*;have hW:=aa HQ;have hQ:=aa H0;clear hR hL HJ hM H4 hl HK HM hT hH hp hG HQ H0;go_enter func41,ntmps41;go_wp2_with fail;refine(hX.out _ HL.out).mono ?_;rintro e w1 ⟨rfl,rfl⟩;generalize w.alloc (.cells #[.slice none 0 0,.slice none 0 0] 43)=w1 at*;have HU:w.heap.size<w1.heap.size:=aA hW.out;clear HL hX;go_wp2_with fail;refine(hY.out _).mono ?_;rintro e w2 ⟨rfl,rfl⟩;clear hY;have HF:=aa (Cw w2 T m (by omega) hZ.2 HN hc);go_wp2_with fail;refine HF.out.mono ?_;rintro e w3 ⟨rfl,HT,hC⟩;obtain⟨v9,hN⟩:∃v9,v9=w3.alloc (.cells #[.slice (some ⟨w2.heap.size,0,none⟩) T T,.slice none 0 0] 43):=⟨_,rfl⟩;have hJ:Below w3.heap.size w3 v9:=cB hN;have hE:Blk v9 w3.heap.size 43 #[.slice (some ⟨w2.heap.size,0,none⟩) T T,.slice none 0 0]:=dW hN
 have HD:=aa (show Cb w v9 w.heap.size w3.heap.size T G l m 0 w2.heap.size (.slice none 0 0) (fun t=>(List.range m).map (eO m T t))from
  ⟨hE,(an hJ).blk (aO hC hW.out) aw aw,(HT.mono (NT HU)).steps (an hJ),.inl ⟨rfl,rfl⟩,rfl,fun j _=>⟨by simp,fun x hx=>by
    obtain⟨s,_,rfl⟩:=List.mem_map.1 hx
    unfold eO
    split <;>omega⟩,(aq hQ.out hC).trans (hJ.mono (ND hQ.out.size hC.size))⟩)
 have HV:w.heap.size<w3.heap.size:=OA HU hC.size;have hz:=aa hN.symm;clear HT hC hJ hE HF hW hQ hN;go_upto_region 5 with fail;rw[hz.out];clear hz;generalize w3.heap.size=pb at*;generalize w2.heap.size=gT0 at*;go_wp2_with fail;go_loopw [24] (fun rv wx=>∃(r gT:Nat) (vP:Value) (C:Nat->List Nat),r<=4/\rv=.int .i64 r/\Cb w wx w.heap.size pb T G l m r gT vP C) (fun rv _=>4-(intOf rv).toNat)
 case atStart=>exact⟨0,_,_,_,Ng _,rfl,HD.out⟩
 case round=>
  clear HD;rename World=>w5;obtain⟨r,gT,vP,C,hr,rfl,hR⟩:=hrel;have p0:w5.cell? ⟨pb,0,none⟩=some (.slice (some ⟨gT,0,none⟩) T T):=(ac hR.box 0).trans rfl;have H5:w5.cell? ⟨pb,1,none⟩=some vP:=(ac hR.box 1).trans rfl;by_cases e3:r<4
  ·have dr:decide ((r:Int)<4)=true:=bE;have HB:=aa (xS w5 A n c l (H8.out w5 hR.below) HO (by omega) gT T m C hR.tab.read (by omega) hZ.2 hc hR.size hu.out G HG.out);have HR:=aa hR;clear hR H5;go_wp2_with fail;refine HB.out.mono ?_;rintro e w6 ⟨rfl,HH,H1⟩;have hs:=an H1;have h7:=hs.blk HR.out.box aw aw;have H5:w6.cell? ⟨pb,1,none⟩=some vP:=(ac h7 1).trans rfl;have HZ:=ae h7 1;obtain⟨w7,hO⟩:∃w7,w7=w6.setCell ⟨pb,1,none⟩ (.slice (some ⟨w5.heap.size,0,none⟩) G G):=⟨_,rfl⟩;have hf:ak w.heap.size [pb] [] w6 w7:=(by rw[hO];exact(ak.refl w.heap.size [pb] [] w6).set (p:=⟨pb,1,none⟩) (NT HV) (List.mem_singleton.2 rfl) _);have hD:Below w.heap.size w6 w7:=hf.below;have hF:Below w.heap.size w w6:=aq HR.out.below H1;have hq:=hF.trans hD;have ha:Blk w7 pb 43 #[.slice (some ⟨gT,0,none⟩) T T,.slice (some ⟨w5.heap.size,0,none⟩) G G]:=(by rw[hO];exact ay h7 1 _);have hm:Blk w7 w.heap.size 43 #[.slice none 0 0,.slice none 0 0]:=hf.blk (hs.blk HR.out.res aw aw) (by simp;omega) aw;have H3:az w7 w.heap.size w5.heap.size G G (fun k=>eU ((List.range T).map C) (bI l k)):=az.apart (World.ownsRow.mono HH HR.out.below.size) h7 hf
   have hI:Hid ((List.range G).map (fun k=>eU ((List.range T).map C) (bI l k))=jV l (bF l m T r).1):=aa (by
    rw[HR.out.tabs]
    unfold jV
    rw[HA.out,<-HG.out])
   have HP:∀x∈(List.range G).map (fun k=>eU ((List.range T).map C) (bI l k)),x<T:=(by intro x hx;obtain⟨k,_,rfl⟩:=List.mem_map.1 hx;have:=(Bf ((List.range T).map C) (bI l k) (by simp;omega)).1;simpa using this);have hV:=aa (zN w7 A n c l (H8.out w7 hq) HO (by omega) HW (some ⟨w5.heap.size,0,none⟩) G G _ H3.ints HG.out T m (by omega) hZ.2 HN hc hu.out HP);have p1:w7.cell? ⟨pb,1,none⟩=some (.slice (some ⟨w5.heap.size,0,none⟩) G G):=(ac ha 1).trans rfl;have hh:=aa ha;have hj:=aa hm;have H7:=aa H3;have ho:=aa hq;have hA:=aa hO.symm;obtain⟨pl,H6⟩:∃pl,pl=(List.range G).map (fun k=>eU ((List.range T).map C) (bI l k)):=⟨_,rfl⟩;have hw:=aa H6;rw[<- H6]at hI hV;clear HH H1 hs h7 hf hD hF hq ha hm H3 HP HB hO H6;go_upto_region 8 with fail;rw[hA.out];clear hA p0 H5 HZ;go_wp2_with fail;refine hV.out.mono ?_;rintro e w8 ⟨g2,rfl,HS,H2⟩;have hg:=an H2;have h0:=hg.blk hh.out aw aw;have HX:w8.cell? ⟨pb,0,none⟩=some (.slice (some ⟨gT,0,none⟩) T T):=(ac h0 0).trans rfl;have HY:=ae h0 0;obtain⟨w9,hP⟩:∃w9,w9=w8.setCell ⟨pb,0,none⟩ (.slice (some ⟨g2,0,none⟩) T T):=⟨_,rfl⟩;have he:ak w.heap.size [pb] [] w8 w9:=(by rw[hP];exact(ak.refl w.heap.size [pb] [] w8).set (p:=⟨pb,0,none⟩) (NT HV) (List.mem_singleton.2 rfl) _);have hk:Blk w9 pb 43 #[.slice (some ⟨g2,0,none⟩) T T,.slice (some ⟨w5.heap.size,0,none⟩) G G]:=by rw[hP];exact ay h0 0 _
   have hv:Hid (Cb w w9 w.heap.size pb T G l m (r+1) g2 (.slice (some ⟨w5.heap.size,0,none⟩) G G) (fun t=>dH (aM l pl t m))):=aa
    ⟨hk,he.blk (hg.blk hj.out aw aw) (by simp;omega) aw,(HS.mono ho.out.size).apart h0 he,
      .inr ⟨_,_,rfl,az.apart (hg.row H7.out (fun _ _=>aw) aw) h0 he,by rw[bF,<-hw.out];exact hI.out⟩,
      by rw[bF,<-hI.out];rfl,fun j _=>by
       have h9:=AN w (aM l pl j m) (by unfold aM;simp;omega) (by unfold aM;simp;omega) (fun x hx=>by
        unfold aM at hx
        obtain⟨s,_,rfl⟩:=List.mem_map.1 hx
        have:=ie l pl j s l.length
        unfold em
        have:=HA.out
        omega)
       refine⟨h9.1.trans (by unfold aM;simp),h9.2⟩,(aq ho.out H2).trans he.below⟩
   have hB:=aa hP.symm;clear HS H2 hg h0 he hk hP hh hj H7 ho hI hw hV HR;go_upto_region 9 with fail;rw[hB.out];clear hB HX HY p1;go_wp2_with fail;go_roundw;case rel=>exact⟨r+1,_,_,_,by omega,by go_num,hv.out⟩
   case measure=>simp[intOf];omega
  ·obtain rfl:r=4:=(by omega);have dr:decide (((4:Nat):Int)<4)=false:=(by decide);obtain⟨gP,P,rfl,HI,HE⟩:=hR.pick.resolve_left (fun h=>absurd h.1 (by omega));have h8:=hR.res;have c0:w5.cell? ⟨w.heap.size,0,none⟩=some (.slice none 0 0):=(ac h8 0).trans rfl;have c1:w5.cell? ⟨w.heap.size,1,none⟩=some (.slice none 0 0):=(ac h8 1).trans rfl;have f0:=ae h8 0;have f1:=ae h8 1
   have hK:ak w.heap.size [w.heap.size] [] w5 ((w5.setCell ⟨w.heap.size,0,none⟩ (.slice (some ⟨gT,0,none⟩) T T)).setCell ⟨w.heap.size,1,none⟩ (.slice (some ⟨gP,0,none⟩) G G)):=
    ((ak.refl w.heap.size [w.heap.size] [] w5).set (p:=⟨w.heap.size,0,none⟩) (ag _) (List.mem_singleton.2 rfl) _).set (p:=⟨w.heap.size,1,none⟩) (ag _) (List.mem_singleton.2 rfl) _
   have hS:=aa (HC.out gT gP C P _ w (hR.tab.apart h8 hK) hR.tabs (fun t ht=>(hR.size t ht).1) (az.apart HI h8 hK) HE (hR.below.trans hK.below));clear hR HI HE h8 hK HC;go_wp2_with fail;refine NH (v:=.tuple #[.agg #[.slice (some ⟨gT,0,none⟩) T T,.slice (some ⟨gP,0,none⟩) G G],.int .i64 0]) ?_ rfl hS.out;simp[results,results41,go_sem,c0,c1]
theorem pJ(L:List Nat)(g s:Nat):∀q,q<=L.length->eK L (List.replicate g 0) 0 s q=(L.take q).count s
 | 0,_=>by simp[eK]
 | q+1,h=>by rw[mO,pJ L g s q (by omega),tD L q 0 (by omega) s];have e:(List.replicate g 0).getD (q/50) 0=0:=(by rw[Na,OP];split <;>rfl);simp only[e,true_and]
theorem CH(L:List Nat)(g s:Nat):em L (List.replicate g 0) 0 s=L.count s:=by unfold em;rw[pJ L g s L.length (ag _),Nr (ag _)]
theorem DD(R:List Nat)(m:Nat)(h:R.length=m):(List.range m).map (fun j=>((zL R).getD j 0).toNat)=R:=by
 subst h;apply Ob;intro j;by_cases hj:j<R.length;·rw[Np,NJ hj,Nc hj];unfold zL;rw[Ov,Na,Np,Nc hj];simp
 ·rw[Nw (by simp;omega),Nw (by omega)]
theorem Cz(w:World)(A:Option Addr)(n c:Nat)(L:List Int)(m:Nat)(hL:ZIn w A n L)(hM:eY L m):
 Calls prog 42 #[.slice A n c,.int .i64 m] w (bP w (aP L m)):=by
 have hP:=hL.1;have p9:1<=n:=by have:=hM.2.2.1;omega
 have hn:n<=1638350:=by have:=hM.2.2.2.1;omega
 have pg:3<=m:=by have:=hM.1;omega
 have HO:m<=258:=by have:=hM.2.1;omega
 obtain⟨l,hl⟩:∃l,l=gu L:=⟨_,rfl⟩;have HM:l.length=n:=by rw[hl];unfold gu;rw[Nu,hP]
 have HN:∀x∈l,x<m:=by intro x hx;rw[hl]at hx;obtain⟨y,hy,rfl⟩:=List.mem_map.1 hx;have:=hM.2.2.2.2 y hy;omega
 have hO:aB w A n l:=by rw[hl];exact dN hL fun x hx=>(hM.2.2.2.2 x hx).1
 have HA:∀a,A=some a->a.block<w.heap.size:=fun a ha=>by obtain⟨b,off,he,hc⟩:=hO.2 (by omega);rw[he]at ha;cases ha;exact No w _ (hc 0 (by omega))
 obtain⟨G,hG⟩:∃G,G=aH n:=⟨_,rfl⟩;have pb:G<=40000/\n<=50*G/\50*G<n+50:=by rw[hG];unfold aH;omega
 obtain⟨R,hR⟩:∃R,R=jP l m:=⟨_,rfl⟩;have hi:aP L m=([zL R,zL R],zL (List.replicate G 0),0):=by unfold aP;rw[Nf hM,<-hl,Nv,hP,<-hG,hR]
 rw[hi];have H7:Hid (∀ v w',aJ w' v [zL R,zL R] (zL (List.replicate G 0))->Below w.heap.size w w'->bP w ([zL R,zL R],zL (List.replicate G 0),0) (.returned (.tuple #[v,.int .i64 0])) w'):=aa fun v w' h1 h2=>⟨v,rfl,h1,h2⟩;generalize bP w ([zL R,zL R],zL (List.replicate G 0),0)=PO at*;have hH:=aa fun(w1:World) (hb:ZIn w1 A n L)=>wn w1 A n c L m hb (by unfold maxLen;omega);rw[show decide (eY L m)=true from Nn hM]at hH;have hC:=aa fun(w1:World)=>kx w1 n (by omega);rw[<- hG]at hC;have hI:Below w.heap.size w (w.alloc (.cells #[.slice none 0 0,.slice none 0 0] 43)):=(Nj _ _).alloc (ag _) _;have HS:Blk (w.alloc (.cells #[.slice none 0 0,.slice none 0 0] 43)) w.heap.size 43 #[.slice none 0 0,.slice none 0 0]:=aj w _ _;have HL:=aa (hL.below hI);have HZ:=aa fun(w1:World) (hb:Below w.heap.size w w1)=>cF hO hb;have p0:=aa HM;have hF:=aa HN;have HY:=aa HA
 have H8:Hid (R=mr ((List.range m).map fun s=>0+l.count s)):=aa (by
  rw[hR]
  unfold jP aM
  congr 1
  apply Oe
  intro s _
  rw[CH,N8])
 have hE:=aa HS;have hX:=aa hI;clear hL hO hM hP hl HM HN hi hG hR hI HS HA;go_enter func42,ntmps42;go_wp2_with fail;refine(hH.out _ HL.out).mono ?_;rintro e w1 ⟨rfl,rfl⟩;generalize w.alloc (.cells #[.slice none 0 0,.slice none 0 0] 43)=w1 at*;have HX:w.heap.size<w1.heap.size:=aA hE.out;clear HL hH;have hQ:=bu w1 m (by omega);have h0:=bf w1 w.heap.size m (NT HX) (by omega);have hJ:Below w1.heap.size w1 (w1.alloc (.cells (madeCells #[.int .i64 0] m) 3)):=(Nj _ _).alloc (ag _) _;have h7:=aq hX.out hJ
 have hg:=aa (zC w1.heap.size (w1.alloc (.cells (madeCells #[.int .i64 0] m) 3)) w1.heap.size m m _ (bf w1 w1.heap.size m (ag _) (by omega)) A n c l (HZ.out _ h7) (fun a ha=>by
  have:=HY.out a ha
  omega) (by omega) hF.out (fun s _=>Ng _))
 have H4:=aa (aO hJ hE.out);have hY:=aa h7;clear h0 hJ h7 hE hX;go_wp2_with fail;clear hQ;refine hg.out.mono ?_;rintro e w3 ⟨rfl,hK,hT⟩;have HH:=hT.blk H4.out (by simp;omega) aw;have pk:=hK.lt;have hm:=hY.out.trans (hT.below.mono (NT HX));have hz:=dw hK.ints;have h6:gU (((List.range m).map fun s=>0+l.count s).map fun(x:Nat)=>(x:Int)):=by refine⟨by simp;omega,by simp;omega,fun x hx=> ?_⟩;obtain⟨y,hy,rfl⟩:=List.mem_map.1 hx;obtain⟨s,_,rfl⟩:=List.mem_map.1 hy;have h1:l.count s<=l.length:=List.count_le_length;have:=p0.out;omega
 have H3:=aa (Fu w3 (some ⟨w1.heap.size,0,none⟩) m m _ hz h6);have hh:=aa h6;have H5:=aa HH;have hZ:=aa hm;clear hK hT HH hm hz h6 hg H4 hY;go_wp2_with fail;refine H3.out.mono ?_;intro e w5 p7;rcases p7 with⟨p8,_⟩|⟨_,v,k,HF,HG,rfl,h3,hs⟩;·exact absurd hh.out p8
 ·have HD:(((List.range m).map fun s=>0+l.count s).map fun(x:Nat)=>(x:Int)).length=m:=by simp
  rw[HD]at h3 HF HG;rw[ly]at h3;have HK:=Ez HF HG;have h0:w5.ownsRow w3.heap.size 3 1 v m (R.map iv):=by rw[H8.out];unfold mr;rw[show ((List.range m).map fun s=>0+l.count s).length=m by simp,<-HK,Ou];exact h3
  have HB:R.length=m:=by rw[H8.out];unfold mr;simp
  obtain⟨A5,c5,rfl,p5,pj,p4⟩:=ai h0;have HE:aB w5 A5 m R:=aE h0;have ho:=aq hZ.out hs;have HI:=aO hs H5.out
  have H2:=aa (nF w5 A5 m c5 (zL R) (dw HE) (fun x hx=>by
   unfold zL at hx
   obtain⟨y,_,rfl⟩:=List.mem_map.1 hx
   omega) (by omega) (by omega))
  have H0:=aa ho;have H6:=aa HI;have p1:=aa HB;have h5:=aa h0;have p2:=aa (show w.heap.size<w3.heap.size by omega);have p3:=aa (show w3.heap.size<=w5.heap.size from hs.size);clear h3 HK h0 HB p4 HE ho HI hs HD H3 hh H5 hZ;go_wp2_with fail;refine H2.out.mono ?_;rintro e w6 ⟨gC,cC,rfl,hN,ht⟩;have p6:m<=cC:=by obtain⟨A9,c9,he,pf,_,_⟩:=ai hN;simp only[Ol]at he;omega
  have hj:Below w6.heap.size w6 (w6.alloc (.cells #[.slice A5 m c5,.slice (some ⟨gC,0,none⟩) m cC] 37)):=(Nj _ _).alloc (ag _) _;have HJ:Blk (w6.alloc (.cells #[.slice A5 m c5,.slice (some ⟨gC,0,none⟩) m cC] 37)) w6.heap.size 37 #[.slice A5 m c5,.slice (some ⟨gC,0,none⟩) m cC]:=aj w6 _ _;have hp:=aq H0.out ht;have hq:=aq hp hj;have HT:=(an hj).blk (aO ht H6.out) aw aw;have hD:=aa ((an hj).row ((an ht).row h5.out (fun _ _=>aw) aw) (fun _ _=>aw) aw);have hA:=aa ((an hj).row hN (fun _ _=>aw) aw);have hr:=aa HJ;have h4:=aa HT;have H1:=aa hq;clear hN ht hj HJ hp hq HT H2 H0 H6 h5;go_wp2_with fail;refine(hC.out _).mono ?_;rintro e w8 ⟨rfl,rfl⟩;generalize w6.alloc (.cells #[.slice A5 m c5,.slice (some ⟨gC,0,none⟩) m cC] 37)=w7 at*;generalize w6.heap.size=g7 at*;have hv:=aA h4.out;have k0:=(ac h4.out 0).trans (rfl:_=some (Value.slice none 0 0));have k1:=(ac h4.out 1).trans (rfl:_=some (Value.slice none 0 0));have f0:=ae h4.out 0;have f1:=ae h4.out 1;have hQ:=bu w7 G (by omega);have HP:=bf w7 w7.heap.size G (ag _) (by omega);have hu:Below w7.heap.size w7 (w7.alloc (.cells (madeCells #[.int .i64 0] G) 3)):=(Nj _ _).alloc (ag _) _
  have hf:ak w.heap.size [w.heap.size] [] (w7.alloc (.cells (madeCells #[.int .i64 0] G) 3)) (((w7.alloc (.cells (madeCells #[.int .i64 0] G) 3)).setCell ⟨w.heap.size,0,none⟩ (.slice (some ⟨g7,0,none⟩) 2 2)).setCell ⟨w.heap.size,1,none⟩ (.slice (some ⟨w7.heap.size,0,none⟩) G G)):=
   ((ak.refl _ _ _ _).set (p:=⟨w.heap.size,0,none⟩) (ag _) (by simp) _).set (p:=⟨w.heap.size,1,none⟩) (ag _) (by simp) _
  have HU:=aO hu h4.out;have hV:=p2.out;have hW:=p3.out
  have HV:=hf.row (hD.out.alloc (.cells (madeCells #[.int .i64 0] G) 3)) (fun k hk=>by
   have:=(NS hD.out k hk).1
   simp
   omega) aw
  have HW:=hf.row (RI hA.out (.cells (madeCells #[.int .i64 0] G) 3)) (fun k hk=>by
   have:=(NS hA.out k hk).1
   simp
   omega) aw
  have HC:=hf.blk (aO hu hr.out) (by
   have:=aA hr.out
   simp
   intro e
   have h1:=hr.out
   have h2:=h4.out
   unfold Blk at h1 h2
   rw[e,h2]at h1
   simp at h1) aw
  have HQ:az _ w7.heap.size w7.heap.size G G fun _=>0:=hf.row HP (fun k hk=>by simp[Value.ownBlock]at hk;simp;omega) aw;have hS:=dw HQ.ints;rw[show (List.range G).map (fun _=>0)=List.replicate G 0 by rw[PI,NE]]at hS;have h9:=az.ints HW;rw[DD R m p1.out]at h9
  have HR:aJ _ (.agg #[.slice (some ⟨g7,0,none⟩) 2 2,.slice (some ⟨w7.heap.size,0,none⟩) G G]) [zL R,zL R] (zL (List.replicate G 0)):=
   ⟨_,2,2,_,G,G,rfl,BK HC (aE HV) p5 h9 p6 (by unfold maxLen;omega),Nk _,by unfold maxLen;omega,hS,Nk _,by unfold maxLen;omega⟩
  have h8:=H7.out _ _ HR ((aq H1.out hu).trans hf.below);rw[PS _ _ _ _ hv,PS _ _ _ _ (by simpa using hv)]at h8;have hw:=ay (ay HU 0 (.slice (some ⟨g7,0,none⟩) 2 2)) 1 (.slice (some ⟨w7.heap.size,0,none⟩) G G);rw[PS _ _ _ _ hv,PS _ _ _ _ (by simpa using hv)]at hw;have q0:=(ac hw 0).trans (rfl:_=some (Value.slice (some ⟨g7,0,none⟩) 2 2));have q1:=(ac hw 1).trans (rfl:_=some (Value.slice (some ⟨w7.heap.size,0,none⟩) G G));have hB:=aa h8;clear hw HP hu hf HU hV hW HV HW HC HQ hS h9 HR h8 hD hA hr h4 H1 H7 hC;go_wp2_with fail;clear hQ;refine NH (v:=.tuple #[.agg #[.slice (some ⟨g7,0,none⟩) 2 2,.slice (some ⟨w7.heap.size,0,none⟩) G G],.int .i64 0]) ?_ rfl hB.out;simp[results,results42,go_sem,q0,q1]
theorem Fq(w:World)(A:Option Addr)(n c:Nat)(L:List Int)(m:Nat)(hL:ZIn w A n L)(hY:n<=c)(hn:n<=1000000)(hM:eY L m):
 Calls prog 13 #[.slice A n c,.int .i64 m] w (bP w (ew L m)):=by
 have hV:=mT w hM;have hW:=nI hM;obtain⟨w1,hq⟩:∃w1,w1=w.alloc (.cells #[.slice none 0 0,.slice none 0 0] 43):=⟨_,rfl⟩;have hl:Below w.heap.size w w1:=cB hq;have hX:Blk w1 w.heap.size 43 #[.slice none 0 0,.slice none 0 0]:=dW hq;have HC:=aa (zI w1 A n c L m (hL.below hl) hY hM);have HF:=aa fun(wx:World) (hb:Below w1.heap.size w1 wx)=>Cz wx A n c L m ((hL.below hl).below hb) hM;have hS:(aG L m).2.2=0:=by rw[aG,Nf hM]
 have hT:(aP L m).2.2=0:=by rw[aP,Nf hM]
 have h3:ew L m=if(du (aP L m).1 (aP L m).2.1 L).1<(du (aG L m).1 (aG L m).2.1 L).1 then aP L m else aG L m:=Nf hM
 have hO:=aa (nJ hV hM);have hP:=aa (nJ hW hM);have HS:=aa fun(wx:World) (v:Value) (T:List (List Int)) (P:List Int) (h:aJ wx v T P) (hb:Below w1.heap.size w1 wx)=>FI wx v T P h A n c L ((hL.below hl).below hb) hY (by omega);have hZ:(du (aG L m).1 (aG L m).2.1 L).1<=41000000:=by
  have h1:=dY (aG L m).1 (aG L m).2.1 L (by rw[hL.1];omega);have h2:=eH (aG L m).1 (aG L m).2.1;unfold du;split;·show _+_<=_;omega
  ·exact Ng _
 have H0:(du (aP L m).1 (aP L m).2.1 L).1<=41000000:=by
  have h1:=dY (aP L m).1 (aP L m).2.1 L (by rw[hL.1];omega);have h2:=eH (aP L m).1 (aP L m).2.1;unfold du;split;·show _+_<=_;omega
  ·exact Ng _
 generalize ew L m=ba at*;generalize aG L m=ca at*;generalize aP L m=fa at*;obtain⟨Tc,Pc,kc⟩:=ca;obtain⟨Tf,Pf,kf⟩:=fa;dsimp only at hS hT h3 hO hP hZ H0;subst hS hT;obtain⟨x,hx⟩:∃x,x=(du Tc Pc L).1:=⟨_,rfl⟩;obtain⟨y,hy⟩:∃y,y=(du Tf Pf L).1:=⟨_,rfl⟩;obtain⟨x2,H1⟩:∃x2,x2=(du Tc Pc L).2:=⟨_,rfl⟩;obtain⟨y2,H2⟩:∃y2,y2=(du Tf Pf L).2:=⟨_,rfl⟩;rw[<- hx,<-hy]at h3;rw[<- hx]at hZ;rw[<- hy]at H0;have HX:=aa hx;have HY:=aa hy;have H5:=aa H1;have H6:=aa H2;have hi:=aa h3;have H3:=aa hl;have H4:=aa hX;clear hL h3 hl hX hV hW hx hy H1 H2 hM;go_enter func13,ntmps13;go_wp2_with fail;rw[<- hq];clear hq;refine HC.out.mono ?_;rintro e w2 ⟨v2,rfl,hD,hC⟩;obtain⟨A2,n2,c2,B2,m2,d2,rfl,hm⟩:∃A2 n2 c2 B2 m2 d2,v2=.agg #[.slice A2 n2 c2,.slice B2 m2 d2]/\aJ w2 (.agg #[.slice A2 n2 c2,.slice B2 m2 d2]) Tc Pc:=by obtain⟨A2,n2,c2,B2,m2,d2,hv,hr⟩:=id hD;exact⟨A2,n2,c2,B2,m2,d2,hv,by rw[<- hv];exact hD⟩
 have h5:Below w2.heap.size w2 (w2.alloc (.cells #[.slice A2 n2 c2,.slice B2 m2 d2] 43)):=(Nj _ _).alloc (ag _) _;have hJ:=aa (aj w2 43 #[.slice A2 n2 c2,.slice B2 m2 d2]);have hF:=aa (aq hC h5);have hI:=aa (HF.out _ (aq hC h5));have hQ:=aa (hm.below h5);clear hC h5 HF HC hD hm;go_upto_region 2 with fail;generalize w2.alloc (.cells #[.slice A2 n2 c2,.slice B2 m2 d2] 43)=w3 at*;generalize w2.heap.size=g6 at*;go_wp2_with fail;refine hI.out.mono ?_;rintro e w4 ⟨v4,rfl,hE,hR⟩;obtain⟨A4,n4,c4,B4,m4,d4,rfl,ho⟩:∃A4 n4 c4 B4 m4 d4,v4=.agg #[.slice A4 n4 c4,.slice B4 m4 d4]/\aJ w4 (.agg #[.slice A4 n4 c4,.slice B4 m4 d4]) Tf Pf:=by obtain⟨A4,n4,c4,B4,m4,d4,hv,hr⟩:=id hE;exact⟨A4,n4,c4,B4,m4,d4,hv,by rw[<- hv];exact hE⟩
 have he:Below w4.heap.size w4 (w4.alloc (.cells #[.slice A4 n4 c4,.slice B4 m4 d4] 43)):=(Nj _ _).alloc (ag _) _;have h6:=aq hR he;have hK:=aa (aj w4 43 #[.slice A4 n4 c4,.slice B4 m4 d4]);have h0:=aa (aO h6 hJ.out);have hc:=aa (hQ.out.below h6);have hj:=aa (ho.below he);have hs:=aa (aq hF.out h6);clear hR he h6 hI hE ho hQ hF hJ;go_upto_region 5 with fail;generalize w4.alloc (.cells #[.slice A4 n4 c4,.slice B4 m4 d4] 43)=w5 at*;generalize w4.heap.size=g8 at*;have p0:=(ac h0.out 0).trans rfl;have p1:=(ac h0.out 1).trans rfl;have hB:=aa (HS.out w5 _ Tc Pc hc.out hs.out);rw[<- HX.out,<-H5.out]at hB;go_wp2_with fail;clear p0 p1;refine hB.out.mono ?_;rintro e w6 ⟨rfl,hh⟩;have ht:=aa (aO hh h0.out);have h9:=aa (aO hh hK.out);have hu:=aa (hc.out.below hh);have hk:=aa (hj.out.below hh);have hG:=aa (aq hs.out hh);clear hh hB h0 hK hc hj hs;have p0:=(ac h9.out 0).trans rfl;have p1:=(ac h9.out 1).trans rfl;have hp:=aa (HS.out w6 _ Tf Pf hk.out hG.out);rw[<- HY.out,<-H6.out]at hp;go_wp2_with fail;clear p0 p1;refine hp.out.mono ?_;rintro e w7 ⟨rfl,hf⟩;have h7:=aO hf ht.out;have h8:=aO hf h9.out;have hw:=aa (hu.out.below hf);have hA:=aa (hk.out.below hf);have h4:=aq hG.out hf;have hg:=aO h4 H4.out;have hN:=aa hg;have hH:=aa (aq H3.out h4);have r0:=(ac hg 0).trans rfl;have r1:=(ac hg 1).trans rfl;have f0:=ae hg 0;have f1:=ae hg 1;by_cases e:y<x
 ·have p0:=(ac h8 0).trans rfl;have p1:=(ac h8 1).trans rfl;have ha:=hi.out;rw[Nf e]at ha
  have hz:Hid (bP w ba (.returned (.tuple #[.agg #[.slice A4 n4 c4,.slice B4 m4 d4],.int .i64 0])) ((w7.setCell ⟨w.heap.size,0,none⟩ (.slice A4 n4 c4)).setCell ⟨w.heap.size,1,none⟩ (.slice B4 m4 d4))):=aa (by
   rw[ha]
   exact⟨_,rfl,hA.out.past hP.out hN.out (jk _ _ _ _),(hH.out.setCell (p:=⟨w.heap.size,0,none⟩) (ag _) _).setCell (p:=⟨w.heap.size,1,none⟩) (ag _) _⟩)
  generalize bP w ba=PO at*;clear ha h7 h8 h4 hg hf hp;go_wp2_with fail;refine NH (v:=.tuple #[.agg #[.slice A4 n4 c4,.slice B4 m4 d4],.int .i64 0]) ?_ rfl hz.out;simp[results,results13,go_sem,r0,r1]
 ·have p0:=(ac h7 0).trans rfl;have p1:=(ac h7 1).trans rfl;have ha:=hi.out;rw[Nd e]at ha
  have hz:Hid (bP w ba (.returned (.tuple #[.agg #[.slice A2 n2 c2,.slice B2 m2 d2],.int .i64 0])) ((w7.setCell ⟨w.heap.size,0,none⟩ (.slice A2 n2 c2)).setCell ⟨w.heap.size,1,none⟩ (.slice B2 m2 d2))):=aa (by
   rw[ha]
   exact⟨_,rfl,hw.out.past hO.out hN.out (jk _ _ _ _),(hH.out.setCell (p:=⟨w.heap.size,0,none⟩) (ag _) _).setCell (p:=⟨w.heap.size,1,none⟩) (ag _) _⟩)
  generalize bP w ba=PO at*;clear ha h7 h8 h4 hg hf hp;go_wp2_with fail;refine NH (v:=.tuple #[.agg #[.slice A2 n2 c2,.slice B2 m2 d2],.int .i64 0]) ?_ rfl hz.out;simp[results,results13,go_sem,r0,r1]
