import Derived.Test.YtfhgikojdfblpaaGreatM16
set_option maxHeartbeats 6400000
set_option maxRecDepth 100000
namespace Go.Proofs.YtfhgikojdfblpaaGreat
open _root_.Go.Proofs.Tryz
open Go.RowKit
theorem nu(m:Int):2<=bQ m/\bQ m<=6:=by unfold bQ;(repeat' split);all_goals omega
theorem dC.past{w w':World}{B B' g n b:Nat}{C:Nat->List Nat}(h:dC w B g n C)(hs:ak B' [b] [] w w')(hb:b<B):dC w' B g n C:=by
 obtain⟨F,h1,h2⟩:=h;refine⟨F,hs.row h1 (fun k hk=> ?_) aw,fun j hj=> ?_⟩;·have:=(NS h1 k hk).1;simp;omega
 ·obtain⟨A,k,x,y,z⟩:=h2 j hj;refine⟨A,k,x,y,hs.row z (fun k2 hk2=> ?_) aw⟩;have:=(NS z k2 hk2).1;simp;omega
theorem Bo(w:World)(A:Option Addr)(n c:Nat)(L:List Int)(m:Nat)(hL:ZIn w A n L)(rR:n<=c)(hn:n<=1000000)(hM:eY L m):
 Calls prog 112 #[.slice A n c,.int .i64 m] w (bP w (aG L m)):=by
 have HX:=hL.1;have s5:1<=n:=by have:=hM.2.2.1;omega
 have s9:3<=m:=by have:=hM.1;omega
 have hw:m<=258:=by have:=hM.2.1;omega
 obtain⟨l,hl⟩:∃l,l=gu L:=⟨_,rfl⟩;have q7:l.length=n:=by rw[hl];unfold gu;rw[Nu,HX]
 have q8:∀x∈l,x<m:=by intro x hx;rw[hl]at hx;obtain⟨y,hy,rfl⟩:=List.mem_map.1 hx;have:=hM.2.2.2.2 y hy;omega
 have q6:aB w A n l:=by rw[hl];exact dN hL fun x hx=>(hM.2.2.2.2 x hx).1
 obtain⟨T,hT⟩:∃T,T=bQ n:=⟨_,rfl⟩;have ps:2<=T/\T<=6:=by rw[hT];exact nu _
 have H2:bJ n=(T,0):=by unfold bJ;rw[Nd,hT]
 have hH:aG L m=((bF l m T 4).1.map zL,zL (bF l m T 4).2,0):=by unfold aG;rw[Nf hM,<-hl,Nv,HX,<-hT]
 obtain⟨R,hR⟩:∃R,R=bF l m T 4:=⟨_,rfl⟩;rw[<- hR]at hH;have HR:=aa hR;rw[hH];obtain⟨G,hG⟩:∃G,G=aH n:=⟨_,rfl⟩;have r9:G<=40000/\n<=50*G/\50*G<n+50:=by rw[hG];unfold aH;omega
 have HK:=aa fun(w1:World) (hb:ZIn w1 A n L)=>qr w1 A n c L m hb (by unfold maxLen;omega);rw[show decide (eY L m)=true from Nn hM]at HK;have HQ:=aa fun(w1:World)=>Bz w1 (n:Int);rw[H2]at HQ;have HH:=aa fun(w1:World)=>kI w1 n (by omega);rw[<- hG]at HH;have HL:=aa (hL.below (w':=w.alloc (.cells #[.slice none 0 0,.slice none 0 0] 43)) ((Nj _ _).alloc (ag _) _));have r0:=aa fun(w1:World) (hb:Below w.heap.size w w1)=>cF q6 hb;have HJ:=aa q7;have hO:=aa q8;have HG:=aa hG
 have HP:Hid (∀ (B gT gP:Nat) (C:Nat->List Nat) (P:Nat->Nat) (w':World),dC w' B gT T C->(List.range T).map C=R.1->(∀ t,t<T->(C t).length=m)->az w' B gP G G P->(List.range G).map P=R.2->
  aJ w' (.agg #[.slice (some ⟨gT,0,none⟩) T T,.slice (some ⟨gP,0,none⟩) G G]) (R.1.map zL) (zL R.2)):=aa fun B gT gP C P w' h1 h2 h3 h4 h5=>by
  rw[<- h2,<-h5]
  refine⟨_,T,T,_,G,G,rfl,⟨by simp,fun _=>⟨gT,0,rfl,fun i hi=> ?_⟩⟩,Nk _,by unfold maxLen;omega,dw h4.ints,Nk _,by unfold maxLen;omega⟩
  have e:(((List.range T).map C).map zL).getD i []=zL (C i):=by
   rw[Na,Np,Np,NJ hi]
   rfl
  obtain⟨A2,k2,a,b,d⟩:=h1.read i hi
  have e2:(zL (C i)).length=(C i).length:=by unfold zL;simp
  rw[e,e2]
  refine⟨A2,k2,by rw[N8];exact a,?_,d,by have:=h3 i hi;unfold maxLen;omega⟩
  exact dw b
 have r3:Hid (∀ v w',aJ w' v (R.1.map zL) (zL R.2)->Below w.heap.size w w'->bP w (R.1.map zL,zL R.2,0) (.returned (.tuple #[v,.int .i64 0])) w'):=aa fun v w' h1 h2=>⟨v,rfl,h1,h2⟩;generalize bP w (R.1.map zL,zL R.2,0)=PO at*;clear hR hL q6 hM HX hl q7 q8 hT H2 hH hG;go_enter func112,ntmps112;go_wp2_with fail;refine(HK.out _ HL.out).mono ?_;rintro e w' ⟨rfl,rfl⟩;have p3:Blk (w.alloc (.cells #[.slice none 0 0,.slice none 0 0] 43)) w.heap.size 43 #[.slice none 0 0,.slice none 0 0]:=aj w _ _;have pv:Below w.heap.size w (w.alloc (.cells #[.slice none 0 0,.slice none 0 0] 43)):=(Nj _ _).alloc (ag _) _;generalize w.alloc (.cells #[.slice none 0 0,.slice none 0 0] 43)=w1 at*;have r4:=aa p3;have p6:=aa pv;have HD:w.heap.size<w1.heap.size:=aA p3;clear p3 pv HL HK;go_wp2_with fail;refine(HQ.out _).mono ?_;rintro e w2 ⟨rfl,rfl⟩;have HZ:=pU w2 T (by omega);have p9:=aa (vh w2 w2.heap.size T (ag _) (by omega));have p7:Hid (Below w2.heap.size w2 (w2.alloc (.cells (madeCells #[.slice none 0 0] T) 37))):=aa ((Nj _ _).alloc (ag _) _);go_wp2_with fail;clear HZ HQ;go_loopw [9,10,11] (fun tv s10 s11 wx=>∃(t:Nat) (F:Nat->Value),t<=T/\tv=.int .i64 t/\Cc wx w2.heap.size w2.heap.size T (fun j=>if j<t then(List.range m).map (eO m T j)else []) F/\(∀ j,t<=j->F j=.slice none 0 0)/\Below w2.heap.size w2 wx) (fun tv _ _ _=>T-(intOf tv).toNat)
 case atStart=>refine⟨0,fun _=>.slice none 0 0,Ng _,rfl,?_,fun _ _=>rfl,p7.out⟩;have e:(fun j=>if j<0 then(List.range m).map (eO m T j)else [])=fun _=> []:=(by funext j;rw[Nd]);rw[e];exact p9.out
 case round=>
  clear p9 p7;rename World=>w3;obtain⟨t,F,ht,rfl,hF,H8,hb⟩:=hrel;by_cases e:t<T
  ·have dt:decide ((t:Int)<(T:Int))=true:=bE;have s1:(0:Int)<=(t:Int):=(by omega);have s2:(t:Int)<(T:Int):=(by omega);have pb:=aa (Ax (w:=w2) hF (H8 t (ag _)) hb);have HF:=aa hF;have qx:=aa H8;have HB:=aa hb;have H3:w2.heap.size<=w3.heap.size:=hb.size;clear hF H8 hb;go_wp2_with fail;(go_loopw [10,11] (fun sv s11 wx=>∃s:Nat,s<=m/\sv=.int .i64 s/\yT w2 w3 wx w2.heap.size w2.heap.size T t s F ((List.range s).map (eO m T t))) (fun sv _ _=>m-(intOf sv).toNat));case atStart=>exact⟨0,Ng _,rfl,pb.out⟩
   case round=>
    clear pb;rename World=>w4;obtain⟨s,hs,rfl,hZ⟩:=hrel;by_cases e2:s<m
    ·obtain⟨p,hp⟩:∃p:Nat,p=s*T:=⟨_,rfl⟩;have sm:(s:Int)*(T:Int)=(p:Int):=(by rw[hp];simp);have sl:p<=258*6:=(by rw[hp];exact RW (by omega) ps.2);obtain⟨q,hq⟩:∃q:Nat,q=p/m:=⟨_,rfl⟩;have so:(p:Int)/(m:Int)=(q:Int):=(by rw[hq];simp);have sn:q<=1548:=(by rw[hq];have:=QK p m;omega);have s8:¬(m:Int)=0:=(by omega);(have qa:eO m T t s=if q=t then 1 else 15:=by unfold eO;rw[<- hp,<-hq]);(have qb:∀cc,eO m T t s=cc->(List.range s).map (eO m T t)++ [cc]=(List.range (s+1)).map (eO m T t):=fun cc h=>by rw[Oh,Nz,QG,h]);have hA:=fun cc:Nat=>C4 (ag _) H3 hZ e (by omega) cc;have h7:=aa hA;have H7:=aa qb;have H6:=aa qa;clear hZ hp hq qa qb hA;by_cases h1:q=t
     ·have d1:((q:Int)==(t:Int))=true:=(by rw[h1];exact O9 _);obtain⟨A1,cap,A3,cap3,w5,hc,h8,⟨u,hu⟩,rM,hI⟩:=h7.out 1;rw[H7.out 1 (by rw[H6.out,Nf h1])]at hI;have HE:=aa hI;have hB:=aa h8;clear hI h8 h1 h7 H7 H6;(go_wp2_with (at_builtin;refine Lib.wpList_append_run _ rfl (.tmp 53) (.tmp 55) 37 37 rfl (.slice A1 s cap) (.slice (some ⟨w4.heap.size,0,none⟩) 1 1) rfl rfl _ _ hB.out ?_));go_roundw;case rel=>exact⟨s+1,by omega,by go_num,HE.out⟩
      case measure=>simp[intOf];omega
     ·have d1:((q:Int)==(t:Int))=false:=beq_eq_false_iff_ne.2 fun h=>h1 (Int.ofNat.inj h);obtain⟨A1,cap,A3,cap3,w5,hc,h8,⟨u,hu⟩,rM,hI⟩:=h7.out 15;rw[H7.out 15 (by rw[H6.out,Nd h1])]at hI;have HE:=aa hI;have hB:=aa h8;clear hI h8 h7 H7 H6;(go_wp2_with (at_builtin;refine Lib.wpList_append_run _ rfl (.tmp 53) (.tmp 55) 37 37 rfl (.slice A1 s cap) (.slice (some ⟨w4.heap.size,0,none⟩) 1 1) rfl rfl _ _ hB.out ?_));go_roundw;case rel=>exact⟨s+1,by omega,by go_num,HE.out⟩
      case measure=>simp[intOf];omega
    ·obtain rfl:s=m:=(by omega);obtain⟨v,hv⟩:=C5 H3 HF.out hZ (by simp);have e9:(fun j=>if j=t then(List.range s).map (eO s T t)else if j<t then(List.range s).map (eO s T j)else [])=fun j=>if j<t+1 then(List.range s).map (eO s T j)else []:=by
      funext j;by_cases ej:j=t;·rw[Nf ej,Nf,ej]
      ·rw[Nd ej];by_cases ej2:j<t;·rw[Nf ej2,Nf]
       ·rw[Nd ej2,Nd]
     rw[e9]at hv;have HV:=aa hv;have H4:=aa hZ.below;clear hv hZ e9;go_wp2_with fail;go_roundw;case rel=>refine⟨t+1,_,by omega,by go_num,HV.out,fun j hj=> ?_,H4.out⟩;have:=qx.out j (by omega);rw[Nd];exact this
     case measure=>simp[intOf];omega
  ·obtain rfl:T=t:=(by omega);have dt:decide ((T:Int)<(T:Int))=false:=aR;have hW:iH w3 w2.heap.size w2.heap.size T (fun j=>(List.range m).map (eO m T j)) w3.heap.size:=(hF.tabX (ag _)).same fun j hj=>Nf hj;have HW:=aa hW;have HB:=aa hb;have H3:w2.heap.size<=w3.heap.size:=hb.size;clear hF H8 hb hW;go_wp2_with fail;refine(HH.out _).mono ?_;rintro e w4 ⟨rfl,rfl⟩;have HZ:=bu w4 G (by omega);have hQ:=aa (bf w4 w2.heap.size G H3 (by omega));have hK:ak w4.heap.size [] [] w4 (w4.alloc (.cells (madeCells #[.int .i64 0] G) 3)):=(ak.refl _ _ _ _).alloc (ag _) _;have pm:=aa (HW.out.step hK);have H4:=aa (HB.out.trans (hK.below.mono H3));have pf:=aa fun(w1:World) (hb:Below w2.heap.size w2 w1)=>r0.out w1 (p6.out.trans (hb.mono (NT HD)));clear HH hK HW HB;go_wp2_with fail;clear HZ
   have pj:Hid (∃ (C:Nat->List Nat) (P:Nat->Nat),iH (w4.alloc (.cells (madeCells #[.int .i64 0] G) 3)) w2.heap.size w2.heap.size T C w4.heap.size/\az (w4.alloc (.cells (madeCells #[.int .i64 0] G) 3)) w2.heap.size w4.heap.size G G P/\(List.range T).map C=(bF l m T 0).1/\(List.range G).map P=(bF l m T 0).2/\∀j,j<T->(C j).length=m/\∀x∈C j,x<=1000):=aa
    ⟨_,_,pm.out,hQ.out,rfl,by rw[PI,NE];show _=List.replicate (aH l.length) 0;rw[HJ.out,←HG.out],fun j _=>⟨by simp,fun x hx=>by
      obtain⟨s,_,rfl⟩:=List.mem_map.1 hx
      unfold eO
      split <;>omega⟩⟩
   clear pm hQ;(go_loopw [13,14,15,16,17] (fun rv s14 s15 s16 s17 wx=>∃(r:Nat) (C:Nat->List Nat) (P:Nat->Nat),r<=4/\rv=.int .i64 r/\iH wx w2.heap.size w2.heap.size T C w4.heap.size/\az wx w2.heap.size w4.heap.size G G P/\Hid ((List.range T).map C=(bF l m T r).1/\(List.range G).map P=(bF l m T r).2)/\Hid (∀ j,j<T->(C j).length=m/\∀x∈C j,x<=1000)/\Below w2.heap.size w2 wx) (fun rv _ _ _ _ _=>4-(intOf rv).toNat));case atStart=>obtain⟨C,P,h1,h2,h3,h4,h5⟩:=pj.out;exact⟨0,C,P,Ng _,rfl,h1,h2,⟨h3,h4⟩,h5,H4.out⟩
   case round=>
    clear pj H4;rename World=>w5;obtain⟨r,C,P,hr,rfl,hC,h6,hX,HS,hb⟩:=hrel;by_cases e3:r<4
    ·have dr:decide ((r:Int)<4)=true:=bE;have HC:=aa hC;have h0:=aa h6;have HB:=aa hb;clear hC h6 hb;go_wp2_with fail;(go_loopw [14] (fun kv wx=>∃k:Nat,k<=G/\kv=.int .i64 k/\iH wx w2.heap.size w2.heap.size T C w4.heap.size/\az wx w2.heap.size w4.heap.size G G (fun j=>if j<k then eU ((List.range T).map C) (bI l j)else P j)/\Below w2.heap.size w2 wx) (fun kv _=>G-(intOf kv).toNat));case atStart=>refine⟨0,Ng _,rfl,HC.out,?_,HB.out⟩;have e9:(fun j=>if j<0 then eU ((List.range T).map C) (bI l j)else P j)=P:=(by funext j;rw[Nd]);rw[e9];exact h0.out
     case round=>
      clear HC h0 HB;rename World=>w6;obtain⟨k,hk,rfl,hC,h6,hb⟩:=hrel;by_cases e4:k<G
      ·have s7:(0:Int)<=(k:Int):=(by omega);have s6:(k:Int)<(G:Int):=(by omega);have hf:=aa (G4 w6 A n c l k (pf.out w6 hb) rR (by omega) (by omega));have hh:=aa fun(A2:Option Addr) (c2:Nat) (r8:aB w6 A2 (bI l k).length (bI l k))=>G5 w6 w2.heap.size T m C hC.tabW.read (by omega) ps.2 hw HS.out A2 (bI l k).length c2 (bI l k) r8 (by rw[jc];omega) (fun x hx=>hO.out x (OS (OC hx)));have HC:=aa hC;have h0:=aa h6;have HB:=aa hb;clear hC h6 hb;go_wp2_with fail;refine hf.out.mono ?_;rintro e w7 ⟨A2,c2,rfl,q5,rl,rfl⟩;have HM:=aa (hh.out A2 c2 q5);clear q5 rl hf hh;obtain⟨pk,p2⟩:∃pk,pk=eU ((List.range T).map C) (bI l k):=⟨_,rfl⟩;rw[<- p2]at HM;have HN:=aa p2;generalize (bI l k).length=pl at*;clear p2;go_wp2_with fail;refine HM.out.mono ?_;rintro e w8 ⟨rfl,d,rfl⟩;have hm:=h0.out.drew d;have c8:=hm.cell k e4;have f8:=hm.frozen k;have p5:=hm.set k pk;have hY:(fun j=>if j=k then pk else if j<k then eU ((List.range T).map C) (bI l j)else P j)=fun j=>if j<k+1 then eU ((List.range T).map C) (bI l j)else P j:=by
        funext j;by_cases ej:j=k;·rw[Nf ej,Nf,ej,HN.out]
        ·rw[Nd ej];by_cases ej2:j<k;·rw[Nf ej2,Nf]
         ·rw[Nd ej2,Nd]
       rw[hY]at p5;have HY:=h0.out.lt;have r6:=aa p5;have H5:=aa ((ax HB.out d).setCell (p:=⟨w4.heap.size,k,none⟩) HY.1 (.int .i64 (pk:Nat)));have qs:Hid (iH ((w7.drewN d).setCell ⟨w4.heap.size,k,none⟩ (.int .i64 (pk:Nat))) w2.heap.size w2.heap.size T C w4.heap.size):=aa (iH.other (w:=w7.drewN d) HC.out hm k _);clear hm p5 hY HC h0 HB HM;go_wp2_with fail;go_roundw;case rel=>exact⟨k+1,by omega,by go_num,qs.out,r6.out,H5.out⟩
       case measure=>simp[intOf];omega
      ·obtain rfl:k=G:=(by omega);have HT:az w6 w2.heap.size w4.heap.size k k (fun j=>eU ((List.range T).map C) (bI l j)):=(by have h3:w6.ownsRow w2.heap.size 3 1 (.slice (some ⟨w4.heap.size,0,none⟩) k k) k (cN k fun j=>if j<k then eU ((List.range T).map C) (bI l j)else P j):=h6;rw[cw k _ (fun j=>eU ((List.range T).map C) (bI l j)) fun j hj=>Nf hj]at h3;exact h3);obtain⟨P9,hE⟩:∃P9:Nat->Nat,P9=fun j=>eU ((List.range T).map C) (bI l j):=⟨_,rfl⟩;rw[<- hE]at HT
       have pg:Hid ((List.range k).map P9=jV l ((List.range T).map C)):=aa (by
        unfold jV
        rw[HJ.out,<-HG.out,hE])
       have r5:Hid ((List.range T).map C=(bF l m T r).1):=aa hX.out.1;have HC:=aa hC;have h0:=aa HT;have HB:=aa hb;clear hC h6 hb HT hE hX;obtain⟨PL,HU⟩:∃PL,PL=(List.range k).map P9:=⟨_,rfl⟩;have hS:=aa HU;rw[<- HU]at pg;clear HU;go_wp2_with fail;(go_loopw [15,16,17] (fun tv s16 s17 wx=>∃t:Nat,t<=T/\tv=.int .i64 t/\iH wx w2.heap.size w2.heap.size T (fun j=>if j<t then dH (aM l PL j m)else C j) w4.heap.size/\az wx w2.heap.size w4.heap.size k k P9/\Hid (∀ j,j<t->∀x∈dH (aM l PL j m),x<=17)/\Below w2.heap.size w2 wx) (fun tv _ _ _=>T-(intOf tv).toNat));case atStart=>refine⟨0,Ng _,rfl,HC.out.same fun j _=> ?_,h0.out,fun j hj=>absurd hj (by omega),HB.out⟩;rw[Nd]
       case round=>
        clear HC h0 HB;rename World=>w7;obtain⟨t,ht,rfl,hC,h6,po,hb⟩:=hrel;by_cases e5:t<T
        ·have dt:decide ((t:Int)<(T:Int))=true:=bE;have s1:(0:Int)<=(t:Int):=(by omega);have s2:(t:Int)<(T:Int):=(by omega);have p1:=h6.ints;rw[<- hS.out]at p1;have p8:=aa (se w7 A n c l (pf.out w7 hb) (by omega) (some ⟨w4.heap.size,0,none⟩) k k PL p1 r9.2.1 t m hw hO.out);have HC:=aa hC;have h0:=aa h6;have HB:=aa hb;clear hC h6 hb p1;go_wp2_with fail;refine p8.out.mono ?_;rintro e w8 ⟨rfl,hm,q2⟩;have hz:=dw hm.ints;(have q4:∀s,em l PL t s<=1000000:=fun s=>by have:=ie l PL t s l.length;unfold em;have:=HJ.out;omega);have hD:gU (((List.range m).map (em l PL t)).map fun(x:Nat)=>(x:Int)):=(by refine⟨by simp;omega,by simp;omega,fun x hx=> ?_⟩;obtain⟨y,hy,rfl⟩:=List.mem_map.1 hx;obtain⟨s,_,rfl⟩:=List.mem_map.1 hy;have:=q4 s;omega);have hQ:=aa (AO w8 (some ⟨w7.heap.size,0,none⟩) m m _ 17 hz hD (by omega) (by omega));have H5:=aa q2;have hP:=aa hD;clear hm q2 hz hD q4 p8;go_wp2_with fail;refine hQ.out.mono ?_;intro e w9 rO;rcases rO with⟨s0,_⟩|⟨_,_,_,v,len,hR,rfl,h9,q3⟩;·exact absurd hP.out (s0.resolve_right (by omega))
         ·obtain⟨A9,c9,rfl,rs,_,pn⟩:=ai h9;have rb:(((List.range m).map (em l PL t)).map fun(x:Nat)=>(x:Int)).length=m:=(by simp);rw[rb]at h9 rs pn |-;rw[ly,show((17:Nat):Int).toNat=17 from rfl]at hR;have H0:=ur hR;have HA:dH (aM l PL t m)=(List.range m).map len:=(by unfold dH aM;rw[H0,Nu,NE]);have ho:∀i,i<m->len i<=17:=by have:=(ut hR).1;intro i hi;exact this i (by unfold yn;simp;exact hi)
          have HI:Hid (∀ j,j<t+1->∀x∈dH (aM l PL j m),x<=17):=aa (by
           intro j hj x hx
           by_cases ej:j=t
           ·subst ej
            rw[HA]at hx
            obtain⟨i,hi,rfl⟩:=List.mem_map.1 hx
            exact ho i (List.mem_range.1 hi)
           ·exact po.out j (by omega) x hx)
          have hJ:w9.ownsRow w8.heap.size 3 1 (.slice A9 m c9) m ((dH (aM l PL t m)).map iv):=(by rw[HA,Ou];exact h9);have p0:(dH (aM l PL t m)).length=m:=(by rw[HA];simp);have s4:w7.heap.size<=w8.heap.size:=H5.out.size;have s3:w2.heap.size<=w7.heap.size:=HB.out.size;have sa:=h0.out.lt;have he:ak w7.heap.size [] [] w7 w9:=(an H5.out).after (an q3) s4 (fun i hi=>absurd hi (by simp)) (fun i hi=>absurd hi (by simp));have hV:=HC.out.step he
          have ha:=hV.set (i:=t) (A:=A9) (k:=c9) (L:=dH (aM l PL t m)) (by rw[p0];exact World.ownsRow.mono hJ (by omega)) (by omega) (by
           intro e
           have:=(NS hJ w4.heap.size (by rw[p0]at e;exact e)).1
           omega)
          rw[p0]at ha;have hY:(fun j=>if j=t then dH (aM l PL t m)else if j<t then dH (aM l PL j m)else C j)=fun j=>if j<t+1 then dH (aM l PL j m)else C j:=by
           funext j;by_cases ej:j=t;·rw[Nf ej,Nf,ej]
           ·rw[Nd ej];by_cases ej2:j<t;·rw[Nf ej2,Nf]
            ·rw[Nd ej2,Nd]
          rw[hY]at ha;have q9:az w9 w2.heap.size w4.heap.size k k P9:=he.row h0.out (fun _ _=>aw) aw;obtain⟨u9,ss⟩:=hV.tabW.there t e5;have fz9:=hV.tabW.frozen t;have r7:=aa ha;have r2:=aa (q9.keep hV t (.slice A9 m c9));have ql:=aa ((HB.out.trans (he.below.mono s3)).setCell (p:=⟨w2.heap.size,t,none⟩) (ag _) (.slice A9 m c9));clear hR h9 q3 H0 HA ho hJ he hV ha hY q9 pn hQ hP HC h0 HB;go_wp2_with fail;go_roundw;case rel=>exact⟨t+1,by omega,by go_num,r7.out,r2.out,HI,ql.out⟩
          case measure=>simp[intOf];omega
        ·obtain rfl:T=t:=(by omega);have dt:decide ((T:Int)<(T:Int))=false:=aR;have HC:Hid (iH w7 w2.heap.size w2.heap.size T (fun j=>dH (aM l PL j m)) w4.heap.size):=aa (hC.same fun j hj=>Nf hj);have h0:=aa h6;have HB:=aa hb
         have r1:Hid ((List.range T).map (fun j=>dH (aM l PL j m))=(bF l m T (r+1)).1/\(List.range k).map P9=(bF l m T (r+1)).2):=aa (by
          rw[bF,<-r5.out,<-pg.out,<-hS.out]
          exact⟨rfl,rfl⟩)
         have qm:Hid (∀ j,j<T->(dH (aM l PL j m)).length=m/\∀x∈dH (aM l PL j m),x<=1000):=aa (by
          intro j hj
          refine⟨by unfold dH aM;simp,fun x hx=> ?_⟩
          have:=po.out j hj x hx
          omega)
         clear hC h6 hb;go_wp2_with fail;go_roundw;case rel=>exact⟨r+1,_,P9,by omega,by go_num,HC.out,h0.out,r1,qm,HB.out⟩
         case measure=>simp[intOf];omega
    ·obtain rfl:r=4:=(by omega);have dr:decide ((4:Int)<4)=false:=rfl;have H1:Blk w5 w.heap.size 43 #[.slice none 0 0,.slice none 0 0]:=(hb.block w.heap.size HD).trans r4.out;have k0:=(ac H1 0).trans (rfl:_=some (Value.slice none 0 0));have k1:=(ac H1 1).trans (rfl:_=some (Value.slice none 0 0));have f0:=ae H1 0;have f1:=ae H1 1
     have hN:ak 0 [w.heap.size] [] w5 ((w5.setCell ⟨w.heap.size,0,none⟩ (.slice (some ⟨w2.heap.size,0,none⟩) T T)).setCell ⟨w.heap.size,1,none⟩ (.slice (some ⟨w4.heap.size,0,none⟩) G G)):=
      ((ak.refl 0 [w.heap.size] [] w5).set (p:=⟨w.heap.size,0,none⟩) (Ng _) (by simp) _).set (p:=⟨w.heap.size,1,none⟩) (Ng _) (by simp) _
     have pr:az _ w2.heap.size w4.heap.size G G P:=hN.row h6 (fun g hg=>by simp[Value.ownBlock]at hg;simp;omega) aw;have HO:=aa (HP.out w2.heap.size w2.heap.size w4.heap.size C P _ (hC.tabW.past hN HD) (by rw[HR.out];exact hX.out.1) (fun t ht=>(HS.out t ht).1) pr (by rw[HR.out];exact hX.out.2));have qo:=aa (((p6.out.trans (hb.mono (NT HD))).setCell (p:=⟨w.heap.size,0,none⟩) (ag _) (.slice (some ⟨w2.heap.size,0,none⟩) T T)).setCell (p:=⟨w.heap.size,1,none⟩) (ag _) (.slice (some ⟨w4.heap.size,0,none⟩) G G));have p4:=ay (ay H1 0 (.slice (some ⟨w2.heap.size,0,none⟩) T T)) 1 (.slice (some ⟨w4.heap.size,0,none⟩) G G);have q0:=(ac p4 0).trans (rfl:_=some (Value.slice (some ⟨w2.heap.size,0,none⟩) T T));have q1:=(ac p4 1).trans (rfl:_=some (Value.slice (some ⟨w4.heap.size,0,none⟩) G G));clear hC h6 hX HS hb hN pr p4;go_wp2_with fail;(try simp only[Exit.inBlock,Exit.then]);refine NH (v:=.tuple #[.agg #[.slice (some ⟨w2.heap.size,0,none⟩) T T,.slice (some ⟨w4.heap.size,0,none⟩) G G],.int .i64 0]) ?_ rfl (r3.out _ _ HO.out qo.out);simp[results,results112,go_sem,q0,q1]
def jP(l:List Nat)(m:Nat):List Nat:=mr (aM l (List.replicate (aH l.length) 0) 0 m)
def aP(L:List Int)(m:Int):List (List Int)×List Int×Nat:=
 if eY L m then([zL (jP (gu L) m.toNat),zL (jP (gu L) m.toNat)],zL (List.replicate (aH L.length) 0),0)else([], [],2)
theorem BK{w:World}{g:Nat}{A1 A2:Option Addr}{m c1 c2:Nat}{x y:List Nat}(hg:Blk w g 37 #[.slice A1 m c1,.slice A2 m c2])(hx:aB w A1 m x)(h1:m<=c1)(hy:aB w A2 m y)(h2:m<=c2)(hm:m<=maxLen):
 vw w (some ⟨g,0,none⟩) 2 [zL x,zL y]:=by
 refine⟨rfl,fun _=>⟨g,0,rfl,fun i hi=> ?_⟩⟩;have h0:(zL x).length=m:=by unfold zL;rw[Nu,hx.1]
 have h3:(zL y).length=m:=by unfold zL;rw[Nu,hy.1]
 rw[N8]
 match i,hi with
 | 0,_=>
  refine⟨A1,c1,?_,?_,?_,?_⟩;·show w.cell? ⟨g,0,none⟩=some (.slice A1 (zL x).length c1);rw[h0];exact(ac hg 0).trans rfl
  ·show ZIn w A1 (zL x).length (zL x);rw[h0];exact dw hx
  ·show(zL x).length<=c1;omega
  ·show(zL x).length<=maxLen;omega
 | 1,_=>
  refine⟨A2,c2,?_,?_,?_,?_⟩;·show w.cell? ⟨g,1,none⟩=some (.slice A2 (zL y).length c2);rw[h3];exact(ac hg 1).trans rfl
  ·show ZIn w A2 (zL y).length (zL y);rw[h3];exact dw hy
  ·show(zL y).length<=c2;omega
  ·show(zL y).length<=maxLen;omega
theorem GW(w:World)(A:Option Addr)(n c:Nat)(L:List Int)(m:Nat)(hL:ZIn w A n L)(hn:n<=1000000)(hM:eY L m):
 Calls prog 113 #[.slice A n c,.int .i64 m] w (bP w (aP L m)):=by
 have hB:=hL.1;have HQ:1<=n:=by have:=hM.2.2.1;omega
 have HR:3<=m:=by have:=hM.1;omega
 have hf:m<=258:=by have:=hM.2.1;omega
 obtain⟨l,hl⟩:∃l,l=gu L:=⟨_,rfl⟩;have hA:l.length=n:=by rw[hl];unfold gu;rw[Nu,hB]
 have H4:∀x∈l,x<m:=by intro x hx;rw[hl]at hx;obtain⟨y,hy,rfl⟩:=List.mem_map.1 hx;have:=hM.2.2.2.2 y hy;omega
 have H0:aB w A n l:=by rw[hl];exact dN hL fun x hx=>(hM.2.2.2.2 x hx).1
 obtain⟨G,hG⟩:∃G,G=aH n:=⟨_,rfl⟩;have HH:G<=40000/\n<=50*G/\50*G<n+50:=by rw[hG];unfold aH;omega
 obtain⟨R,hR⟩:∃R,R=jP l m:=⟨_,rfl⟩;have he:aP L m=([zL R,zL R],zL (List.replicate G 0),0):=by unfold aP;rw[Nf hM,<-hl,Nv,hB,<-hG,hR]
 rw[he];have HC:Hid (∀ v w',aJ w' v [zL R,zL R] (zL (List.replicate G 0))->Below w.heap.size w w'->bP w ([zL R,zL R],zL (List.replicate G 0),0) (.returned (.tuple #[v,.int .i64 0])) w'):=aa fun v w' h1 h2=>⟨v,rfl,h1,h2⟩;generalize bP w ([zL R,zL R],zL (List.replicate G 0),0)=PO at*;have ht:=aa fun(w1:World) (hb:ZIn w1 A n L)=>qr w1 A n c L m hb (by unfold maxLen;omega);rw[show decide (eY L m)=true from Nn hM]at ht;have hq:=aa fun(w1:World)=>kI w1 n (by omega);rw[<- hG]at hq;have HL:=aa (hL.below (w':=w.alloc (.cells #[.slice none 0 0,.slice none 0 0] 43)) ((Nj _ _).alloc (ag _) _));have hO:=aa fun(w1:World) (hb:Below w.heap.size w w1)=>cF H0 hb;have HA:=aa hA;have hr:=aa H4;have hP:Hid (R=mr (aM l (List.replicate G 0) 0 m)):=aa (by rw[hR];unfold jP;rw[hA,<-hG]);clear hL H0 hM hB hl hA H4 he hG hR;go_enter func113,ntmps113;go_wp2_with fail;refine(ht.out _ HL.out).mono ?_;rintro e w' ⟨rfl,rfl⟩;have hE:Blk (w.alloc (.cells #[.slice none 0 0,.slice none 0 0] 43)) w.heap.size 43 #[.slice none 0 0,.slice none 0 0]:=aj w _ _;have hV:Below w.heap.size w (w.alloc (.cells #[.slice none 0 0,.slice none 0 0] 43)):=(Nj _ _).alloc (ag _) _;generalize w.alloc (.cells #[.slice none 0 0,.slice none 0 0] 43)=w1 at*;have HD:=aa hE;have hI:=aa hV;have hH:w.heap.size<w1.heap.size:=aA hE;clear hE hV HL ht;go_wp2_with fail;refine(hq.out _).mono ?_;rintro e w2 ⟨rfl,rfl⟩;have HN:=bu w2 G (by omega);have hm:=aa (bf w2 w2.heap.size G (ag _) (by omega));have hu:Below w2.heap.size w2 (w2.alloc (.cells (madeCells #[.int .i64 0] G) 3)):=(Nj _ _).alloc (ag _) _;have H5:(List.range G).map (fun _=>0)=List.replicate G 0:=by rw[PI,NE]
 have hC:=hm.out.ints;rw[H5]at hC;have hJ:=aa hu;have hN:=aa (se (w2.alloc (.cells (madeCells #[.int .i64 0] G) 3)) A n c l (hO.out _ (hI.out.trans (hu.mono (NT hH)))) (by omega) (some ⟨w2.heap.size,0,none⟩) G G (List.replicate G 0) hC HH.2.1 0 m hf hr.out);clear hu H5 hC hq hO;go_wp2_with fail;clear HN;generalize w2.alloc (.cells (madeCells #[.int .i64 0] G) 3)=w3 at*;refine hN.out.mono ?_;rintro e w4 ⟨rfl,hX,hv⟩;have hz:=dw hX.ints;have hW:∀s,em l (List.replicate G 0) 0 s<=1000000:=fun s=>by have:=ie l (List.replicate G 0) 0 s l.length;unfold em;have:=HA.out;omega
 have h9:gU (((List.range m).map (em l (List.replicate G 0) 0)).map fun(x:Nat)=>(x:Int)):=by refine⟨by simp;omega,by simp;omega,fun x hx=> ?_⟩;obtain⟨y,hy,rfl⟩:=List.mem_map.1 hx;obtain⟨s,_,rfl⟩:=List.mem_map.1 hy;have:=hW s;omega
 have H8:=aa (Jn w4 _ m m _ hz h9);have hs:=aa h9;have hK:Hid (Below w2.heap.size w2 w4):=aa (aq hJ.out hv);have h8:=aa (hm.out.below hv hm.out.lt.2);clear hX hv hz h9 hW hN hm hJ;go_wp2_with fail;refine H8.out.mono ?_;intro e w5 HM;rcases HM with⟨HO,_⟩|⟨_,v,k,H1,H2,rfl,h5,ho⟩;·exact absurd hs.out HO
 ·have hT:(((List.range m).map (em l (List.replicate G 0) 0)).map fun(x:Nat)=>(x:Int)).length=m:=by simp
  rw[hT]at h5 H1 H2;rw[ly]at h5;have H3:=Ez H1 H2;have h6:w5.ownsRow w4.heap.size 3 1 v m (R.map iv):=by rw[hP.out];unfold mr;rw[show (aM l (List.replicate G 0) 0 m).length=m by unfold aM;simp,<-H3,Ou];exact h5
  have HI:R.length=m:=by rw[hP.out];unfold mr aM;simp
  obtain⟨A5,c5,rfl,HJ,HS,HF⟩:=ai h6;have hZ:aB w5 A5 m R:=aE h6;have h0:(w5.alloc (.cells #[] 3)).ownsRow w5.heap.size 3 1 (.slice (some ⟨w5.heap.size,0,none⟩) 0 0) 0 []:=OM w5 #[] 0 (ag _) (Ng _) rfl;have hw:Below w5.heap.size w5 (w5.alloc (.cells #[] 3)):=(Nj _ w5).alloc (ag _) _;obtain⟨v6,w6,H6,hg,hY⟩:=bB (w5.alloc (.cells #[] 3)) w5.heap.size _ 0 [] h0 A5 m c5 R (cF hZ hw) (by omega) (by simp);have hp:Below w5.heap.size w5 w6:=hw.grown hY (by simp) (fun k hk=>(h0.lt k hk).1);rw[N8,Ok]at hg;obtain⟨A6,c6,rfl,HK,HT,HG⟩:=ai hg;have HP:w2.heap.size<=w4.heap.size:=hK.out.size;have HU:w4.heap.size<=w5.heap.size:=ho.size;have h4:Below w2.heap.size w2 w6:=(hK.out.trans (ho.mono HP)).trans (hp.mono (by omega));have HV:w2.heap.size<=w6.heap.size:=h4.size;have hQ:Blk (w6.alloc (.cells #[.slice A5 m c5,.slice A6 m c6] 37)) w6.heap.size 37 #[.slice A5 m c5,.slice A6 m c6]:=aj w6 _ _;have ha:Blk (w6.alloc (.cells #[.slice A5 m c5,.slice A6 m c6] 37)) w.heap.size 43 #[.slice none 0 0,.slice none 0 0]:=(RU w6 _ (by omega)).trans ((h4.block w.heap.size hH).trans HD.out)
  have hc:ak w.heap.size [w.heap.size] [] (w6.alloc (.cells #[.slice A5 m c5,.slice A6 m c6] 37)) (((w6.alloc (.cells #[.slice A5 m c5,.slice A6 m c6] 37)).setCell ⟨w.heap.size,0,none⟩ (.slice (some ⟨w6.heap.size,0,none⟩) 2 2)).setCell ⟨w.heap.size,1,none⟩ (.slice (some ⟨w2.heap.size,0,none⟩) G G)):=
   ((ak.refl _ _ _ _).set (p:=⟨w.heap.size,0,none⟩) (ag _) (by simp) _).set (p:=⟨w.heap.size,1,none⟩) (ag _) (by simp) _
  have hS:=hc.blk hQ (by simp;omega) (by simp);have h3:w6.ownsRow w4.heap.size 3 1 (.slice A5 m c5) m (R.map iv):=(an hp).row h6 (fun _ _=>aw) aw;have h7:=hc.row (h3.alloc (.cells #[.slice A5 m c5,.slice A6 m c6] 37)) (fun k hk=>by have:=(NS h3 k hk).1;simp;omega) (by simp);have hh:=hc.row (hg.alloc (.cells #[.slice A5 m c5,.slice A6 m c6] 37)) (fun k hk=>by have:=(NS hg k hk).1;simp;omega) (by simp);have hi:az w6 w2.heap.size w2.heap.size G G fun _=>0:=(h8.out.below ho h8.out.lt.2).below hp (by have:=h8.out.lt.2;omega);have hj:az _ w2.heap.size w2.heap.size G G fun _=>0:=hc.row (hi.alloc (.cells #[.slice A5 m c5,.slice A6 m c6] 37)) (fun k hk=>by simp[Value.ownBlock]at hk;simp;omega) (by simp);have hD:=dw hj.ints;rw[show (List.range G).map (fun _=>0)=List.replicate G 0 by rw[PI,NE]]at hD
  have HB:=aa (show aJ _ (.agg #[.slice (some ⟨w6.heap.size,0,none⟩) 2 2,.slice (some ⟨w2.heap.size,0,none⟩) G G]) [zL R,zL R] (zL (List.replicate G 0))from
   ⟨_,2,2,_,G,G,rfl,BK hS (aE h7) HJ (aE hh) HK (by unfold maxLen;omega),Nk _,by unfold maxLen;omega,hD,Nk _,by unfold maxLen;omega⟩)
  have H7:=aa (((hI.out.trans (h4.mono (NT hH))).alloc (by omega) (.cells #[.slice A5 m c5,.slice A6 m c6] 37)).trans hc.below);have hF:=ay (ay ha 0 (.slice (some ⟨w6.heap.size,0,none⟩) 2 2)) 1 (.slice (some ⟨w2.heap.size,0,none⟩) G G);have k0:=(ac ha 0).trans (rfl:_=some (Value.slice none 0 0));have k1:=(ac ha 1).trans (rfl:_=some (Value.slice none 0 0));have f0:=ae ha 0;have f1:=ae ha 1;have q0:=(ac hF 0).trans (rfl:_=some (Value.slice (some ⟨w6.heap.size,0,none⟩) 2 2));have q1:=(ac hF 1).trans (rfl:_=some (Value.slice (some ⟨w2.heap.size,0,none⟩) G G));have HE:=aa H6;clear h5 H3 h6 HI HF hZ h0 hw H6 hg hY hp HG h4 hQ ha hc hS h3 h7 hh hi hj hD hF hT ho;go_wp2_with (at_builtin;refine Lib.wpList_append_run _ rfl (.tmp 27) (.tmp 28) 37 37 rfl (.slice (some ⟨w5.heap.size,0,none⟩) 0 0) (.slice A5 m c5) rfl rfl _ _ HE.out ?_)
  (try simp only[Exit.inBlock,Exit.then]);refine NH (v:=.tuple #[.agg #[.slice (some ⟨w6.heap.size,0,none⟩) 2 2,.slice (some ⟨w2.heap.size,0,none⟩) G G],.int .i64 0]) ?_ rfl (HC.out _ _ HB.out H7.out);simp[results,results113,go_sem,q0,q1]
theorem iC{T:List (List Int)}{q:Nat}(h:q<T.length):T.getD q []∈T:=by rw[Na,Nc h];exact NM h
theorem nm(w:World)(v:Value)(T:List (List Int))(P:List Int)(h:aJ w v T P):
 Calls prog 117 #[v] w fun e w'=>e=.returned (.bool (decide (aV T P)))/\Below w.heap.size w w':=by
 obtain⟨A,n,c,B,m,d,rfl,hT,hS,hn,hP,hR,hm⟩:=h;have hO:=hT.1;have hE:=hP.1;unfold maxLen at hn hm;obtain⟨n0,hi⟩:∃n0,n0=(T.getD 0 []).length:=⟨_,rfl⟩;have hs:Hid (n<2->decide (aV T P)=false):=aa fun h=>Nl fun k=>by have:=k.1;omega
 have hu:Hid (6<n->decide (aV T P)=false):=aa fun h=>Nl fun k=>by have:=k.2.1;omega
 have hw:Hid (m<1->decide (aV T P)=false):=aa fun h=>Nl fun k=>by have:=k.2.2.1;omega
 have hA:Hid (32767<m->decide (aV T P)=false):=aa fun h=>Nl fun k=>by have:=k.2.2.2.1;omega
 have hC:Hid (∀ q,q<n->((T.getD q []).length≠n0\/¬bK (T.getD q []))->decide (aV T P)=false):=aa fun q hq h=>Nl fun k=>by
  have:=k.2.2.2.2.1 (T.getD q []) (iC (by omega));rw[<- hi]at this;rcases h with h|h;·exact h this.1
  ·exact h this.2
 have hB:Hid (∀ x∈P,(x<0\/(n:Int)<=x)->decide (aV T P)=false):=aa fun x hx h=>Nl fun k=>by have:=k.2.2.2.2.2.1 x hx;omega
 have hI:Hid (n0<3->decide (aV T P)=false):=aa fun h=>Nl fun k=>by have:=k.2.2.2.2.2.2;omega
 have hf:Hid (2<=n->n<=6->1<=m->m<=32767->(∀ q,q<n->(T.getD q []).length=n0/\bK (T.getD q []))->(∀ x∈P,0<=x/\x<(n:Int))->3<=n0->decide (aV T P)=true):=aa fun h1 h2 h3 h4 h5 h6 h7=>
  Nn ⟨by omega,by omega,by omega,by omega,fun t ht=>by
   obtain⟨q,hq,rfl⟩:=List.mem_iff_getElem.1 ht
   have:=h5 q (by omega)
   rw[Na,Nc hq]at this
   rw[<- hi]
   exact this,fun x hx=>by have:=h6 x hx;omega,by omega⟩
 generalize decide (aV T P)=ans at*;have q0:(w.alloc (.cells #[.slice A n c,.slice B m d] 43)).cell? ⟨w.heap.size,0,none⟩=some (.slice A n c):=(ac (aj w _ _) 0).trans rfl;have q1:(w.alloc (.cells #[.slice A n c,.slice B m d] 43)).cell? ⟨w.heap.size,1,none⟩=some (.slice B m d):=(ac (aj w _ _) 1).trans rfl;have HB:Hid (Below w.heap.size w (w.alloc (.cells #[.slice A n c,.slice B m d] 43))):=aa ((Nj _ _).alloc (ag _) _);have HT:=aa (hT.below HB.out);have HP:=aa (hP.below HB.out);have hH:=aa hi;have hl:=aa hE;clear hT hP hO hE hi;go_enter func117,ntmps117;by_cases e1:n<2;·have h0:=hs.out e1;have d1:decide ((n:Int)<2)=true:=bE;subst h0;go_wp2_with fail;go_ret;exact⟨rfl,HB.out⟩
 have d1:decide ((n:Int)<2)=false:=aR;by_cases e2:6<n;·have h0:=hu.out e2;have d2:decide ((6:Int)<(n:Int))=true:=bE;subst h0;go_wp2_with fail;go_ret;exact⟨rfl,HB.out⟩
 have d2:decide ((6:Int)<(n:Int))=false:=aR;by_cases e3:m<1;·have h0:=hw.out e3;have d3:decide ((m:Int)<1)=true:=bE;subst h0;go_wp2_with fail;go_ret;exact⟨rfl,HB.out⟩
 have d3:decide ((m:Int)<1)=false:=aR;by_cases e4:32767<m;·have h0:=hA.out e4;have d4:decide ((32767:Int)<(m:Int))=true:=bE;subst h0;clear e4;go_wp2_with fail;go_ret;exact⟨rfl,HB.out⟩
 have d4:decide ((32767:Int)<(m:Int))=false:=aR;have h8:Hid ((∀ q,q<n->(T.getD q []).length=n0/\bK (T.getD q []))->(∀ x∈P,0<=x/\x<(n:Int))->3<=n0->ans=true):=aa (hf.out (by omega) (by omega) (by omega) (by omega));have hV:m<=100000:=by omega
 have hW:n<=6:=by omega
 have hX:2<=n:=by omega
 clear e1 e2 e3 e4 hs hu hw hA hf hn hm hS hR;obtain⟨b,off,rfl,hc⟩:=HT.out.2 (by omega);obtain⟨A0,c0,ho,_⟩:=hc 0 (by omega);rw[<- hH.out]at ho;have hD:=ho;rw[NY]at hD;have hY:(0:Int)<(n:Int):=by omega
 clear hc;go_wp2_with fail;clear ho hD;generalize w.alloc (.cells #[.slice (some ⟨b,off,none⟩) n c,.slice B m d] 43)=w1 at*;go_loopw [4] (fun i wx=>∃q:Nat,q<=n/\i=.int .i64 q/\Hid (∀ j,j<q->(T.getD j []).length=n0/\bK (T.getD j []))/\w1=wx) (fun i _=>n-(intOf i).toNat)
 case atStart=>exact⟨0,Ng _,rfl,by intro j hj;omega,rfl⟩
 case round=>
  obtain⟨q,hq,rfl,hv,rfl⟩:=hrel;by_cases e:q<n
  ·have dq:decide ((q:Int)<(n:Int))=true:=bE;have hZ:(0:Int)<=(q:Int):=(by omega);have H0:(q:Int)<(n:Int):=(by omega);obtain⟨b',off',hF,hc⟩:=HT.out.2 (by omega);simp only[Oj,PR,and_true]at hF;obtain⟨rfl,rfl⟩:=hF;obtain⟨A2,c2,h1,h2,h3,h4⟩:=hc q e;obtain⟨L,hL⟩:∃L,L=T.getD q []:=⟨_,rfl⟩;rw[<- hL]at h1 h2 h3 h4;obtain⟨k,hk⟩:∃k,k=L.length:=⟨_,rfl⟩;rw[<- hk]at h1 h2 h3 h4;have hh:=aa (Fx _ A2 k c2 L h2 h4);have he:Hid ((k≠n0\/¬bK L)->ans=false):=aa fun h=>hC.out q e (by rw[<- hL,<-hk];exact h);have ha:Hid (k=n0->bK L->∀j,j<q+1->(T.getD j []).length=n0/\bK (T.getD j [])):=aa fun a b j hj=>by
    rcases N1 j q with hG|hG;·exact hv.out j hG
    ·obtain rfl:j=q:=(by omega);rw[<- hL,<-hk];exact⟨a,b⟩
   clear hc hL hk h2 h3 h4;by_cases ek:k=n0
   ·have d1:((k:Int) != (n0:Int))=false:=(by rw[ek];simp);by_cases el:bK L
    ·rw[Nf el]at hh;have hM:=aa (ha.out ek el);clear ek el he ha;go_wp2_with fail;refine hh.out.mono ?_;rintro e w' ⟨rfl,rfl⟩;go_wp2_with fail;go_roundw;case rel=>exact⟨q+1,by omega,by go_num,hM,trivial⟩
     case measure=>simp[intOf];omega
    ·rw[Nd el]at hh;have h0:=he.out (.inr el);subst h0;clear ek el he ha;go_wp2_with fail;refine hh.out.mono ?_;rintro e w' ⟨rfl,rfl⟩;go_wp2_with fail;go_ret;exact⟨rfl,HB.out⟩
   ·have d1:((k:Int) != (n0:Int))=true:=(by rw[Pe];omega);have h0:=he.out (.inl ek);subst h0;clear ek he ha;go_wp2_with fail;go_ret;exact⟨rfl,HB.out⟩
  ·obtain rfl:q=n:=(by omega);have dq:decide ((q:Int)<(q:Int))=false:=aR;have HV:=aa (h8.out hv.out);clear hv hC h8;go_wp2_with fail;(go_loopw [5] (fun i wx=>∃z:Nat,z<=m/\i=.int .i64 z/\Hid (∀ x∈P.take z,0<=x/\x<(q:Int))/\Below w1.heap.size w1 wx) (fun i _=>m-(intOf i).toNat));case atStart=>exact⟨0,Ng _,rfl,by simp[Hid],Nj _ _⟩
   case round=>
    obtain⟨z,hz,rfl,hv,hg⟩:=hrel;have hb:=aa hg;have p0:=(hg.cell (No w1 _ q0)).trans q0;have p1:=(hg.cell (No w1 _ q1)).trans q1;have hJ:=aa (HP.out.below hg);clear hg;by_cases e:z<m
    ·have H1:(0:Int)<=(z:Int):=(by omega);have H2:(z:Int)<(m:Int):=(by omega);obtain⟨b',off',rfl,hc⟩:=hJ.out.2 (by omega);have hQ:=hc z e;have hp:=cK P z (by rw[hl.out];exact e);have h9:=dK P z (by rw[hl.out];exact e);obtain⟨x,hx⟩:∃x,x=P.getD z 0:=⟨_,rfl⟩;rw[<- hx]at hQ hp h9;have hK:=aa hp;have HM:=aa h9;clear hc hx hp h9;by_cases e1:x<0;·have d1:decide (x<0)=true:=Nn e1;have h0:=hB.out x HM.out (.inl e1);subst h0;go_wp2_with fail;go_quiet (fail);go_wp2_with fail;go_ret;exact⟨rfl,HB.out.trans (ax (hb.out.mono HB.out.size) _)⟩
     ·have d1:decide (x<0)=false:=Nl e1;by_cases e2:(q:Int)<=x;·have d2:decide ((q:Int)<=x)=true:=Nn e2;have h0:=hB.out x HM.out (.inr e2);subst h0;go_wp2_with fail;go_quiet (fail);go_wp2_with fail;go_ret;exact⟨rfl,HB.out.trans (ax (hb.out.mono HB.out.size) _)⟩
      ·have d2:decide ((q:Int)<=x)=false:=Nl e2
       have ha:Hid (∀ y∈P.take (z+1),0<=y/\y<(q:Int)):=aa (by
        rw[hK.out]
        intro y hy
        rcases List.mem_append.1 hy with hy|hy
        ·exact hv.out y hy
        ·rw[List.mem_singleton.1 hy]
         omega)
       go_wp2_with fail;go_quiet (fail);go_wp2_with fail;go_roundw;case rel=>exact⟨z+1,by omega,by go_num,ha,ax hb.out _⟩
       case measure=>simp[intOf];omega
    ·obtain rfl:z=m:=(by omega);have hr:=hv.out;rw[Nr (Oi hl.out)]at hr;have hN:=aa (HV.out hr);clear hv hr HV;by_cases e3:3<=n0;·have d3:decide ((3:Int)<=(n0:Int))=true:=bE;have h0:=hN.out e3;subst h0;go_wp2_with fail;go_ret;exact⟨rfl,aq HB.out hb.out⟩
     ·have d3:decide ((3:Int)<=(n0:Int))=false:=aR;have h0:=hI.out (by omega);subst h0;go_wp2_with fail;go_ret;exact⟨rfl,aq HB.out hb.out⟩
theorem sc:∀(l:List Nat) (x j:Nat),j<aX l x->l.getD j 0≠x
 | [],_,j,h=>by simp[aX]at h
 | y::l,x,j,h=>by
  rw[aX]at h;by_cases e:y=x;·rw[Nf e]at h;exact absurd h (O4 _)
  ·rw[Nd e]at h
   cases j with
   | zero=>simpa using e
   | succ j=>simpa using sc l x j (by omega)
theorem oR(o:List Nat)(x:Nat)(r:List Nat):aI o (x::r)=List.replicate (aX o x) 1++0::aI (eu o (aX o x)) r:=rfl
theorem fw{B k n:Nat}{e:TypeId}{v:Value}{xs:List Value}{w w':World}(h:w.ownsRow B e k v n xs)(hb:Below w.heap.size w w'):w'.ownsRow B e k v n xs:=
 OU (row:=none) h ⟨hb.os,hb.tape,hb.output,hb.size,fun j hj _=>hb.block j hj⟩ (by cases hv:v.ownBlock <;>simp)
structure fA (w0 w:World) (v:Value) (X:List Nat) (g c:Nat) (o:List Nat):Prop where
 out:w.ownsRow w0.heap.size 3 1 v X.length (X.map iv)
 ord:w.ownsRow w0.heap.size 3 1 (.slice (some ⟨g,0,none⟩) 6 c) 6 (o.map iv)
 ne:v.ownBlock≠some g
 below:Below w0.heap.size w0 w
theorem fA.drewN{w0 w:World}{v:Value}{X:List Nat}{g c:Nat}{o:List Nat}(h:fA w0 w v X g c o)(k:Nat):fA w0 (w.drewN k) v X g c o:=
 ⟨h.out,h.ord,h.ne,ax h.below k⟩
theorem fA.len{w0 w:World}{v:Value}{X:List Nat}{g c:Nat}{o:List Nat}(h:fA w0 w v X g c o):o.length=6:=by have:=h.ord.1;simpa using this
theorem fA.cell{w0 w:World}{v:Value}{X:List Nat}{g c:Nat}{o:List Nat}(h:fA w0 w v X g c o)(j:Nat)(hj:j<6):w.cell? ⟨g,j,none⟩=some (.int .i64 (o.getD j 0:Nat)):=by have hl:=h.len;rw[Oy h.ord j (by omega),Np,Nc (by omega),Na,Nc (by omega)];rfl
theorem fA.push{w0 w:World}{A:Option Addr}{N cap:Nat}{X:List Nat}{g c:Nat}{o:List Nat}(h:fA w0 w (.slice A N cap) X g c o)(x:Nat)(hN:X.length=N)(hX:N<=1000000):
 ∃A2 cap2 w2,(Builtin.append_ #[37,37] 37 #[.slice A N cap,.slice (some ⟨w.heap.size,0,none⟩) 1 1]).run prog (w.alloc (.cells #[.int .i64 x] 3))=.ok (.slice A2 (N+1) cap2) w2/\
  fA w0 w2 (.slice A2 (N+1) cap2) (X++ [x]) g c o:=by
 obtain⟨i3,h3,h4,h5,h6⟩:=N4 Tryz.info3;subst hN;have h1:=h.below.size
 obtain⟨v2,w2,hr,ho,hg,_,h0⟩:=P1 (P:=prog) (w.alloc (.cells #[.int .i64 x] 3)) w0.heap.size 37 37 3 i3 (.int .i64 0) 1 8 underlying37 h3 h4 h5 h6 rfl (by decide) _ _ _ (h.out.alloc _) ⟨w.heap.size,0,none⟩ 1 1 [iv x] rfl (bV w (iv x) 3)
  (fun u hu=>by rw[List.mem_singleton.1 hu];rfl) (by unfold maxLen;omega) (by omega) (by simp;omega)
 obtain⟨A2,cap2,rfl,_,_,_⟩:=ai ho;have h7:=NS h.ord g rfl;refine⟨A2,cap2,w2,hr,?_,OU (h.ord.alloc _) hg (.inr fun e=>h.ne e.symm),?_,?_⟩;·have h2:=ho;rw[show X.map iv++ [iv x]=(X++ [x]).map iv by simp]at h2;rw[Nb];exact h2
 ·rcases h0 with e|e;·rw[e];exact h.ne
  ·rw[e];intro e2;have:=On e2;simp at this;omega
 ·exact(h.below.alloc h1 _).grown hg (by simp;omega) (fun k hk=>(h.out.lt k hk).1)
theorem fA.turn{w0 w w2:World}{v v2:Value}{X:List Nat}{g c:Nat}{o o2:List Nat}(h:fA w0 w v X g c o)(hb:Below w.heap.size w w2)(hr:w2.ownsRow w.heap.size 3 1 v2 6 (o2.map iv)):
 ∃g2 c2,v2=.slice (some ⟨g2,0,none⟩) 6 c2/\fA w0 w2 v X g2 c2 o2:=by obtain⟨A2,c2,rfl,_,_,hA⟩:=ai hr;obtain⟨g2,rfl⟩:=hA (by omega);refine⟨g2,c2,rfl,fw h.out hb,World.ownsRow.mono hr h.below.size,?_,aq h.below hb⟩;intro e;have h1:=(NS h.out g2 e).2;have h2:=(NS hr g2 rfl).1;omega
