import Derived.Test.YtepokmggbfoakaaGreatDoorT26
set_option maxHeartbeats 6400000
set_option maxRecDepth 100000
namespace Go.Proofs.YtepokmggbfoakaaGreatDoor
open _root_.Go.Proofs.Tryz
open Go.RowKit
theorem I3(w:World)(v:Value)(T:List (List Int))(P:List Int)(h:aQ w v T P)(A':Option Addr)(n' c':Nat)(L:List Int)(hL:ZIn w A' n' L)(pj:n'<=c')(pg:n'<=2000000)(hF:Il T P L):
 Calls prog 52 #[v,.slice A' n' c'] w (aZ w (bX T P L)):=by
 have hP:=hF.1;obtain⟨A,q,c,B,m,d,rfl,hT,q5,hq,HA,q4,pf⟩:=id h;have HY:=hT.1;have HX:=HA.1;have hV:=hL.1;have pk:2<=q/\q<=6:=by have h1:=hP.1;have h2:=hP.2.1;omega
 have q3:1<=m/\m<=32767:=by have h1:=hP.2.2.1;have h2:=hP.2.2.2.1;omega
 obtain⟨z,hz⟩:∃z,z=aR n':=⟨_,rfl⟩;have q8:z<=m:=by have:=hF.2;rw[hV,HX,<-hz]at this;exact this
 have q9:n'<=50*z/\50*z<n'+50:=by rw[hz];unfold aR;omega
 obtain⟨tb,tq,rfl,p2⟩:=hT.2 (by omega);obtain⟨b,off,rfl,ht⟩:=HA.2 (by omega);have HT:∀i,i<m->0<=P.getD i 0/\(P.getD i 0).toNat<q:=fun i hi=>by
  have:=hP.2.2.2.2.2.1 (P.getD i 0) (by
   rw[Nb,Nd (by omega)]
   exact NL _)
  rw[HY]at this;omega
 have ho:∀i,i<q->(T.getD i []).length=(T.getD 0 []).length/\a6 (T.getD i []):=fun i hi=>hP.2.2.2.2.1 _ (ns T i (by omega));obtain⟨m0,HG⟩:∃m0,m0=(T.getD 0 []).length:=⟨_,rfl⟩;rw[<- HG]at ho;have hA:bX T P L=if ∀x∈L,0<=x/\x<(m0:Int)then(((List.range z).map (jw T P L)).flatten,0)else([],60):=by unfold bX;rw[Ng hF,<-nB T P L z,PD (by omega),HG]
 rw[hA];have HC:Below w.heap.size w (w.alloc (.cells #[.slice (some ⟨tb,tq,none⟩) q c,.slice (some ⟨b,off,none⟩) m d] 90)):=(Nj _ _).alloc (ah _) _;have HF:=aj w 90 #[.slice (some ⟨tb,tq,none⟩) q c,.slice (some ⟨b,off,none⟩) m d];obtain⟨w1,hY⟩:∃w1,w1=w.alloc (.cells #[.slice (some ⟨tb,tq,none⟩) q c,.slice (some ⟨b,off,none⟩) m d] 90):=⟨_,rfl⟩;have p4:w1.heap.size=w.heap.size+1:=by rw[hY];simp
 rw[<- hY]at HC HF;have HD:Below w1.heap.size w1 (w1.alloc (.cells #[.string ⟨#[]⟩,.int .i64 0] 43)):=(Nj _ _).alloc (ah _) _;have HW:=aO HD HF;have HI:=aj w1 43 #[.string ⟨#[]⟩,.int .i64 0];rw[p4]at HI;have hp:=ap HC HD;have HR:=aa hY.symm;have HP:Hid (∀ w2,w2=w1.alloc (.cells #[.string ⟨#[]⟩,.int .i64 0] 43)->Calls prog 102 #[.agg #[.slice (some ⟨tb,tq,none⟩) q c,.slice (some ⟨b,off,none⟩) m d]] w2.drew fun e w'=>e=.returned (.bool true)/\Below w2.heap.size w2.drew w'):=aa fun w2 e2=>by have h3:=du w2.drew _ T P (h.below (by rw[e2];exact hp.drew));rw[No hP]at h3;exact h3
 have hM:=aa fun(wx:World)=>jX wx n' (by omega);rw[<- hz]at hM;unfold maxLen at pf;have d0:decide ((m:Int)<(z:Int))=false:=aD (by omega);have dn:¬m<z:=by omega
 have HQ:=aa p2;have H1:=aa ht;have H3:=aa HT;have hn:=aa ho;have HL:=aa hL;have p6:=aa hV;have q0:=aa hz;have hN:=aa HW;have H4:=aa HI;have HO:=aa hp;have hl:Hid (∀ i,i<z->(¬ ∀x∈bY L i,0<=x/\x<(m0:Int))->∀w',Below w.heap.size w w'->aZ w (if ∀x∈L,0<=x/\x<(m0:Int)then(((List.range z).map (jw T P L)).flatten,0)else([],60)) (.returned (.tuple #[.agg #[.string ⟨#[]⟩,.int .i64 0],.int .i64 60])) w'):=aa fun i _ hno w' hb=>by rw[Nf fun h0=>hno fun x hx=>h0 x (JY hx)];exact⟨rfl,hb⟩
 have ha:Hid ((∀ j,j<z->∀x∈bY L j,0<=x/\x<(m0:Int))->∀w' X,X=((List.range z).map (jw T P L)).flatten->Below w.heap.size w w'->aZ w (if ∀x∈L,0<=x/\x<(m0:Int)then(((List.range z).map (jw T P L)).flatten,0)else([],60)) (.returned (.tuple #[.agg #[.string ⟨(aF X).toArray⟩,.int .i64 X.length],.int .i64 0])) w'):=aa fun h0 w' X hX hb=>by (have:∀x∈L,0<=x/\x<(m0:Int):=fun x hx=>by obtain⟨k,hk,pn⟩:=JM hx;exact h0 k (by rw[hz,<-hV];exact hk) x pn);rw[Ng this,hX];exact⟨rfl,hb⟩
 generalize aZ w (if ∀x∈L,0<=x/\x<(m0:Int)then(((List.range z).map (jw T P L)).flatten,0)else([],60))=PO at*;clear h hF HC HF HD HW HI hp p4 hY hP hz hL HX HA hT p2 ht HT ho hA hV HG HY;go_enter func52,ntmps52;go_upto_region 1 with fail;rw[HR.out];have HM:=aa (HP.out _ rfl);generalize w1.alloc (.cells #[.string ⟨#[]⟩,.int .i64 0] 43)=w2 at*;clear HR HP;have p0:w2.cell? ⟨w.heap.size,0,none⟩=some (.slice (some ⟨tb,tq,none⟩) q c):=(ac hN.out 0).trans rfl;have p1:w2.cell? ⟨w.heap.size,1,none⟩=some (.slice (some ⟨b,off,none⟩) m d):=(ac hN.out 1).trans rfl;have hW:w.heap.size<w2.heap.size:=az hN.out;have hH:w.heap.size+1<w2.heap.size:=az H4.out
 go_region_held3 (fun w'=>w'.cell? ⟨w.heap.size,0,none⟩=some (.slice (some ⟨tb,tq,none⟩) q c)/\w'.cell? ⟨w.heap.size,1,none⟩=some (.slice (some ⟨b,off,none⟩) m d))
  (first|exact⟨p0,p1⟩|exact⟨s0,s1⟩|go_keep)
  (first
    | (go_at_call 102;refine HM.out.mono ?_;rintro e w3 ⟨rfl,hB⟩
       have s0:w3.cell? ⟨w.heap.size,0,none⟩=some (.slice (some ⟨tb,tq,none⟩) q c):=(hB.cell (p:=⟨w.heap.size,0,none⟩) hW).trans p0
       have s1:w3.cell? ⟨w.heap.size,1,none⟩=some (.slice (some ⟨b,off,none⟩) m d):=(hB.cell (p:=⟨w.heap.size,1,none⟩) hW).trans p1)
    | (go_at_call 105;refine(hM.out _).mono ?_;rintro e w4 ⟨rfl,rfl⟩))
 have H5:Hid (Blk w3 (w.heap.size+1) 43 #[.string ⟨#[]⟩,.int .i64 0]):=aa ((hB.block (w.heap.size+1) hH).trans H4.out);have hK:=aa (HO.out.drew.trans (hB.mono (NV hW)));clear hB hN H4 HO HM p0 p1 hW hH;go_wp2_with fail;refine(hM.out _).mono ?_;rintro e w3 ⟨rfl,rfl⟩;clear hM;have he:=hK.out.size;have hh:=az H5.out;go_wp2_with fail;go_loopw [6,7,8,9,26] (fun pv s7 s8 s9 iv' wx=>∃(i:Nat) (A9:Option Addr) (c9:Nat),i<=z/\iv'=.int .i64 i/\pv=.slice A9 i c9/\Pcs wx w3.heap.size (.slice A9 i c9) ((List.range i).map (jw T P L))/\Below w3.heap.size w3 wx/\Hid (∀ j,j<i->∀x∈bY L j,0<=x/\x<(m0:Int))) (fun _ _ _ _ iv' _=>z-(intOf iv').toNat)
 case atStart=>exact⟨0,none,0,Nh _,rfl,rfl,J1 _ _,Nj _ _,fun j hj=>absurd hj (Px _)⟩
 case round=>
  rename World=>wx;obtain⟨i,A9,c9,hi,rfl,rfl,ht,hg,hS⟩:=hrel;by_cases e:i<z
  ·have q1:(0:Int)<=(i:Int):=(by omega);have q2:(i:Int)<(m:Int):=(by omega);have H8:50*i<n':=(by omega);obtain⟨po,HN⟩:=H3.out i (by omega);obtain⟨y,hy⟩:∃y,y=(P.getD i 0).toNat:=⟨_,rfl⟩;have p3:P.getD i 0=(y:Int):=(by omega);rw[<- hy]at HN;obtain⟨A2,c2,h1,h2,_,h4⟩:=HQ.out y HN;obtain⟨htl,HZ⟩:=hn.out y HN;have hD:∀W,Below wx.heap.size wx W->Below w.heap.size w W:=fun W hb=>(hK.out.trans (hg.mono he)).trans (hb.mono (NH he hg.size));have hs:=hD wx (Nj _ _);have c0:wx.cell? ⟨w.heap.size,0,none⟩=some (.slice (some ⟨tb,tq,none⟩) q c):=(hg.cell (p:=⟨w.heap.size,0,none⟩) (Nr w3 _ s0)).trans s0;have c1:wx.cell? ⟨w.heap.size,1,none⟩=some (.slice (some ⟨b,off,none⟩) m d):=(hg.cell (p:=⟨w.heap.size,1,none⟩) (Nr w3 _ s1)).trans s1;have c2':wx.cell? ⟨b,off+i,none⟩=some (.int .i64 (y:Int)):=(by rw[<- p3];exact(hs.cell (p:=⟨b,off+i,none⟩) (Nr w _ (H1.out i (by omega)))).trans (H1.out i (by omega)));have c3:wx.cell? ⟨tb,tq+y,none⟩=some (.slice A2 m0 c2):=(by rw[<- htl];exact(hs.cell (p:=⟨tb,tq+y,none⟩) (Nr w _ h1)).trans h1);have h5:=aa fun(W:World) (hb:Below wx.heap.size wx W)=>I0 W A' n' c' L i (HL.out.below (hD W hb)) pj pg H8;have h6:=aa fun(W:World) (hb:Below wx.heap.size wx W) (cc:Nat) (hR:(bY L i).length<=cc)=>kQ W A2 (A'.map fun x=>x.add (50*i)) m0 c2 (bY L i).length cc (T.getD y []) (bY L i) (by rw[<- htl];exact h2.below (hD W hb)) (by rw[<- htl];exact h4) (JX (HL.out.below (hD W hb)) H8) hR (by rw[gw];omega);(have hI:mL (T.getD y []) (bY L i)=if ∀x∈bY L i,0<=x/\x<(m0:Int)then(jw T P L i,0)else([],60):=by unfold mL jw;rw[Ng HZ,htl,hy]);rw[hI]at h6;(obtain⟨⟨X,zz⟩,HB⟩:∃r:List Nat×Nat,r=if ∀x∈bY L i,0<=x/\x<(m0:Int)then(jw T P L i,0)else([],60):=⟨_,rfl⟩);rw[<- HB]at h6;have hO:=aa HB;have hm:=aa ht;have hf:=aa hg;have hw:=aa hS;have q7:(0:Int)<=(y:Int):=(by omega);have ps:(y:Int)<(q:Int):=(by omega);have bd:Below wx.heap.size wx wx.drew:=(Nj _ _).drew;have ba:Below wx.heap.size wx (wx.alloc (.cells #[.string ⟨#[]⟩,.int .i64 0] 43)).drew:=((Nj _ _).alloc (ah _) _).drew;have ka:Blk (wx.alloc (.cells #[.string ⟨#[]⟩,.int .i64 0] 43)).drew wx.heap.size 43 #[.string ⟨#[]⟩,.int .i64 0]:=aj wx _ _;have l0:=Nr wx _ c0;have l2:=Nr wx _ c2';have l3:=Nr wx _ c3;generalize (bY L i).length=pl at*;generalize (A'.map fun x=>x.add (50*i))=AP at*;clear ht hg hS hI HB h1 h2 h4 htl HZ hD hs hy p3 po s0 s1 H8;go_upto_region 7 with fail;(go_cut [8,9]from 29 to 44 (fun s8 s9 wy=>∃b8,s8=.pointer (some ⟨b8,0,none⟩)/\s9=.int .i64 (zz:Nat)/\Blk wy b8 43 #[.string ⟨(aF X).toArray⟩,.int .i64 (X.length:Nat)]/\wx.heap.size<=b8/\Below wx.heap.size wx wy));case first=>
    go_region_held3 (fun w'=>w'.cell? ⟨w.heap.size,0,none⟩=some (.slice (some ⟨tb,tq,none⟩) q c)/\w'.cell? ⟨w.heap.size,1,none⟩=some (.slice (some ⟨b,off,none⟩) m d)/\w'.cell? ⟨b,off+i,none⟩=some (.int .i64 (y:Int))/\w'.cell? ⟨tb,tq+y,none⟩=some (.slice A2 m0 c2))
     (first|exact⟨c0,c1,c2',c3⟩|exact⟨t0,t1,t2,t3⟩|exact⟨u0,u1,u2,u3⟩|go_keep)
     (first
       | (go_at_call 107;(first|with_reducible refine(h5.out _ bd).mono ?_|with_reducible refine(h5.out _ ba).mono ?_);rintro e w7 ⟨cc,rfl,hR,rfl⟩)
       | (go_at_call 106;(with_reducible refine(h6.out _ bd cc hR).mono ?_);rintro e w9 ⟨rfl,h8⟩
          have t0:w9.cell? ⟨w.heap.size,0,none⟩=some (.slice (some ⟨tb,tq,none⟩) q c):=(h8.cell (p:=⟨w.heap.size,0,none⟩) l0).trans c0
          have t1:w9.cell? ⟨w.heap.size,1,none⟩=some (.slice (some ⟨b,off,none⟩) m d):=(h8.cell (p:=⟨w.heap.size,1,none⟩) l0).trans c1
          have t2:w9.cell? ⟨b,off+i,none⟩=some (.int .i64 (y:Int)):=(h8.cell (p:=⟨b,off+i,none⟩) l2).trans c2'
          have t3:w9.cell? ⟨tb,tq+y,none⟩=some (.slice A2 m0 c2):=(h8.cell (p:=⟨tb,tq+y,none⟩) l3).trans c3
          have h9:Below wx.heap.size wx w9:=bd.trans h8)
       | (go_at_call 106;(with_reducible refine(h6.out _ ba cc hR).mono ?_);rintro e w9 ⟨rfl,h8⟩
          have h9:Below wx.heap.size wx w9:=ap ba h8
          have t0:w9.cell? ⟨w.heap.size,0,none⟩=some (.slice (some ⟨tb,tq,none⟩) q c):=(h9.cell (p:=⟨w.heap.size,0,none⟩) l0).trans c0
          have t1:w9.cell? ⟨w.heap.size,1,none⟩=some (.slice (some ⟨b,off,none⟩) m d):=(h9.cell (p:=⟨w.heap.size,1,none⟩) l0).trans c1
          have t2:w9.cell? ⟨b,off+i,none⟩=some (.int .i64 (y:Int)):=(h9.cell (p:=⟨b,off+i,none⟩) l2).trans c2'
          have t3:w9.cell? ⟨tb,tq+y,none⟩=some (.slice A2 m0 c2):=(h9.cell (p:=⟨tb,tq+y,none⟩) l3).trans c3
          have k9:Blk w9 wx.heap.size 43 #[.string ⟨#[]⟩,.int .i64 0]:=(h8.block wx.heap.size (az ka)).trans ka
          have x0:=(ac k9 0).trans (rfl:_=some (Value.string ⟨#[]⟩))
          have x1:=(ac k9 1).trans (rfl:_=some (Value.int .i64 0))
          have y0:=ae k9 0
          have y1:=ae k9 1
          have hC:Below wx.heap.size wx ((w9.setCell ⟨wx.heap.size,0,none⟩ (.string ⟨(aF X).toArray⟩)).setCell ⟨wx.heap.size,1,none⟩ (.int .i64 (X.length:Nat))):=(h9.setCell (p:=⟨wx.heap.size,0,none⟩) (ah _) _).setCell (p:=⟨wx.heap.size,1,none⟩) (ah _) _
          have u0:=(hC.cell (p:=⟨w.heap.size,0,none⟩) l0).trans c0
          have u1:=(hC.cell (p:=⟨w.heap.size,1,none⟩) l0).trans c1
          have u2:=(hC.cell (p:=⟨b,off+i,none⟩) l2).trans c2'
          have u3:=(hC.cell (p:=⟨tb,tq+y,none⟩) l3).trans c3))
    (all_goals go_wp2_with fail);all_goals go_meet
    all_goals first
     | exact⟨_,rfl,rfl,aj w9 _ _,h9.size,h9.alloc h9.size _⟩
     | exact⟨_,rfl,rfl,au (au k9 0 _) 1 _,Nm _,hC⟩
   case rest=>
    obtain⟨b8,rfl,rfl,hG,HV,hQ⟩:=hcut;have h7:=ap hf.out hQ;have hu:w3.heap.size<=wc.heap.size:=h7.size;by_cases h0:∀x∈bY L i,0<=x/\x<(m0:Int)
    ·have hv:=hO.out;rw[Ng h0]at hv;obtain⟨rfl,rfl⟩:X=jw T P L i/\zz=0:=by
      injection hv with e1 e2
      exact⟨e1,e2⟩
     have hZ:Hid (am (jw T P L i)):=aa (GO _ _);have hE:∀j,j<i+1->∀x∈bY L j,0<=x/\x<(m0:Int):=fun j hj=>by
      by_cases ej:j=i;·rw[ej];exact h0
      ·exact hw.out j (by omega)
     have HH:(List.range (i+1)).map (jw T P L)=(List.range i).map (jw T P L)++ [jw T P L i]:=(by rw[Oi,NF];rfl);obtain⟨X,hX⟩:∃X,X=jw T P L i:=⟨_,rfl⟩;rw[<- hX]at hG hZ HH;obtain⟨v5,w5,HK,hc,HU⟩:=uu wc w3.heap.size (.slice A9 i c9) _ X (hm.out.below hQ) hu (by simp;omega) hZ.out;rw[<- HH]at hc;obtain⟨A5,c5,rfl,_,_,_⟩:=ak hc.own;rw[NC,NK]at hc HK;have x0:=(ac hG 0).trans (rfl:_=some (Value.string ⟨(aF X).toArray⟩));have x1:=(ac hG 1).trans (rfl:_=some (Value.int .i64 X.length));have p7:=aa HK;have H2:=aa hc;have p5:=aa (h7.trans HU);have H0:=aa hE;clear hG HV hQ h7 hu h0 hv hE HH hX HK hc HU hZ hO hm hf hw h5 h6 c0 c1 c2' c3 bd ba ka l0 l2 l3;(go_wp2_with (at_builtin;refine Lib.wpList_append_run _ rfl (.tmp 49) (.tmp 51) 45 45 rfl (.slice A9 i c9) (.slice (some ⟨wc.heap.size,0,none⟩) 1 1) rfl rfl _ w5 p7.out ?_));go_roundw;case rel=>exact⟨i+1,A5,c5,by omega,by go_num,rfl,H2.out,p5.out,H0.out⟩
     case measure=>simp[intOf];omega
    ·have hv:=hO.out;rw[Nf h0]at hv;obtain⟨rfl,rfl⟩:X= []/\zz=60:=by
      injection hv with e1 e2
      exact⟨e1,e2⟩
     have hr:=(h7.block (w.heap.size+1) hh).trans H5.out;have g0:=(ac (show Blk wc (w.heap.size+1) _ _ from hr) 0).trans (rfl:_=some (Value.string ⟨#[]⟩));have g1:=(ac (show Blk wc (w.heap.size+1) _ _ from hr) 1).trans (rfl:_=some (Value.int .i64 0));have f0:=ae (show Blk wc (w.heap.size+1) _ _ from hr) 0;have f1:=ae (show Blk wc (w.heap.size+1) _ _ from hr) 1;have HE:=aa (hl.out i e h0 _ (((hK.out.trans (h7.mono he)).setCell (p:=⟨w.heap.size+1,0,none⟩) (Pq _) (.string ⟨#[]⟩)).setCell (p:=⟨w.heap.size+1,1,none⟩) (Pq _) (.int .i64 0)));clear hG HV hQ h7 hu h0 hv hr hO hm hf hw h5 h6 c0 c1 c2' c3 bd ba ka l0 l2 l3 hl ha;go_wp2_with fail;refine ND (v:=.tuple #[.agg #[.string ⟨#[]⟩,.int .i64 0],.int .i64 60]) ?_ rfl HE.out;simp[results,results52,go_sem,g0,g1]
  ·obtain rfl:i=z:=by omega
   have pb:((List.range i).map (jw T P L)).flatten.length<=1000*i:=tR T P L (fun k=>by
    by_cases hk:k<m
    ·exact .inl (hn.out _ (H3.out k hk).2).2
    ·right
     unfold bY
     rw[OY (by have:=p6.out;omega)]
     rfl) i
   have HJ:=aa (ph wx w3.heap.size (.slice A9 i c9) _ ht (by simp;omega) (by omega));obtain⟨X,hX⟩:∃X,X=((List.range i).map (jw T P L)).flatten:=⟨_,rfl⟩;rw[<- hX]at HJ;have HS:=aa hX;have hf:=aa hg;have hw:=aa hS;clear ht hg hS pb hX hl HQ H1 H3 hn HL;go_wp2_with fail;refine HJ.out.mono ?_;rintro e w9 ⟨rfl,h8⟩;have hJ:=(an h8).blk ((hf.out.block (w.heap.size+1) hh).trans H5.out) ar ar;have g0:=(ac hJ 0).trans (rfl:_=some (Value.string ⟨#[]⟩));have g1:=(ac hJ 1).trans (rfl:_=some (Value.int .i64 0));have f0:=ae hJ 0;have f1:=ae hJ 1;have h9:=(hK.out.trans (hf.out.mono he)).trans (h8.mono (NH he hf.out.size));have HE:=aa (ha.out hw.out _ X HS.out ((h9.setCell (p:=⟨w.heap.size+1,0,none⟩) (Pq _) (.string ⟨(aF X).toArray⟩)).setCell (p:=⟨w.heap.size+1,1,none⟩) (Pq _) (.int .i64 X.length)));clear hJ h8 h9 HJ hf hw ha HS;go_wp2_with fail;refine ND (v:=.tuple #[.agg #[.string ⟨(aF X).toArray⟩,.int .i64 X.length],.int .i64 0]) ?_ rfl HE.out;simp[results,results52,go_sem,g0,g1]
theorem zE(w:World)(v:Value)(T:List (List Int))(P:List Int)(h:aQ w v T P)(A':Option Addr)(n' c':Nat)(L:List Int)(hL:ZIn w A' n' L)(h1:n'<=c')(h0:n'<=2000000):
 Calls prog 52 #[v,.slice A' n' c'] w (aZ w (bX T P L)):=by
 by_cases hP:aP T P
 ·by_cases hM:Il T P L;·exact I3 w v T P h A' n' c' L hL h1 h0 hM
  ·exact I2 w v T P h A' n' c' L hL.1 h0 hP hM
 ·exact I1 w v T P h A' n' c' L hP
theorem Cd(w:World)(v:Value)(T:List (List Int))(P:List Int)(h:aQ w v T P)(hM:¬aP T P):
 Calls prog 51 #[v] w (aZ w (fC T P)):=by rw[show fC T P=([],110)from Nf hM];obtain⟨A,q,c,B,m,d,rfl,_⟩:=id h;have h4:Below w.heap.size w (w.alloc (.cells #[.slice A q c,.slice B m d] 90)):=(Nj _ _).alloc (ah _) _;have h7:=aj w 90 #[.slice A q c,.slice B m d];obtain⟨w1,h2⟩:∃w1,w1=w.alloc (.cells #[.slice A q c,.slice B m d] 90):=⟨_,rfl⟩;have he:w1.heap.size=w.heap.size+1:=(by rw[h2];simp);rw[<- h2]at h4 h7;have h5:Below w1.heap.size w1 (w1.alloc (.cells #[.string ⟨#[]⟩,.int .i64 0] 43)):=(Nj _ _).alloc (ah _) _;have hc:=aO h5 h7;have h8:=aj w1 43 #[.string ⟨#[]⟩,.int .i64 0];rw[he]at h8;have h0:=ap h4 h5;have HM:=aa (du _ _ T P (h.below h0));rw[Nk hM]at HM;have h3:=aa hc;have ha:=aa h8;have h9:=aa h0;have hb:=aa h2.symm;clear h hM h4 h7 h5 hc h8 h0 he h2;go_enter func51,ntmps51;go_upto_region 1 with fail;rw[hb.out];generalize w1.alloc (.cells #[.string ⟨#[]⟩,.int .i64 0] 43)=w2 at*;clear hb;have p0:w2.cell? ⟨w.heap.size,0,none⟩=some (.slice A q c):=(ac h3.out 0).trans rfl;have p1:w2.cell? ⟨w.heap.size,1,none⟩=some (.slice B m d):=(ac h3.out 1).trans rfl;go_wp2_with fail;refine HM.out.mono ?_;rintro e w3 ⟨rfl,h6⟩;have h1:=aO h6 ha.out;have q0:=(ac h1 0).trans (rfl:_=some (Value.string ⟨#[]⟩));have q1:=(ac h1 1).trans (rfl:_=some (Value.int .i64 0));have f0:=ae h1 0;have f1:=ae h1 1;have hf:=aa (ap h9.out h6);clear h1 h6 ha h3 h9 HM p0 p1;go_wp2_with fail;refine ND (v:=.tuple #[.agg #[.string ⟨#[]⟩,.int .i64 0],.int .i64 110]) ?_ rfl ⟨rfl,(hf.out.setCell (p:=⟨w.heap.size+1,0,none⟩) (Pq _) _).setCell (p:=⟨w.heap.size+1,1,none⟩) (Pq _) _⟩;simp[results,results51,go_sem,q0,q1]
theorem Ce(w:World)(v:Value)(T:List (List Int))(P:List Int)(h:aQ w v T P)(hM:aP T P):
 Calls prog 51 #[v] w (aZ w (fC T P)):=by
 obtain⟨A,q,c,B,m,d,rfl,hT,r3,hq,hP,r2,hm⟩:=id h;have hL:=hT.1;have q4:=hP.1;have h5:2<=q/\q<=6:=by have h1:=hM.1;have h2:=hM.2.1;omega
 have hr:1<=m/\m<=32767:=by have h1:=hM.2.2.1;have h2:=hM.2.2.2.1;omega
 have H2:∀x∈P,0<=x/\x<(q:Int):=fun x hx=>by rw[<- hL];exact hM.2.2.2.2.2.1 x hx
 have H3:∀t∈T,a6 t:=fun t ht=>(hM.2.2.2.2.1 t ht).2;obtain⟨H,hH⟩:∃H,H=ag q 3++ag m 15++aJ (List.range q) (nl P):=⟨_,rfl⟩;have HE:(nl P).length=m:=by unfold nl;rw[NC,q4]
 have hA:∀x∈nl P,x<q:=by intro x hx;unfold nl at hx;obtain⟨y,hy,rfl⟩:=List.mem_map.1 hx;have:=H2 y hy;omega
 have ho:fC T P=(H++(T.map nl).flatMap bc,0):=by unfold fC iG;rw[Ng hM,NC,hL,HE,uD h5.2 (nl P) hA,hH]
 rw[ho];have pf:am H:=by rw[hH];exact((aB 3 q).append (aB 15 m)).append (lp _ _)
 have pg:H.length<=200000:=by rw[hH,Nc,Nc,af,af];have:=l6 (nl P) (List.range q) q (by simp) (fun x hx=>List.mem_range.2 (hA x hx));rw[HE]at this;have h2:q*m<=6*32767:=Nat.mul_le_mul h5.2 hr.2;omega
 have pk:((T.map nl).flatMap bc).length<=11000*T.length:=mQ T fun t ht=>kW (H3 t ht);have HB:aw w B m (nl P):=fg hP fun x hx=>(H2 x hx).1;have pj:∀a,B=some a->a.block<w.heap.size:=fun a ha=>by obtain⟨b,off,he,hc⟩:=HB.2 hr.1;rw[he]at ha;cases ha;exact Nr w _ (hc 0 hr.1)
 have H4:Below w.heap.size w (w.alloc (.cells #[.slice A q c,.slice B m d] 90)):=(Nj _ _).alloc (ah _) _;have HC:=aj w 90 #[.slice A q c,.slice B m d];obtain⟨w1,hO⟩:∃w1,w1=w.alloc (.cells #[.slice A q c,.slice B m d] 90):=⟨_,rfl⟩;have qa:w1.heap.size=w.heap.size+1:=by rw[hO];simp
 rw[<- hO]at H4 HC;have H5:Below w1.heap.size w1 (w1.alloc (.cells #[.string ⟨#[]⟩,.int .i64 0] 43)):=(Nj _ _).alloc (ah _) _;have q2:=aO H5 HC;have HF:=aj w1 43 #[.string ⟨#[]⟩,.int .i64 0];rw[qa]at HF;have h9:=ap H4 H5;have HM:=aa (du _ _ T P (h.below h9));rw[No hM]at HM;have HT:=aa fun(w1:World) (hb:Below w.heap.size w w1)=>hT.below hb;have HQ:=aa fun(w1:World) (hb:Below w.heap.size w w1)=>bN HB hb;have HV:=aa pj;have HW:=aa hA;have ql:=aa pf;have qm:=aa pg;have HP:=aa hH;have qs:=aa pk;have qq:=aa H3;have hz:=aa hL;have hw:=aa q2;have HZ:=aa HF;have HL:=aa h9;have p6:=aa hO.symm;have HX:Hid (∀ w' X,X=H++(T.map nl).flatMap bc->Below w.heap.size w w'->aZ w (H++(T.map nl).flatMap bc,0) (.returned (.tuple #[.agg #[.string ⟨(aF X).toArray⟩,.int .i64 X.length],.int .i64 0])) w'):=aa fun w' X hX hb=>by rw[hX];exact⟨rfl,hb⟩
 generalize aZ w (H++(T.map nl).flatMap bc,0)=PO at*;clear h hM H4 HC H5 q2 HF h9 qa hO hT hP q4 H2 H3 hH HE hA ho pf pg pk HB pj hL;go_enter func51,ntmps51;go_upto_region 1 with fail;rw[p6.out];generalize w1.alloc (.cells #[.string ⟨#[]⟩,.int .i64 0] 43)=w2 at*;clear p6;have p0:w2.cell? ⟨w.heap.size,0,none⟩=some (.slice A q c):=(ac hw.out 0).trans rfl;have p1:w2.cell? ⟨w.heap.size,1,none⟩=some (.slice B m d):=(ac hw.out 1).trans rfl;go_wp2_with fail;refine HM.out.mono ?_;rintro e w3 ⟨rfl,hD⟩;have hV:=aa (aO hD hw.out);have hY:=aa (aO hD HZ.out);have hv:=aa (ap HL.out hD);clear hD HZ hw HL HM p0 p1;go_wp2_with fail;refine(C7 w3).mono ?_;rintro e w4 ⟨rfl,HI⟩;have pl:IsW w3.heap.size w4 w3.heap.size (.slice none 0 0) []:=by rw[HI];exact lB w3 w3.heap.size (ah _)
 have hE:Below w3.heap.size w3 w4:=bQ HI;have hJ:=aO hE hV.out;have q7:=aO hE hY.out;have hg:=ap hv.out hE;have p0:w4.cell? ⟨w.heap.size,0,none⟩=some (.slice A q c):=(ac hJ 0).trans rfl;have p1:w4.cell? ⟨w.heap.size,1,none⟩=some (.slice B m d):=(ac hJ 1).trans rfl;have H1:=vi w3.heap.size w4 w3.heap.size _ [] pl (by simp) A q c B m d (nl P) (HQ.out w4 hg) (fun a ha=>OM (HV.out a ha) hv.out.size) h5.1 h5.2 hr.1 hr.2 HW.out;rw[NX,<-HP.out]at H1;have HY:=aa H1;have HR:=aa hJ;have p2:=aa q7;have HN:=aa hg;have HD:w.heap.size<w3.heap.size:=az hV.out;have hp:w.heap.size+1<w3.heap.size:=az hY.out;have HG:w.heap.size<=w3.heap.size:=hv.out.size;clear HI pl hE hJ q7 hg H1 hV hY hv HV HW HP;generalize w3.heap.size=p at*;go_wp2_with fail;refine HY.out.mono ?_;rintro e w5 ⟨rfl,⟨v5,hC⟩,hB⟩;have q3:=(hB.below.block w.heap.size HD).trans HR.out;have q8:=(hB.below.block (w.heap.size+1) hp).trans p2.out;have hh:=HN.out.trans (hB.below.mono HG);have p0:w5.cell? ⟨w.heap.size,0,none⟩=some (.slice A q c):=(ac (show Blk w5 w.heap.size _ _ from q3) 0).trans rfl;have p5:=aa (im p w5 p v5 H hC);have HS:=aa (jM w5 p (H.length:Nat) (by have:=ac hC.blk 0;simpa using this) (by have:=ac hC.blk 2;simpa using this));have hZ:Hid (Blk w5 (w.heap.size+1) 43 #[.string ⟨#[]⟩,.int .i64 0]):=aa q8;have hQ:=aa hh;have p3:=aa (HT.out w5 hh);clear hC hB q3 q8 hh HY HR p2 HN HT HQ p1;go_wp2_with fail;refine p5.out.mono ?_;rintro e w5 ⟨rfl,rfl⟩;go_wp2_with fail;refine HS.out.mono ?_;rintro e w5 ⟨rfl,rfl⟩;clear p5 HS;have hl:=aa (Ey w5 w5.heap.size (ah _) H ql.out);have hR:Hid (Below w5.heap.size w5 (w5.alloc (.cells #[.string ⟨(aF H).toArray⟩,.int .i64 H.length] 43))):=aa ((Nj _ _).alloc (ah _) _);have p0':(w5.alloc (.cells #[.string ⟨(aF H).toArray⟩,.int .i64 H.length] 43)).cell? ⟨w.heap.size,0,none⟩=some (.slice A q c):=(hR.out.cell (p:=⟨w.heap.size,0,none⟩) (Nr w5 _ p0)).trans p0;obtain⟨tb,tq,rfl,q9⟩:=p3.out.2 (by omega);have p4:=aa q9;have qv:w.heap.size+1<w5.heap.size:=az hZ.out;clear q9 p3;go_upto_region 6 with fail;generalize w5.alloc (.cells #[.string ⟨(aF H).toArray⟩,.int .i64 H.length] 43)=w6 at*;go_wp2_with fail;go_loopw [5,7,8,9,27] (fun pv s7 s8 s9 iv' wx=>∃(i:Nat) (A9:Option Addr) (c9:Nat),i<=q/\iv'=.int .i64 i/\pv=.slice A9 (i+1) c9/\Pcs wx w5.heap.size (.slice A9 (i+1) c9) (H::((T.map nl).map bc).take i)/\Below w5.heap.size w5 wx) (fun _ _ _ _ iv' _=>q-(intOf iv').toNat)
 case atStart=>refine⟨0,_,_,Nh _,rfl,rfl,?_,hR.out⟩;rw[Qq];exact hl.out
 case round=>
  clear hl hR p0 p0';rename World=>wx;obtain⟨i,A9,c9,hi,rfl,rfl,hs,hk⟩:=hrel;by_cases e:i<q
  ·have r0:(0:Int)<=(i:Int):=(by omega);have r1:(i:Int)<(q:Int):=(by omega);obtain⟨A2,c2,h1,h2,_,h4⟩:=p4.out i e;have HA:i<T.length:=(by rw[hz.out];exact e);have c1:wx.cell? ⟨tb,tq+i,none⟩=some (.slice A2 (T.getD i []).length c2):=(hk.cell (p:=⟨tb,tq+i,none⟩) (Nr w5 _ h1)).trans h1;have hN:=S10.p9 wx A2 (T.getD i []).length c2 (T.getD i []) (h2.below hk) h4;have ps:DOk (T.getD i []):=kW (qq.out _ (ns T i HA));rw[show j8 (T.getD i [])=(bc (nl (T.getD i [])),0)from Ng ps]at hN;obtain⟨X,hX⟩:∃X,X=bc (nl (T.getD i [])):=⟨_,rfl⟩;rw[<- hX]at hN;have pn:am X:=(by rw[hX];exact vQ _);have h8:H::((T.map nl).map bc).take (i+1)=(H::((T.map nl).map bc).take i)++ [X]:=(by rw[NI (by simp;exact HA),RG,RG,hX,Nb,Nd HA];rfl);have HU:=aa h8;have pb:=aa pn;have H0:=aa hN;have hl:=aa hs;have h7:=aa hk;obtain⟨tl,htl⟩:∃tl,tl=(T.getD i []).length:=⟨_,rfl⟩;rw[<- htl]at c1 H0;have HH:tl<=maxLen:=(by rw[htl];exact h4);unfold maxLen at HH;clear h1 h2 h4 hN ps hX pn h8 hs hk htl;go_wp2_with fail;refine H0.out.mono ?_;rintro e w7 ⟨rfl,hF⟩;have hG:Below w7.heap.size w7 (w7.alloc (.cells #[.string ⟨(aF X).toArray⟩,.int .i64 X.length] 43)):=(Nj _ _).alloc (ah _) _;have hK:=aj w7 43 #[.string ⟨(aF X).toArray⟩,.int .i64 X.length];obtain⟨w8,HK⟩:∃w8,w8=w7.alloc (.cells #[.string ⟨(aF X).toArray⟩,.int .i64 X.length] 43):=⟨_,rfl⟩;rw[<- HK]at hG hK;have hu:=(hl.out.below hF).below hG;have hf:=(ap h7.out hF).trans (hG.mono (NH h7.out.size hF.size));obtain⟨v9,w9,h6,h0,hj⟩:=uu w8 w5.heap.size (.slice A9 (i+1) c9) _ X hu hf.size (by simp;omega) pb.out;rw[<- HU.out]at h0;have q5:(H::((T.map nl).map bc).take (i+1)).length=i+1+1:=(by simp;omega);obtain⟨A3,c3,rfl,_,_,_⟩:=ak h0.own;rw[q5]at h0 h6;have x0:=(ac hK 0).trans (rfl:_=some (Value.string ⟨(aF X).toArray⟩));have x1:=(ac hK 1).trans (rfl:_=some (Value.int .i64 X.length));have qo:=aa h6;have hW:=aa h0;have qb:=aa (hf.trans hj);have p7:=aa HK.symm;clear hF hG hK HK hu hf h6 h0 hj q5 H0 hl h7 HU pb;go_upto_region 10 with fail;rw[p7.out];clear p7;generalize w7.heap.size=g8 at*;(go_wp2_with (at_builtin;refine Lib.wpList_append_run _ rfl (.tmp 36) (.tmp 38) 45 45 rfl (.slice A9 (i+1) c9) (.slice (some ⟨w8.heap.size,0,none⟩) 1 1) rfl rfl _ w9 qo.out ?_));go_roundw;case rel=>exact⟨i+1,A3,c3,by omega,by go_num,rfl,hW.out,qb.out⟩
   case measure=>simp[intOf];omega
  ·obtain rfl:i=q:=(by omega);have hn:(H::((T.map nl).map bc).take i)=H::(T.map nl).map bc:=(by rw[Nt (by have:=hz.out;simp;omega)]);rw[hn]at hs;have hI:(H::(T.map nl).map bc).flatten=H++(T.map nl).flatMap bc:=(by rw[QT,List.flatMap_def]);have H8:(H::(T.map nl).map bc).flatten.length<=1000000:=(by rw[hI,Nc];have h1:=qm.out;have h2:=qs.out;have h3:=hz.out;have h4:11000*T.length<=11000*6:=Q9 _ (by omega);omega);have HJ:=aa (ph wx w5.heap.size (.slice A9 (i+1) c9) _ hs (by simp;have:=hz.out;omega) (by omega));obtain⟨X,hX⟩:∃X,X=(H::(T.map nl).map bc).flatten:=⟨_,rfl⟩;rw[<- hX]at HJ hI;have HO:=aa hI;have h7:=aa hk;clear hs hk hn hI H8 hX;go_wp2_with fail;refine HJ.out.mono ?_;rintro e w9 ⟨rfl,hj⟩;have h6:=(an hj).blk ((h7.out.block (w.heap.size+1) qv).trans hZ.out) ar ar;have q0:=(ac h6 0).trans (rfl:_=some (Value.string ⟨#[]⟩));have q1:=(ac h6 1).trans (rfl:_=some (Value.int .i64 0));have f0:=ae h6 0;have f1:=ae h6 1;have po:=(ap hQ.out h7.out).trans (hj.mono (NH hQ.out.size h7.out.size));have hS:=aa (HX.out _ X HO.out ((po.setCell (p:=⟨w.heap.size+1,0,none⟩) (Pq _) (.string ⟨(aF X).toArray⟩)).setCell (p:=⟨w.heap.size+1,1,none⟩) (Pq _) (.int .i64 X.length)));clear h6 hj po HJ HO h7 HX hZ hQ p4;go_wp2_with fail;refine ND (v:=.tuple #[.agg #[.string ⟨(aF X).toArray⟩,.int .i64 X.length],.int .i64 0]) ?_ rfl hS.out;simp[results,results51,go_sem,q0,q1]
theorem tc(w:World)(v:Value)(T:List (List Int))(P:List Int)(h:aQ w v T P):
 Calls prog 51 #[v] w (aZ w (fC T P)):=by
 by_cases hM:aP T P;·exact Ce w v T P h hM
 ·exact Cd w v T P h hM
theorem FE(w:World)(v:Value)(T:List (List Int))(P:List Int)(h:aQ w v T P)(A':Option Addr)(n' c':Nat)(L:List Int)(hL:ZIn w A' n' L)(hu:n'<=c')(hq:n'<=2000000):
 Calls prog 100 #[v,.slice A' n' c'] w fun e w'=>e=.returned (.tuple #[.int .i64 (fK T P L).1,.int .i64 (fK T P L).2])/\Below w.heap.size w w':=by
 obtain⟨A,n,c,B,m,d,rfl,hl⟩:∃A n c B m d,v=.agg #[.slice A n c,.slice B m d]/\aQ w (.agg #[.slice A n c,.slice B m d]) T P:=by obtain⟨A,n,c,B,m,d,hv,hr⟩:=id h;exact⟨A,n,c,B,m,d,hv,by rw[<- hv];exact h⟩
 clear h;obtain⟨w1,hj⟩:∃w1,w1=w.alloc (.cells #[.slice A n c,.slice B m d] 90):=⟨_,rfl⟩;have hi:Blk w1 w.heap.size 90 #[.slice A n c,.slice B m d]:=eJ hj;have ha:Below w.heap.size w w1:=bQ hj;have hs:w.heap.size<w1.heap.size:=az hi;have HQ:Hid (∀ wx,Below w1.heap.size w1 wx->wx.cell? ⟨w.heap.size,0,none⟩=some (.slice A n c)/\wx.cell? ⟨w.heap.size,1,none⟩=some (.slice B m d)):=aa fun wx h=>⟨(h.cell (p:=⟨w.heap.size,0,none⟩) hs).trans ((ac hi 0).trans rfl),(h.cell (p:=⟨w.heap.size,1,none⟩) hs).trans ((ac hi 1).trans rfl)⟩;have hg:=aa (zE w1 _ T P (hl.below ha) A' n' c' L (hL.below ha) hu hq);have hk:=aa fun(wx:World) (hb:Below w1.heap.size w1 wx)=>tc wx _ T P ((hl.below ha).below hb);have h5:=iU T P L (by rw[hL.1];exact hq);have h2:=jW T P;have hf:=zx T P L;have h1:fK T P L=if(bX T P L).2=0 then((fC T P).1.length+(bX T P L).1.length,0)else(0,(bX T P L).2):=rfl
 have h8:=aa ha;have hh:=aa hj;obtain⟨p0,p1⟩:=HQ.out _ (Nj _ _);generalize fK T P L=ans at*;generalize bX T P L=cs at*;generalize fC T P=bs at*;obtain⟨cl,ck⟩:=cs;obtain⟨bl,bk⟩:=bs;dsimp only at h5 h2 hf h1;clear hl hL hi ha hj;by_cases h0:ck=0;·subst h0;rw[Ng rfl]at h1;have h3:=aa h1;clear h1;go_enter func100,ntmps100;go_upto_region 1 with fail;rw[<- hh.out];clear hh;go_wp2_with fail;refine hg.out.mono ?_;rintro e w3 ⟨rfl,h7⟩;(try dsimp only);have hc:Below w3.heap.size w3 (w3.alloc (.cells #[.string ⟨(aF cl).toArray⟩,.int .i64 (cl.length:Nat)] 43)):=(Nj _ _).alloc (ah _) _;have hm:=aa (aj w3 43 #[.string ⟨(aF cl).toArray⟩,.int .i64 (cl.length:Nat)]);have h6:=aa (ap h7 hc);clear h7 hc hg p0 p1;go_upto_region 2 with fail;generalize w3.alloc (.cells #[.string ⟨(aF cl).toArray⟩,.int .i64 (cl.length:Nat)] 43)=w4 at*;generalize w3.heap.size=g6 at*;obtain⟨p0,p1⟩:=HQ.out _ h6.out;have h9:=aa (hk.out _ h6.out);go_wp2_with fail;refine h9.out.mono ?_;rintro e w5 ⟨rfl,hn⟩;(try dsimp only);have he:Below w5.heap.size w5 (w5.alloc (.cells #[.string ⟨(aF bl).toArray⟩,.int .i64 (bl.length:Nat)] 43)):=(Nj _ _).alloc (ah _) _;have h4:=ap hn he;have ho:=aO h4 hm.out;have hp:=aj w5 43 #[.string ⟨(aF bl).toArray⟩,.int .i64 (bl.length:Nat)];have x1:=(ac ho 1).trans (rfl:_=some (Value.int .i64 (cl.length:Nat)));have y1:=(ac hp 1).trans (rfl:_=some (Value.int .i64 (bl.length:Nat)));have ht:=aa (h8.out.trans ((ap h6.out h4).mono h8.out.size));clear hn he h4 ho hp h9 hm h6 p0 p1 hk HQ;go_upto_region 5 with fail;generalize w5.alloc (.cells #[.string ⟨(aF bl).toArray⟩,.int .i64 (bl.length:Nat)] 43)=w6 at*;generalize w5.heap.size=g8 at*;generalize bl.length=K at*;generalize cl.length=M at*;go_wp2_with fail;go_ret2;exact⟨by rw[h3.out];rfl,ht.out⟩
 ·have d0:((ck:Int) != 0)=true:=(by rw[OP];omega);rw[Nf h0]at h1;have h3:=aa h1;clear h1 h0;go_enter func100,ntmps100;go_upto_region 1 with fail;rw[<- hh.out];clear hh;go_wp2_with fail;refine hg.out.mono ?_;rintro e w3 ⟨rfl,h7⟩;(try dsimp only);have h6:=aa (h8.out.trans ((h7.alloc h7.size (.cells #[.string ⟨(aF cl).toArray⟩,.int .i64 (cl.length:Nat)] 43)).mono h8.out.size));clear h7 hg p0 p1 hk HQ h8;go_upto_region 2 with fail;generalize w3.alloc (.cells #[.string ⟨(aF cl).toArray⟩,.int .i64 (cl.length:Nat)] 43)=w4 at*;go_wp2_with fail;go_ret2;exact⟨by rw[h3.out];rfl,h6.out⟩
structure gJ (w:World) (B g T n t:Nat) (G:Nat->Nat) (C:Nat->Nat->Nat):Prop where
 own:w.ownsRow B 57 1 (.slice (some ⟨g,0,none⟩) T T) T ((List.range T).map fun j=>if j<t then .slice (some ⟨G j,0,none⟩) n n else .slice none 0 0)
 rows:∀j,j<t->aA w B (G j) n n (C j)
 ne:∀i j,i<t->j<t->i≠j->G i≠G j
theorem Bn(w:World)(B T n:Nat)(hB:B<=w.heap.size)(hT:T<=1000)(G:Nat->Nat)(C:Nat->Nat->Nat):gJ (w.alloc (.cells (madeCells #[.slice none 0 0] T) 57)) B w.heap.size T n 0 G C:=by refine⟨?_,fun j hj=>absurd hj (Px _),fun i _ hi=>absurd hi (Px _)⟩;have h:=(Bo w B T hB hT).own;have e:(fun j:Nat=>if j<0 then(.slice (some ⟨G j,0,none⟩) n n:Value)else .slice none 0 0)=fun _=>.slice none 0 0:=(by funext j;rw[Nf (Px _)]);rw[e];exact h
section
variable {w w':World} {B g T n t:Nat} {G:Nat->Nat} {C:Nat->Nat->Nat}
theorem gJ.g_ne(h:gJ w B g T n t G C){j:Nat}(hj:j<t):G j≠g:=by intro e;obtain⟨c1,f1,e1⟩:=Lib.ownsRow_kind (h.rows j hj) (G j) rfl;obtain⟨c2,f2,e2⟩:=Lib.ownsRow_kind h.own g rfl;rw[e,e2]at e1;simp at e1
theorem gJ.cell(h:gJ w B g T n t G C)(j:Nat)(hj:j<t)(hT:j<T):w.cell? ⟨g,j,none⟩=some (.slice (some ⟨G j,0,none⟩) n n):=by rw[OR h.own j (by omega),Np,NN hT];show some (if j<t then _ else _)=_;rw[Ng hj]
theorem gJ.frozen(h:gJ w B g T n t G C)(j:Nat):w.frozen? ⟨g,j,none⟩=false:=Rq h.own j
theorem gJ.lt(h:gJ w B g T n t G C):B<=g/\g<w.heap.size:=OD h.own g rfl
theorem gJ.step{B':Nat}(h:gJ w B g T n t G C)(hs:al B' [] [] w w'):gJ w' B g T n t G C:=
 ⟨hs.row h.own (fun _ _=>ar) ar,fun j hj=>hs.row (h.rows j hj) (fun _ _=>ar) ar,h.ne⟩
theorem gJ.same(h:gJ w B g T n t G C){D:Nat->Nat->Nat}(hd:∀j,j<t->C j=D j):gJ w B g T n t G D:=
 ⟨h.own,fun j hj=>by rw[<- hd j hj];exact h.rows j hj,h.ne⟩
theorem gJ.push{B2 gN:Nat}{f:Nat->Nat}(h:gJ w B g T n t G C)(hb:Below w.heap.size w w')(h4:B<=B2)(hf:aA w' B2 gN n n f)(hg:w.heap.size<=gN):
 gJ (w'.setCell ⟨g,t,none⟩ (.slice (some ⟨gN,0,none⟩) n n)) B g T n (t+1) (fun j=>if j=t then gN else G j) (fun j=>if j=t then f else C j):=by
 have h2:=h.step (an hb);have h5:=h.lt;have h3:=QY h2.own t (.slice (some ⟨gN,0,none⟩) n n);have h0:((List.range T).map fun j=>if j<t then(.slice (some ⟨G j,0,none⟩) n n:Value)else .slice none 0 0).set t (.slice (some ⟨gN,0,none⟩) n n)=(List.range T).map fun j=>if j<t+1 then(.slice (some ⟨if j=t then gN else G j,0,none⟩) n n)else .slice none 0 0:=by
  apply Oa;intro j;rw[Ru];by_cases e:t=j
  ·subst e;by_cases hj:t<T;·simp[hj]
   ·simp[hj]
  ·have e':¬j=t:=fun k=>e k.symm;rw[Nf e,Np,Np];by_cases hj:j<T
   ·rw[NN hj];by_cases e3:j<t;·have:j<t+1:=(by omega);simp[e',e3,this]
    ·have:¬j<t+1:=(by omega);simp[e3,this]
   ·rw[Ny (by rw[NK];omega)];rfl
 rw[h0]at h3;have h1:∀(B3 k:Nat) (f3:Nat->Nat),aA w' B3 k n n f3->g≠k:=by intro B3 k f3 hk e;obtain⟨c1,f1,e1⟩:=Lib.ownsRow_kind hk k rfl;obtain⟨c2,f2,e2⟩:=Lib.ownsRow_kind h2.own g rfl;rw[<- e,e2]at e1;simp at e1
 refine⟨h3.1,fun j hj=> ?_,fun i j hi hj hij=> ?_⟩
 ·by_cases e:j=t;·simp only[Ng e];exact aA.other (World.ownsRow.mono hf h4) (h1 _ _ _ hf) t _
  ·simp only[Nf e];have hr:=h2.rows j (by omega);exact aA.other hr (h1 _ _ _ hr) t _
 ·by_cases e:i=t;·rw[Ng e,Nf (by omega)];have:=(h.rows j (by omega)).lt;omega
  ·rw[Nf e];by_cases e2:j=t;·rw[Ng e2];have:=(h.rows i (by omega)).lt;omega
   ·rw[Nf e2];exact h.ne i j (by omega) (by omega) hij
theorem gJ.upd{B' j:Nat}{f:Nat->Nat}(h:gJ w B g T n t G C)(hj:j<t)(hf:aA w' B (G j) n n f)(hs:al B' [G j] [] w w'):gJ w' B g T n t G (fun i=>if i=j then f else C i):=by
 refine⟨hs.row h.own (fun k hk=> ?_) ar,fun i hi=> ?_,h.ne⟩;·simp[Value.ownBlock]at hk;rw[Ok,<-hk];exact fun e=>h.g_ne hj e.symm
 ·by_cases e:i=j;·simp only[Ng e];rw[e];exact hf
  ·simp only[Nf e];refine hs.row (h.rows i hi) (fun k hk=> ?_) ar;simp[Value.ownBlock]at hk;rw[Ok,<-hk];exact h.ne i j hi hj e
theorem gJ.tabW(h:gJ w B g T n T G C):dp w B g T fun j=>(List.range n).map (C j):=by
 refine⟨_,h.own,fun j hj=>⟨some ⟨G j,0,none⟩,n,?_,by rw[NC,NK];exact Nm _,?_⟩⟩;·rw[Ng hj,NC,NK]
 ·rw[Ng hj,NC,NK];have:=h.rows j hj;unfold aA cH at this;rw[Ov];exact this
end
theorem xA(n:Nat)(h:n<=1000):bits BinOp.and IntKind.u64 (n:Int) 4294967295=(n:Int):=by have e:=u64_and_nat n 4294967295 (by omega) (by omega);rw[show ((4294967295:Nat):Int)=4294967295 from rfl]at e;rw[e,show(4294967295:Nat)=2^32-1 by rfl,Nat.and_two_pow_sub_one_eq_mod,NJ (by omega)]
theorem Ck(w:World)(n:Nat)(hn:n<=1000):
 Calls prog 266 #[.int .u64 1,.int .u64 n] w fun e w'=>e=.returned (.tuple #[.int .u64 0,.int .u64 n])/\w'=w:=by have h1:bits BinOp.and IntKind.u64 1 4294967295=1:=xA 1 (by omega);have h0:bits BinOp.and IntKind.u64 0 4294967295=0:=xA 0 (by omega);have h2:=xA n hn;have h3:(n:Int)/4294967296=0:=(by omega);have h5:(1:Int)*(n:Int)=(n:Int):=(by omega);have h6:(0:Int)*(n:Int)=0:=(by omega);go_enter func266,ntmps266;go_wp2_with fail;go_ret2;exact⟨rfl,rfl⟩
theorem IU(w:World)(n:Nat)(hn:n<=1000):
 Calls prog 233 #[.int .u64 1,.int .u64 n] w fun e w'=>e=.returned (.tuple #[.int .u64 0,.int .u64 n])/\w'=w:=by have HM:=aa (Ck w n hn);go_enter func233,ntmps233;go_wp2_with fail;refine HM.out.mono ?_;rintro e w1 ⟨rfl,rfl⟩;go_wp2_with fail;go_ret2;exact⟨rfl,rfl⟩
theorem IY(w:World)(B g n k m:Nat)(f:Nat->Nat)(hf:aA w B g n n f)(hk:k<n)(_:1<=k)(hm:m=min (n-k) k)(ty:TypeId):
 (Builtin.copy_ #[57,57] ty #[.slice (some ⟨g,k,none⟩) (n-k) (n-k),.slice (some ⟨g,0,none⟩) k n]).run prog w=.ok (goInt m) (w.setCells g k (cH m f)):=by
 obtain⟨i5,h5,h2,h1,h3⟩:=NY Tryz.info3;have h0:(cH m f).length=m:=eB m f;have hi:(prog.info? 3).map (·.size)=some 1:=by rw[h5];exact congrArg some h1
 have:=Sf (P:=prog) w 57 57 ty 3 g k (n-k) (n-k) ⟨g,0,none⟩ k n (cH m f) underlying57 hi (by rw[h0,hm,Nat.min_comm])
  (fun j v hv=>by
    have hj:j<m:=by have:=(List.getElem?_eq_some_iff.1 hv).1;omega
    rw[qf,N8,hf.cell j (by omega),<-hv,lc m f j hj]
    rfl)
  (fun j hj=>by
    rw[h0]at hj
    rw[hf.cell (k+j) (by omega)]
    rfl) (fun j hj=>hf.frozen (k+j)) (fun v hv=>by
    unfold cH at hv
    obtain⟨x,_,rfl⟩:=List.mem_map.1 hv
    rfl)
 rw[h0]at this;exact this
def BI(w:World)(n:Nat)(f:Nat->Nat)(e:Ending)(w':World):Prop:=
 ∃g,e=.returned (.slice (some ⟨g,0,none⟩) n n)/\w.heap.size<=g/\aA w' w.heap.size g n n f/\Below w.heap.size w w'
theorem zJ(w:World)(A:Option Addr)(c x n:Nat)(hA:aw w A 1 [x])(h1:1<=n)(hn:n<=1000):
 Calls prog 196 #[.slice A 1 c,.int .i64 n] w (BI w n fun _=>x):=by
 have HM:=aa (IU w n hn);have hH:=bK w n (by omega);have h6:=bz w w.heap.size n (ah _) (by omega);have hl:Below w.heap.size w (w.alloc (.cells (madeCells #[.int .i64 0] n) 3)):=(Nj w.heap.size w).alloc (ah _) _;have hw:=bN hA hl;obtain⟨b,off,rfl,hc⟩:=hw.2 (by omega);have h4:=hc 0 (by omega);rw[Og]at h4;have hC:([x]:List Nat).getD 0 0=x:=rfl;rw[hC]at h4;have h9:∀ty,(Builtin.copy_ #[57,57] ty #[.slice (some ⟨w.heap.size,0,none⟩) n n,.slice (some ⟨b,off,none⟩) 1 c]).run prog (w.alloc (.cells (madeCells #[.int .i64 0] n) 3))=.ok (goInt 1) ((w.alloc (.cells (madeCells #[.int .i64 0] n) 3)).setCells w.heap.size 0 [iv x]):=by
  intro ty;obtain⟨i5,h5,hN,hI,hO⟩:=NY Tryz.info3;have hi:(prog.info? 3).map (·.size)=some 1:=by rw[h5];exact congrArg some hI
  exact Sf (P:=prog) _ 57 57 ty 3 w.heap.size 0 n n ⟨b,off,none⟩ 1 c [iv x] underlying57 hi (by show 1=min 1 n;omega)
   (fun j v hv=>by
     have hj:j<1:=by have:=(List.getElem?_eq_some_iff.1 hv).1;simpa using this
     obtain rfl:j=0:=by omega
     rw[qf,Og,h4,<-hv]
     rfl)
   (fun j hj=>by
     rw[show j=0 by simpa using hj,h6.cell (0+0) (by omega)]
     rfl) (fun j _=>h6.frozen (0+j)) (fun v hv=>by
     rw[List.mem_singleton.1 hv]
     rfl)
 have h7:=it [x] 0 _ _ h6;have e1:(fun j=>if 0<=j/\j<0+ [x].length then([x]:List Nat).getD (j-0) 0 else 0)=fun j=>if j<1 then x else 0:=by
  funext j;by_cases e:j<1;·rw[Ng (by simp;omega),Ng e,show j=0 by omega];rfl
  ·rw[Nf (by simp;omega),Nf e]
 rw[e1]at h7;have hx:Below w.heap.size w ((w.alloc (.cells (madeCells #[.int .i64 0] n) 3)).setCells w.heap.size 0 ([x].map iv)):=ln (ah _) _ _ _ hl;have hu:=aa h7;have hs:=aa hx;have ht:=aa h9;have HP:Hid (∀ g w',w.heap.size<=g->aA w' w.heap.size g n n (fun _=>x)->Below w.heap.size w w'->BI w n (fun _=>x) (.returned (.slice (some ⟨g,0,none⟩) n n)) w'):=aa fun g w' h0 h2 h3=>⟨g,rfl,h0,h2,h3⟩;have d0:decide ((n:Int)<0)=false:=aD (by omega);have d1:decide ((9223372036854775807:Int)<(n:Int))=false:=aD (by omega);generalize BI w n (fun _=>x)=PO at*;clear hA hw hc h4 hC h6 hl h9 h7 e1 hx;go_enter func196,ntmps196;go_wp2_with fail;refine HM.out.mono ?_;rintro e w1 ⟨rfl,rfl⟩;go_upto_region 7 with fail;go_wp2_with (refine wm rfl _ _ 57 57 rfl _ _ 1 rfl rfl (ht.out _) ?_)
 clear hH HM;generalize w1.heap.size=g at*;have hh:=hu.out;have hg:=hs.out;rw[show ([x]:List Nat).map iv= [iv x]from rfl]at hh hg;clear hu hs ht;go_wp2_with fail;go_loopw [8] (fun kv wx=>∃k:Nat,1<=k/\k<=n/\kv=.int .i64 k/\aA wx g g n n (fun j=>if j<k then x else 0)/\Below g w1 wx) (fun kv _=>n-(intOf kv).toNat)
 case atStart=>exact⟨1,Nm _,h1,rfl,hh,hg⟩
 case round=>
  clear hh hg;rename World=>w2;obtain⟨k,hF,hk,rfl,hf,hb⟩:=hrel;by_cases e:k<n
  ·obtain⟨m,hm⟩:∃m,m=min (n-k) k:=⟨_,rfl⟩;have h8:=fun ty=>IY w2.drew g g n k m _ (hf.drew 1) e hF hm ty;have hz:cH m (fun j=>if j<k then x else 0)=(List.replicate m x).map iv:=(by rw[b9 m _ (fun _=>x) fun j hj=>Ng (by omega)];unfold cH;rw[PW,QL,NK]);rw[hz]at h8;have ha:=it (List.replicate m x) k _ _ (hf.drew 1);have ho:Below g w1 (w2.drew.setCells g k ((List.replicate m x).map iv)):=ln (ah _) _ _ _ hb.drew;have efn:(fun j=>if k<=j/\j<k+(List.replicate m x).length then(List.replicate m x).getD (j-k) 0 else if j<k then x else 0)=fun j=>if j<k+m then x else 0:=by
    funext j;rw[NE];by_cases e1:j<k;·rw[Nf (by omega),Ng e1,Ng (by omega)]
    ·by_cases e2:j<k+m;·rw[Ng (by omega),Ng e2,Nb,Pm,Ng (by omega)];rfl
     ·rw[Nf (by omega),Nf e1,Nf e2]
   rw[efn]at ha;obtain⟨km,hB⟩:∃km,km=k+m:=⟨_,rfl⟩;rw[<- hB]at ha;have hL:(k:Int)+(m:Int)=(km:Int):=(by omega);have hp:km<=n:=(by omega);have hG:k<km:=(by omega);have hJ:(0:Int)<=(k:Int):=(by omega);have hK:(k:Int)<=(n:Int):=(by omega);have hM:¬n=k:=(by omega);obtain⟨w3,hq⟩:∃w3,w3=w2.drew.setCells g k ((List.replicate m x).map iv):=⟨_,rfl⟩;rw[<- hq]at h8 ho;have hy:aA w3 g g n n (fun j=>if j<km then x else 0):=(by rw[hq];exact ha);have he:=aa h8;have hE:=aa hy;have hD:=aa ho;clear h8 hz ha ho efn hf hb hB hm hq hy;go_upto_region 9 with fail;have hr:(Builtin.copy_ #[57,57] 3 #[.slice (some ⟨g,k,none⟩) (n-k) (n-k),.slice (some ⟨g,0,none⟩) k n]).run prog w2.drew=.ok (.int .i64 m) w3:=he.out _;go_region;go_wp2_with fail;go_roundw;case rel=>exact⟨km,by omega,hp,by go_num,hE.out,hD.out⟩
   case measure=>simp[intOf];omega
  ·obtain rfl:k=n:=(by omega);have h3:w2.ownsRow g 3 1 (.slice (some ⟨g,0,none⟩) k k) k (cH k fun j=>if j<k then x else 0):=hf;rw[b9 k _ (fun _=>x) fun j hj=>Ng hj]at h3;have HE:=aa (HP.out g w2 (ah _) h3 hb);clear hf hb h3;go_wp2_with fail;exact HE.out
def jH(n T s t x:Nat):Nat:=if x<s then qH n T t x else 15
theorem B9(w:World)(T n:Nat)(hC:1<=T)(hy:T<=6)(hG:3<=n)(hn:n<=258):
 Calls prog 147 #[.int .i64 T,.int .i64 n] w fun e w'=>e=.returned (.slice (some ⟨w.heap.size,0,none⟩) T T)/\dp w' w.heap.size w.heap.size T (fun t=>(List.range n).map (qH n T t))/\Below w.heap.size w w':=by
 have hA:=ud w T (by omega);have hh:=aa (Bn w w.heap.size T n (ah _) (by omega) (fun _=>0) (fun _ _=>15));have he:Hid (Below w.heap.size w (w.alloc (.cells (madeCells #[.slice none 0 0] T) 57))):=aa ((Nj _ _).alloc (ah _) _);go_enter func147,ntmps147;go_wp2_with fail;clear hA;go_loopw [6,12] (fun s6 tv wx=>∃(t:Nat) (G:Nat->Nat),t<=T/\tv=.int .i64 t/\gJ wx w.heap.size w.heap.size T n t G (fun _ _=>15)/\Below w.heap.size w wx) (fun _ tv _=>T-(intOf tv).toNat)
 case atStart=>exact⟨0,fun _=>0,Nh _,rfl,hh.out,he.out⟩
 case round=>
  clear hh he;rename World=>w1;obtain⟨t,G,ht,rfl,hD,hb⟩:=hrel;by_cases e:t<T
  ·have hN:(0:Int)<=(t:Int):=(by omega);have hO:(t:Int)<(T:Int):=(by omega);have hr:=hD.lt;have hk:Below w1.heap.size w1 (w1.alloc (.cells #[.int .i64 15] 3)):=(Nj _ _).alloc (ah _) _;have HR:=aa (zJ (w1.alloc (.cells #[.int .i64 15] 3)) (some ⟨w1.heap.size,0,none⟩) 1 15 n (JD w1 [15]) (by omega) (by omega));have HD:=aa hD;have HB:=aa hb;have hg:=aa hk;have hv:(w1.alloc (.cells #[.int .i64 15] 3)).heap.size=w1.heap.size+1:=(by simp);have hi:=aa hv;clear hD hb hk hv;go_wp2_with fail;refine HR.out.mono ?_;rintro e w3 ⟨gN,rfl,hz,hf,hl⟩;have h3:=ap hg.out hl;have hp:=HD.out.push h3 (by rw[hi.out];omega) hf (by rw[hi.out]at hz;omega);have hE:w3.frozen? ⟨w.heap.size,t,none⟩=false:=(HD.out.step (an h3)).frozen t;have hm:∃v,w3.cell? ⟨w.heap.size,t,none⟩=some v:=(by have:=OR (HD.out.step (an h3)).own t (by omega);rw[Np,NN e]at this;exact⟨_,this⟩);obtain⟨v,hm⟩:=hm;have h4:=(ap HB.out h3).setCell (p:=⟨w.heap.size,t,none⟩) (ah _) (.slice (some ⟨gN,0,none⟩) n n)
   have HP:=aa (hp.same (D:=fun _ _=>15) fun j _=>by
    by_cases ej:j=t
    ·rw[Ng ej]
    ·rw[Nf ej])
   have h9:=aa h4;clear hp h4 hf hl h3 HR HD HB hg;go_wp2_with fail;go_roundw;case rel=>exact⟨t+1,_,by omega,by go_num,HP.out,h9.out⟩
   case measure=>simp[intOf];omega
  ·obtain rfl:T=t:=(by omega);have HD:=aa hD;have HB:=aa hb;have hr:=hD.lt;clear hD hb;go_wp2_with fail;(go_loopw [7,23] (fun s7 sv wx=>∃(s:Nat),s<=n/\sv=.int .i64 s/\gJ wx w.heap.size w.heap.size T n T G (jH n T s)/\Below w.heap.size w wx) (fun _ sv _=>n-(intOf sv).toNat));case atStart=>refine⟨0,Nh _,rfl,HD.out.same fun j _=> ?_,HB.out⟩;funext x;unfold jH;rw[Nf (by omega)]
   case round=>
    clear HD HB hr;rename World=>w4;obtain⟨s,hs,rfl,hD,hb⟩:=hrel;by_cases e2:s<n
    ·obtain⟨p,hp⟩:∃p:Nat,p=s*T:=⟨_,rfl⟩;have hI:(s:Int)*(T:Int)=(p:Int):=(by rw[hp];simp);have hH:p<=258*6:=(by rw[hp];exact Nat.mul_le_mul (by omega) hy);obtain⟨q,hq⟩:∃q:Nat,q=p/n:=⟨_,rfl⟩;have ha:q<T:=(by rw[hq,hp];refine Nat.div_lt_of_lt_mul ?_;exact O3 e2 (by omega));have hK:(p:Int)/(n:Int)=(q:Int):=(by rw[hq];simp);have hF:¬(n:Int)=0:=(by omega);have hJ:(0:Int)<=(q:Int):=(by omega);have hB:(q:Int)<(T:Int):=(by omega);have hL:(0:Int)<=(s:Int):=(by omega);have hM:(s:Int)<(n:Int):=(by omega);have c1:=hD.cell q ha ha;have h0:=hD.rows q ha;have c2:=h0.cell s e2;have f2:=h0.frozen s;have h7:=h0.set s 1;have h8:=hD.upd ha h7 ((al.refl w.heap.size [G q] [] w4).set (p:=⟨G q,s,none⟩) h0.lt.1 (List.mem_singleton.2 rfl) _);have h4:=hb.setCell (p:=⟨G q,s,none⟩) h0.lt.1 (.int .i64 ((1:Nat):Int));have hc:s*T/n=q:=(by rw[<- hp,<-hq]);have h5:∀x,(if x=s then 1 else jH n T s q x)=jH n T (s+1) q x:=fun x=>by
      unfold jH qH;by_cases ex:x=s;·have h1:x<s+1:=(by omega);rw[Ng ex,Ng h1,ex,hc,Ng rfl]
      ·rw[Nf ex];by_cases ex2:x<s;·have h1:x<s+1:=(by omega);rw[Ng ex2,Ng h1]
       ·have h1:¬x<s+1:=(by omega);rw[Nf ex2,Nf h1]
     have h6:∀j x,j≠q->jH n T s j x=jH n T (s+1) j x:=fun j x ej=>by
      unfold jH qH;by_cases ex2:x<s;·have h1:x<s+1:=(by omega);rw[Ng ex2,Ng h1]
      ·rw[Nf ex2];by_cases ex:x=s;·have h1:x<s+1:=(by omega);have h2:¬q=j:=fun h=>ej h.symm;rw[Ng h1,ex,hc,Nf h2]
       ·have h1:¬x<s+1:=(by omega);rw[Nf h1]
     have HU:=aa (h8.same (D:=jH n T (s+1)) fun j hj=>by
      by_cases ej:j=q
      ·rw[Ng ej,ej]
       funext x
       exact h5 x
      ·rw[Nf ej]
       funext x
       exact h6 j x ej)
     have h9:=aa h4;obtain⟨gq,ho⟩:∃gq,gq=G q:=⟨_,rfl⟩;obtain⟨v2,hu⟩:∃v2:Nat,v2=jH n T s q s:=⟨_,rfl⟩;rw[<- ho]at c1 c2 f2 HU h9;rw[<- hu]at c2;clear hD hb h0 h7 h8 h4 hp hq ho hu hc h5 h6;go_wp2_with fail;go_roundw;case rel=>exact⟨s+1,by omega,by go_num,HU.out,h9.out⟩
     case measure=>simp[intOf];omega
    ·obtain rfl:n=s:=(by omega);have HE:=aa hD.tabW;have hw:=aa hb;clear hD hb;go_wp2_with fail;go_ret;refine⟨rfl,HE.out.same fun j _=> ?_,hw.out⟩;apply Oc;intro x hx;unfold jH;rw[Ng (List.mem_range.1 hx)]
abbrev Md (bT bG:Nat):Value:=.func (.func 267) #[] #[.pointer (some ⟨bT,0,none⟩),.pointer (some ⟨bG,0,none⟩)]
theorem vU(w:World)(bT bG g T n:Nat)(C:Nat->List Nat)(hc:Blk w bT 88 #[.slice (some ⟨g,0,none⟩) T T])(hT:sG w g T C)(hn:n<=258)(hC:∀t,t<T->(C t).length=n/\∀x∈C t,x<=1000)
 (A:Option Addr) (m c:Nat) (G:List Nat) (hb:Blk w bG 57 #[.slice A m c]) (hG:aw w A m G) (hm:m<=50) (ha:∀x∈G,x<n) (t:Nat) (ht:t<T):
 Calls prog 267 #[.int .i64 t,.pointer (some ⟨bT,0,none⟩),.pointer (some ⟨bG,0,none⟩)] w fun e w'=>e=.returned (.int .i64 (hU (C t) G:Nat))/\∃d,w'=w.drewN d:=by
 have hj:=hG.1;have p0:w.cell? ⟨bT,0,none⟩=some (.slice (some ⟨g,0,none⟩) T T):=(ac hc 0).trans rfl;have p1:w.cell? ⟨bG,0,none⟩=some (.slice A m c):=(ac hb 0).trans rfl;obtain⟨A1,k1,he,h5,hf⟩:=hT t ht;have h4:=hC t ht;have h6:(C t).length=n:=h4.1;have h7:=aa h4.2;rw[h6]at he h5 hf;have HY:=aa h5;have HG:=aa hG;have hl:=aa ha;have h3:=aa hj;have h9:=aa h6;have hz:(0:Int)<=(t:Int):=by omega
 have hA:(t:Int)<(T:Int):=by omega
 obtain⟨K,hK⟩:∃K,K=C t:=⟨_,rfl⟩;rw[<- hK]at h7 HY h9 |-;clear hT hC hc hb hG ha hj h6 h4 h5 hK;go_enter func267,ntmps267;go_upto_region 1 with fail;go_quiet (fail);go_wp2_with fail;have p1b:(w.drewN nq).cell? ⟨bG,0,none⟩=some (.slice A m c):=p1;go_loopw [5,8,15] (fun sv s8 iv' wx=>∃(i s:Nat),i<=m/\iv'=.int .i64 i/\sv=.int .i64 s/\Hid (s=hU K (G.take i))/\s<=1000*i/\∃d,wx=w.drewN d) (fun _ _ iv' _=>m-(intOf iv').toNat)
 case atStart=>exact⟨0,0,Nh _,rfl,rfl,rfl,Nh _,nq,rfl⟩
 case round=>
  rename World=>w2;obtain⟨i,s,hi,rfl,rfl,hs,hv,h0⟩:=hrel;have h8:=aa h0;by_cases e2:i<m
  ·have hr:(0:Int)<=(i:Int):=(by omega);have hu:(i:Int)<(m:Int):=(by omega);obtain⟨gb,go,rfl,hh⟩:=HG.out.2 (by omega);have hx:=hh i e2
   have hq:G.getD i 0<n:=hl.out _ (by
    rw[Nb,Nd (by rw[h3.out];exact e2)]
    exact NL _)
   have hk:hU K (G.take (i+1))=hU K (G.take i)+K.getD (G.getD i 0) 0:=(by rw[tH (by rw[h3.out];exact e2),Gd]);generalize G.getD i 0=x at*;obtain⟨cb,co,rfl,hg⟩:=HY.out.2 (by omega);have hy:=hg x (by omega)
   have hE:K.getD x 0<=1000:=h7.out _ (by
    rw[Nb,Nd (by rw[h9.out];exact hq)]
    exact NL _)
   generalize K.getD x 0=y at*;have q1:w2.cell? ⟨gb,go+i,none⟩=some (.int .i64 x):=(by obtain⟨d,rfl⟩:=h0;exact hx);have q2:w2.cell? ⟨cb,co+x,none⟩=some (.int .i64 y):=(by obtain⟨d,rfl⟩:=h0;exact hy);obtain⟨s2,h1⟩:∃s2:Nat,s2=s+y:=⟨_,rfl⟩;have hw:(s:Int)+(y:Int)=(s2:Int):=(by omega);have h2:s2<=1000*(i+1):=(by omega);have HS2:Hid (s2=hU K (G.take (i+1))):=aa (by rw[hk,h1,hs.out]);have hB:(0:Int)<=(x:Int):=(by omega);have hD:(x:Int)<(n:Int):=(by omega);have ho:=aa h2;have hp:s2<=60000:=(by omega);clear he hf hh hx hk hg hy h1 h0 h2 p0 p1 p1b;go_wp2_with fail;go_roundw;case rel=>exact⟨i+1,s2,by omega,by go_num,rfl,HS2,ho.out,h8.out⟩
   case measure=>simp[intOf];omega
  ·obtain rfl:i=m:=(by omega);have h1:=hs.out;rw[Nt (Ox h3.out)]at h1;subst h1;clear h0 hs;go_wp2_with fail;go_ret;exact⟨rfl,h8.out⟩
theorem zn(w:World)(A B:Option Addr)(n c m d:Nat):
 Calls prog 234 #[.slice A n c,.slice B m d] w fun e w'=>e=.returned (Md w.heap.size (w.heap.size+1))/\w'=(w.alloc (.cells #[.slice A n c] 88)).alloc (.cells #[.slice B m d] 57):=by go_enter func234,ntmps234;go_wp2_with fail;go_ret;exact⟨by simp[Md],rfl⟩
theorem vh(w:World)(g T n:Nat)(C:Nat->List Nat)(hT:sG w g T C)(h1:1<=T)(hD:T<=6)(hn:n<=258)(hC:∀t,t<T->(C t).length=n/\∀x∈C t,x<=1000)
 (A:Option Addr) (m c:Nat) (G:List Nat) (hG:aw w A m G) (hm:m<=50) (hb:∀x∈G,x<n):
 Calls prog 197 #[.slice (some ⟨g,0,none⟩) T T,.slice A m c] w fun e w'=>e=.returned (.int .i64 (k6 ((List.range T).map C) G:Nat))/\Below w.heap.size w w':=by
 have hh:Below w.heap.size w (w.alloc (.cells #[.slice (some ⟨g,0,none⟩) T T] 88)):=(Nj _ _).alloc (ah _) _;have hi:=aj w 88 #[.slice (some ⟨g,0,none⟩) T T];obtain⟨w0,he⟩:∃w0,w0=w.alloc (.cells #[.slice (some ⟨g,0,none⟩) T T] 88):=⟨_,rfl⟩;have hy:w0.heap.size=w.heap.size+1:=by rw[he];simp
 rw[<- he]at hh hi;have hc:Below w0.heap.size w0 (w0.alloc (.cells #[.slice A m c] 57)):=(Nj _ _).alloc (ah _) _;have h8:=aj w0 57 #[.slice A m c];have h0:=aO hc hi;have h7:=ap hh hc;obtain⟨w1,hl⟩:∃w1,w1=w0.alloc (.cells #[.slice A m c] 57):=⟨_,rfl⟩;rw[<- hl]at hc h8 h0 h7;have hg:=hT.below h7;have hf:=bN hG h7;rw[hy]at h8;have hB:=aa fun(t:Nat) (ht:t<T)=>vU w1 w.heap.size (w.heap.size+1) g T n C h0 hg hn hC A m c G h8 hf hm hb t ht;have h5:Hid (∀ d t,t<T->Calls prog 267 #[.int .i64 t,.pointer (some ⟨w.heap.size,0,none⟩),.pointer (some ⟨w.heap.size+1,0,none⟩)] (w1.drewN d) fun e w'=>e=.returned (.int .i64 (hU (C t) G:Nat))/\∃d2,w'=w1.drewN d2):=aa fun d t ht=>by have hd:Below w1.heap.size w1 (w1.drewN d):=ay (Nj _ _) d;refine(vU (w1.drewN d) w.heap.size (w.heap.size+1) g T n C h0 (hg.below hd) hn hC A m c G h8 (bN hf hd) hm hb t ht).mono ?_;rintro e w' ⟨rfl,d2,rfl⟩;exact⟨rfl,d+d2,by simp[World.drewN,OL]⟩
 have HR:=aa (zn w (some ⟨g,0,none⟩) A T T m c);rw[<- he,<-hl]at HR;have hz:=aa h7;obtain⟨p,hp⟩:∃p:Nat->Nat×Nat,p=mJ ((List.range T).map C) G:=⟨_,rfl⟩;have h6:k6 ((List.range T).map C) G=(p T).1:=by unfold k6;rw[hp];simp
 rw[h6];have h2:Hid (∀ t,t<T->p (t+1)=if t=0\/hU (C t) G<(p t).2 then(t,hU (C t) G)else p t):=aa fun t ht=>by rw[hp,mJ,JH C T t ht]
 have hu:∀t,t<T->hU (C t) G<=50000:=fun t ht=>by
  have h3:=Lt (C t) G 1000 (fun x hx=>(hC t ht).2 _ (by
   rw[Nb,Nd (by rw[(hC t ht).1];exact hb x hx)]
   exact NL _))
  have h4:1000*G.length<=1000*50:=Q9 _ (by rw[hG.1];exact hm);omega
 have hq:=aa hu;have hr:Hid (p 1=(0,hU (C 0) G)):=aa (by rw[h2.out 0 (by omega),Ng (.inl rfl)]);clear hT hG hC hb hp h6 hu h0 h8 hg hf h7 he hl hy hh hi hc;generalize w.heap.size=g0 at*;go_enter func197,ntmps197;go_wp2_with fail;refine HR.out.mono ?_;rintro e w1 ⟨rfl,rfl⟩;go_wp2_with fail;refine(h5.out 0 0 (by omega)).mono ?_;rintro e w2 ⟨rfl,d1,rfl⟩;obtain⟨s0,hj⟩:∃s0,s0=hU (C 0) G:=⟨_,rfl⟩;rw[<- hj]at hr |-;have hk:s0<=50000:=by rw[hj];exact hq.out 0 (by omega)
 clear hj;go_wp2_with fail;go_loopw [6,7,8,9] (fun bv lv tv cv wx=>∃(t b l:Nat),1<=t/\t<=T/\tv=.int .i64 t/\bv=.int .i64 b/\lv=.int .i64 l/\l<=50000/\Hid (p t=(b,l))/\∃d,wx=w1.drewN d) (fun _ _ tv _ _=>T-(intOf tv).toNat)
 case atStart=>exact⟨1,0,s0,Nm _,h1,rfl,rfl,rfl,hk,hr,d1,rfl⟩
 case round=>
  rename World=>w3;obtain⟨t,b,l,hE,ht,rfl,rfl,rfl,hA,hv,hd⟩:=hrel;obtain⟨d,rfl⟩:=hd;by_cases e:t<T
  ·have h9:=h2.out t e;rw[hv.out]at h9;dsimp only at h9;have ho:=aa (h5.out d t e);have hw:=hq.out t e;obtain⟨s,hs⟩:∃s,s=hU (C t) G:=⟨_,rfl⟩;rw[<- hs]at h9 ho hw;have ha:=aa h9;clear hs h9;go_wp2_with fail;refine ho.out.mono ?_;rintro e w4 ⟨rfl,d4,rfl⟩;by_cases h3:s<l
   ·have HP:Hid (p (t+1)=(t,s)):=aa (by rw[ha.out,Ng (.inr h3)]);clear ha;go_wp2_with fail;go_roundw;case rel=>exact⟨t+1,t,s,by omega,by omega,by go_num,rfl,rfl,hw,HP,d4,rfl⟩
    case measure=>simp[intOf];omega
   ·have HP:Hid (p (t+1)=(b,l)):=aa (by rw[ha.out,Nf (by omega)]);clear ha;go_wp2_with fail;go_roundw;case rel=>exact⟨t+1,b,l,by omega,by omega,by go_num,rfl,rfl,hA,HP,d4,rfl⟩
    case measure=>simp[intOf];omega
  ·obtain rfl:t=T:=(by omega);have HE:=aa (ay hz.out d);go_wp2_with fail;go_ret;exact⟨by rw[hv.out];rfl,HE.out⟩
theorem xJ(w:World)(A:Option Addr)(n c:Nat)(L:List Nat)(hL:aw w A n L)(hu:n<=c)(hn:n<=2000000)(g T m:Nat)(C:Nat->List Nat)(hT:sG w g T C)(h1:1<=T)(hr:T<=6)(hm:m<=258)
 (hC:∀t,t<T->(C t).length=m/\∀x∈C t,x<=1000) (he:∀x∈L,x<m) (G:Nat) (hG:G=aR n):
 Calls prog 148 #[.slice (some ⟨g,0,none⟩) T T,.slice A n c] w fun e w'=>e=.returned (.slice (some ⟨w.heap.size,0,none⟩) G G)/\aA w' w.heap.size w.heap.size G G (fun k=>k6 ((List.range T).map C) (dc L k))/\Below w.heap.size w w':=by
 have hv:G<=40001/\n<=50*G/\50*G<n+50:=by rw[hG];unfold aR;omega
 have h5:=aa (jX w n (by omega));rw[<- hG]at h5;have ht:=bK w G (by omega);have HM:=aa (bz w w.heap.size G (ah _) (by omega));have ha:=aa ((Nj w.heap.size w).alloc (ah _) (.cells (madeCells #[.int .i64 0] G) 3));have HL:=aa fun(w1:World) (hb:Below w.heap.size w w1)=>bN hL hb;have HT:=aa fun(w1:World) (hb:Below w.heap.size w w1)=>hT.below hb;have HC:=aa hC;have hl:=aa he;obtain⟨pf,h7⟩:∃pf:Nat->Nat,pf=fun k=>k6 ((List.range T).map C) (dc L k):=⟨_,rfl⟩;have ho:Hid (∀ k,k6 ((List.range T).map C) (dc L k)=pf k):=aa fun k=>by rw[h7]
 rw[<- h7];clear hL hT hC he hG h7;go_enter func148,ntmps148;go_wp2_with fail;refine h5.out.mono ?_;rintro e w0 ⟨rfl,rfl⟩;go_wp2_with fail;clear ht h5;go_loopw [6,13] (fun s6 kv wx=>∃k:Nat,k<=G/\kv=.int .i64 k/\aA wx w.heap.size w.heap.size G G (fun j=>if j<k then pf j else 0)/\Below w.heap.size w wx) (fun _ kv _=>G-(intOf kv).toNat)
 case atStart=>refine⟨0,Nh _,rfl,?_,ha.out⟩;have e:(fun j=>if j<0 then pf j else 0)=fun _=>0:=(by funext j;rw[Nf (by omega)]);rw[e];exact HM.out
 case round=>
  clear HM ha;rename World=>w6;obtain⟨k,hk,rfl,hf,hb⟩:=hrel;by_cases e4:k<G
  ·have hy:(0:Int)<=(k:Int):=(by omega);have hw:(k:Int)<(G:Int):=(by omega);have h2:=aa (tj w6 A n c L k (HL.out w6 hb) hu hn (by omega));have h0:=aa fun(A2:Option Addr) (c2:Nat) (hq:aw w6 A2 (dc L k).length (dc L k))=>vh w6 g T m C (HT.out w6 hb) h1 hr hm HC.out A2 (dc L k).length c2 (dc L k) hq (by rw[pd];omega) (fun x hx=>hl.out x (O9 (Po hx)));rw[ho.out k]at h0;have HF:=aa hf;have HB:=aa hb;clear hf hb;go_wp2_with fail;refine h2.out.mono ?_;rintro e w7 ⟨A2,c2,rfl,hh,hs,_,rfl⟩;have hc:=aa (h0.out A2 c2 hh);clear hh hs h2 h0;generalize (dc L k).length=pl at*;go_wp2_with fail;refine hc.out.mono ?_;rintro e w8 ⟨rfl,h6⟩;have h4:aA w8 w.heap.size w.heap.size G G (fun j=>if j<k then pf j else 0):=(an h6).row HF.out (fun _ _=>ar) ar;obtain⟨pk,h8⟩:∃pk,pk=pf k:=⟨_,rfl⟩;rw[<- h8];have c8:=h4.cell k e4;have f8:=h4.frozen k;have h9:=h4.set k pk;have hg:(fun j=>if j=k then pk else if j<k then pf j else 0)=fun j=>if j<k+1 then pf j else 0:=by
    funext j;by_cases ej:j=k;·rw[Ng ej,Ng (by omega),ej,h8]
    ·rw[Nf ej];by_cases ej2:j<k;·rw[Ng ej2,Ng (by omega)]
     ·rw[Nf ej2,Nf (by omega)]
   rw[hg]at h9;have hp:=aa h9;have hi:=aa ((ap HB.out h6).setCell (p:=⟨w.heap.size,k,none⟩) (ah _) (.int .i64 (pk:Nat)));clear h4 h9 hg HF HB hc h6 h8;go_wp2_with fail;go_roundw;case rel=>exact⟨k+1,by omega,by go_num,hp.out,hi.out⟩
   case measure=>simp[intOf];omega
  ·obtain rfl:k=G:=(by omega);have h3:w6.ownsRow w.heap.size 3 1 (.slice (some ⟨w.heap.size,0,none⟩) k k) k (cH k fun j=>if j<k then pf j else 0):=hf;rw[b9 k _ pf fun j hj=>Ng hj]at h3;have HE:=aa h3;have HB:=aa hb;clear hf hb h3;go_wp2_with fail;go_ret;exact⟨rfl,HE.out,HB.out⟩
