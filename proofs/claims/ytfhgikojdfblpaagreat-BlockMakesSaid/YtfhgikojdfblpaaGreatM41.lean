import Derived.Test.YtfhgikojdfblpaaGreatM40
set_option maxHeartbeats 6400000
set_option maxRecDepth 100000
namespace Go.Proofs.YtfhgikojdfblpaaGreat
open _root_.Go.Proofs.Tryz
open Go.RowKit
theorem CA(w:World)(v:Value)(T:List (List Int))(P:List Int)(h:aJ w v T P)(hM:¬aV T P):
 Calls prog 15 #[v] w (bn w (cP T P)):=by rw[show cP T P=([],110)from Nd hM];obtain⟨A,q,c,B,m,d,rfl,_⟩:=id h;have h4:Below w.heap.size w (w.alloc (.cells #[.slice A q c,.slice B m d] 43)):=(Nj _ _).alloc (ag _) _;have h7:=aj w 43 #[.slice A q c,.slice B m d];obtain⟨w1,h2⟩:∃w1,w1=w.alloc (.cells #[.slice A q c,.slice B m d] 43):=⟨_,rfl⟩;have he:w1.heap.size=w.heap.size+1:=(by rw[h2];simp);rw[<- h2]at h4 h7;have h5:Below w1.heap.size w1 (w1.alloc (.cells #[.string ⟨#[]⟩,.int .i64 0] 24)):=(Nj _ _).alloc (ag _) _;have hc:=aO h5 h7;have h8:=aj w1 24 #[.string ⟨#[]⟩,.int .i64 0];rw[he]at h8;have h0:=aq h4 h5;have HM:=aa (dR _ _ T P (h.below h0));rw[Nl hM]at HM;have h3:=aa hc;have ha:=aa h8;have h9:=aa h0;have hb:=aa h2.symm;clear h hM h4 h7 h5 hc h8 h0 he h2;go_enter func15,ntmps15;go_upto_region 1 with fail;rw[hb.out];generalize w1.alloc (.cells #[.string ⟨#[]⟩,.int .i64 0] 24)=w2 at*;clear hb;have p0:w2.cell? ⟨w.heap.size,0,none⟩=some (.slice A q c):=(ac h3.out 0).trans rfl;have p1:w2.cell? ⟨w.heap.size,1,none⟩=some (.slice B m d):=(ac h3.out 1).trans rfl;go_wp2_with fail;refine HM.out.mono ?_;rintro e w3 ⟨rfl,h6⟩;have h1:=aO h6 ha.out;have q0:=(ac h1 0).trans (rfl:_=some (Value.string ⟨#[]⟩));have q1:=(ac h1 1).trans (rfl:_=some (Value.int .i64 0));have f0:=ae h1 0;have f1:=ae h1 1;have hf:=aa (aq h9.out h6);clear h1 h6 ha h3 h9 HM p0 p1;go_wp2_with fail;refine NH (v:=.tuple #[.agg #[.string ⟨#[]⟩,.int .i64 0],.int .i64 110]) ?_ rfl ⟨rfl,(hf.out.setCell (p:=⟨w.heap.size+1,0,none⟩) (Pa _) _).setCell (p:=⟨w.heap.size+1,1,none⟩) (Pa _) _⟩;simp[results,results15,go_sem,q0,q1]
theorem CB(w:World)(v:Value)(T:List (List Int))(P:List Int)(h:aJ w v T P)(hM:aV T P):
 Calls prog 15 #[v] w (bn w (cP T P)):=by
 obtain⟨A,q,c,B,m,d,rfl,hT,qo,hq,hP,qm,hm⟩:=id h;have hL:=hT.1;have pn:=hP.1;have h5:2<=q/\q<=6:=by have h1:=hM.1;have h2:=hM.2.1;omega
 have hr:1<=m/\m<=32767:=by have h1:=hM.2.2.1;have h2:=hM.2.2.2.1;omega
 have H2:∀x∈P,0<=x/\x<(q:Int):=fun x hx=>by rw[<- hL];exact hM.2.2.2.2.2.1 x hx
 have H3:∀t∈T,bK t:=fun t ht=>(hM.2.2.2.2.1 t ht).2;obtain⟨H,hH⟩:∃H,H=ah q 3++ah m 15++aI (List.range q) (nl P):=⟨_,rfl⟩;have HC:(nl P).length=m:=by unfold nl;rw[Nu,pn]
 have hA:∀x∈nl P,x<q:=by intro x hx;unfold nl at hx;obtain⟨y,hy,rfl⟩:=List.mem_map.1 hx;have:=H2 y hy;omega
 have ho:cP T P=(H++(T.map nl).flatMap bc,0):=by unfold cP gQ;rw[Nf hM,Nu,hL,HC,uN h5.2 (nl P) hA,hH]
 rw[ho];have p7:au H:=by rw[hH];exact((aQ 3 q).append (aQ 15 m)).append (lL _ _)
 have p8:H.length<=200000:=by rw[hH,Nb,Nb,af,af];have:=mw (nl P) (List.range q) q (by simp) (fun x hx=>List.mem_range.2 (hA x hx));rw[HC]at this;have h2:q*m<=6*32767:=RW h5.2 hr.2;omega
 have pb:((T.map nl).flatMap bc).length<=11000*T.length:=ns T fun t ht=>jy (H3 t ht);have H8:aB w B m (nl P):=dN hP fun x hx=>(H2 x hx).1;have p9:∀a,B=some a->a.block<w.heap.size:=fun a ha=>by obtain⟨b,off,he,hc⟩:=H8.2 hr.1;rw[he]at ha;cases ha;exact No w _ (hc 0 hr.1)
 have H4:Below w.heap.size w (w.alloc (.cells #[.slice A q c,.slice B m d] 43)):=(Nj _ _).alloc (ag _) _;have HA:=aj w 43 #[.slice A q c,.slice B m d];obtain⟨w1,hO⟩:∃w1,w1=w.alloc (.cells #[.slice A q c,.slice B m d] 43):=⟨_,rfl⟩;have q3:w1.heap.size=w.heap.size+1:=by rw[hO];simp
 rw[<- hO]at H4 HA;have H5:Below w1.heap.size w1 (w1.alloc (.cells #[.string ⟨#[]⟩,.int .i64 0] 24)):=(Nj _ _).alloc (ag _) _;have pl:=aO H5 HA;have HD:=aj w1 24 #[.string ⟨#[]⟩,.int .i64 0];rw[q3]at HD;have h9:=aq H4 H5;have HM:=aa (dR _ _ T P (h.below h9));rw[Nn hM]at HM;have HT:=aa fun(w1:World) (hb:Below w.heap.size w w1)=>hT.below hb;have HO:=aa fun(w1:World) (hb:Below w.heap.size w w1)=>cF H8 hb;have HS:=aa p9;have HU:=aa hA;have q5:=aa p7;have q6:=aa p8;have HN:=aa hH;have q9:=aa pb;have q8:=aa H3;have hz:=aa hL;have hw:=aa pl;have HX:=aa HD;have HI:=aa h9;have p4:=aa hO.symm;have HV:Hid (∀ w' X,X=H++(T.map nl).flatMap bc->Below w.heap.size w w'->bn w (H++(T.map nl).flatMap bc,0) (.returned (.tuple #[.agg #[.string ⟨(aK X).toArray⟩,.int .i64 X.length],.int .i64 0])) w'):=aa fun w' X hX hb=>by rw[hX];exact⟨rfl,hb⟩
 generalize bn w (H++(T.map nl).flatMap bc,0)=PO at*;clear h hM H4 HA H5 pl HD h9 q3 hO hT hP pn H2 H3 hH HC hA ho p7 p8 pb H8 p9 hL;go_enter func15,ntmps15;go_upto_region 1 with fail;rw[p4.out];generalize w1.alloc (.cells #[.string ⟨#[]⟩,.int .i64 0] 24)=w2 at*;clear p4;have p0:w2.cell? ⟨w.heap.size,0,none⟩=some (.slice A q c):=(ac hw.out 0).trans rfl;have p1:w2.cell? ⟨w.heap.size,1,none⟩=some (.slice B m d):=(ac hw.out 1).trans rfl;go_wp2_with fail;refine HM.out.mono ?_;rintro e w3 ⟨rfl,hD⟩;have hV:=aa (aO hD hw.out);have hY:=aa (aO hD HX.out);have hv:=aa (aq HI.out hD);clear hD HX hw HI HM p0 p1;go_wp2_with fail;refine(Gw w3).mono ?_;rintro e w4 ⟨rfl,HG⟩;have pf:IsW w3.heap.size w4 w3.heap.size (.slice none 0 0) []:=by rw[HG];exact nK w3 w3.heap.size (ag _)
 have hE:Below w3.heap.size w3 w4:=cB HG;have hJ:=aO hE hV.out;have pr:=aO hE hY.out;have hg:=aq hv.out hE;have p0:w4.cell? ⟨w.heap.size,0,none⟩=some (.slice A q c):=(ac hJ 0).trans rfl;have p1:w4.cell? ⟨w.heap.size,1,none⟩=some (.slice B m d):=(ac hJ 1).trans rfl;have H1:=vA w3.heap.size w4 w3.heap.size _ [] pf (by simp) A q c B m d (nl P) (HO.out w4 hg) (fun a ha=>OA (HS.out a ha) hv.out.size) h5.1 h5.2 hr.1 hr.2 HU.out;rw[Ok,<-HN.out]at H1;have HW:=aa H1;have HP:=aa hJ;have HY:=aa pr;have HK:=aa hg;have HB:w.heap.size<w3.heap.size:=aA hV.out;have hp:w.heap.size+1<w3.heap.size:=aA hY.out;have HE:w.heap.size<=w3.heap.size:=hv.out.size;clear HG pf hE hJ pr hg H1 hV hY hv HS HU HN;generalize w3.heap.size=p at*;go_wp2_with fail;refine HW.out.mono ?_;rintro e w5 ⟨rfl,⟨v5,hC⟩,hB⟩;have pm:=(hB.below.block w.heap.size HB).trans HP.out;have ps:=(hB.below.block (w.heap.size+1) hp).trans HY.out;have hh:=HK.out.trans (hB.below.mono HE);have p0:w5.cell? ⟨w.heap.size,0,none⟩=some (.slice A q c):=(ac (show Blk w5 w.heap.size _ _ from pm) 0).trans rfl;have p3:=aa (jC p w5 p v5 H hC);have HQ:=aa (lF w5 p (H.length:Nat) (by have:=ac hC.blk 0;simpa using this) (by have:=ac hC.blk 2;simpa using this));have hZ:Hid (Blk w5 (w.heap.size+1) 24 #[.string ⟨#[]⟩,.int .i64 0]):=aa ps;have hQ:=aa hh;have HZ:=aa (HT.out w5 hh);clear hC hB pm ps hh HW HP HY HK HT HO p1;go_wp2_with fail;refine p3.out.mono ?_;rintro e w5 ⟨rfl,rfl⟩;go_wp2_with fail;refine HQ.out.mono ?_;rintro e w5 ⟨rfl,rfl⟩;clear p3 HQ;have hl:=aa (LP w5 w5.heap.size (ag _) H q5.out);have hR:Hid (Below w5.heap.size w5 (w5.alloc (.cells #[.string ⟨(aK H).toArray⟩,.int .i64 H.length] 24))):=aa ((Nj _ _).alloc (ag _) _);have p0':(w5.alloc (.cells #[.string ⟨(aK H).toArray⟩,.int .i64 H.length] 24)).cell? ⟨w.heap.size,0,none⟩=some (.slice A q c):=(hR.out.cell (p:=⟨w.heap.size,0,none⟩) (No w5 _ p0)).trans p0;obtain⟨tb,tq,rfl,q2⟩:=HZ.out.2 (by omega);have p2:=aa q2;have qa:w.heap.size+1<w5.heap.size:=aA hZ.out;clear q2 HZ;go_upto_region 6 with fail;generalize w5.alloc (.cells #[.string ⟨(aK H).toArray⟩,.int .i64 H.length] 24)=w6 at*;go_wp2_with fail;go_loopw [5,7,8,9,27] (fun pv s7 s8 s9 iv' wx=>∃(i:Nat) (A9:Option Addr) (c9:Nat),i<=q/\iv'=.int .i64 i/\pv=.slice A9 (i+1) c9/\Pcs wx w5.heap.size (.slice A9 (i+1) c9) (H::((T.map nl).map bc).take i)/\Below w5.heap.size w5 wx) (fun _ _ _ _ iv' _=>q-(intOf iv').toNat)
 case atStart=>refine⟨0,_,_,Ng _,rfl,rfl,?_,hR.out⟩;rw[Rs];exact hl.out
 case round=>
  clear hl hR p0 p0';rename World=>wx;obtain⟨i,A9,c9,hi,rfl,rfl,hs,hk⟩:=hrel;by_cases e:i<q
  ·have qb:(0:Int)<=(i:Int):=(by omega);have ql:(i:Int)<(q:Int):=(by omega);obtain⟨A2,c2,h1,h2,_,h4⟩:=p2.out i e;have H7:i<T.length:=(by rw[hz.out];exact e);have c1:wx.cell? ⟨tb,tq+i,none⟩=some (.slice A2 (T.getD i []).length c2):=(hk.cell (p:=⟨tb,tq+i,none⟩) (No w5 _ h1)).trans h1;have hN:=S10.qQ wx A2 (T.getD i []).length c2 (T.getD i []) (h2.below hk) h4;have pk:DOk (T.getD i []):=jy (q8.out _ (nU T i H7));rw[show eN (T.getD i [])=(bc (nl (T.getD i [])),0)from Nf pk]at hN;obtain⟨X,hX⟩:∃X,X=bc (nl (T.getD i [])):=⟨_,rfl⟩;rw[<- hX]at hN;have pg:au X:=(by rw[hX];exact wh _);have h8:H::((T.map nl).map bc).take (i+1)=(H::((T.map nl).map bc).take i)++ [X]:=(by rw[NF (by simp;exact H7),Q4,Q4,hX,Na,Nc H7];rfl);have HR:=aa h8;have p6:=aa pg;have H0:=aa hN;have hl:=aa hs;have h7:=aa hk;obtain⟨tl,htl⟩:∃tl,tl=(T.getD i []).length:=⟨_,rfl⟩;rw[<- htl]at c1 H0;have HF:tl<=maxLen:=(by rw[htl];exact h4);unfold maxLen at HF;clear h1 h2 h4 hN pk hX pg h8 hs hk htl;go_wp2_with fail;refine H0.out.mono ?_;rintro e w7 ⟨rfl,hF⟩;have hG:Below w7.heap.size w7 (w7.alloc (.cells #[.string ⟨(aK X).toArray⟩,.int .i64 X.length] 24)):=(Nj _ _).alloc (ag _) _;have hK:=aj w7 24 #[.string ⟨(aK X).toArray⟩,.int .i64 X.length];obtain⟨w8,HH⟩:∃w8,w8=w7.alloc (.cells #[.string ⟨(aK X).toArray⟩,.int .i64 X.length] 24):=⟨_,rfl⟩;rw[<- HH]at hG hK;have hu:=(hl.out.below hF).below hG;have hf:=(aq h7.out hF).trans (hG.mono (ND h7.out.size hF.size));obtain⟨v9,w9,h6,h0,hj⟩:=uE w8 w5.heap.size (.slice A9 (i+1) c9) _ X hu hf.size (by simp;omega) p6.out;rw[<- HR.out]at h0;have po:(H::((T.map nl).map bc).take (i+1)).length=i+1+1:=(by simp;omega);obtain⟨A3,c3,rfl,_,_,_⟩:=ai h0.own;rw[po]at h0 h6;have x0:=(ac hK 0).trans (rfl:_=some (Value.string ⟨(aK X).toArray⟩));have x1:=(ac hK 1).trans (rfl:_=some (Value.int .i64 X.length));have q7:=aa h6;have hW:=aa h0;have q4:=aa (hf.trans hj);have p5:=aa HH.symm;clear hF hG hK HH hu hf h6 h0 hj po H0 hl h7 HR p6;go_upto_region 10 with fail;rw[p5.out];clear p5;generalize w7.heap.size=g8 at*;(go_wp2_with (at_builtin;refine Lib.wpList_append_run _ rfl (.tmp 36) (.tmp 38) 90 90 rfl (.slice A9 (i+1) c9) (.slice (some ⟨w8.heap.size,0,none⟩) 1 1) rfl rfl _ w9 q7.out ?_));go_roundw;case rel=>exact⟨i+1,A3,c3,by omega,by go_num,rfl,hW.out,q4.out⟩
   case measure=>simp[intOf];omega
  ·obtain rfl:i=q:=(by omega);have hn:(H::((T.map nl).map bc).take i)=H::(T.map nl).map bc:=(by rw[Nr (by have:=hz.out;simp;omega)]);rw[hn]at hs;have hI:(H::(T.map nl).map bc).flatten=H++(T.map nl).flatMap bc:=(by rw[Pg,Q5]);have H6:(H::(T.map nl).map bc).flatten.length<=1000000:=(by rw[hI,Nb];have h1:=q6.out;have h2:=q9.out;have h3:=hz.out;have h4:11000*T.length<=11000*6:=Q7 _ (by omega);omega);have HJ:=aa (uF wx w5.heap.size (.slice A9 (i+1) c9) _ hs (by simp;have:=hz.out;omega) (by omega));obtain⟨X,hX⟩:∃X,X=(H::(T.map nl).map bc).flatten:=⟨_,rfl⟩;rw[<- hX]at HJ hI;have HL:=aa hI;have h7:=aa hk;clear hs hk hn hI H6 hX;go_wp2_with fail;refine HJ.out.mono ?_;rintro e w9 ⟨rfl,hj⟩;have h6:=(an hj).blk ((h7.out.block (w.heap.size+1) qa).trans hZ.out) aw aw;have q0:=(ac h6 0).trans (rfl:_=some (Value.string ⟨#[]⟩));have q1:=(ac h6 1).trans (rfl:_=some (Value.int .i64 0));have f0:=ae h6 0;have f1:=ae h6 1;have pj:=(aq hQ.out h7.out).trans (hj.mono (ND hQ.out.size h7.out.size));have hS:=aa (HV.out _ X HL.out ((pj.setCell (p:=⟨w.heap.size+1,0,none⟩) (Pa _) (.string ⟨(aK X).toArray⟩)).setCell (p:=⟨w.heap.size+1,1,none⟩) (Pa _) (.int .i64 X.length)));clear h6 hj pj HJ HL h7 HV hZ hQ p2;go_wp2_with fail;refine NH (v:=.tuple #[.agg #[.string ⟨(aK X).toArray⟩,.int .i64 X.length],.int .i64 0]) ?_ rfl hS.out;simp[results,results15,go_sem,q0,q1]
theorem tA(w:World)(v:Value)(T:List (List Int))(P:List Int)(h:aJ w v T P):
 Calls prog 15 #[v] w (bn w (cP T P)):=by
 by_cases hM:aV T P;·exact CB w v T P h hM
 ·exact CA w v T P h hM
theorem FI(w:World)(v:Value)(T:List (List Int))(P:List Int)(h:aJ w v T P)(A':Option Addr)(n' c':Nat)(L:List Int)(hL:ZIn w A' n' L)(hu:n'<=c')(hq:n'<=2000000):
 Calls prog 43 #[v,.slice A' n' c'] w fun e w'=>e=.returned (.tuple #[.int .i64 (du T P L).1,.int .i64 (du T P L).2])/\Below w.heap.size w w':=by
 obtain⟨A,n,c,B,m,d,rfl,hl⟩:∃A n c B m d,v=.agg #[.slice A n c,.slice B m d]/\aJ w (.agg #[.slice A n c,.slice B m d]) T P:=by obtain⟨A,n,c,B,m,d,hv,hr⟩:=id h;exact⟨A,n,c,B,m,d,hv,by rw[<- hv];exact h⟩
 clear h;obtain⟨w1,hj⟩:∃w1,w1=w.alloc (.cells #[.slice A n c,.slice B m d] 43):=⟨_,rfl⟩;have hi:Blk w1 w.heap.size 43 #[.slice A n c,.slice B m d]:=dW hj;have ha:Below w.heap.size w w1:=cB hj;have hs:w.heap.size<w1.heap.size:=aA hi;have HQ:Hid (∀ wx,Below w1.heap.size w1 wx->wx.cell? ⟨w.heap.size,0,none⟩=some (.slice A n c)/\wx.cell? ⟨w.heap.size,1,none⟩=some (.slice B m d)):=aa fun wx h=>⟨(h.cell (p:=⟨w.heap.size,0,none⟩) hs).trans ((ac hi 0).trans rfl),(h.cell (p:=⟨w.heap.size,1,none⟩) hs).trans ((ac hi 1).trans rfl)⟩;have hg:=aa (zY w1 _ T P (hl.below ha) A' n' c' L (hL.below ha) hu hq);have hk:=aa fun(wx:World) (hb:Below w1.heap.size w1 wx)=>tA wx _ T P ((hl.below ha).below hb);have h5:=dY T P L (by rw[hL.1];exact hq);have h2:=eH T P;have hf:=rI T P L;have h1:du T P L=if(aT T P L).2=0 then((cP T P).1.length+(aT T P L).1.length,0)else(0,(aT T P L).2):=rfl
 have h8:=aa ha;have hh:=aa hj;obtain⟨p0,p1⟩:=HQ.out _ (Nj _ _);generalize du T P L=ans at*;generalize aT T P L=cs at*;generalize cP T P=bs at*;obtain⟨cl,ck⟩:=cs;obtain⟨bl,bk⟩:=bs;dsimp only at h5 h2 hf h1;clear hl hL hi ha hj;by_cases h0:ck=0;·subst h0;rw[Nf rfl]at h1;have h3:=aa h1;clear h1;go_enter func43,ntmps43;go_upto_region 1 with fail;rw[<- hh.out];clear hh;go_wp2_with fail;refine hg.out.mono ?_;rintro e w3 ⟨rfl,h7⟩;(try dsimp only);have hc:Below w3.heap.size w3 (w3.alloc (.cells #[.string ⟨(aK cl).toArray⟩,.int .i64 (cl.length:Nat)] 24)):=(Nj _ _).alloc (ag _) _;have hm:=aa (aj w3 24 #[.string ⟨(aK cl).toArray⟩,.int .i64 (cl.length:Nat)]);have h6:=aa (aq h7 hc);clear h7 hc hg p0 p1;go_upto_region 2 with fail;generalize w3.alloc (.cells #[.string ⟨(aK cl).toArray⟩,.int .i64 (cl.length:Nat)] 24)=w4 at*;generalize w3.heap.size=g6 at*;obtain⟨p0,p1⟩:=HQ.out _ h6.out;have h9:=aa (hk.out _ h6.out);go_wp2_with fail;refine h9.out.mono ?_;rintro e w5 ⟨rfl,hn⟩;(try dsimp only);have he:Below w5.heap.size w5 (w5.alloc (.cells #[.string ⟨(aK bl).toArray⟩,.int .i64 (bl.length:Nat)] 24)):=(Nj _ _).alloc (ag _) _;have h4:=aq hn he;have ho:=aO h4 hm.out;have hp:=aj w5 24 #[.string ⟨(aK bl).toArray⟩,.int .i64 (bl.length:Nat)];have x1:=(ac ho 1).trans (rfl:_=some (Value.int .i64 (cl.length:Nat)));have y1:=(ac hp 1).trans (rfl:_=some (Value.int .i64 (bl.length:Nat)));have ht:=aa (h8.out.trans ((aq h6.out h4).mono h8.out.size));clear hn he h4 ho hp h9 hm h6 p0 p1 hk HQ;go_upto_region 5 with fail;generalize w5.alloc (.cells #[.string ⟨(aK bl).toArray⟩,.int .i64 (bl.length:Nat)] 24)=w6 at*;generalize w5.heap.size=g8 at*;generalize bl.length=K at*;generalize cl.length=M at*;go_wp2_with fail;go_ret2;exact⟨by rw[h3.out];rfl,ht.out⟩
 ·have d0:((ck:Int) != 0)=true:=(by rw[Pe];omega);rw[Nd h0]at h1;have h3:=aa h1;clear h1 h0;go_enter func43,ntmps43;go_upto_region 1 with fail;rw[<- hh.out];clear hh;go_wp2_with fail;refine hg.out.mono ?_;rintro e w3 ⟨rfl,h7⟩;(try dsimp only);have h6:=aa (h8.out.trans ((h7.alloc h7.size (.cells #[.string ⟨(aK cl).toArray⟩,.int .i64 (cl.length:Nat)] 24)).mono h8.out.size));clear h7 hg p0 p1 hk HQ h8;go_upto_region 2 with fail;generalize w3.alloc (.cells #[.string ⟨(aK cl).toArray⟩,.int .i64 (cl.length:Nat)] 24)=w4 at*;go_wp2_with fail;go_ret2;exact⟨by rw[h3.out];rfl,h6.out⟩
structure gV (w:World) (B g T n t:Nat) (G:Nat->Nat) (C:Nat->Nat->Nat):Prop where
 own:w.ownsRow B 37 1 (.slice (some ⟨g,0,none⟩) T T) T ((List.range T).map fun j=>if j<t then .slice (some ⟨G j,0,none⟩) n n else .slice none 0 0)
 rows:∀j,j<t->az w B (G j) n n (C j)
 ne:∀i j,i<t->j<t->i≠j->G i≠G j
theorem BJ(w:World)(B T n:Nat)(hB:B<=w.heap.size)(hT:T<=1000)(G:Nat->Nat)(C:Nat->Nat->Nat):gV (w.alloc (.cells (madeCells #[.slice none 0 0] T) 37)) B w.heap.size T n 0 G C:=by refine⟨?_,fun j hj=>absurd hj (O4 _),fun i _ hi=>absurd hi (O4 _)⟩;have h:=(vh w B T hB hT).own;have e:(fun j:Nat=>if j<0 then(.slice (some ⟨G j,0,none⟩) n n:Value)else .slice none 0 0)=fun _=>.slice none 0 0:=(by funext j;rw[Nd (O4 _)]);rw[e];exact h
section
variable {w w':World} {B g T n t:Nat} {G:Nat->Nat} {C:Nat->Nat->Nat}
theorem gV.g_ne(h:gV w B g T n t G C){j:Nat}(hj:j<t):G j≠g:=by intro e;obtain⟨c1,f1,e1⟩:=Lib.ownsRow_kind (h.rows j hj) (G j) rfl;obtain⟨c2,f2,e2⟩:=Lib.ownsRow_kind h.own g rfl;rw[e,e2]at e1;simp at e1
theorem gV.cell(h:gV w B g T n t G C)(j:Nat)(hj:j<t)(hT:j<T):w.cell? ⟨g,j,none⟩=some (.slice (some ⟨G j,0,none⟩) n n):=by rw[Oy h.own j (by omega),Np,NJ hT];show some (if j<t then _ else _)=_;rw[Nf hj]
theorem gV.frozen(h:gV w B g T n t G C)(j:Nat):w.frozen? ⟨g,j,none⟩=false:=QD h.own j
theorem gV.lt(h:gV w B g T n t G C):B<=g/\g<w.heap.size:=NS h.own g rfl
theorem gV.step{B':Nat}(h:gV w B g T n t G C)(hs:ak B' [] [] w w'):gV w' B g T n t G C:=
 ⟨hs.row h.own (fun _ _=>aw) aw,fun j hj=>hs.row (h.rows j hj) (fun _ _=>aw) aw,h.ne⟩
theorem gV.same(h:gV w B g T n t G C){D:Nat->Nat->Nat}(hd:∀j,j<t->C j=D j):gV w B g T n t G D:=
 ⟨h.own,fun j hj=>by rw[<- hd j hj];exact h.rows j hj,h.ne⟩
theorem gV.push{B2 gN:Nat}{f:Nat->Nat}(h:gV w B g T n t G C)(hb:Below w.heap.size w w')(h4:B<=B2)(hf:az w' B2 gN n n f)(hg:w.heap.size<=gN):
 gV (w'.setCell ⟨g,t,none⟩ (.slice (some ⟨gN,0,none⟩) n n)) B g T n (t+1) (fun j=>if j=t then gN else G j) (fun j=>if j=t then f else C j):=by
 have h2:=h.step (an hb);have h5:=h.lt;have h3:=Qo h2.own t (.slice (some ⟨gN,0,none⟩) n n);have h0:((List.range T).map fun j=>if j<t then(.slice (some ⟨G j,0,none⟩) n n:Value)else .slice none 0 0).set t (.slice (some ⟨gN,0,none⟩) n n)=(List.range T).map fun j=>if j<t+1 then(.slice (some ⟨if j=t then gN else G j,0,none⟩) n n)else .slice none 0 0:=by
  apply Ob;intro j;rw[QQ];by_cases e:t=j
  ·subst e;by_cases hj:t<T;·simp[hj]
   ·simp[hj]
  ·have e':¬j=t:=fun k=>e k.symm;rw[Nd e,Np,Np];by_cases hj:j<T
   ·rw[NJ hj];by_cases e3:j<t;·have:j<t+1:=(by omega);simp[e',e3,this]
    ·have:¬j<t+1:=(by omega);simp[e3,this]
   ·rw[Nw (by rw[NE];omega)];rfl
 rw[h0]at h3;have h1:∀(B3 k:Nat) (f3:Nat->Nat),az w' B3 k n n f3->g≠k:=by intro B3 k f3 hk e;obtain⟨c1,f1,e1⟩:=Lib.ownsRow_kind hk k rfl;obtain⟨c2,f2,e2⟩:=Lib.ownsRow_kind h2.own g rfl;rw[<- e,e2]at e1;simp at e1
 refine⟨h3.1,fun j hj=> ?_,fun i j hi hj hij=> ?_⟩
 ·by_cases e:j=t;·simp only[Nf e];exact az.other (World.ownsRow.mono hf h4) (h1 _ _ _ hf) t _
  ·simp only[Nd e];have hr:=h2.rows j (by omega);exact az.other hr (h1 _ _ _ hr) t _
 ·by_cases e:i=t;·rw[Nf e,Nd];have:=(h.rows j (by omega)).lt;omega
  ·rw[Nd e];by_cases e2:j=t;·rw[Nf e2];have:=(h.rows i (by omega)).lt;omega
   ·rw[Nd e2];exact h.ne i j (by omega) (by omega) hij
theorem gV.upd{B' j:Nat}{f:Nat->Nat}(h:gV w B g T n t G C)(hj:j<t)(hf:az w' B (G j) n n f)(hs:ak B' [G j] [] w w'):gV w' B g T n t G (fun i=>if i=j then f else C i):=by
 refine⟨hs.row h.own (fun k hk=> ?_) aw,fun i hi=> ?_,h.ne⟩;·simp[Value.ownBlock]at hk;rw[Og,<-hk];exact fun e=>h.g_ne hj e.symm
 ·by_cases e:i=j;·simp only[Nf e];rw[e];exact hf
  ·simp only[Nd e];refine hs.row (h.rows i hi) (fun k hk=> ?_) aw;simp[Value.ownBlock]at hk;rw[Og,<-hk];exact h.ne i j hi hj e
theorem gV.tabW(h:gV w B g T n T G C):dC w B g T fun j=>(List.range n).map (C j):=by
 refine⟨_,h.own,fun j hj=>⟨some ⟨G j,0,none⟩,n,?_,by rw[Nu,NE];exact Nk _,?_⟩⟩;·rw[Nf hj,Nu,NE]
 ·rw[Nf hj,Nu,NE];have:=h.rows j hj;unfold az cN at this;rw[Ou];exact this
end
theorem xL(n:Nat)(h:n<=1000):bits BinOp.and IntKind.u64 (n:Int) 4294967295=(n:Int):=by have e:=u64_and_nat n 4294967295 (by omega) (by omega);rw[show ((4294967295:Nat):Int)=4294967295 from rfl]at e;rw[e,show(4294967295:Nat)=2^32-1 by rfl,Nat.and_two_pow_sub_one_eq_mod,NL (by omega)]
theorem CG(w:World)(n:Nat)(hn:n<=1000):
 Calls prog 201 #[.int .u64 1,.int .u64 n] w fun e w'=>e=.returned (.tuple #[.int .u64 0,.int .u64 n])/\w'=w:=by have h1:bits BinOp.and IntKind.u64 1 4294967295=1:=xL 1 (by omega);have h0:bits BinOp.and IntKind.u64 0 4294967295=0:=xL 0 (by omega);have h2:=xL n hn;have h3:(n:Int)/4294967296=0:=(by omega);have h5:(1:Int)*(n:Int)=(n:Int):=(by omega);have h6:(0:Int)*(n:Int)=0:=(by omega);go_enter func201,ntmps201;go_wp2_with fail;go_ret2;exact⟨rfl,rfl⟩
theorem I2(w:World)(n:Nat)(hn:n<=1000):
 Calls prog 173 #[.int .u64 1,.int .u64 n] w fun e w'=>e=.returned (.tuple #[.int .u64 0,.int .u64 n])/\w'=w:=by have HM:=aa (CG w n hn);go_enter func173,ntmps173;go_wp2_with fail;refine HM.out.mono ?_;rintro e w1 ⟨rfl,rfl⟩;go_wp2_with fail;go_ret2;exact⟨rfl,rfl⟩
theorem I6(w:World)(B g n k m:Nat)(f:Nat->Nat)(hf:az w B g n n f)(hk:k<n)(_:1<=k)(hm:m=min (n-k) k)(ty:TypeId):
 (Builtin.copy_ #[37,37] ty #[.slice (some ⟨g,k,none⟩) (n-k) (n-k),.slice (some ⟨g,0,none⟩) k n]).run prog w=.ok (goInt m) (w.setCells g k (cN m f)):=by
 obtain⟨i5,h5,h2,h1,h3⟩:=N4 Tryz.info3;have h0:(cN m f).length=m:=eI m f;have hi:(prog.info? 3).map (·.size)=some 1:=by rw[h5];exact congrArg some h1
 have:=R3 (P:=prog) w 37 37 ty 3 g k (n-k) (n-k) ⟨g,0,none⟩ k n (cN m f) underlying37 hi (by rw[h0,hm,Nat.min_comm])
  (fun j v hv=>by
    have hj:j<m:=by have:=(List.getElem?_eq_some_iff.1 hv).1;omega
    rw[qU,N8,hf.cell j (by omega),<-hv,lC m f j hj]
    rfl)
  (fun j hj=>by
    rw[h0]at hj
    rw[hf.cell (k+j) (by omega)]
    rfl) (fun j hj=>hf.frozen (k+j)) (fun v hv=>by
    unfold cN at hv
    obtain⟨x,_,rfl⟩:=List.mem_map.1 hv
    rfl)
 rw[h0]at this;exact this
def B6(w:World)(n:Nat)(f:Nat->Nat)(e:Ending)(w':World):Prop:=
 ∃g,e=.returned (.slice (some ⟨g,0,none⟩) n n)/\w.heap.size<=g/\az w' w.heap.size g n n f/\Below w.heap.size w w'
theorem Af(w:World)(A:Option Addr)(c x n:Nat)(hA:aB w A 1 [x])(h1:1<=n)(hn:n<=1000):
 Calls prog 139 #[.slice A 1 c,.int .i64 n] w (B6 w n fun _=>x):=by
 have HM:=aa (I2 w n hn);have hH:=bu w n (by omega);have h6:=bf w w.heap.size n (ag _) (by omega);have hl:Below w.heap.size w (w.alloc (.cells (madeCells #[.int .i64 0] n) 3)):=(Nj w.heap.size w).alloc (ag _) _;have hw:=cF hA hl;obtain⟨b,off,rfl,hc⟩:=hw.2 (by omega);have h4:=hc 0 (by omega);rw[NY]at h4;have hC:([x]:List Nat).getD 0 0=x:=rfl;rw[hC]at h4;have h9:∀ty,(Builtin.copy_ #[37,37] ty #[.slice (some ⟨w.heap.size,0,none⟩) n n,.slice (some ⟨b,off,none⟩) 1 c]).run prog (w.alloc (.cells (madeCells #[.int .i64 0] n) 3))=.ok (goInt 1) ((w.alloc (.cells (madeCells #[.int .i64 0] n) 3)).setCells w.heap.size 0 [iv x]):=by
  intro ty;obtain⟨i5,h5,hN,hI,hO⟩:=N4 Tryz.info3;have hi:(prog.info? 3).map (·.size)=some 1:=by rw[h5];exact congrArg some hI
  exact R3 (P:=prog) _ 37 37 ty 3 w.heap.size 0 n n ⟨b,off,none⟩ 1 c [iv x] underlying37 hi (by show 1=min 1 n;omega)
   (fun j v hv=>by
     have hj:j<1:=by have:=(List.getElem?_eq_some_iff.1 hv).1;simpa using this
     obtain rfl:j=0:=by omega
     rw[qU,NY,h4,<-hv]
     rfl)
   (fun j hj=>by
     rw[show j=0 by simpa using hj,h6.cell (0+0) (by omega)]
     rfl) (fun j _=>h6.frozen (0+j)) (fun v hv=>by
     rw[List.mem_singleton.1 hv]
     rfl)
 have h7:=iB [x] 0 _ _ h6;have e1:(fun j=>if 0<=j/\j<0+ [x].length then([x]:List Nat).getD (j-0) 0 else 0)=fun j=>if j<1 then x else 0:=by
  funext j;by_cases e:j<1;·rw[Nf (by simp;omega),Nf e,show j=0 by omega];rfl
  ·rw[Nd (by simp;omega),Nd e]
 rw[e1]at h7;have hx:Below w.heap.size w ((w.alloc (.cells (madeCells #[.int .i64 0] n) 3)).setCells w.heap.size 0 ([x].map iv)):=lJ (ag _) _ _ _ hl;have hu:=aa h7;have hs:=aa hx;have ht:=aa h9;have HP:Hid (∀ g w',w.heap.size<=g->az w' w.heap.size g n n (fun _=>x)->Below w.heap.size w w'->B6 w n (fun _=>x) (.returned (.slice (some ⟨g,0,none⟩) n n)) w'):=aa fun g w' h0 h2 h3=>⟨g,rfl,h0,h2,h3⟩;have d0:decide ((n:Int)<0)=false:=aR;have d1:decide ((9223372036854775807:Int)<(n:Int))=false:=aR;generalize B6 w n (fun _=>x)=PO at*;clear hA hw hc h4 hC h6 hl h9 h7 e1 hx;go_enter func139,ntmps139;go_wp2_with fail;refine HM.out.mono ?_;rintro e w1 ⟨rfl,rfl⟩;go_upto_region 7 with fail;go_wp2_with (refine wH rfl _ _ 37 37 rfl _ _ 1 rfl rfl (ht.out _) ?_)
 clear hH HM;generalize w1.heap.size=g at*;have hh:=hu.out;have hg:=hs.out;rw[show ([x]:List Nat).map iv= [iv x]from rfl]at hh hg;clear hu hs ht;go_wp2_with fail;go_loopw [8] (fun kv wx=>∃k:Nat,1<=k/\k<=n/\kv=.int .i64 k/\az wx g g n n (fun j=>if j<k then x else 0)/\Below g w1 wx) (fun kv _=>n-(intOf kv).toNat)
 case atStart=>exact⟨1,Nk _,h1,rfl,hh,hg⟩
 case round=>
  clear hh hg;rename World=>w2;obtain⟨k,hF,hk,rfl,hf,hb⟩:=hrel;by_cases e:k<n
  ·obtain⟨m,hm⟩:∃m,m=min (n-k) k:=⟨_,rfl⟩;have h8:=fun ty=>I6 w2.drew g g n k m _ (hf.drew 1) e hF hm ty;have hz:cN m (fun j=>if j<k then x else 0)=(List.replicate m x).map iv:=(by rw[cw m _ (fun _=>x) fun j hj=>Nf];unfold cN;rw[Qh,PI,NE]);rw[hz]at h8;have ha:=iB (List.replicate m x) k _ _ (hf.drew 1);have ho:Below g w1 (w2.drew.setCells g k ((List.replicate m x).map iv)):=lJ (ag _) _ _ _ hb.drew;have efn:(fun j=>if k<=j/\j<k+(List.replicate m x).length then(List.replicate m x).getD (j-k) 0 else if j<k then x else 0)=fun j=>if j<k+m then x else 0:=by
    funext j;rw[NA];by_cases e1:j<k;·rw[Nd,Nf e1,Nf]
    ·by_cases e2:j<k+m;·rw[Nf,Nf e2,Na,OP,Nf];rfl
     ·rw[Nd,Nd e1,Nd e2]
   rw[efn]at ha;obtain⟨km,hB⟩:∃km,km=k+m:=⟨_,rfl⟩;rw[<- hB]at ha;have hL:(k:Int)+(m:Int)=(km:Int):=(by omega);have hp:km<=n:=(by omega);have hG:k<km:=(by omega);have hJ:(0:Int)<=(k:Int):=(by omega);have hK:(k:Int)<=(n:Int):=(by omega);have hM:¬n=k:=(by omega);obtain⟨w3,hq⟩:∃w3,w3=w2.drew.setCells g k ((List.replicate m x).map iv):=⟨_,rfl⟩;rw[<- hq]at h8 ho;have hy:az w3 g g n n (fun j=>if j<km then x else 0):=(by rw[hq];exact ha);have he:=aa h8;have hE:=aa hy;have hD:=aa ho;clear h8 hz ha ho efn hf hb hB hm hq hy;go_upto_region 9 with fail;have hr:(Builtin.copy_ #[37,37] 3 #[.slice (some ⟨g,k,none⟩) (n-k) (n-k),.slice (some ⟨g,0,none⟩) k n]).run prog w2.drew=.ok (.int .i64 m) w3:=he.out _;go_region;go_wp2_with fail;go_roundw;case rel=>exact⟨km,by omega,hp,by go_num,hE.out,hD.out⟩
   case measure=>simp[intOf];omega
  ·obtain rfl:k=n:=(by omega);have h3:w2.ownsRow g 3 1 (.slice (some ⟨g,0,none⟩) k k) k (cN k fun j=>if j<k then x else 0):=hf;rw[cw k _ (fun _=>x) fun j hj=>Nf hj]at h3;have HE:=aa (HP.out g w2 (ag _) h3 hb);clear hf hb h3;go_wp2_with fail;exact HE.out
def kb(n T s t x:Nat):Nat:=if x<s then eO n T t x else 15
theorem Cw(w:World)(T n:Nat)(hC:1<=T)(hy:T<=6)(hG:3<=n)(hn:n<=258):
 Calls prog 85 #[.int .i64 T,.int .i64 n] w fun e w'=>e=.returned (.slice (some ⟨w.heap.size,0,none⟩) T T)/\dC w' w.heap.size w.heap.size T (fun t=>(List.range n).map (eO n T t))/\Below w.heap.size w w':=by
 have hA:=pU w T (by omega);have hh:=aa (BJ w w.heap.size T n (ag _) (by omega) (fun _=>0) (fun _ _=>15));have he:Hid (Below w.heap.size w (w.alloc (.cells (madeCells #[.slice none 0 0] T) 37))):=aa ((Nj _ _).alloc (ag _) _);go_enter func85,ntmps85;go_wp2_with fail;clear hA;go_loopw [6,12] (fun s6 tv wx=>∃(t:Nat) (G:Nat->Nat),t<=T/\tv=.int .i64 t/\gV wx w.heap.size w.heap.size T n t G (fun _ _=>15)/\Below w.heap.size w wx) (fun _ tv _=>T-(intOf tv).toNat)
 case atStart=>exact⟨0,fun _=>0,Ng _,rfl,hh.out,he.out⟩
 case round=>
  clear hh he;rename World=>w1;obtain⟨t,G,ht,rfl,hD,hb⟩:=hrel;by_cases e:t<T
  ·have hN:(0:Int)<=(t:Int):=(by omega);have hO:(t:Int)<(T:Int):=(by omega);have hr:=hD.lt;have hk:Below w1.heap.size w1 (w1.alloc (.cells #[.int .i64 15] 3)):=(Nj _ _).alloc (ag _) _;have HR:=aa (Af (w1.alloc (.cells #[.int .i64 15] 3)) (some ⟨w1.heap.size,0,none⟩) 1 15 n (JJ w1 [15]) (by omega) (by omega));have HD:=aa hD;have HB:=aa hb;have hg:=aa hk;have hv:(w1.alloc (.cells #[.int .i64 15] 3)).heap.size=w1.heap.size+1:=(by simp);have hi:=aa hv;clear hD hb hk hv;go_wp2_with fail;refine HR.out.mono ?_;rintro e w3 ⟨gN,rfl,hz,hf,hl⟩;have h3:=aq hg.out hl;have hp:=HD.out.push h3 (by rw[hi.out];omega) hf (by rw[hi.out]at hz;omega);have hE:w3.frozen? ⟨w.heap.size,t,none⟩=false:=(HD.out.step (an h3)).frozen t;have hm:∃v,w3.cell? ⟨w.heap.size,t,none⟩=some v:=(by have:=Oy (HD.out.step (an h3)).own t (by omega);rw[Np,NJ e]at this;exact⟨_,this⟩);obtain⟨v,hm⟩:=hm;have h4:=(aq HB.out h3).setCell (p:=⟨w.heap.size,t,none⟩) (ag _) (.slice (some ⟨gN,0,none⟩) n n)
   have HP:=aa (hp.same (D:=fun _ _=>15) fun j _=>by
    by_cases ej:j=t
    ·rw[Nf ej]
    ·rw[Nd ej])
   have h9:=aa h4;clear hp h4 hf hl h3 HR HD HB hg;go_wp2_with fail;go_roundw;case rel=>exact⟨t+1,_,by omega,by go_num,HP.out,h9.out⟩
   case measure=>simp[intOf];omega
  ·obtain rfl:T=t:=(by omega);have HD:=aa hD;have HB:=aa hb;have hr:=hD.lt;clear hD hb;go_wp2_with fail;(go_loopw [7,23] (fun s7 sv wx=>∃(s:Nat),s<=n/\sv=.int .i64 s/\gV wx w.heap.size w.heap.size T n T G (kb n T s)/\Below w.heap.size w wx) (fun _ sv _=>n-(intOf sv).toNat));case atStart=>refine⟨0,Ng _,rfl,HD.out.same fun j _=> ?_,HB.out⟩;funext x;unfold kb;rw[Nd]
   case round=>
    clear HD HB hr;rename World=>w4;obtain⟨s,hs,rfl,hD,hb⟩:=hrel;by_cases e2:s<n
    ·obtain⟨p,hp⟩:∃p:Nat,p=s*T:=⟨_,rfl⟩;have hI:(s:Int)*(T:Int)=(p:Int):=(by rw[hp];simp);have hH:p<=258*6:=(by rw[hp];exact RW (by omega) hy);obtain⟨q,hq⟩:∃q:Nat,q=p/n:=⟨_,rfl⟩;have ha:q<T:=(by rw[hq,hp];refine Nat.div_lt_of_lt_mul ?_;exact OV e2 (by omega));have hK:(p:Int)/(n:Int)=(q:Int):=(by rw[hq];simp);have hF:¬(n:Int)=0:=(by omega);have hJ:(0:Int)<=(q:Int):=(by omega);have hB:(q:Int)<(T:Int):=(by omega);have hL:(0:Int)<=(s:Int):=(by omega);have hM:(s:Int)<(n:Int):=(by omega);have c1:=hD.cell q ha ha;have h0:=hD.rows q ha;have c2:=h0.cell s e2;have f2:=h0.frozen s;have h7:=h0.set s 1;have h8:=hD.upd ha h7 ((ak.refl w.heap.size [G q] [] w4).set (p:=⟨G q,s,none⟩) h0.lt.1 (List.mem_singleton.2 rfl) _);have h4:=hb.setCell (p:=⟨G q,s,none⟩) h0.lt.1 (.int .i64 ((1:Nat):Int));have hc:s*T/n=q:=(by rw[<- hp,<-hq]);have h5:∀x,(if x=s then 1 else kb n T s q x)=kb n T (s+1) q x:=fun x=>by
      unfold kb eO;by_cases ex:x=s;·have h1:x<s+1:=(by omega);rw[Nf ex,Nf h1,ex,hc,Nf rfl]
      ·rw[Nd ex];by_cases ex2:x<s;·have h1:x<s+1:=(by omega);rw[Nf ex2,Nf h1]
       ·have h1:¬x<s+1:=(by omega);rw[Nd ex2,Nd h1]
     have h6:∀j x,j≠q->kb n T s j x=kb n T (s+1) j x:=fun j x ej=>by
      unfold kb eO;by_cases ex2:x<s;·have h1:x<s+1:=(by omega);rw[Nf ex2,Nf h1]
      ·rw[Nd ex2];by_cases ex:x=s;·have h1:x<s+1:=(by omega);have h2:¬q=j:=fun h=>ej h.symm;rw[Nf h1,ex,hc,Nd h2]
       ·have h1:¬x<s+1:=(by omega);rw[Nd h1]
     have HU:=aa (h8.same (D:=kb n T (s+1)) fun j hj=>by
      by_cases ej:j=q
      ·rw[Nf ej,ej]
       funext x
       exact h5 x
      ·rw[Nd ej]
       funext x
       exact h6 j x ej)
     have h9:=aa h4;obtain⟨gq,ho⟩:∃gq,gq=G q:=⟨_,rfl⟩;obtain⟨v2,hu⟩:∃v2:Nat,v2=kb n T s q s:=⟨_,rfl⟩;rw[<- ho]at c1 c2 f2 HU h9;rw[<- hu]at c2;clear hD hb h0 h7 h8 h4 hp hq ho hu hc h5 h6;go_wp2_with fail;go_roundw;case rel=>exact⟨s+1,by omega,by go_num,HU.out,h9.out⟩
     case measure=>simp[intOf];omega
    ·obtain rfl:n=s:=(by omega);have HE:=aa hD.tabW;have hw:=aa hb;clear hD hb;go_wp2_with fail;go_ret;refine⟨rfl,HE.out.same fun j _=> ?_,hw.out⟩;apply Oe;intro x hx;unfold kb;rw[Nf (List.mem_range.1 hx)]
abbrev Mb (bT bG:Nat):Value:=.func (.func 214) #[] #[.pointer (some ⟨bT,0,none⟩),.pointer (some ⟨bG,0,none⟩)]
theorem wm(w:World)(bT bG g T n:Nat)(C:Nat->List Nat)(hc:Blk w bT 41 #[.slice (some ⟨g,0,none⟩) T T])(hT:vv w g T C)(hn:n<=258)(hC:∀t,t<T->(C t).length=n/\∀x∈C t,x<=1000)
 (A:Option Addr) (m c:Nat) (G:List Nat) (hb:Blk w bG 37 #[.slice A m c]) (hG:aB w A m G) (hm:m<=50) (ha:∀x∈G,x<n) (t:Nat) (ht:t<T):
 Calls prog 214 #[.int .i64 t,.pointer (some ⟨bT,0,none⟩),.pointer (some ⟨bG,0,none⟩)] w fun e w'=>e=.returned (.int .i64 (fs (C t) G:Nat))/\∃d,w'=w.drewN d:=by
 have hj:=hG.1;have p0:w.cell? ⟨bT,0,none⟩=some (.slice (some ⟨g,0,none⟩) T T):=(ac hc 0).trans rfl;have p1:w.cell? ⟨bG,0,none⟩=some (.slice A m c):=(ac hb 0).trans rfl;obtain⟨A1,k1,he,h5,hf⟩:=hT t ht;have h4:=hC t ht;have h6:(C t).length=n:=h4.1;have h7:=aa h4.2;rw[h6]at he h5 hf;have HY:=aa h5;have HG:=aa hG;have hl:=aa ha;have h3:=aa hj;have h9:=aa h6;have hz:(0:Int)<=(t:Int):=by omega
 have hA:(t:Int)<(T:Int):=by omega
 obtain⟨K,hK⟩:∃K,K=C t:=⟨_,rfl⟩;rw[<- hK]at h7 HY h9 |-;clear hT hC hc hb hG ha hj h6 h4 h5 hK;go_enter func214,ntmps214;go_upto_region 1 with fail;go_quiet (fail);go_wp2_with fail;have p1b:(w.drewN nq).cell? ⟨bG,0,none⟩=some (.slice A m c):=p1;go_loopw [5,8,15] (fun sv s8 iv' wx=>∃(i s:Nat),i<=m/\iv'=.int .i64 i/\sv=.int .i64 s/\Hid (s=fs K (G.take i))/\s<=1000*i/\∃d,wx=w.drewN d) (fun _ _ iv' _=>m-(intOf iv').toNat)
 case atStart=>exact⟨0,0,Ng _,rfl,rfl,rfl,Ng _,nq,rfl⟩
 case round=>
  rename World=>w2;obtain⟨i,s,hi,rfl,rfl,hs,hv,h0⟩:=hrel;have h8:=aa h0;by_cases e2:i<m
  ·have hr:(0:Int)<=(i:Int):=(by omega);have hu:(i:Int)<(m:Int):=(by omega);obtain⟨gb,go,rfl,hh⟩:=HG.out.2 (by omega);have hx:=hh i e2
   have hq:G.getD i 0<n:=hl.out _ (by
    rw[Na,Nc (by rw[h3.out];exact e2)]
    exact NM _)
   have hk:fs K (G.take (i+1))=fs K (G.take i)+K.getD (G.getD i 0) 0:=(by rw[pP (by rw[h3.out];exact e2),wL]);generalize G.getD i 0=x at*;obtain⟨cb,co,rfl,hg⟩:=HY.out.2 (by omega);have hy:=hg x (by omega)
   have hE:K.getD x 0<=1000:=h7.out _ (by
    rw[Na,Nc (by rw[h9.out];exact hq)]
    exact NM _)
   generalize K.getD x 0=y at*;have q1:w2.cell? ⟨gb,go+i,none⟩=some (.int .i64 x):=(by obtain⟨d,rfl⟩:=h0;exact hx);have q2:w2.cell? ⟨cb,co+x,none⟩=some (.int .i64 y):=(by obtain⟨d,rfl⟩:=h0;exact hy);obtain⟨s2,h1⟩:∃s2:Nat,s2=s+y:=⟨_,rfl⟩;have hw:(s:Int)+(y:Int)=(s2:Int):=(by omega);have h2:s2<=1000*(i+1):=(by omega);have HS2:Hid (s2=fs K (G.take (i+1))):=aa (by rw[hk,h1,hs.out]);have hB:(0:Int)<=(x:Int):=(by omega);have hD:(x:Int)<(n:Int):=(by omega);have ho:=aa h2;have hp:s2<=60000:=(by omega);clear he hf hh hx hk hg hy h1 h0 h2 p0 p1 p1b;go_wp2_with fail;go_roundw;case rel=>exact⟨i+1,s2,by omega,by go_num,rfl,HS2,ho.out,h8.out⟩
   case measure=>simp[intOf];omega
  ·obtain rfl:i=m:=(by omega);have h1:=hs.out;rw[Nr (Oi h3.out)]at h1;subst h1;clear h0 hs;go_wp2_with fail;go_ret;exact⟨rfl,h8.out⟩
theorem zJ(w:World)(A B:Option Addr)(n c m d:Nat):
 Calls prog 181 #[.slice A n c,.slice B m d] w fun e w'=>e=.returned (Mb w.heap.size (w.heap.size+1))/\w'=(w.alloc (.cells #[.slice A n c] 41)).alloc (.cells #[.slice B m d] 37):=by go_enter func181,ntmps181;go_wp2_with fail;go_ret;exact⟨by simp[Mb],rfl⟩
theorem vz(w:World)(g T n:Nat)(C:Nat->List Nat)(hT:vv w g T C)(h1:1<=T)(hD:T<=6)(hn:n<=258)(hC:∀t,t<T->(C t).length=n/\∀x∈C t,x<=1000)
 (A:Option Addr) (m c:Nat) (G:List Nat) (hG:aB w A m G) (hm:m<=50) (hb:∀x∈G,x<n):
 Calls prog 140 #[.slice (some ⟨g,0,none⟩) T T,.slice A m c] w fun e w'=>e=.returned (.int .i64 (eU ((List.range T).map C) G:Nat))/\Below w.heap.size w w':=by
 have hh:Below w.heap.size w (w.alloc (.cells #[.slice (some ⟨g,0,none⟩) T T] 41)):=(Nj _ _).alloc (ag _) _;have hi:=aj w 41 #[.slice (some ⟨g,0,none⟩) T T];obtain⟨w0,he⟩:∃w0,w0=w.alloc (.cells #[.slice (some ⟨g,0,none⟩) T T] 41):=⟨_,rfl⟩;have hy:w0.heap.size=w.heap.size+1:=by rw[he];simp
 rw[<- he]at hh hi;have hc:Below w0.heap.size w0 (w0.alloc (.cells #[.slice A m c] 37)):=(Nj _ _).alloc (ag _) _;have h8:=aj w0 37 #[.slice A m c];have h0:=aO hc hi;have h7:=aq hh hc;obtain⟨w1,hl⟩:∃w1,w1=w0.alloc (.cells #[.slice A m c] 37):=⟨_,rfl⟩;rw[<- hl]at hc h8 h0 h7;have hg:=hT.below h7;have hf:=cF hG h7;rw[hy]at h8;have hB:=aa fun(t:Nat) (ht:t<T)=>wm w1 w.heap.size (w.heap.size+1) g T n C h0 hg hn hC A m c G h8 hf hm hb t ht;have h5:Hid (∀ d t,t<T->Calls prog 214 #[.int .i64 t,.pointer (some ⟨w.heap.size,0,none⟩),.pointer (some ⟨w.heap.size+1,0,none⟩)] (w1.drewN d) fun e w'=>e=.returned (.int .i64 (fs (C t) G:Nat))/\∃d2,w'=w1.drewN d2):=aa fun d t ht=>by have hd:Below w1.heap.size w1 (w1.drewN d):=ax (Nj _ _) d;refine(wm (w1.drewN d) w.heap.size (w.heap.size+1) g T n C h0 (hg.below hd) hn hC A m c G h8 (cF hf hd) hm hb t ht).mono ?_;rintro e w' ⟨rfl,d2,rfl⟩;exact⟨rfl,d+d2,by simp[World.drewN,OQ]⟩
 have HR:=aa (zJ w (some ⟨g,0,none⟩) A T T m c);rw[<- he,<-hl]at HR;have hz:=aa h7;obtain⟨p,hp⟩:∃p:Nat->Nat×Nat,p=lz ((List.range T).map C) G:=⟨_,rfl⟩;have h6:eU ((List.range T).map C) G=(p T).1:=by unfold eU;rw[hp];simp
 rw[h6];have h2:Hid (∀ t,t<T->p (t+1)=if t=0\/fs (C t) G<(p t).2 then(t,fs (C t) G)else p t):=aa fun t ht=>by rw[hp,lz,AQ C T t ht]
 have hu:∀t,t<T->fs (C t) G<=50000:=fun t ht=>by
  have h3:=Ev (C t) G 1000 (fun x hx=>(hC t ht).2 _ (by
   rw[Na,Nc (by rw[(hC t ht).1];exact hb x hx)]
   exact NM _))
  have h4:1000*G.length<=1000*50:=Q7 _ (by rw[hG.1];exact hm);omega
 have hq:=aa hu;have hr:Hid (p 1=(0,fs (C 0) G)):=aa (by rw[h2.out 0 (by omega),Nf (.inl rfl)]);clear hT hG hC hb hp h6 hu h0 h8 hg hf h7 he hl hy hh hi hc;generalize w.heap.size=g0 at*;go_enter func140,ntmps140;go_wp2_with fail;refine HR.out.mono ?_;rintro e w1 ⟨rfl,rfl⟩;go_wp2_with fail;refine(h5.out 0 0 (by omega)).mono ?_;rintro e w2 ⟨rfl,d1,rfl⟩;obtain⟨s0,hj⟩:∃s0,s0=fs (C 0) G:=⟨_,rfl⟩;rw[<- hj]at hr |-;have hk:s0<=50000:=by rw[hj];exact hq.out 0 (by omega)
 clear hj;go_wp2_with fail;go_loopw [6,7,8,9] (fun bv lv tv cv wx=>∃(t b l:Nat),1<=t/\t<=T/\tv=.int .i64 t/\bv=.int .i64 b/\lv=.int .i64 l/\l<=50000/\Hid (p t=(b,l))/\∃d,wx=w1.drewN d) (fun _ _ tv _ _=>T-(intOf tv).toNat)
 case atStart=>exact⟨1,0,s0,Nk _,h1,rfl,rfl,rfl,hk,hr,d1,rfl⟩
 case round=>
  rename World=>w3;obtain⟨t,b,l,hE,ht,rfl,rfl,rfl,hA,hv,hd⟩:=hrel;obtain⟨d,rfl⟩:=hd;by_cases e:t<T
  ·have h9:=h2.out t e;rw[hv.out]at h9;dsimp only at h9;have ho:=aa (h5.out d t e);have hw:=hq.out t e;obtain⟨s,hs⟩:∃s,s=fs (C t) G:=⟨_,rfl⟩;rw[<- hs]at h9 ho hw;have ha:=aa h9;clear hs h9;go_wp2_with fail;refine ho.out.mono ?_;rintro e w4 ⟨rfl,d4,rfl⟩;by_cases h3:s<l
   ·have HP:Hid (p (t+1)=(t,s)):=aa (by rw[ha.out,Nf (.inr h3)]);clear ha;go_wp2_with fail;go_roundw;case rel=>exact⟨t+1,t,s,by omega,by omega,by go_num,rfl,rfl,hw,HP,d4,rfl⟩
    case measure=>simp[intOf];omega
   ·have HP:Hid (p (t+1)=(b,l)):=aa (by rw[ha.out,Nd]);clear ha;go_wp2_with fail;go_roundw;case rel=>exact⟨t+1,b,l,by omega,by omega,by go_num,rfl,rfl,hA,HP,d4,rfl⟩
    case measure=>simp[intOf];omega
  ·obtain rfl:t=T:=(by omega);have HE:=aa (ax hz.out d);go_wp2_with fail;go_ret;exact⟨by rw[hv.out];rfl,HE.out⟩
