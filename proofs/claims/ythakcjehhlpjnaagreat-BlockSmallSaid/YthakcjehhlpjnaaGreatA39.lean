import Derived.Test.YthakcjehhlpjnaaGreatA38
set_option maxHeartbeats 6400000
set_option maxRecDepth 100000
namespace Go.Proofs.YthakcjehhlpjnaaGreat
open Go.RowKit
theorem yP(w:World)(v:Value)(T:List (List Int))(P:List Int)(h:aZ w v T P)(hM:¬cB T P):
 Calls Tryz.prog 22 #[v] w (aW w (eh T P)):=by
 rw[show eh T P=([],110)from if_neg hM]
 obtain⟨A,q,c,B,m,d,rfl,_⟩:=id h
 have h4:Below w.heap.size w (w.alloc (.cells #[.slice A q c,.slice B m d] 52)):=(Below.refl _ _).alloc (ah _) _
 have h7:=ag w 52 #[.slice A q c,.slice B m d]
 obtain⟨w1,h2⟩:∃w1,w1=w.alloc (.cells #[.slice A q c,.slice B m d] 52):=⟨_,rfl⟩
 have he:w1.heap.size=w.heap.size+1:=by rw[h2];simp
 rw[← h2]at h4 h7
 have h5:Below w1.heap.size w1 (w1.alloc (.cells #[.string ⟨#[]⟩,.int .i64 0] 24)):=(Below.refl _ _).alloc (ah _) _
 have hc:=aM h5 h7
 have h8:=ag w1 24 #[.string ⟨#[]⟩,.int .i64 0]
 rw[he]at h8
 have h0:=ao h4 h5
 have HM:=aa (cG _ _ T P (h.below h0))
 rw[decide_eq_false hM]at HM
 have h3:=aa hc
 have ha:=aa h8
 have h9:=aa h0
 have hb:=aa h2.symm
 clear h hM h4 h7 h5 hc h8 h0 he h2
 go_enter Tryz.func22,Tryz.ntmps22
 go_upto_region 1 with fail
 rw[hb.out]
 generalize w1.alloc (.cells #[.string ⟨#[]⟩,.int .i64 0] 24)=w2 at*
 clear hb
 have p0:w2.cell? ⟨w.heap.size,0,none⟩=some (.slice A q c):=(ac h3.out 0).trans rfl
 have p1:w2.cell? ⟨w.heap.size,1,none⟩=some (.slice B m d):=(ac h3.out 1).trans rfl
 go_wp2_with fail
 refine HM.out.mono ?_
 rintro e w3 ⟨rfl,h6⟩
 have h1:=aM h6 ha.out
 have q0:=(ac h1 0).trans (rfl:_=some (Value.string ⟨#[]⟩))
 have q1:=(ac h1 1).trans (rfl:_=some (Value.int .i64 0))
 have f0:=ae h1 0
 have f1:=ae h1 1
 have hf:=aa (ao h9.out h6)
 clear h1 h6 ha h3 h9 HM p0 p1
 go_wp2_with fail
 refine bodyPost_ret (v:=.tuple #[.agg #[.string ⟨#[]⟩,.int .i64 0],.int .i64 110]) ?_ rfl ⟨rfl,(hf.out.setCell (p:=⟨w.heap.size+1,0,none⟩) (Nat.le_succ _) _).setCell (p:=⟨w.heap.size+1,1,none⟩) (Nat.le_succ _) _⟩
 simp[results,Tryz.results22,go_sem,q0,q1]
theorem yA(w:World)(v:Value)(T:List (List Int))(P:List Int)(h:aZ w v T P)(hM:cB T P):
 Calls Tryz.prog 22 #[v] w (aW w (eh T P)):=by
 obtain⟨A,q,c,B,m,d,rfl,hT,r4,hq,hP,r3,hm⟩:=id h
 have hL:=hT.1
 have q2:=hP.1
 have h5:2≤q∧q≤6:=by have h1:=hM.1;have h2:=hM.2.1;omega
 have hr:1≤m∧m≤32767:=by have h1:=hM.2.2.1;have h2:=hM.2.2.2.1;omega
 have H1:∀x∈P,0≤x∧x<(q:Int):=fun x hx=>by rw[← hL];exact hM.2.2.2.2.2.1 x hx
 have H2:∀t∈T,bL t:=fun t ht=>(hM.2.2.2.2.1 t ht).2
 obtain⟨H,hH⟩:∃H,H=aj q 3++aj m 15++aH (List.range q) (nl P):=⟨_,rfl⟩
 have HB:(nl P).length=m:=by unfold nl;rw[List.length_map,q2]
 have hA:∀x∈nl P,x<q:=by
  intro x hx
  unfold nl at hx
  obtain⟨y,hy,rfl⟩:=List.mem_map.1 hx
  have:=H1 y hy
  omega
 have ho:eh T P=(H++(T.map nl).flatMap aX,0):=by
  unfold eh gg
  rw[if_pos hM,List.length_map,hL,HB,rY h5.2 (nl P) hA,hH]
 rw[ho]
 have pb:aw H:=by rw[hH];exact((aJ 3 q).append (aJ 15 m)).append (jU _ _)
 have pf:H.length≤200000:=by
  rw[hH,List.length_append,List.length_append,af,af]
  have:=kB (nl P) (List.range q) q (by simp) (fun x hx=>List.mem_range.2 (hA x hx))
  rw[HB]at this
  have h2:q*m≤6*32767:=Nat.mul_le_mul h5.2 hr.2
  omega
 have pj:((T.map nl).flatMap aX).length≤11000*T.length:=kY T fun t ht=>jz (H2 t ht)
 have H7:aT w B m (nl P):=eZ hP fun x hx=>(H1 x hx).1
 have pg:∀a,B=some a→a.block<w.heap.size:=fun a ha=>by
  obtain⟨b,off,he,hc⟩:=H7.2 hr.1
  rw[he]at ha
  cases ha
  exact World.block_lt_of_cell? w _ (hc 0 hr.1)
 have H3:Below w.heap.size w (w.alloc (.cells #[.slice A q c,.slice B m d] 52)):=(Below.refl _ _).alloc (ah _) _
 have H8:=ag w 52 #[.slice A q c,.slice B m d]
 obtain⟨w1,hO⟩:∃w1,w1=w.alloc (.cells #[.slice A q c,.slice B m d] 52):=⟨_,rfl⟩
 have q9:w1.heap.size=w.heap.size+1:=by rw[hO];simp
 rw[← hO]at H3 H8
 have H4:Below w1.heap.size w1 (w1.alloc (.cells #[.string ⟨#[]⟩,.int .i64 0] 24)):=(Below.refl _ _).alloc (ah _) _
 have pr:=aM H4 H8
 have HC:=ag w1 24 #[.string ⟨#[]⟩,.int .i64 0]
 rw[q9]at HC
 have h9:=ao H3 H4
 have HM:=aa (cG _ _ T P (h.below h9))
 rw[decide_eq_true hM]at HM
 have HT:=aa fun(w1:World) (hb:Below w.heap.size w w1)=>hT.below hb
 have HN:=aa fun(w1:World) (hb:Below w.heap.size w w1)=>cU H7 hb
 have HR:=aa pg
 have HS:=aa hA
 have qb:=aa pb
 have ql:=aa pf
 have HL:=aa hH
 have qs:=aa pj
 have qo:=aa H2
 have hz:=aa hL
 have hw:=aa pr
 have HW:=aa HC
 have HH:=aa h9
 have p3:=aa hO.symm
 have HU:Hid (∀ w' X,X=H++(T.map nl).flatMap aX→Below w.heap.size w w'→aW w (H++(T.map nl).flatMap aX,0) (.returned (.tuple #[.agg #[.string ⟨(aG X).toArray⟩,.int .i64 X.length],.int .i64 0])) w'):=aa fun w' X hX hb=>by
  rw[hX]
  exact⟨rfl,hb⟩
 generalize aW w (H++(T.map nl).flatMap aX,0)=PO at*
 clear h hM H3 H8 H4 pr HC h9 q9 hO hT hP q2 H1 H2 hH HB hA ho pb pf pj H7 pg hL
 go_enter Tryz.func22,Tryz.ntmps22
 go_upto_region 1 with fail
 rw[p3.out]
 generalize w1.alloc (.cells #[.string ⟨#[]⟩,.int .i64 0] 24)=w2 at*
 clear p3
 have p0:w2.cell? ⟨w.heap.size,0,none⟩=some (.slice A q c):=(ac hw.out 0).trans rfl
 have p1:w2.cell? ⟨w.heap.size,1,none⟩=some (.slice B m d):=(ac hw.out 1).trans rfl
 go_wp2_with fail
 refine HM.out.mono ?_
 rintro e w3 ⟨rfl,hD⟩
 have hU:=aa (aM hD hw.out)
 have hW:=aa (aM hD HW.out)
 have hv:=aa (ao HH.out hD)
 clear hD HW hw HH HM p0 p1
 go_wp2_with fail
 refine(BW w3).mono ?_
 rintro e w4 ⟨rfl,HF⟩
 have pk:IsW w3.heap.size w4 w3.heap.size (.slice none 0 0) []:=by rw[HF];exact lC w3 w3.heap.size (ah _)
 have hE:Below w3.heap.size w3 w4:=cn HF
 have hJ:=aM hE hU.out
 have q4:=aM hE hW.out
 have hg:=ao hv.out hE
 have p0:w4.cell? ⟨w.heap.size,0,none⟩=some (.slice A q c):=(ac hJ 0).trans rfl
 have p1:w4.cell? ⟨w.heap.size,1,none⟩=some (.slice B m d):=(ac hJ 1).trans rfl
 have H0:=si w3.heap.size w4 w3.heap.size _ [] pk (by simp) A q c B m d (nl P) (HN.out w4 hg) (fun a ha=>Nat.lt_of_lt_of_le (HR.out a ha) hv.out.size) h5.1 h5.2 hr.1 hr.2 HS.out
 rw[List.nil_append,←HL.out]at H0
 have HV:=aa H0
 have HO:=aa hJ
 have HX:=aa q4
 have HI:=aa hg
 have HA:w.heap.size<w3.heap.size:=aA hU.out
 have hp:w.heap.size+1<w3.heap.size:=aA hW.out
 have HD:w.heap.size≤w3.heap.size:=hv.out.size
 clear HF pk hE hJ q4 hg H0 hU hW hv HR HS HL
 generalize w3.heap.size=p at*
 go_wp2_with fail
 refine HV.out.mono ?_
 rintro e w5 ⟨rfl,⟨v5,hC⟩,hB⟩
 have ps:=(hB.below.block w.heap.size HA).trans HO.out
 have q5:=(hB.below.block (w.heap.size+1) hp).trans HX.out
 have hh:=HI.out.trans (hB.below.mono HD)
 have p0:w5.cell? ⟨w.heap.size,0,none⟩=some (.slice A q c):=(ac (show Blk w5 w.heap.size _ _ from ps) 0).trans rfl
 have p2:=aa (ig p w5 p v5 H hC)
 have HP:=aa (jQ w5 p (H.length:Nat) (by have:=ac hC.blk 0;simpa using this) (by have:=ac hC.blk 2;simpa using this))
 have hY:Hid (Blk w5 (w.heap.size+1) 24 #[.string ⟨#[]⟩,.int .i64 0]):=aa q5
 have hQ:=aa hh
 have HY:=aa (HT.out w5 hh)
 clear hC hB ps q5 hh HV HO HX HI HT HN p1
 go_wp2_with fail
 refine p2.out.mono ?_
 rintro e w5 ⟨rfl,rfl⟩
 go_wp2_with fail
 refine HP.out.mono ?_
 rintro e w5 ⟨rfl,rfl⟩
 clear p2 HP
 have hl:=aa (He w5 w5.heap.size (ah _) H qb.out)
 have hR:Hid (Below w5.heap.size w5 (w5.alloc (.cells #[.string ⟨(aG H).toArray⟩,.int .i64 H.length] 24))):=aa ((Below.refl _ _).alloc (ah _) _)
 have p0':(w5.alloc (.cells #[.string ⟨(aG H).toArray⟩,.int .i64 H.length] 24)).cell? ⟨w.heap.size,0,none⟩=some (.slice A q c):=(hR.out.cell (p:=⟨w.heap.size,0,none⟩) (World.block_lt_of_cell? w5 _ p0)).trans p0
 obtain⟨tb,tq,rfl,q8⟩:=HY.out.2 (by omega)
 have HZ:=aa q8
 have r0:w.heap.size+1<w5.heap.size:=aA hY.out
 clear q8 HY
 go_upto_region 6 with fail
 generalize w5.alloc (.cells #[.string ⟨(aG H).toArray⟩,.int .i64 H.length] 24)=w6 at*
 go_wp2_with fail
 go_loopw [5,7,8,9,27] (fun pv s7 s8 s9 iv' wx=>∃(i:Nat) (A9:Option Addr) (c9:Nat),i≤q∧iv'=.int .i64 i∧pv=.slice A9 (i+1) c9∧Pcs wx w5.heap.size (.slice A9 (i+1) c9) (H :: ((T.map nl).map aX).take i)∧Below w5.heap.size w5 wx) (fun _ _ _ _ iv' _=>q - (intOf iv').toNat)
 case atStart=>
  refine⟨0,_,_,Nat.zero_le _,rfl,rfl,?_,hR.out⟩
  rw[List.take_zero]
  exact hl.out
 case round=>
  clear hl hR p0 p0'
  rename World=>wx
  obtain⟨i,A9,c9,hi,rfl,rfl,hs,hk⟩:=hrel
  by_cases e:i<q
  ·have di:decide ((i:Int)<(q:Int))=true:=aC (by omega)
   have r1:(0:Int)≤(i:Int):=by omega
   have r2:(i:Int)<(q:Int):=by omega
   obtain⟨A2,c2,h1,h2,_,h4⟩:=HZ.out i e
   have H6:i<T.length:=by rw[hz.out];exact e
   have c1:wx.cell? ⟨tb,tq+i,none⟩=some (.slice A2 (T.getD i []).length c2):=(hk.cell (p:=⟨tb,tq+i,none⟩) (World.block_lt_of_cell? w5 _ h1)).trans h1
   have hN:=S10.nU wx A2 (T.getD i []).length c2 (T.getD i []) (h2.below hk) h4
   have po:DOk (T.getD i []):=jz (qo.out _ (lT T i H6))
   rw[show iX (T.getD i [])=(aX (nl (T.getD i [])),0)from if_pos po]at hN
   obtain⟨X,hX⟩:∃X,X=aX (nl (T.getD i [])):=⟨_,rfl⟩
   rw[← hX]at hN
   have pl:aw X:=by
    rw[hX]
    exact tu _
   have h8:H :: ((T.map nl).map aX).take (i+1)=(H :: ((T.map nl).map aX).take i)++ [X]:=by
    rw[List.take_succ_eq_append_getElem (by simp;exact H6),List.getElem_map,List.getElem_map,hX,List.getD_eq_getElem?_getD,List.getElem?_eq_getElem H6]
    rfl
   have HQ:=aa h8
   have p5:=aa pl
   have hZ:=aa hN
   have hl:=aa hs
   have h7:=aa hk
   obtain⟨tl,htl⟩:∃tl,tl=(T.getD i []).length:=⟨_,rfl⟩
   rw[← htl]at c1 hZ
   have HE:tl≤maxLen:=by rw[htl];exact h4
   unfold maxLen at HE
   clear h1 h2 h4 hN po hX pl h8 hs hk htl
   go_wp2_with fail
   refine hZ.out.mono ?_
   rintro e w7 ⟨rfl,hF⟩
   have hG:Below w7.heap.size w7 (w7.alloc (.cells #[.string ⟨(aG X).toArray⟩,.int .i64 X.length] 24)):=(Below.refl _ _).alloc (ah _) _
   have hK:=ag w7 24 #[.string ⟨(aG X).toArray⟩,.int .i64 X.length]
   obtain⟨w8,HG⟩:∃w8,w8=w7.alloc (.cells #[.string ⟨(aG X).toArray⟩,.int .i64 X.length] 24):=⟨_,rfl⟩
   rw[← HG]at hG hK
   have hu:=(hl.out.below hF).below hG
   have hf:=(ao h7.out hF).trans (hG.mono (Nat.le_trans h7.out.size hF.size))
   obtain⟨v9,w9,h6,h0,hj⟩:=rS w8 w5.heap.size (.slice A9 (i+1) c9) _ X hu hf.size (by simp;omega) p5.out
   rw[← HQ.out]at h0
   have q3:(H :: ((T.map nl).map aX).take (i+1)).length=i+1+1:=by simp;omega
   obtain⟨A3,c3,rfl,_,_,_⟩:=aq h0.own
   rw[q3]at h0 h6
   have x0:=(ac hK 0).trans (rfl:_=some (Value.string ⟨(aG X).toArray⟩))
   have x1:=(ac hK 1).trans (rfl:_=some (Value.int .i64 X.length))
   have qm:=aa h6
   have hV:=aa h0
   have qa:=aa (hf.trans hj)
   have p4:=aa HG.symm
   clear hF hG hK HG hu hf h6 h0 hj q3 hZ hl h7 HQ p5
   go_upto_region 10 with fail
   rw[p4.out]
   clear p4
   generalize w7.heap.size=g8 at*
   go_wp2_with (at_builtin;refine Lib.wpList_append_run _ rfl (.tmp 36) (.tmp 38) 111 111 rfl (.slice A9 (i+1) c9) (.slice (some ⟨w8.heap.size,0,none⟩) 1 1) rfl rfl _ w9 qm.out ?_)
   go_roundw
   case rel=>exact⟨i+1,A3,c3,by omega,by go_num,rfl,hV.out,qa.out⟩
   case measure=>simp[intOf];omega
  ·obtain rfl:i=q:=by omega
   have di:decide ((i:Int)<(i:Int))=false:=au (by omega)
   have hn:(H :: ((T.map nl).map aX).take i)=H :: (T.map nl).map aX:=by
    rw[List.take_of_length_le (by have:=hz.out;simp;omega)]
   rw[hn]at hs
   have hI:(H :: (T.map nl).map aX).flatten=H++(T.map nl).flatMap aX:=by
    rw[List.flatten_cons,List.flatMap_def]
   have H5:(H :: (T.map nl).map aX).flatten.length≤1000000:=by
    rw[hI,List.length_append]
    have h1:=ql.out
    have h2:=qs.out
    have h3:=hz.out
    have h4:11000*T.length≤11000*6:=Nat.mul_le_mul_left _ (by omega)
    omega
   have HJ:=aa (rz wx w5.heap.size (.slice A9 (i+1) c9) _ hs (by simp;have:=hz.out;omega) (by omega))
   obtain⟨X,hX⟩:∃X,X=(H :: (T.map nl).map aX).flatten:=⟨_,rfl⟩
   rw[← hX]at HJ hI
   have HK:=aa hI
   have h7:=aa hk
   clear hs hk hn hI H5 hX
   go_wp2_with fail
   refine HJ.out.mono ?_
   rintro e w9 ⟨rfl,hj⟩
   have h6:=(an hj).blk ((h7.out.block (w.heap.size+1) r0).trans hY.out) az az
   have q0:=(ac h6 0).trans (rfl:_=some (Value.string ⟨#[]⟩))
   have q1:=(ac h6 1).trans (rfl:_=some (Value.int .i64 0))
   have f0:=ae h6 0
   have f1:=ae h6 1
   have pm:=(ao hQ.out h7.out).trans (hj.mono (Nat.le_trans hQ.out.size h7.out.size))
   have hS:=aa (HU.out _ X HK.out ((pm.setCell (p:=⟨w.heap.size+1,0,none⟩) (Nat.le_succ _) (.string ⟨(aG X).toArray⟩)).setCell (p:=⟨w.heap.size+1,1,none⟩) (Nat.le_succ _) (.int .i64 X.length)))
   clear h6 hj pm HJ HK h7 HU hY hQ HZ
   go_wp2_with fail
   refine bodyPost_ret (v:=.tuple #[.agg #[.string ⟨(aG X).toArray⟩,.int .i64 X.length],.int .i64 0]) ?_ rfl hS.out
   simp[results,Tryz.results22,go_sem,q0,q1]
theorem qp(w:World)(v:Value)(T:List (List Int))(P:List Int)(h:aZ w v T P):
 Calls Tryz.prog 22 #[v] w (aW w (eh T P)):=by
 by_cases hM:cB T P
 ·exact yA w v T P h hM
 ·exact yP w v T P h hM
theorem DL(w:World)(v:Value)(T:List (List Int))(P:List Int)(h:aZ w v T P)(A':Option Addr)(n' c':Nat)(L:List Int)(hL:ZIn w A' n' L)(hu:n'≤c')(hq:n'≤2000000):
 Calls Tryz.prog 59 #[v,.slice A' n' c'] w fun e w'=>e=.returned (.tuple #[.int .i64 (eE T P L).1,.int .i64 (eE T P L).2])∧Below w.heap.size w w':=by
 obtain⟨A,n,c,B,m,d,rfl,hl⟩:∃A n c B m d,v=.agg #[.slice A n c,.slice B m d]∧aZ w (.agg #[.slice A n c,.slice B m d]) T P:=by
  obtain⟨A,n,c,B,m,d,hv,hr⟩:=id h
  exact⟨A,n,c,B,m,d,hv,by rw[← hv];exact h⟩
 clear h
 obtain⟨w1,hj⟩:∃w1,w1=w.alloc (.cells #[.slice A n c,.slice B m d] 52):=⟨_,rfl⟩
 have hi:Blk w1 w.heap.size 52 #[.slice A n c,.slice B m d]:=fh hj
 have ha:Below w.heap.size w w1:=cn hj
 have hs:w.heap.size<w1.heap.size:=aA hi
 have HQ:Hid (∀ wx,Below w1.heap.size w1 wx→wx.cell? ⟨w.heap.size,0,none⟩=some (.slice A n c)∧wx.cell? ⟨w.heap.size,1,none⟩=some (.slice B m d)):=aa fun wx h=>
  ⟨(h.cell (p:=⟨w.heap.size,0,none⟩) hs).trans ((ac hi 0).trans rfl),(h.cell (p:=⟨w.heap.size,1,none⟩) hs).trans ((ac hi 1).trans rfl)⟩
 have hg:=aa (vF w1 _ T P (hl.below ha) A' n' c' L (hL.below ha) hu hq)
 have hk:=aa fun(wx:World) (hb:Below w1.heap.size w1 wx)=>qp wx _ T P ((hl.below ha).below hb)
 have h5:=gL T P L (by rw[hL.1];exact hq)
 have h2:=iV T P
 have hf:=wW T P L
 have h1:eE T P L=if(bw T P L).2=0 then((eh T P).1.length+(bw T P L).1.length,0)else(0,(bw T P L).2):=rfl
 have h8:=aa ha
 have hh:=aa hj
 obtain⟨p0,p1⟩:=HQ.out _ (Below.refl _ _)
 generalize eE T P L=ans at*
 generalize bw T P L=cs at*
 generalize eh T P=bs at*
 obtain⟨cl,ck⟩:=cs
 obtain⟨bl,bk⟩:=bs
 dsimp only at h5 h2 hf h1
 clear hl hL hi ha hj
 by_cases h0:ck=0
 ·subst h0
  rw[if_pos rfl]at h1
  have h3:=aa h1
  clear h1
  go_enter Tryz.func59,Tryz.ntmps59
  go_upto_region 1 with fail
  rw[← hh.out]
  clear hh
  go_wp2_with fail
  refine hg.out.mono ?_
  rintro e w3 ⟨rfl,h7⟩
  (try dsimp only)
  have hc:Below w3.heap.size w3 (w3.alloc (.cells #[.string ⟨(aG cl).toArray⟩,.int .i64 (cl.length:Nat)] 24)):=(Below.refl _ _).alloc (ah _) _
  have hm:=aa (ag w3 24 #[.string ⟨(aG cl).toArray⟩,.int .i64 (cl.length:Nat)])
  have h6:=aa (ao h7 hc)
  clear h7 hc hg p0 p1
  go_upto_region 2 with fail
  generalize w3.alloc (.cells #[.string ⟨(aG cl).toArray⟩,.int .i64 (cl.length:Nat)] 24)=w4 at*
  generalize w3.heap.size=g6 at*
  obtain⟨p0,p1⟩:=HQ.out _ h6.out
  have h9:=aa (hk.out _ h6.out)
  go_wp2_with fail
  refine h9.out.mono ?_
  rintro e w5 ⟨rfl,hn⟩
  (try dsimp only)
  have he:Below w5.heap.size w5 (w5.alloc (.cells #[.string ⟨(aG bl).toArray⟩,.int .i64 (bl.length:Nat)] 24)):=(Below.refl _ _).alloc (ah _) _
  have h4:=ao hn he
  have ho:=aM h4 hm.out
  have hp:=ag w5 24 #[.string ⟨(aG bl).toArray⟩,.int .i64 (bl.length:Nat)]
  have x1:=(ac ho 1).trans (rfl:_=some (Value.int .i64 (cl.length:Nat)))
  have y1:=(ac hp 1).trans (rfl:_=some (Value.int .i64 (bl.length:Nat)))
  have ht:=aa (h8.out.trans ((ao h6.out h4).mono h8.out.size))
  clear hn he h4 ho hp h9 hm h6 p0 p1 hk HQ
  go_upto_region 5 with fail
  generalize w5.alloc (.cells #[.string ⟨(aG bl).toArray⟩,.int .i64 (bl.length:Nat)] 24)=w6 at*
  generalize w5.heap.size=g8 at*
  generalize bl.length=K at*
  generalize cl.length=M at*
  go_wp2_with fail
  go_ret2
  exact⟨by rw[h3.out];rfl,ht.out⟩
 ·have d0:((ck:Int) != 0)=true:=by
   rw[bne_iff_ne]
   omega
  rw[if_neg h0]at h1
  have h3:=aa h1
  clear h1 h0
  go_enter Tryz.func59,Tryz.ntmps59
  go_upto_region 1 with fail
  rw[← hh.out]
  clear hh
  go_wp2_with fail
  refine hg.out.mono ?_
  rintro e w3 ⟨rfl,h7⟩
  (try dsimp only)
  have h6:=aa (h8.out.trans ((h7.alloc h7.size (.cells #[.string ⟨(aG cl).toArray⟩,.int .i64 (cl.length:Nat)] 24)).mono h8.out.size))
  clear h7 hg p0 p1 hk HQ h8
  go_upto_region 2 with fail
  generalize w3.alloc (.cells #[.string ⟨(aG cl).toArray⟩,.int .i64 (cl.length:Nat)] 24)=w4 at*
  go_wp2_with fail
  go_ret2
  exact⟨by rw[h3.out];rfl,h6.out⟩
structure fC (w:World) (B g T n t:Nat) (G:Nat→Nat) (C:Nat→Nat→Nat):Prop where
 own:w.ownsRow B 36 1 (.slice (some ⟨g,0,none⟩) T T) T ((List.range T).map fun j=>if j<t then .slice (some ⟨G j,0,none⟩) n n else .slice none 0 0)
 rows:∀j,j<t→aB w B (G j) n n (C j)
 ne:∀i j,i<t→j<t→i≠j→G i≠G j
theorem xo(w:World)(B T n:Nat)(hB:B≤w.heap.size)(hT:T≤1000)(G:Nat→Nat)(C:Nat→Nat→Nat):fC (w.alloc (.cells (madeCells #[.slice none 0 0] T) 36)) B w.heap.size T n 0 G C:=by
 refine⟨?_,fun j hj=>absurd hj (Nat.not_lt_zero _),fun i _ hi=>absurd hi (Nat.not_lt_zero _)⟩
 have h:=(yc w B T hB hT).own
 have e:(fun j:Nat=>if j<0 then(.slice (some ⟨G j,0,none⟩) n n:Value)else .slice none 0 0)=fun _=>.slice none 0 0:=by
  funext j
  rw[if_neg (Nat.not_lt_zero _)]
 rw[e]
 exact h
section
variable {w w':World} {B g T n t:Nat} {G:Nat→Nat} {C:Nat→Nat→Nat}
theorem fC.g_ne(h:fC w B g T n t G C){j:Nat}(hj:j<t):G j≠g:=by
 intro e
 obtain⟨c1,f1,e1⟩:=Lib.ownsRow_kind (h.rows j hj) (G j) rfl
 obtain⟨c2,f2,e2⟩:=Lib.ownsRow_kind h.own g rfl
 rw[e,e2]at e1
 simp at e1
theorem fC.cell(h:fC w B g T n t G C)(j:Nat)(hj:j<t)(hT:j<T):w.cell? ⟨g,j,none⟩=some (.slice (some ⟨G j,0,none⟩) n n):=by
 rw[World.ownsRow.cellAt h.own j (by omega),List.getElem?_map,List.getElem?_range hT]
 show some (if j<t then _ else _)=_
 rw[if_pos hj]
theorem fC.frozen(h:fC w B g T n t G C)(j:Nat):w.frozen? ⟨g,j,none⟩=false:=World.ownsRow.frozenAt h.own j
theorem fC.lt(h:fC w B g T n t G C):B≤g∧g<w.heap.size:=World.ownsRow.lt h.own g rfl
theorem fC.step{B':Nat}(h:fC w B g T n t G C)(hs:ai B' [] [] w w'):fC w' B g T n t G C:=
 ⟨hs.row h.own (fun _ _=>az) az,fun j hj=>hs.row (h.rows j hj) (fun _ _=>az) az,h.ne⟩
theorem fC.same(h:fC w B g T n t G C){D:Nat→Nat→Nat}(hd:∀j,j<t→C j=D j):fC w B g T n t G D:=
 ⟨h.own,fun j hj=>by rw[← hd j hj];exact h.rows j hj,h.ne⟩
theorem fC.push{B2 gN:Nat}{f:Nat→Nat}(h:fC w B g T n t G C)(hb:Below w.heap.size w w')(h4:B≤B2)(hf:aB w' B2 gN n n f)(hg:w.heap.size≤gN):
 fC (w'.setCell ⟨g,t,none⟩ (.slice (some ⟨gN,0,none⟩) n n)) B g T n (t+1) (fun j=>if j=t then gN else G j) (fun j=>if j=t then f else C j):=by
 have h2:=h.step (an hb)
 have h5:=h.lt
 have h3:=World.ownsRow.stored h2.own t (.slice (some ⟨gN,0,none⟩) n n)
 have h0:((List.range T).map fun j=>if j<t then(.slice (some ⟨G j,0,none⟩) n n:Value)else .slice none 0 0).set t (.slice (some ⟨gN,0,none⟩) n n)=(List.range T).map fun j=>if j<t+1 then(.slice (some ⟨if j=t then gN else G j,0,none⟩) n n)else .slice none 0 0:=by
  apply List.ext_getElem?
  intro j
  rw[List.getElem?_set]
  by_cases e:t=j
  ·subst e
   by_cases hj:t<T
   ·simp[hj]
   ·simp[hj]
  ·have e':¬j=t:=fun k=>e k.symm
   rw[if_neg e,List.getElem?_map,List.getElem?_map]
   by_cases hj:j<T
   ·rw[List.getElem?_range hj]
    by_cases e3:j<t
    ·have:j<t+1:=by omega
     simp[e',e3,this]
    ·have:¬j<t+1:=by omega
     simp[e3,this]
   ·rw[List.getElem?_eq_none (by rw[List.length_range];omega)]
    rfl
 rw[h0]at h3
 have h1:∀(B3 k:Nat) (f3:Nat→Nat),aB w' B3 k n n f3→g≠k:=by
  intro B3 k f3 hk e
  obtain⟨c1,f1,e1⟩:=Lib.ownsRow_kind hk k rfl
  obtain⟨c2,f2,e2⟩:=Lib.ownsRow_kind h2.own g rfl
  rw[← e,e2]at e1
  simp at e1
 refine⟨h3.1,fun j hj=> ?_,fun i j hi hj hij=> ?_⟩
 ·by_cases e:j=t
  ·simp only[if_pos e]
   exact aB.other (World.ownsRow.mono hf h4) (h1 _ _ _ hf) t _
  ·simp only[if_neg e]
   have hr:=h2.rows j (by omega)
   exact aB.other hr (h1 _ _ _ hr) t _
 ·by_cases e:i=t
  ·rw[if_pos e,if_neg (by omega)]
   have:=(h.rows j (by omega)).lt
   omega
  ·rw[if_neg e]
   by_cases e2:j=t
   ·rw[if_pos e2]
    have:=(h.rows i (by omega)).lt
    omega
   ·rw[if_neg e2]
    exact h.ne i j (by omega) (by omega) hij
theorem fC.upd{B' j:Nat}{f:Nat→Nat}(h:fC w B g T n t G C)(hj:j<t)(hf:aB w' B (G j) n n f)(hs:ai B' [G j] [] w w'):fC w' B g T n t G (fun i=>if i=j then f else C i):=by
 refine⟨hs.row h.own (fun k hk=> ?_) az,fun i hi=> ?_,h.ne⟩
 ·simp[Value.ownBlock]at hk
  rw[List.mem_singleton,←hk]
  exact fun e=>h.g_ne hj e.symm
 ·by_cases e:i=j
  ·simp only[if_pos e]
   rw[e]
   exact hf
  ·simp only[if_neg e]
   refine hs.row (h.rows i hi) (fun k hk=> ?_) az
   simp[Value.ownBlock]at hk
   rw[List.mem_singleton,←hk]
   exact h.ne i j hi hj e
theorem fC.tabW(h:fC w B g T n T G C):gw w B g T fun j=>(List.range n).map (C j):=by
 refine⟨_,h.own,fun j hj=>⟨some ⟨G j,0,none⟩,n,?_,by rw[List.length_map,List.length_range];exact Nat.le_refl _,?_⟩⟩
 ·rw[if_pos hj,List.length_map,List.length_range]
 ·rw[if_pos hj,List.length_map,List.length_range]
  have:=h.rows j hj
  unfold aB bW at this
  rw[List.map_map]
  exact this
end
theorem uc(n:Nat)(h:n≤1000):bits BinOp.and IntKind.u64 (n:Int) 4294967295=(n:Int):=by
 have e:=u64_and_nat n 4294967295 (by omega) (by omega)
 rw[show ((4294967295:Nat):Int)=4294967295 from rfl]at e
 rw[e,show(4294967295:Nat)=2 ^ 32 - 1 by rfl,Nat.and_two_pow_sub_one_eq_mod,Nat.mod_eq_of_lt (by omega)]
theorem zD(w:World)(n:Nat)(hn:n≤1000):
 Calls Tryz.prog 223 #[.int .u64 1,.int .u64 n] w fun e w'=>e=.returned (.tuple #[.int .u64 0,.int .u64 n])∧w'=w:=by
 have h1:bits BinOp.and IntKind.u64 1 4294967295=1:=uc 1 (by omega)
 have h0:bits BinOp.and IntKind.u64 0 4294967295=0:=uc 0 (by omega)
 have h2:=uc n hn
 have h3:(n:Int) / 4294967296=0:=by omega
 have h4:(n:Int) / 2 ^ 32=0:=by omega
 have h5:(1:Int)*(n:Int)=(n:Int):=by omega
 have h6:(0:Int)*(n:Int)=0:=by omega
 go_enter Tryz.func223,Tryz.ntmps223
 go_wp2_with fail
 go_ret2
 exact⟨rfl,rfl⟩
theorem Gp(w:World)(n:Nat)(hn:n≤1000):
 Calls Tryz.prog 196 #[.int .u64 1,.int .u64 n] w fun e w'=>e=.returned (.tuple #[.int .u64 0,.int .u64 n])∧w'=w:=by
 have HM:=aa (zD w n hn)
 go_enter Tryz.func196,Tryz.ntmps196
 go_wp2_with fail
 refine HM.out.mono ?_
 rintro e w1 ⟨rfl,rfl⟩
 go_wp2_with fail
 go_ret2
 exact⟨rfl,rfl⟩
theorem EH(w:World)(B g n k m:Nat)(f:Nat→Nat)(hf:aB w B g n n f)(hk:k<n)(_:1≤k)(hm:m=min (n - k) k)(ty:TypeId):
 (Builtin.copy_ #[36,36] ty #[.slice (some ⟨g,k,none⟩) (n - k) (n - k),.slice (some ⟨g,0,none⟩) k n]).run Tryz.prog w=.ok (goInt m) (w.setCells g k (bW m f)):=by
 obtain⟨i5,h5,h2,h1,h3⟩:=info_parts Tryz.info3
 have h0:(bW m f).length=m:=dF m f
 have hi:(Tryz.prog.info? 3).map (·.size)=some 1:=by rw[h5];exact congrArg some h1
 have:=run_copy_cells (P:=Tryz.prog) w 36 36 ty 3 g k (n - k) (n - k) ⟨g,0,none⟩ k n (bW m f) Tryz.underlying36 hi (by rw[h0,hm,Nat.min_comm])
  (fun j v hv=>by
    have hj:j<m:=by have:=(List.getElem?_eq_some_iff.1 hv).1;omega
    rw[oC,Nat.zero_add,hf.cell j (by omega),←hv,jR m f j hj]
    rfl)
  (fun j hj=>by
    rw[h0]at hj
    rw[hf.cell (k+j) (by omega)]
    rfl) (fun j hj=>hf.frozen (k+j)) (fun v hv=>by
    unfold bW at hv
    obtain⟨x,_,rfl⟩:=List.mem_map.1 hv
    rfl)
 rw[h0]at this
 exact this
def yv(w:World)(n:Nat)(f:Nat→Nat)(e:Ending)(w':World):Prop:=
 ∃g,e=.returned (.slice (some ⟨g,0,none⟩) n n)∧w.heap.size≤g∧aB w' w.heap.size g n n f∧Below w.heap.size w w'
theorem vl(w:World)(A:Option Addr)(c x n:Nat)(hA:aT w A 1 [x])(h1:1≤n)(hn:n≤1000):
 Calls Tryz.prog 166 #[.slice A 1 c,.int .i64 n] w (yv w n fun _=>x):=by
 have HM:=aa (Gp w n hn)
 have hH:=bq w n (by omega)
 have h6:=a9 w w.heap.size n (ah _) (by omega)
 have hl:Below w.heap.size w (w.alloc (.cells (madeCells #[.int .i64 0] n) 3)):=(Below.refl w.heap.size w).alloc (ah _) _
 have hw:=cU hA hl
 obtain⟨b,off,rfl,hc⟩:=hw.2 (by omega)
 have h4:=hc 0 (by omega)
 rw[Nat.add_zero]at h4
 have hC:([x]:List Nat).getD 0 0=x:=rfl
 rw[hC]at h4
 have h9:∀ty,(Builtin.copy_ #[36,36] ty #[.slice (some ⟨w.heap.size,0,none⟩) n n,.slice (some ⟨b,off,none⟩) 1 c]).run Tryz.prog (w.alloc (.cells (madeCells #[.int .i64 0] n) 3))=.ok (goInt 1) ((w.alloc (.cells (madeCells #[.int .i64 0] n) 3)).setCells w.heap.size 0 [iv x]):=by
  intro ty
  obtain⟨i5,h5,hO,hJ,hP⟩:=info_parts Tryz.info3
  have hi:(Tryz.prog.info? 3).map (·.size)=some 1:=by rw[h5];exact congrArg some hJ
  exact run_copy_cells (P:=Tryz.prog) _ 36 36 ty 3 w.heap.size 0 n n ⟨b,off,none⟩ 1 c [iv x] Tryz.underlying36 hi (by show 1=min 1 n;omega)
   (fun j v hv=>by
     have hj:j<1:=by have:=(List.getElem?_eq_some_iff.1 hv).1;simpa using this
     obtain rfl:j=0:=by omega
     rw[oC,Nat.add_zero,h4,←hv]
     rfl)
   (fun j hj=>by
     rw[show j=0 by simpa using hj,h6.cell (0+0) (by omega)]
     rfl) (fun j _=>h6.frozen (0+j)) (fun v hv=>by
     rw[List.mem_singleton.1 hv]
     rfl)
 have h7:=fX [x] 0 _ _ h6
 have e1:(fun j=>if 0≤j∧j<0+ [x].length then([x]:List Nat).getD (j - 0) 0 else 0)=fun j=>if j<1 then x else 0:=by
  funext j
  by_cases e:j<1
  ·rw[if_pos (by simp;omega),if_pos e,show j=0 by omega]
   rfl
  ·rw[if_neg (by simp;omega),if_neg e]
 rw[e1]at h7
 have hx:Below w.heap.size w ((w.alloc (.cells (madeCells #[.int .i64 0] n) 3)).setCells w.heap.size 0 ([x].map iv)):=jT (ah _) _ _ _ hl
 have hu:=aa h7
 have hs:=aa hx
 have ht:=aa h9
 have HP:Hid (∀ g w',w.heap.size≤g→aB w' w.heap.size g n n (fun _=>x)→Below w.heap.size w w'→yv w n (fun _=>x) (.returned (.slice (some ⟨g,0,none⟩) n n)) w'):=aa fun g w' h0 h2 h3=>⟨g,rfl,h0,h2,h3⟩
 have d0:decide ((n:Int)<0)=false:=au (by omega)
 have d1:decide ((9223372036854775807:Int)<(n:Int))=false:=au (by omega)
 generalize yv w n (fun _=>x)=PO at*
 clear hA hw hc h4 hC h6 hl h9 h7 e1 hx
 go_enter Tryz.func166,Tryz.ntmps166
 go_wp2_with fail
 refine HM.out.mono ?_
 rintro e w1 ⟨rfl,rfl⟩
 go_upto_region 7 with fail
 go_wp2_with (refine tY rfl _ _ 36 36 rfl _ _ 1 rfl rfl (ht.out _) ?_)
 clear hH HM
 generalize w1.heap.size=g at*
 have hh:=hu.out
 have hg:=hs.out
 rw[show ([x]:List Nat).map iv= [iv x]from rfl]at hh hg
 clear hu hs ht
 go_wp2_with fail
 go_loopw [8] (fun kv wx=>∃k:Nat,1≤k∧k≤n∧kv=.int .i64 k∧aB wx g g n n (fun j=>if j<k then x else 0)∧Below g w1 wx) (fun kv _=>n - (intOf kv).toNat)
 case atStart=>exact⟨1,Nat.le_refl _,h1,rfl,hh,hg⟩
 case round=>
  clear hh hg
  rename World=>w2
  obtain⟨k,hF,hk,rfl,hf,hb⟩:=hrel
  by_cases e:k<n
  ·have dk:decide ((k:Int)<(n:Int))=true:=aC (by omega)
   obtain⟨m,hm⟩:∃m,m=min (n - k) k:=⟨_,rfl⟩
   have h8:=fun ty=>EH w2.drew g g n k m _ (hf.drew 1) e hF hm ty
   have hz:bW m (fun j=>if j<k then x else 0)=(List.replicate m x).map iv:=by
    rw[bJ m _ (fun _=>x) fun j hj=>if_pos (by omega)]
    unfold bW
    rw[List.map_replicate,List.map_const',List.length_range]
   rw[hz]at h8
   have ha:=fX (List.replicate m x) k _ _ (hf.drew 1)
   have ho:Below g w1 (w2.drew.setCells g k ((List.replicate m x).map iv)):=jT (ah _) _ _ _ hb.drew
   have efn:(fun j=>if k≤j∧j<k+(List.replicate m x).length then(List.replicate m x).getD (j - k) 0 else if j<k then x else 0)=fun j=>if j<k+m then x else 0:=by
    funext j
    rw[List.length_replicate]
    by_cases e1:j<k
    ·rw[if_neg (by omega),if_pos e1,if_pos (by omega)]
    ·by_cases e2:j<k+m
     ·rw[if_pos (by omega),if_pos e2,List.getD_eq_getElem?_getD,List.getElem?_replicate,if_pos (by omega)]
      rfl
     ·rw[if_neg (by omega),if_neg e1,if_neg e2]
   rw[efn]at ha
   obtain⟨km,hB⟩:∃km,km=k+m:=⟨_,rfl⟩
   rw[← hB]at ha
   have hM:(k:Int)+(m:Int)=(km:Int):=by omega
   have hp:km≤n:=by omega
   have hG:k<km:=by omega
   have hK:(0:Int)≤(k:Int):=by omega
   have hL:(k:Int)≤(n:Int):=by omega
   have hN:¬n=k:=by omega
   have hI:¬k=n:=by omega
   obtain⟨w3,hq⟩:∃w3,w3=w2.drew.setCells g k ((List.replicate m x).map iv):=⟨_,rfl⟩
   rw[← hq]at h8 ho
   have hy:aB w3 g g n n (fun j=>if j<km then x else 0):=by rw[hq];exact ha
   have he:=aa h8
   have hE:=aa hy
   have hD:=aa ho
   clear h8 hz ha ho efn hf hb hB hm hq hy
   go_upto_region 9 with fail
   have hr:(Builtin.copy_ #[36,36] 3 #[.slice (some ⟨g,k,none⟩) (n - k) (n - k),.slice (some ⟨g,0,none⟩) k n]).run Tryz.prog w2.drew=.ok (.int .i64 m) w3:=he.out _
   go_region
   go_wp2_with fail
   go_roundw
   case rel=>exact⟨km,by omega,hp,by go_num,hE.out,hD.out⟩
   case measure=>simp[intOf];omega
  ·obtain rfl:k=n:=by omega
   have dk:decide ((k:Int)<(k:Int))=false:=au (by omega)
   have h3:w2.ownsRow g 3 1 (.slice (some ⟨g,0,none⟩) k k) k (bW k fun j=>if j<k then x else 0):=hf
   rw[bJ k _ (fun _=>x) fun j hj=>if_pos hj]at h3
   have HE:=aa (HP.out g w2 (ah _) h3 hb)
   clear hf hb h3
   go_wp2_with fail
   exact HE.out
def iz(n T s t x:Nat):Nat:=if x<s then nR n T t x else 15
theorem yo(w:World)(T n:Nat)(hE:1≤T)(hy:T≤6)(hH:3≤n)(hn:n≤258):
 Calls Tryz.prog 113 #[.int .i64 T,.int .i64 n] w fun e w'=>e=.returned (.slice (some ⟨w.heap.size,0,none⟩) T T)∧gw w' w.heap.size w.heap.size T (fun t=>(List.range n).map (nR n T t))∧Below w.heap.size w w':=by
 have hA:=rW w T (by omega)
 have hh:=aa (xo w w.heap.size T n (ah _) (by omega) (fun _=>0) (fun _ _=>15))
 have he:Hid (Below w.heap.size w (w.alloc (.cells (madeCells #[.slice none 0 0] T) 36))):=aa ((Below.refl _ _).alloc (ah _) _)
 go_enter Tryz.func113,Tryz.ntmps113
 go_wp2_with fail
 clear hA
 go_loopw [6,12] (fun s6 tv wx=>∃(t:Nat) (G:Nat→Nat),t≤T∧tv=.int .i64 t∧fC wx w.heap.size w.heap.size T n t G (fun _ _=>15)∧Below w.heap.size w wx) (fun _ tv _=>T - (intOf tv).toNat)
 case atStart=>exact⟨0,fun _=>0,Nat.zero_le _,rfl,hh.out,he.out⟩
 case round=>
  clear hh he
  rename World=>w1
  obtain⟨t,G,ht,rfl,hD,hb⟩:=hrel
  by_cases e:t<T
  ·have dt:decide ((t:Int)<(T:Int))=true:=aC (by omega)
   have hO:(0:Int)≤(t:Int):=by omega
   have hP:(t:Int)<(T:Int):=by omega
   have hr:=hD.lt
   have hk:Below w1.heap.size w1 (w1.alloc (.cells #[.int .i64 15] 3)):=(Below.refl _ _).alloc (ah _) _
   have HR:=aa (vl (w1.alloc (.cells #[.int .i64 15] 3)) (some ⟨w1.heap.size,0,none⟩) 1 15 n (D2 w1 [15]) (by omega) (by omega))
   have HD:=aa hD
   have HB:=aa hb
   have hg:=aa hk
   have hv:(w1.alloc (.cells #[.int .i64 15] 3)).heap.size=w1.heap.size+1:=by simp
   have hi:=aa hv
   clear hD hb hk hv
   go_wp2_with fail
   refine HR.out.mono ?_
   rintro e w3 ⟨gN,rfl,hz,hf,hl⟩
   have h3:=ao hg.out hl
   have hp:=HD.out.push h3 (by rw[hi.out];omega) hf (by rw[hi.out]at hz;omega)
   have hF:w3.frozen? ⟨w.heap.size,t,none⟩=false:=(HD.out.step (an h3)).frozen t
   have hm:∃v,w3.cell? ⟨w.heap.size,t,none⟩=some v:=by
    have:=World.ownsRow.cellAt (HD.out.step (an h3)).own t (by omega)
    rw[List.getElem?_map,List.getElem?_range e]at this
    exact⟨_,this⟩
   obtain⟨v,hm⟩:=hm
   have h4:=(ao HB.out h3).setCell (p:=⟨w.heap.size,t,none⟩) (ah _) (.slice (some ⟨gN,0,none⟩) n n)
   have HP:=aa (hp.same (D:=fun _ _=>15) fun j _=>by
    by_cases ej:j=t
    ·rw[if_pos ej]
    ·rw[if_neg ej])
   have h9:=aa h4
   clear hp h4 hf hl h3 HR HD HB hg
   go_wp2_with fail
   go_roundw
   case rel=>exact⟨t+1,_,by omega,by go_num,HP.out,h9.out⟩
   case measure=>simp[intOf];omega
  ·obtain rfl:T=t:=by omega
   have dt:decide ((T:Int)<(T:Int))=false:=au (by omega)
   have HD:=aa hD
   have HB:=aa hb
   have hr:=hD.lt
   clear hD hb
   go_wp2_with fail
   go_loopw [7,23] (fun s7 sv wx=>∃(s:Nat),s≤n∧sv=.int .i64 s∧fC wx w.heap.size w.heap.size T n T G (iz n T s)∧Below w.heap.size w wx) (fun _ sv _=>n - (intOf sv).toNat)
   case atStart=>
    refine⟨0,Nat.zero_le _,rfl,HD.out.same fun j _=> ?_,HB.out⟩
    funext x
    unfold iz
    rw[if_neg (by omega)]
   case round=>
    clear HD HB hr
    rename World=>w4
    obtain⟨s,hs,rfl,hD,hb⟩:=hrel
    by_cases e2:s<n
    ·have ds:decide ((s:Int)<(n:Int))=true:=aC (by omega)
     obtain⟨p,hp⟩:∃p:Nat,p=s*T:=⟨_,rfl⟩
     have hJ:(s:Int)*(T:Int)=(p:Int):=by rw[hp];simp
     have hI:p≤258*6:=by rw[hp];exact Nat.mul_le_mul (by omega) hy
     obtain⟨q,hq⟩:∃q:Nat,q=p / n:=⟨_,rfl⟩
     have ha:q<T:=by
      rw[hq,hp]
      refine Nat.div_lt_of_lt_mul ?_
      exact Nat.mul_lt_mul_of_pos_right e2 (by omega)
     have hL:(p:Int) / (n:Int)=(q:Int):=by rw[hq];simp
     have hG:¬(n:Int)=0:=by omega
     have hB:((n:Int)==0)=false:=by rw[beq_eq_false_iff_ne];omega
     have hK:(0:Int)≤(q:Int):=by omega
     have hC:(q:Int)<(T:Int):=by omega
     have hM:(0:Int)≤(s:Int):=by omega
     have hN:(s:Int)<(n:Int):=by omega
     have c1:=hD.cell q ha ha
     have h0:=hD.rows q ha
     have c2:=h0.cell s e2
     have f2:=h0.frozen s
     have h7:=h0.set s 1
     have h8:=hD.upd ha h7 ((ai.refl w.heap.size [G q] [] w4).set (p:=⟨G q,s,none⟩) h0.lt.1 (List.mem_singleton.2 rfl) _)
     have h4:=hb.setCell (p:=⟨G q,s,none⟩) h0.lt.1 (.int .i64 ((1:Nat):Int))
     have hc:s*T / n=q:=by rw[← hp,←hq]
     have h5:∀x,(if x=s then 1 else iz n T s q x)=iz n T (s+1) q x:=fun x=>by
      unfold iz nR
      by_cases ex:x=s
      ·have h1:x<s+1:=by omega
       rw[if_pos ex,if_pos h1,ex,hc,if_pos rfl]
      ·rw[if_neg ex]
       by_cases ex2:x<s
       ·have h1:x<s+1:=by omega
        rw[if_pos ex2,if_pos h1]
       ·have h1:¬x<s+1:=by omega
        rw[if_neg ex2,if_neg h1]
     have h6:∀j x,j≠q→iz n T s j x=iz n T (s+1) j x:=fun j x ej=>by
      unfold iz nR
      by_cases ex2:x<s
      ·have h1:x<s+1:=by omega
       rw[if_pos ex2,if_pos h1]
      ·rw[if_neg ex2]
       by_cases ex:x=s
       ·have h1:x<s+1:=by omega
        have h2:¬q=j:=fun h=>ej h.symm
        rw[if_pos h1,ex,hc,if_neg h2]
       ·have h1:¬x<s+1:=by omega
        rw[if_neg h1]
     have HU:=aa (h8.same (D:=iz n T (s+1)) fun j hj=>by
      by_cases ej:j=q
      ·rw[if_pos ej,ej]
       funext x
       exact h5 x
      ·rw[if_neg ej]
       funext x
       exact h6 j x ej)
     have h9:=aa h4
     obtain⟨gq,ho⟩:∃gq,gq=G q:=⟨_,rfl⟩
     obtain⟨v2,hu⟩:∃v2:Nat,v2=iz n T s q s:=⟨_,rfl⟩
     rw[← ho]at c1 c2 f2 HU h9
     rw[← hu]at c2
     clear hD hb h0 h7 h8 h4 hp hq ho hu hc h5 h6
     go_wp2_with fail
     go_roundw
     case rel=>exact⟨s+1,by omega,by go_num,HU.out,h9.out⟩
     case measure=>simp[intOf];omega
    ·obtain rfl:n=s:=by omega
     have ds:decide ((n:Int)<(n:Int))=false:=au (by omega)
     have HE:=aa hD.tabW
     have hw:=aa hb
     clear hD hb
     go_wp2_with fail
     go_ret
     refine⟨rfl,HE.out.same fun j _=> ?_,hw.out⟩
     apply List.map_congr_left
     intro x hx
     unfold iz
     rw[if_pos (List.mem_range.1 hx)]
abbrev Hv (bT bG:Nat):Value:=.func (.func 236) #[] #[.pointer (some ⟨bT,0,none⟩),.pointer (some ⟨bG,0,none⟩)]
theorem tV(w:World)(bT bG g T n:Nat)(C:Nat→List Nat)(hc:Blk w bT 50 #[.slice (some ⟨g,0,none⟩) T T])(hT:Ac w g T C)(hn:n≤258)(hC:∀t,t<T→(C t).length=n∧∀x∈C t,x≤1000)
 (A:Option Addr) (m c:Nat) (G:List Nat) (hb:Blk w bG 36 #[.slice A m c]) (hG:aT w A m G) (hm:m≤50) (ha:∀x∈G,x<n) (t:Nat) (ht:t<T):
 Calls Tryz.prog 236 #[.int .i64 t,.pointer (some ⟨bT,0,none⟩),.pointer (some ⟨bG,0,none⟩)] w fun e w'=>e=.returned (.int .i64 (fH (C t) G:Nat))∧∃d,w'=w.drewN d:=by
 have hj:=hG.1
 have p0:w.cell? ⟨bT,0,none⟩=some (.slice (some ⟨g,0,none⟩) T T):=(ac hc 0).trans rfl
 have p1:w.cell? ⟨bG,0,none⟩=some (.slice A m c):=(ac hb 0).trans rfl
 obtain⟨A1,k1,he,h5,hf⟩:=hT t ht
 have h4:=hC t ht
 have h6:(C t).length=n:=h4.1
 have h7:=aa h4.2
 rw[h6]at he h5 hf
 have HY:=aa h5
 have HG:=aa hG
 have hl:=aa ha
 have h3:=aa hj
 have h9:=aa h6
 have hz:(0:Int)≤(t:Int):=by omega
 have hA:(t:Int)<(T:Int):=by omega
 obtain⟨K,hK⟩:∃K,K=C t:=⟨_,rfl⟩
 rw[← hK]at h7 HY h9 ⊢
 clear hT hC hc hb hG ha hj h6 h4 h5 hK
 go_enter Tryz.func236,Tryz.ntmps236
 go_upto_region 1 with fail
 go_quiet (fail)
 go_wp2_with fail
 have p1b:(w.drewN nq).cell? ⟨bG,0,none⟩=some (.slice A m c):=p1
 go_loopw [5,8,15] (fun sv s8 iv' wx=>∃(i s:Nat),i≤m∧iv'=.int .i64 i∧sv=.int .i64 s∧Hid (s=fH K (G.take i))∧s≤1000*i∧∃d,wx=w.drewN d) (fun _ _ iv' _=>m - (intOf iv').toNat)
 case atStart=>exact⟨0,0,Nat.zero_le _,rfl,rfl,rfl,Nat.zero_le _,nq,rfl⟩
 case round=>
  rename World=>w2
  obtain⟨i,s,hi,rfl,rfl,hs,hv,h0⟩:=hrel
  have h8:=aa h0
  by_cases e2:i<m
  ·have di:decide ((i:Int)<(m:Int))=true:=aC (by omega)
   have hr:(0:Int)≤(i:Int):=by omega
   have hu:(i:Int)<(m:Int):=by omega
   obtain⟨gb,go,rfl,hh⟩:=HG.out.2 (by omega)
   have hx:=hh i e2
   have hq:G.getD i 0<n:=hl.out _ (by
    rw[List.getD_eq_getElem?_getD,List.getElem?_eq_getElem (by rw[h3.out];exact e2)]
    exact List.getElem_mem _)
   have hk:fH K (G.take (i+1))=fH K (G.take i)+K.getD (G.getD i 0) 0:=by rw[ES (by rw[h3.out];exact e2),Dz]
   generalize G.getD i 0=x at*
   obtain⟨cb,co,rfl,hg⟩:=HY.out.2 (by omega)
   have hy:=hg x (by omega)
   have hE:K.getD x 0≤1000:=h7.out _ (by
    rw[List.getD_eq_getElem?_getD,List.getElem?_eq_getElem (by rw[h9.out];exact hq)]
    exact List.getElem_mem _)
   generalize K.getD x 0=y at*
   have q1:w2.cell? ⟨gb,go+i,none⟩=some (.int .i64 x):=by obtain⟨d,rfl⟩:=h0;exact hx
   have q2:w2.cell? ⟨cb,co+x,none⟩=some (.int .i64 y):=by obtain⟨d,rfl⟩:=h0;exact hy
   obtain⟨s2,h1⟩:∃s2:Nat,s2=s+y:=⟨_,rfl⟩
   have hw:(s:Int)+(y:Int)=(s2:Int):=by omega
   have h2:s2≤1000*(i+1):=by omega
   have HS2:Hid (s2=fH K (G.take (i+1))):=aa (by rw[hk,h1,hs.out])
   have hB:(0:Int)≤(x:Int):=by omega
   have hD:(x:Int)<(n:Int):=by omega
   have ho:=aa h2
   have hp:s2≤60000:=by omega
   clear he hf hh hx hk hg hy h1 h0 h2 p0 p1 p1b
   go_wp2_with fail
   go_roundw
   case rel=>exact⟨i+1,s2,by omega,by go_num,rfl,HS2,ho.out,h8.out⟩
   case measure=>simp[intOf];omega
  ·obtain rfl:i=m:=by omega
   have di:decide ((i:Int)<(i:Int))=false:=au (by omega)
   have h1:=hs.out
   rw[List.take_of_length_le (Nat.le_of_eq h3.out)]at h1
   subst h1
   clear h0 hs
   go_wp2_with fail
   go_ret
   exact⟨rfl,h8.out⟩
theorem wY(w:World)(A B:Option Addr)(n c m d:Nat):
 Calls Tryz.prog 205 #[.slice A n c,.slice B m d] w fun e w'=>e=.returned (Hv w.heap.size (w.heap.size+1))∧w'=(w.alloc (.cells #[.slice A n c] 50)).alloc (.cells #[.slice B m d] 36):=by
 go_enter Tryz.func205,Tryz.ntmps205
 go_wp2_with fail
 go_ret
 exact⟨by simp[Hv],rfl⟩
theorem sz(w:World)(g T n:Nat)(C:Nat→List Nat)(hT:Ac w g T C)(h1:1≤T)(hD:T≤6)(hn:n≤258)(hC:∀t,t<T→(C t).length=n∧∀x∈C t,x≤1000)
 (A:Option Addr) (m c:Nat) (G:List Nat) (hG:aT w A m G) (hm:m≤50) (hb:∀x∈G,x<n):
 Calls Tryz.prog 167 #[.slice (some ⟨g,0,none⟩) T T,.slice A m c] w fun e w'=>e=.returned (.int .i64 (jN ((List.range T).map C) G:Nat))∧Below w.heap.size w w':=by
 have hh:Below w.heap.size w (w.alloc (.cells #[.slice (some ⟨g,0,none⟩) T T] 50)):=(Below.refl _ _).alloc (ah _) _
 have hi:=ag w 50 #[.slice (some ⟨g,0,none⟩) T T]
 obtain⟨w0,he⟩:∃w0,w0=w.alloc (.cells #[.slice (some ⟨g,0,none⟩) T T] 50):=⟨_,rfl⟩
 have hy:w0.heap.size=w.heap.size+1:=by rw[he];simp
 rw[← he]at hh hi
 have hc:Below w0.heap.size w0 (w0.alloc (.cells #[.slice A m c] 36)):=(Below.refl _ _).alloc (ah _) _
 have h8:=ag w0 36 #[.slice A m c]
 have h0:=aM hc hi
 have h7:=ao hh hc
 obtain⟨w1,hl⟩:∃w1,w1=w0.alloc (.cells #[.slice A m c] 36):=⟨_,rfl⟩
 rw[← hl]at hc h8 h0 h7
 have hg:=hT.below h7
 have hf:=cU hG h7
 rw[hy]at h8
 have hB:=aa fun(t:Nat) (ht:t<T)=>tV w1 w.heap.size (w.heap.size+1) g T n C h0 hg hn hC A m c G h8 hf hm hb t ht
 have h5:Hid (∀ d t,t<T→Calls Tryz.prog 236 #[.int .i64 t,.pointer (some ⟨w.heap.size,0,none⟩),.pointer (some ⟨w.heap.size+1,0,none⟩)] (w1.drewN d) fun e w'=>e=.returned (.int .i64 (fH (C t) G:Nat))∧∃d2,w'=w1.drewN d2):=aa fun d t ht=>by
  have hd:Below w1.heap.size w1 (w1.drewN d):=aL (Below.refl _ _) d
  refine(tV (w1.drewN d) w.heap.size (w.heap.size+1) g T n C h0 (hg.below hd) hn hC A m c G h8 (cU hf hd) hm hb t ht).mono ?_
  rintro e w' ⟨rfl,d2,rfl⟩
  exact⟨rfl,d+d2,by simp[World.drewN,Nat.add_assoc]⟩
 have HR:=aa (wY w (some ⟨g,0,none⟩) A T T m c)
 rw[← he,←hl]at HR
 have hz:=aa h7
 obtain⟨p,hp⟩:∃p:Nat→Nat×Nat,p=ly ((List.range T).map C) G:=⟨_,rfl⟩
 have h6:jN ((List.range T).map C) G=(p T).1:=by
  unfold jN
  rw[hp]
  simp
 rw[h6]
 have h2:Hid (∀ t,t<T→p (t+1)=if t=0∨fH (C t) G<(p t).2 then(t,fH (C t) G)else p t):=aa fun t ht=>by
  rw[hp,ly,Ft C T t ht]
 have hu:∀t,t<T→fH (C t) G≤50000:=fun t ht=>by
  have h3:=GE (C t) G 1000 (fun x hx=>(hC t ht).2 _ (by
   rw[List.getD_eq_getElem?_getD,List.getElem?_eq_getElem (by rw[(hC t ht).1];exact hb x hx)]
   exact List.getElem_mem _))
  have h4:1000*G.length≤1000*50:=Nat.mul_le_mul_left _ (by rw[hG.1];exact hm)
  omega
 have hq:=aa hu
 have hr:Hid (p 1=(0,fH (C 0) G)):=aa (by rw[h2.out 0 (by omega),if_pos (.inl rfl)])
 clear hT hG hC hb hp h6 hu h0 h8 hg hf h7 he hl hy hh hi hc
 generalize w.heap.size=g0 at*
 go_enter Tryz.func167,Tryz.ntmps167
 go_wp2_with fail
 refine HR.out.mono ?_
 rintro e w1 ⟨rfl,rfl⟩
 go_wp2_with fail
 refine(h5.out 0 0 (by omega)).mono ?_
 rintro e w2 ⟨rfl,d1,rfl⟩
 obtain⟨s0,hj⟩:∃s0,s0=fH (C 0) G:=⟨_,rfl⟩
 rw[← hj]at hr ⊢
 have hk:s0≤50000:=by rw[hj];exact hq.out 0 (by omega)
 clear hj
 go_wp2_with fail
 go_loopw [6,7,8,9] (fun bv lv tv cv wx=>∃(t b l:Nat),1≤t∧t≤T∧tv=.int .i64 t∧bv=.int .i64 b∧lv=.int .i64 l∧l≤50000∧Hid (p t=(b,l))∧∃d,wx=w1.drewN d) (fun _ _ tv _ _=>T - (intOf tv).toNat)
 case atStart=>exact⟨1,0,s0,Nat.le_refl _,h1,rfl,rfl,rfl,hk,hr,d1,rfl⟩
 case round=>
  rename World=>w3
  obtain⟨t,b,l,hE,ht,rfl,rfl,rfl,hA,hv,hd⟩:=hrel
  obtain⟨d,rfl⟩:=hd
  by_cases e:t<T
  ·have dt:decide ((t:Int)<(T:Int))=true:=aC (by omega)
   have h9:=h2.out t e
   rw[hv.out]at h9
   dsimp only at h9
   have ho:=aa (h5.out d t e)
   have hw:=hq.out t e
   obtain⟨s,hs⟩:∃s,s=fH (C t) G:=⟨_,rfl⟩
   rw[← hs]at h9 ho hw
   have ha:=aa h9
   clear hs h9
   go_wp2_with fail
   refine ho.out.mono ?_
   rintro e w4 ⟨rfl,d4,rfl⟩
   by_cases h3:s<l
   ·have d3:decide ((s:Int)<(l:Int))=true:=aC (by omega)
    have HP:Hid (p (t+1)=(t,s)):=aa (by rw[ha.out,if_pos (.inr h3)])
    clear ha
    go_wp2_with fail
    go_roundw
    case rel=>exact⟨t+1,t,s,by omega,by omega,by go_num,rfl,rfl,hw,HP,d4,rfl⟩
    case measure=>simp[intOf];omega
   ·have d3:decide ((s:Int)<(l:Int))=false:=au (by omega)
    have HP:Hid (p (t+1)=(b,l)):=aa (by rw[ha.out,if_neg (by omega)])
    clear ha
    go_wp2_with fail
    go_roundw
    case rel=>exact⟨t+1,b,l,by omega,by omega,by go_num,rfl,rfl,hA,HP,d4,rfl⟩
    case measure=>simp[intOf];omega
  ·obtain rfl:t=T:=by omega
   have dt:decide ((t:Int)<(t:Int))=false:=au (by omega)
   have HE:=aa (aL hz.out d)
   go_wp2_with fail
   go_ret
   exact⟨by rw[hv.out];rfl,HE.out⟩
end Go.Proofs.YthakcjehhlpjnaaGreat
