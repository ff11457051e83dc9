import Derived.Test.YthakcjehhlpjnaaGreatB35
set_option maxHeartbeats 6400000
set_option maxRecDepth 100000
namespace Go.Proofs.YthakcjehhlpjnaaGreat
open Go.RowKit
theorem FC(w:World)(v:Value)(T:List (List Int))(P:List Int)(h:aN w v T P)(A':Option Addr)(n' c':Nat)(L:List Int)(hL:ZIn w A' n' L)(pn:n'≤c')(pk:n'≤2000000)(hF:FU T P L):
 Calls Tryz.prog 23 #[v,.slice A' n' c'] w (aV w (bD T P L)):=by
 have hP:=hF.1
 obtain⟨A,q,c,B,m,d,rfl,hT,q7,hq,HA,q5,pj⟩:=id h
 have HY:=hT.1
 have HX:=HA.1
 have hV:=hL.1
 have po:2≤q∧q≤6:=by have h1:=hP.1;have h2:=hP.2.1;omega
 have q4:1≤m∧m≤32767:=by have h1:=hP.2.2.1;have h2:=hP.2.2.2.1;omega
 obtain⟨z,hz⟩:∃z,z=aQ n':=⟨_,rfl⟩
 have q9:z≤m:=by have:=hF.2;rw[hV,HX,←hz]at this;exact this
 have qa:n'≤50*z∧50*z<n'+50:=by rw[hz];unfold aQ;omega
 obtain⟨tb,tq,rfl,p2⟩:=hT.2 (by omega)
 obtain⟨b,off,rfl,ht⟩:=HA.2 (by omega)
 have HT:∀i,i<m→0≤P.getD i 0∧(P.getD i 0).toNat<q:=fun i hi=>by
  have:=hP.2.2.2.2.2.1 (P.getD i 0) (by
   rw[List.getD_eq_getElem?_getD,List.getElem?_eq_getElem (by omega)]
   exact List.getElem_mem _)
  rw[HY]at this
  omega
 have ho:∀i,i<q→(T.getD i []).length=(T.getD 0 []).length∧aY (T.getD i []):=fun i hi=>hP.2.2.2.2.1 _ (lW T i (by omega))
 obtain⟨m0,HG⟩:∃m0,m0=(T.getD 0 []).length:=⟨_,rfl⟩
 rw[← HG]at ho
 have hA:bD T P L=if ∀x∈L,0≤x∧x<(m0:Int)then(((List.range z).map (i6 T P L)).flatten,0)else([],60):=by
  unfold bD
  rw[if_pos hF,←ml T P L z,Nat.min_eq_right (by omega),HG]
 rw[hA]
 have HC:Below w.heap.size w (w.alloc (.cells #[.slice (some ⟨tb,tq,none⟩) q c,.slice (some ⟨b,off,none⟩) m d] 52)):=(Below.refl _ _).alloc (ah _) _
 have HF:=ag w 52 #[.slice (some ⟨tb,tq,none⟩) q c,.slice (some ⟨b,off,none⟩) m d]
 obtain⟨w1,hY⟩:∃w1,w1=w.alloc (.cells #[.slice (some ⟨tb,tq,none⟩) q c,.slice (some ⟨b,off,none⟩) m d] 52):=⟨_,rfl⟩
 have p4:w1.heap.size=w.heap.size+1:=by rw[hY];simp
 rw[← hY]at HC HF
 have HD:Below w1.heap.size w1 (w1.alloc (.cells #[.string ⟨#[]⟩,.int .i64 0] 24)):=(Below.refl _ _).alloc (ah _) _
 have HW:=aL HD HF
 have HI:=ag w1 24 #[.string ⟨#[]⟩,.int .i64 0]
 rw[p4]at HI
 have hp:=ap HC HD
 have HR:=aa hY.symm
 have HP:Hid (∀ w2,w2=w1.alloc (.cells #[.string ⟨#[]⟩,.int .i64 0] 24)→Calls Tryz.prog 65 #[.agg #[.slice (some ⟨tb,tq,none⟩) q c,.slice (some ⟨b,off,none⟩) m d]] w2.drew fun e w'=>e=.returned (.bool true)∧Below w2.heap.size w2.drew w'):=aa fun w2 e2=>by
  have h3:=cK w2.drew _ T P (h.below (by rw[e2];exact hp.drew))
  rw[decide_eq_true hP]at h3
  exact h3
 have hM:=aa fun(wx:World)=>jp wx n' (by omega)
 rw[← hz]at hM
 unfold maxLen at pj
 have d0:decide ((m:Int)<(z:Int))=false:=ao (by omega)
 have dn:¬m<z:=by omega
 have HQ:=aa p2
 have H1:=aa ht
 have H3:=aa HT
 have hn:=aa ho
 have HL:=aa hL
 have pb:=aa hV
 have q1:=aa hz
 have hN:=aa HW
 have H4:=aa HI
 have HO:=aa hp
 have hl:Hid (∀ i,i<z→(¬ ∀x∈bH L i,0≤x∧x<(m0:Int))→∀w',Below w.heap.size w w'→aV w (if ∀x∈L,0≤x∧x<(m0:Int)then(((List.range z).map (i6 T P L)).flatten,0)else([],60)) (.returned (.tuple #[.agg #[.string ⟨#[]⟩,.int .i64 0],.int .i64 60])) w'):=aa fun i _ hno w' hb=>by
  rw[if_neg fun h0=>hno fun x hx=>h0 x (GI hx)]
  exact⟨rfl,hb⟩
 have ha:Hid ((∀ j,j<z→∀x∈bH L j,0≤x∧x<(m0:Int))→∀w' X,X=((List.range z).map (i6 T P L)).flatten→Below w.heap.size w w'→aV w (if ∀x∈L,0≤x∧x<(m0:Int)then(((List.range z).map (i6 T P L)).flatten,0)else([],60)) (.returned (.tuple #[.agg #[.string ⟨(aK X).toArray⟩,.int .i64 X.length],.int .i64 0])) w'):=aa fun h0 w' X hX hb=>by
  have:∀x∈L,0≤x∧x<(m0:Int):=fun x hx=>by
   obtain⟨k,hk,ps⟩:=Fe hx
   exact h0 k (by rw[hz,←hV];exact hk) x ps
  rw[if_pos this,hX]
  exact⟨rfl,hb⟩
 generalize aV w (if ∀x∈L,0≤x∧x<(m0:Int)then(((List.range z).map (i6 T P L)).flatten,0)else([],60))=PO at*
 clear h hF HC HF HD HW HI hp p4 hY hP hz hL HX HA hT p2 ht HT ho hA hV HG HY
 go_enter Tryz.func23,Tryz.ntmps23
 go_upto_region 1 with fail
 rw[HR.out]
 have HM:=aa (HP.out _ rfl)
 generalize w1.alloc (.cells #[.string ⟨#[]⟩,.int .i64 0] 24)=w2 at*
 clear HR HP
 have p0:w2.cell? ⟨w.heap.size,0,none⟩=some (.slice (some ⟨tb,tq,none⟩) q c):=(ac hN.out 0).trans rfl
 have p1:w2.cell? ⟨w.heap.size,1,none⟩=some (.slice (some ⟨b,off,none⟩) m d):=(ac hN.out 1).trans rfl
 have hW:w.heap.size<w2.heap.size:=ay hN.out
 have hH:w.heap.size+1<w2.heap.size:=ay H4.out
 go_region_held3 (fun w'=>w'.cell? ⟨w.heap.size,0,none⟩=some (.slice (some ⟨tb,tq,none⟩) q c)∧w'.cell? ⟨w.heap.size,1,none⟩=some (.slice (some ⟨b,off,none⟩) m d))
  (first | exact⟨p0,p1⟩ | exact⟨s0,s1⟩ | go_keep)
  (first
    | (go_at_call 65;refine HM.out.mono ?_;rintro e w3 ⟨rfl,hB⟩
       have s0:w3.cell? ⟨w.heap.size,0,none⟩=some (.slice (some ⟨tb,tq,none⟩) q c):=(hB.cell (p:=⟨w.heap.size,0,none⟩) hW).trans p0
       have s1:w3.cell? ⟨w.heap.size,1,none⟩=some (.slice (some ⟨b,off,none⟩) m d):=(hB.cell (p:=⟨w.heap.size,1,none⟩) hW).trans p1)
    | (go_at_call 68;refine(hM.out _).mono ?_;rintro e w4 ⟨rfl,rfl⟩))
 have H5:Hid (Blk w3 (w.heap.size+1) 24 #[.string ⟨#[]⟩,.int .i64 0]):=aa ((hB.block (w.heap.size+1) hH).trans H4.out)
 have hK:=aa (HO.out.drew.trans (hB.mono (Nat.le_of_lt hW)))
 clear hB hN H4 HO HM p0 p1 hW hH
 go_wp2_with fail
 refine(hM.out _).mono ?_
 rintro e w3 ⟨rfl,rfl⟩
 clear hM
 have he:=hK.out.size
 have hh:=ay H5.out
 go_wp2_with fail
 go_loopw [6,7,8,9,26] (fun pv s7 s8 s9 iv' wx=>∃(i:Nat) (A9:Option Addr) (c9:Nat),i≤z∧iv'=.int .i64 i∧pv=.slice A9 i c9∧Pcs wx w3.heap.size (.slice A9 i c9) ((List.range i).map (i6 T P L))∧Below w3.heap.size w3 wx∧Hid (∀ j,j<i→∀x∈bH L j,0≤x∧x<(m0:Int))) (fun _ _ _ _ iv' _=>z - (intOf iv').toNat)
 case atStart=>exact⟨0,none,0,Nat.zero_le _,rfl,rfl,GU _ _,Below.refl _ _,fun j hj=>absurd hj (Nat.not_lt_zero _)⟩
 case round=>
  rename World=>wx
  obtain⟨i,A9,c9,hi,rfl,rfl,ht,hg,hS⟩:=hrel
  by_cases e:i<z
  ·have di:decide ((i:Int)<(z:Int))=true:=ar (by omega)
   have q2:(0:Int)≤(i:Int):=by omega
   have q3:(i:Int)<(m:Int):=by omega
   have H8:50*i<n':=by omega
   obtain⟨pM,HN⟩:=H3.out i (by omega)
   obtain⟨y,hy⟩:∃y,y=(P.getD i 0).toNat:=⟨_,rfl⟩
   have p3:P.getD i 0=(y:Int):=by omega
   rw[← hy]at HN
   obtain⟨A2,c2,h1,h2,_,h4⟩:=HQ.out y HN
   obtain⟨htl,HZ⟩:=hn.out y HN
   have hD:∀W,Below wx.heap.size wx W→Below w.heap.size w W:=fun W hb=>(hK.out.trans (hg.mono he)).trans (hb.mono (Nat.le_trans he hg.size))
   have hs:=hD wx (Below.refl _ _)
   have c0:wx.cell? ⟨w.heap.size,0,none⟩=some (.slice (some ⟨tb,tq,none⟩) q c):=(hg.cell (p:=⟨w.heap.size,0,none⟩) (World.block_lt_of_cell? w3 _ s0)).trans s0
   have c1:wx.cell? ⟨w.heap.size,1,none⟩=some (.slice (some ⟨b,off,none⟩) m d):=(hg.cell (p:=⟨w.heap.size,1,none⟩) (World.block_lt_of_cell? w3 _ s1)).trans s1
   have c2':wx.cell? ⟨b,off+i,none⟩=some (.int .i64 (y:Int)):=by
    rw[← p3]
    exact(hs.cell (p:=⟨b,off+i,none⟩) (World.block_lt_of_cell? w _ (H1.out i (by omega)))).trans (H1.out i (by omega))
   have c3:wx.cell? ⟨tb,tq+y,none⟩=some (.slice A2 m0 c2):=by
    rw[← htl]
    exact(hs.cell (p:=⟨tb,tq+y,none⟩) (World.block_lt_of_cell? w _ h1)).trans h1
   have h5:=aa fun(W:World) (hb:Below wx.heap.size wx W)=>GM W A' n' c' L i (HL.out.below (hD W hb)) pn pk H8
   have h6:=aa fun(W:World) (hb:Below wx.heap.size wx W) (cc:Nat) (hR:(bH L i).length≤cc)=>gK W A2 (A'.map fun x=>x.add (50*i)) m0 c2 (bH L i).length cc (T.getD y []) (bH L i) (by rw[← htl];exact h2.below (hD W hb)) (by rw[← htl];exact h4) (Gy (HL.out.below (hD W hb)) H8) hR (by rw[fV];omega)
   have hI:ly (T.getD y []) (bH L i)=if ∀x∈bH L i,0≤x∧x<(m0:Int)then(i6 T P L i,0)else([],60):=by
    unfold ly i6
    rw[if_pos HZ,htl,hy]
   rw[hI]at h6
   obtain⟨⟨X,zz⟩,HB⟩:∃r:List Nat×Nat,r=if ∀x∈bH L i,0≤x∧x<(m0:Int)then(i6 T P L i,0)else([],60):=⟨_,rfl⟩
   rw[← HB]at h6
   have hO:=aa HB
   have hm:=aa ht
   have hf:=aa hg
   have hw:=aa hS
   have q8:(0:Int)≤(y:Int):=by omega
   have q0:(y:Int)<(q:Int):=by omega
   have bd:Below wx.heap.size wx wx.drew:=(Below.refl _ _).drew
   have ba:Below wx.heap.size wx (wx.alloc (.cells #[.string ⟨#[]⟩,.int .i64 0] 24)).drew:=((Below.refl _ _).alloc (ah _) _).drew
   have ka:Blk (wx.alloc (.cells #[.string ⟨#[]⟩,.int .i64 0] 24)).drew wx.heap.size 24 #[.string ⟨#[]⟩,.int .i64 0]:=ag wx _ _
   have l0:=World.block_lt_of_cell? wx _ c0
   have l2:=World.block_lt_of_cell? wx _ c2'
   have l3:=World.block_lt_of_cell? wx _ c3
   generalize (bH L i).length=pl at*
   generalize (A'.map fun x=>x.add (50*i))=AP at*
   clear ht hg hS hI HB h1 h2 h4 htl HZ hD hs hy p3 pM s0 s1 H8
   go_upto_region 7 with fail
   go_cut [8,9]from 29 to 44 (fun s8 s9 wy=>∃b8,s8=.pointer (some ⟨b8,0,none⟩)∧s9=.int .i64 (zz:Nat)∧Blk wy b8 24 #[.string ⟨(aK X).toArray⟩,.int .i64 (X.length:Nat)]∧wx.heap.size≤b8∧Below wx.heap.size wx wy)
   case first=>
    go_region_held3 (fun w'=>w'.cell? ⟨w.heap.size,0,none⟩=some (.slice (some ⟨tb,tq,none⟩) q c)∧w'.cell? ⟨w.heap.size,1,none⟩=some (.slice (some ⟨b,off,none⟩) m d)∧w'.cell? ⟨b,off+i,none⟩=some (.int .i64 (y:Int))∧w'.cell? ⟨tb,tq+y,none⟩=some (.slice A2 m0 c2))
     (first | exact⟨c0,c1,c2',c3⟩ | exact⟨t0,t1,t2,t3⟩ | exact⟨u0,u1,u2,u3⟩ | go_keep)
     (first
       | (go_at_call 70;(first | with_reducible refine(h5.out _ bd).mono ?_ | with_reducible refine(h5.out _ ba).mono ?_);rintro e w7 ⟨cc,rfl,hR,rfl⟩)
       | (go_at_call 69;(with_reducible refine(h6.out _ bd cc hR).mono ?_);rintro e w9 ⟨rfl,h8⟩
          have t0:w9.cell? ⟨w.heap.size,0,none⟩=some (.slice (some ⟨tb,tq,none⟩) q c):=(h8.cell (p:=⟨w.heap.size,0,none⟩) l0).trans c0
          have t1:w9.cell? ⟨w.heap.size,1,none⟩=some (.slice (some ⟨b,off,none⟩) m d):=(h8.cell (p:=⟨w.heap.size,1,none⟩) l0).trans c1
          have t2:w9.cell? ⟨b,off+i,none⟩=some (.int .i64 (y:Int)):=(h8.cell (p:=⟨b,off+i,none⟩) l2).trans c2'
          have t3:w9.cell? ⟨tb,tq+y,none⟩=some (.slice A2 m0 c2):=(h8.cell (p:=⟨tb,tq+y,none⟩) l3).trans c3
          have h9:Below wx.heap.size wx w9:=bd.trans h8)
       | (go_at_call 69;(with_reducible refine(h6.out _ ba cc hR).mono ?_);rintro e w9 ⟨rfl,h8⟩
          have h9:Below wx.heap.size wx w9:=ap ba h8
          have t0:w9.cell? ⟨w.heap.size,0,none⟩=some (.slice (some ⟨tb,tq,none⟩) q c):=(h9.cell (p:=⟨w.heap.size,0,none⟩) l0).trans c0
          have t1:w9.cell? ⟨w.heap.size,1,none⟩=some (.slice (some ⟨b,off,none⟩) m d):=(h9.cell (p:=⟨w.heap.size,1,none⟩) l0).trans c1
          have t2:w9.cell? ⟨b,off+i,none⟩=some (.int .i64 (y:Int)):=(h9.cell (p:=⟨b,off+i,none⟩) l2).trans c2'
          have t3:w9.cell? ⟨tb,tq+y,none⟩=some (.slice A2 m0 c2):=(h9.cell (p:=⟨tb,tq+y,none⟩) l3).trans c3
          have k9:Blk w9 wx.heap.size 24 #[.string ⟨#[]⟩,.int .i64 0]:=(h8.block wx.heap.size (ay ka)).trans ka
          have x0:=(ac k9 0).trans (rfl:_=some (Value.string ⟨#[]⟩))
          have x1:=(ac k9 1).trans (rfl:_=some (Value.int .i64 0))
          have y0:=ae k9 0
          have y1:=ae k9 1
          have hC:Below wx.heap.size wx ((w9.setCell ⟨wx.heap.size,0,none⟩ (.string ⟨(aK X).toArray⟩)).setCell ⟨wx.heap.size,1,none⟩ (.int .i64 (X.length:Nat))):=(h9.setCell (p:=⟨wx.heap.size,0,none⟩) (ah _) _).setCell (p:=⟨wx.heap.size,1,none⟩) (ah _) _
          have u0:=(hC.cell (p:=⟨w.heap.size,0,none⟩) l0).trans c0
          have u1:=(hC.cell (p:=⟨w.heap.size,1,none⟩) l0).trans c1
          have u2:=(hC.cell (p:=⟨b,off+i,none⟩) l2).trans c2'
          have u3:=(hC.cell (p:=⟨tb,tq+y,none⟩) l3).trans c3))
    all_goals go_wp2_with fail
    all_goals go_meet
    all_goals first
     | exact⟨_,rfl,rfl,ag w9 _ _,h9.size,h9.alloc h9.size _⟩
     | exact⟨_,rfl,rfl,au (au k9 0 _) 1 _,Nat.le_refl _,hC⟩
   case rest=>
    obtain⟨b8,rfl,rfl,hG,HV,hQ⟩:=hcut
    have h7:=ap hf.out hQ
    have hu:w3.heap.size≤wc.heap.size:=h7.size
    by_cases h0:∀x∈bH L i,0≤x∧x<(m0:Int)
    ·have hv:=hO.out
     rw[if_pos h0]at hv
     obtain⟨rfl,rfl⟩:X=i6 T P L i∧zz=0:=by
      injection hv with e1 e2
      exact⟨e1,e2⟩
     have hZ:Hid (an (i6 T P L i)):=aa (EK _ _)
     have hE:∀j,j<i+1→∀x∈bH L j,0≤x∧x<(m0:Int):=fun j hj=>by
      by_cases ej:j=i
      ·rw[ej];exact h0
      ·exact hw.out j (by omega)
     have HH:(List.range (i+1)).map (i6 T P L)=(List.range i).map (i6 T P L)++ [i6 T P L i]:=by rw[List.range_succ,List.map_append];rfl
     obtain⟨X,hX⟩:∃X,X=i6 T P L i:=⟨_,rfl⟩
     rw[← hX]at hG hZ HH
     obtain⟨v5,w5,HK,hc,HU⟩:=sk wc w3.heap.size (.slice A9 i c9) _ X (hm.out.below hQ) hu (by simp;omega) hZ.out
     rw[← HH]at hc
     obtain⟨A5,c5,rfl,_,_,_⟩:=aj hc.own
     rw[List.length_map,List.length_range]at hc HK
     have x0:=(ac hG 0).trans (rfl:_=some (Value.string ⟨(aK X).toArray⟩))
     have x1:=(ac hG 1).trans (rfl:_=some (Value.int .i64 X.length))
     have pf:=aa HK
     have H2:=aa hc
     have p5:=aa (h7.trans HU)
     have H0:=aa hE
     clear hG HV hQ h7 hu h0 hv hE HH hX HK hc HU hZ hO hm hf hw h5 h6 c0 c1 c2' c3 bd ba ka l0 l2 l3
     go_wp2_with (at_builtin;refine Lib.wpList_append_run _ rfl (.tmp 49) (.tmp 51) 111 111 rfl (.slice A9 i c9) (.slice (some ⟨wc.heap.size,0,none⟩) 1 1) rfl rfl _ w5 pf.out ?_)
     go_roundw
     case rel=>exact⟨i+1,A5,c5,by omega,by go_num,rfl,H2.out,p5.out,H0.out⟩
     case measure=>simp[intOf];omega
    ·have hv:=hO.out
     rw[if_neg h0]at hv
     obtain⟨rfl,rfl⟩:X= []∧zz=60:=by
      injection hv with e1 e2
      exact⟨e1,e2⟩
     have hr:=(h7.block (w.heap.size+1) hh).trans H5.out
     have g0:=(ac (show Blk wc (w.heap.size+1) _ _ from hr) 0).trans (rfl:_=some (Value.string ⟨#[]⟩))
     have g1:=(ac (show Blk wc (w.heap.size+1) _ _ from hr) 1).trans (rfl:_=some (Value.int .i64 0))
     have f0:=ae (show Blk wc (w.heap.size+1) _ _ from hr) 0
     have f1:=ae (show Blk wc (w.heap.size+1) _ _ from hr) 1
     have HE:=aa (hl.out i e h0 _ (((hK.out.trans (h7.mono he)).setCell (p:=⟨w.heap.size+1,0,none⟩) (Nat.le_succ _) (.string ⟨#[]⟩)).setCell (p:=⟨w.heap.size+1,1,none⟩) (Nat.le_succ _) (.int .i64 0)))
     clear hG HV hQ h7 hu h0 hv hr hO hm hf hw h5 h6 c0 c1 c2' c3 bd ba ka l0 l2 l3 hl ha
     go_wp2_with fail
     refine bodyPost_ret (v:=.tuple #[.agg #[.string ⟨#[]⟩,.int .i64 0],.int .i64 60]) ?_ rfl HE.out
     simp[results,Tryz.results23,go_sem,g0,g1]
  ·obtain rfl:i=z:=by omega
   have di:decide ((i:Int)<(i:Int))=false:=ao (by omega)
   have pg:((List.range i).map (i6 T P L)).flatten.length≤1000*i:=qG T P L (fun k=>by
    by_cases hk:k<m
    ·exact .inl (hn.out _ (H3.out k hk).2).2
    ·right
     unfold bH
     rw[List.drop_eq_nil_of_le (by have:=pb.out;omega)]
     rfl) i
   have HJ:=aa (qY wx w3.heap.size (.slice A9 i c9) _ ht (by simp;omega) (by omega))
   obtain⟨X,hX⟩:∃X,X=((List.range i).map (i6 T P L)).flatten:=⟨_,rfl⟩
   rw[← hX]at HJ
   have HS:=aa hX
   have hf:=aa hg
   have hw:=aa hS
   clear ht hg hS pg hX hl HQ H1 H3 hn HL
   go_wp2_with fail
   refine HJ.out.mono ?_
   rintro e w9 ⟨rfl,h8⟩
   have hJ:=(am h8).blk ((hf.out.block (w.heap.size+1) hh).trans H5.out) aq aq
   have g0:=(ac hJ 0).trans (rfl:_=some (Value.string ⟨#[]⟩))
   have g1:=(ac hJ 1).trans (rfl:_=some (Value.int .i64 0))
   have f0:=ae hJ 0
   have f1:=ae hJ 1
   have h9:=(hK.out.trans (hf.out.mono he)).trans (h8.mono (Nat.le_trans he hf.out.size))
   have HE:=aa (ha.out hw.out _ X HS.out ((h9.setCell (p:=⟨w.heap.size+1,0,none⟩) (Nat.le_succ _) (.string ⟨(aK X).toArray⟩)).setCell (p:=⟨w.heap.size+1,1,none⟩) (Nat.le_succ _) (.int .i64 X.length)))
   clear hJ h8 h9 HJ hf hw ha HS
   go_wp2_with fail
   refine bodyPost_ret (v:=.tuple #[.agg #[.string ⟨(aK X).toArray⟩,.int .i64 X.length],.int .i64 0]) ?_ rfl HE.out
   simp[results,Tryz.results23,go_sem,g0,g1]
theorem xq(w:World)(v:Value)(T:List (List Int))(P:List Int)(h:aN w v T P)(A':Option Addr)(n' c':Nat)(L:List Int)(hL:ZIn w A' n' L)(h1:n'≤c')(h0:n'≤2000000):
 Calls Tryz.prog 23 #[v,.slice A' n' c'] w (aV w (bD T P L)):=by
 by_cases hP:aR T P
 ·by_cases hM:FU T P L
  ·exact FC w v T P h A' n' c' L hL h1 h0 hM
  ·exact Gi w v T P h A' n' c' L hL.1 h0 hP hM
 ·exact Hs w v T P h A' n' c' L hP
theorem zl(w:World)(v:Value)(T:List (List Int))(P:List Int)(h:aN w v T P)(hM:¬aR T P):
 Calls Tryz.prog 22 #[v] w (aV w (eG T P)):=by
 rw[show eG T P=([],110)from if_neg hM]
 obtain⟨A,q,c,B,m,d,rfl,_⟩:=id h
 have h4:Below w.heap.size w (w.alloc (.cells #[.slice A q c,.slice B m d] 52)):=(Below.refl _ _).alloc (ah _) _
 have h7:=ag w 52 #[.slice A q c,.slice B m d]
 obtain⟨w1,h2⟩:∃w1,w1=w.alloc (.cells #[.slice A q c,.slice B m d] 52):=⟨_,rfl⟩
 have he:w1.heap.size=w.heap.size+1:=by rw[h2];simp
 rw[← h2]at h4 h7
 have h5:Below w1.heap.size w1 (w1.alloc (.cells #[.string ⟨#[]⟩,.int .i64 0] 24)):=(Below.refl _ _).alloc (ah _) _
 have hc:=aL h5 h7
 have h8:=ag w1 24 #[.string ⟨#[]⟩,.int .i64 0]
 rw[he]at h8
 have h0:=ap h4 h5
 have HM:=aa (cK _ _ T P (h.below h0))
 rw[decide_eq_false hM]at HM
 have h3:=aa hc
 have ha:=aa h8
 have h9:=aa h0
 have hb:=aa h2.symm
 clear h hM h4 h7 h5 hc h8 h0 he h2
 go_enter Tryz.func22,Tryz.ntmps22
 go_upto_region 1 with fail
 rw[hb.out]
 generalize w1.alloc (.cells #[.string ⟨#[]⟩,.int .i64 0] 24)=w2 at*
 clear hb
 have p0:w2.cell? ⟨w.heap.size,0,none⟩=some (.slice A q c):=(ac h3.out 0).trans rfl
 have p1:w2.cell? ⟨w.heap.size,1,none⟩=some (.slice B m d):=(ac h3.out 1).trans rfl
 go_wp2_with fail
 refine HM.out.mono ?_
 rintro e w3 ⟨rfl,h6⟩
 have h1:=aL h6 ha.out
 have q0:=(ac h1 0).trans (rfl:_=some (Value.string ⟨#[]⟩))
 have q1:=(ac h1 1).trans (rfl:_=some (Value.int .i64 0))
 have f0:=ae h1 0
 have f1:=ae h1 1
 have hf:=aa (ap h9.out h6)
 clear h1 h6 ha h3 h9 HM p0 p1
 go_wp2_with fail
 refine bodyPost_ret (v:=.tuple #[.agg #[.string ⟨#[]⟩,.int .i64 0],.int .i64 110]) ?_ rfl ⟨rfl,(hf.out.setCell (p:=⟨w.heap.size+1,0,none⟩) (Nat.le_succ _) _).setCell (p:=⟨w.heap.size+1,1,none⟩) (Nat.le_succ _) _⟩
 simp[results,Tryz.results22,go_sem,q0,q1]
theorem z9(w:World)(v:Value)(T:List (List Int))(P:List Int)(h:aN w v T P)(hM:aR T P):
 Calls Tryz.prog 22 #[v] w (aV w (eG T P)):=by
 obtain⟨A,q,c,B,m,d,rfl,hT,r7,hq,hP,r6,hm⟩:=id h
 have hL:=hT.1
 have q5:=hP.1
 have h5:2≤q∧q≤6:=by have h1:=hM.1;have h2:=hM.2.1;omega
 have hr:1≤m∧m≤32767:=by have h1:=hM.2.2.1;have h2:=hM.2.2.2.1;omega
 have H2:∀x∈P,0≤x∧x<(q:Int):=fun x hx=>by rw[← hL];exact hM.2.2.2.2.2.1 x hx
 have H3:∀t∈T,aY t:=fun t ht=>(hM.2.2.2.2.1 t ht).2
 obtain⟨H,hH⟩:∃H,H=ai q 3++ai m 15++aG (List.range q) (nl P):=⟨_,rfl⟩
 have HE:(nl P).length=m:=by unfold nl;rw[List.length_map,q5]
 have hA:∀x∈nl P,x<q:=by
  intro x hx
  unfold nl at hx
  obtain⟨y,hy,rfl⟩:=List.mem_map.1 hx
  have:=H2 y hy
  omega
 have ho:eG T P=(H++(T.map nl).flatMap aX,0):=by
  unfold eG gB
  rw[if_pos hM,List.length_map,hL,HE,sq h5.2 (nl P) hA,hH]
 rw[ho]
 have pj:an H:=by rw[hH];exact((aE 3 q).append (aE 15 m)).append (kt _ _)
 have pk:H.length≤200000:=by
  rw[hH,List.length_append,List.length_append,af,af]
  have:=kX (nl P) (List.range q) q (by simp) (fun x hx=>List.mem_range.2 (hA x hx))
  rw[HE]at this
  have h2:q*m≤6*32767:=Nat.mul_le_mul h5.2 hr.2
  omega
 have pn:((T.map nl).flatMap aX).length≤11000*T.length:=lC T fun t ht=>jS (H3 t ht)
 have HB:aw w B m (nl P):=eA hP fun x hx=>(H2 x hx).1
 have pl:∀a,B=some a→a.block<w.heap.size:=fun a ha=>by
  obtain⟨b,off,he,hc⟩:=HB.2 hr.1
  rw[he]at ha
  cases ha
  exact World.block_lt_of_cell? w _ (hc 0 hr.1)
 have H4:Below w.heap.size w (w.alloc (.cells #[.slice A q c,.slice B m d] 52)):=(Below.refl _ _).alloc (ah _) _
 have HC:=ag w 52 #[.slice A q c,.slice B m d]
 obtain⟨w1,hO⟩:∃w1,w1=w.alloc (.cells #[.slice A q c,.slice B m d] 52):=⟨_,rfl⟩
 have qb:w1.heap.size=w.heap.size+1:=by rw[hO];simp
 rw[← hO]at H4 HC
 have H5:Below w1.heap.size w1 (w1.alloc (.cells #[.string ⟨#[]⟩,.int .i64 0] 24)):=(Below.refl _ _).alloc (ah _) _
 have q3:=aL H5 HC
 have HF:=ag w1 24 #[.string ⟨#[]⟩,.int .i64 0]
 rw[qb]at HF
 have h9:=ap H4 H5
 have HM:=aa (cK _ _ T P (h.below h9))
 rw[decide_eq_true hM]at HM
 have HT:=aa fun(w1:World) (hb:Below w.heap.size w w1)=>hT.below hb
 have HQ:=aa fun(w1:World) (hb:Below w.heap.size w w1)=>bF HB hb
 have HV:=aa pl
 have HW:=aa hA
 have qm:=aa pj
 have qo:=aa pk
 have HP:=aa hH
 have r0:=aa pn
 have qv:=aa H3
 have hz:=aa hL
 have hw:=aa q3
 have HZ:=aa HF
 have HL:=aa h9
 have pb:=aa hO.symm
 have HX:Hid (∀ w' X,X=H++(T.map nl).flatMap aX→Below w.heap.size w w'→aV w (H++(T.map nl).flatMap aX,0) (.returned (.tuple #[.agg #[.string ⟨(aK X).toArray⟩,.int .i64 X.length],.int .i64 0])) w'):=aa fun w' X hX hb=>by
  rw[hX]
  exact⟨rfl,hb⟩
 generalize aV w (H++(T.map nl).flatMap aX,0)=PO at*
 clear h hM H4 HC H5 q3 HF h9 qb hO hT hP q5 H2 H3 hH HE hA ho pj pk pn HB pl hL
 go_enter Tryz.func22,Tryz.ntmps22
 go_upto_region 1 with fail
 rw[pb.out]
 generalize w1.alloc (.cells #[.string ⟨#[]⟩,.int .i64 0] 24)=w2 at*
 clear pb
 have p0:w2.cell? ⟨w.heap.size,0,none⟩=some (.slice A q c):=(ac hw.out 0).trans rfl
 have p1:w2.cell? ⟨w.heap.size,1,none⟩=some (.slice B m d):=(ac hw.out 1).trans rfl
 go_wp2_with fail
 refine HM.out.mono ?_
 rintro e w3 ⟨rfl,hD⟩
 have hV:=aa (aL hD hw.out)
 have hY:=aa (aL hD HZ.out)
 have hv:=aa (ap HL.out hD)
 clear hD HZ hw HL HM p0 p1
 go_wp2_with fail
 refine(Ca w3).mono ?_
 rintro e w4 ⟨rfl,HI⟩
 have po:IsW w3.heap.size w4 w3.heap.size (.slice none 0 0) []:=by rw[HI];exact l7 w3 w3.heap.size (ah _)
 have hE:Below w3.heap.size w3 w4:=bR HI
 have hJ:=aL hE hV.out
 have q8:=aL hE hY.out
 have hg:=ap hv.out hE
 have p0:w4.cell? ⟨w.heap.size,0,none⟩=some (.slice A q c):=(ac hJ 0).trans rfl
 have p1:w4.cell? ⟨w.heap.size,1,none⟩=some (.slice B m d):=(ac hJ 1).trans rfl
 have H1:=th w3.heap.size w4 w3.heap.size _ [] po (by simp) A q c B m d (nl P) (HQ.out w4 hg) (fun a ha=>Nat.lt_of_lt_of_le (HV.out a ha) hv.out.size) h5.1 h5.2 hr.1 hr.2 HW.out
 rw[List.nil_append,←HP.out]at H1
 have HY:=aa H1
 have HR:=aa hJ
 have p2:=aa q8
 have HN:=aa hg
 have HD:w.heap.size<w3.heap.size:=ay hV.out
 have hp:w.heap.size+1<w3.heap.size:=ay hY.out
 have HG:w.heap.size≤w3.heap.size:=hv.out.size
 clear HI po hE hJ q8 hg H1 hV hY hv HV HW HP
 generalize w3.heap.size=p at*
 go_wp2_with fail
 refine HY.out.mono ?_
 rintro e w5 ⟨rfl,⟨v5,hC⟩,hB⟩
 have q4:=(hB.below.block w.heap.size HD).trans HR.out
 have q9:=(hB.below.block (w.heap.size+1) hp).trans p2.out
 have hh:=HN.out.trans (hB.below.mono HG)
 have p0:w5.cell? ⟨w.heap.size,0,none⟩=some (.slice A q c):=(ac (show Blk w5 w.heap.size _ _ from q4) 0).trans rfl
 have p5:=aa (iz p w5 p v5 H hC)
 have HS:=aa (jR w5 p (H.length:Nat) (by have:=ac hC.blk 0;simpa using this) (by have:=ac hC.blk 2;simpa using this))
 have hZ:Hid (Blk w5 (w.heap.size+1) 24 #[.string ⟨#[]⟩,.int .i64 0]):=aa q9
 have hQ:=aa hh
 have p3:=aa (HT.out w5 hh)
 clear hC hB q4 q9 hh HY HR p2 HN HT HQ p1
 go_wp2_with fail
 refine p5.out.mono ?_
 rintro e w5 ⟨rfl,rfl⟩
 go_wp2_with fail
 refine HS.out.mono ?_
 rintro e w5 ⟨rfl,rfl⟩
 clear p5 HS
 have hl:=aa (I5 w5 w5.heap.size (ah _) H qm.out)
 have hR:Hid (Below w5.heap.size w5 (w5.alloc (.cells #[.string ⟨(aK H).toArray⟩,.int .i64 H.length] 24))):=aa ((Below.refl _ _).alloc (ah _) _)
 have p0':(w5.alloc (.cells #[.string ⟨(aK H).toArray⟩,.int .i64 H.length] 24)).cell? ⟨w.heap.size,0,none⟩=some (.slice A q c):=(hR.out.cell (p:=⟨w.heap.size,0,none⟩) (World.block_lt_of_cell? w5 _ p0)).trans p0
 obtain⟨tb,tq,rfl,qa⟩:=p3.out.2 (by omega)
 have p4:=aa qa
 have r1:w.heap.size+1<w5.heap.size:=ay hZ.out
 clear qa p3
 go_upto_region 6 with fail
 generalize w5.alloc (.cells #[.string ⟨(aK H).toArray⟩,.int .i64 H.length] 24)=w6 at*
 go_wp2_with fail
 go_loopw [5,7,8,9,27] (fun pv s7 s8 s9 iv' wx=>∃(i:Nat) (A9:Option Addr) (c9:Nat),i≤q∧iv'=.int .i64 i∧pv=.slice A9 (i+1) c9∧Pcs wx w5.heap.size (.slice A9 (i+1) c9) (H :: ((T.map nl).map aX).take i)∧Below w5.heap.size w5 wx) (fun _ _ _ _ iv' _=>q - (intOf iv').toNat)
 case atStart=>
  refine⟨0,_,_,Nat.zero_le _,rfl,rfl,?_,hR.out⟩
  rw[List.take_zero]
  exact hl.out
 case round=>
  clear hl hR p0 p0'
  rename World=>wx
  obtain⟨i,A9,c9,hi,rfl,rfl,hs,hk⟩:=hrel
  by_cases e:i<q
  ·have di:decide ((i:Int)<(q:Int))=true:=ar (by omega)
   have r2:(0:Int)≤(i:Int):=by omega
   have r3:(i:Int)<(q:Int):=by omega
   obtain⟨A2,c2,h1,h2,_,h4⟩:=p4.out i e
   have HA:i<T.length:=by rw[hz.out];exact e
   have c1:wx.cell? ⟨tb,tq+i,none⟩=some (.slice A2 (T.getD i []).length c2):=(hk.cell (p:=⟨tb,tq+i,none⟩) (World.block_lt_of_cell? w5 _ h1)).trans h1
   have hN:=S10.oX wx A2 (T.getD i []).length c2 (T.getD i []) (h2.below hk) h4
   have q2:DOk (T.getD i []):=jS (qv.out _ (lW T i HA))
   rw[show jn (T.getD i [])=(aX (nl (T.getD i [])),0)from if_pos q2]at hN
   obtain⟨X,hX⟩:∃X,X=aX (nl (T.getD i [])):=⟨_,rfl⟩
   rw[← hX]at hN
   have ps:an X:=by
    rw[hX]
    exact ua _
   have h8:H :: ((T.map nl).map aX).take (i+1)=(H :: ((T.map nl).map aX).take i)++ [X]:=by
    rw[List.take_succ_eq_append_getElem (by simp;exact HA),List.getElem_map,List.getElem_map,hX,List.getD_eq_getElem?_getD,List.getElem?_eq_getElem HA]
    rfl
   have HU:=aa h8
   have pg:=aa ps
   have H0:=aa hN
   have hl:=aa hs
   have h7:=aa hk
   obtain⟨tl,htl⟩:∃tl,tl=(T.getD i []).length:=⟨_,rfl⟩
   rw[← htl]at c1 H0
   have HH:tl≤maxLen:=by rw[htl];exact h4
   unfold maxLen at HH
   clear h1 h2 h4 hN q2 hX ps h8 hs hk htl
   go_wp2_with fail
   refine H0.out.mono ?_
   rintro e w7 ⟨rfl,hF⟩
   have hG:Below w7.heap.size w7 (w7.alloc (.cells #[.string ⟨(aK X).toArray⟩,.int .i64 X.length] 24)):=(Below.refl _ _).alloc (ah _) _
   have hK:=ag w7 24 #[.string ⟨(aK X).toArray⟩,.int .i64 X.length]
   obtain⟨w8,HK⟩:∃w8,w8=w7.alloc (.cells #[.string ⟨(aK X).toArray⟩,.int .i64 X.length] 24):=⟨_,rfl⟩
   rw[← HK]at hG hK
   have hu:=(hl.out.below hF).below hG
   have hf:=(ap h7.out hF).trans (hG.mono (Nat.le_trans h7.out.size hF.size))
   obtain⟨v9,w9,h6,h0,hj⟩:=sk w8 w5.heap.size (.slice A9 (i+1) c9) _ X hu hf.size (by simp;omega) pg.out
   rw[← HU.out]at h0
   have q7:(H :: ((T.map nl).map aX).take (i+1)).length=i+1+1:=by simp;omega
   obtain⟨A3,c3,rfl,_,_,_⟩:=aj h0.own
   rw[q7]at h0 h6
   have x0:=(ac hK 0).trans (rfl:_=some (Value.string ⟨(aK X).toArray⟩))
   have x1:=(ac hK 1).trans (rfl:_=some (Value.int .i64 X.length))
   have qs:=aa h6
   have hW:=aa h0
   have ql:=aa (hf.trans hj)
   have pf:=aa HK.symm
   clear hF hG hK HK hu hf h6 h0 hj q7 H0 hl h7 HU pg
   go_upto_region 10 with fail
   rw[pf.out]
   clear pf
   generalize w7.heap.size=g8 at*
   go_wp2_with (at_builtin;refine Lib.wpList_append_run _ rfl (.tmp 36) (.tmp 38) 111 111 rfl (.slice A9 (i+1) c9) (.slice (some ⟨w8.heap.size,0,none⟩) 1 1) rfl rfl _ w9 qs.out ?_)
   go_roundw
   case rel=>exact⟨i+1,A3,c3,by omega,by go_num,rfl,hW.out,ql.out⟩
   case measure=>simp[intOf];omega
  ·obtain rfl:i=q:=by omega
   have di:decide ((i:Int)<(i:Int))=false:=ao (by omega)
   have hn:(H :: ((T.map nl).map aX).take i)=H :: (T.map nl).map aX:=by
    rw[List.take_of_length_le (by have:=hz.out;simp;omega)]
   rw[hn]at hs
   have hI:(H :: (T.map nl).map aX).flatten=H++(T.map nl).flatMap aX:=by
    rw[List.flatten_cons,List.flatMap_def]
   have H8:(H :: (T.map nl).map aX).flatten.length≤1000000:=by
    rw[hI,List.length_append]
    have h1:=qo.out
    have h2:=r0.out
    have h3:=hz.out
    have h4:11000*T.length≤11000*6:=Nat.mul_le_mul_left _ (by omega)
    omega
   have HJ:=aa (qY wx w5.heap.size (.slice A9 (i+1) c9) _ hs (by simp;have:=hz.out;omega) (by omega))
   obtain⟨X,hX⟩:∃X,X=(H :: (T.map nl).map aX).flatten:=⟨_,rfl⟩
   rw[← hX]at HJ hI
   have HO:=aa hI
   have h7:=aa hk
   clear hs hk hn hI H8 hX
   go_wp2_with fail
   refine HJ.out.mono ?_
   rintro e w9 ⟨rfl,hj⟩
   have h6:=(am hj).blk ((h7.out.block (w.heap.size+1) r1).trans hZ.out) aq aq
   have q0:=(ac h6 0).trans (rfl:_=some (Value.string ⟨#[]⟩))
   have q1:=(ac h6 1).trans (rfl:_=some (Value.int .i64 0))
   have f0:=ae h6 0
   have f1:=ae h6 1
   have pM:=(ap hQ.out h7.out).trans (hj.mono (Nat.le_trans hQ.out.size h7.out.size))
   have hS:=aa (HX.out _ X HO.out ((pM.setCell (p:=⟨w.heap.size+1,0,none⟩) (Nat.le_succ _) (.string ⟨(aK X).toArray⟩)).setCell (p:=⟨w.heap.size+1,1,none⟩) (Nat.le_succ _) (.int .i64 X.length)))
   clear h6 hj pM HJ HO h7 HX hZ hQ p4
   go_wp2_with fail
   refine bodyPost_ret (v:=.tuple #[.agg #[.string ⟨(aK X).toArray⟩,.int .i64 X.length],.int .i64 0]) ?_ rfl hS.out
   simp[results,Tryz.results22,go_sem,q0,q1]
theorem re(w:World)(v:Value)(T:List (List Int))(P:List Int)(h:aN w v T P):
 Calls Tryz.prog 22 #[v] w (aV w (eG T P)):=by
 by_cases hM:aR T P
 ·exact z9 w v T P h hM
 ·exact zl w v T P h hM
theorem Da(w:World)(v:Value)(T:List (List Int))(P:List Int)(h:aN w v T P)(A':Option Addr)(n' c':Nat)(L:List Int)(hL:ZIn w A' n' L)(hu:n'≤c')(hq:n'≤2000000):
 Calls Tryz.prog 59 #[v,.slice A' n' c'] w fun e w'=>e=.returned (.tuple #[.int .i64 (ff T P L).1,.int .i64 (ff T P L).2])∧Below w.heap.size w w':=by
 obtain⟨A,n,c,B,m,d,rfl,hl⟩:∃A n c B m d,v=.agg #[.slice A n c,.slice B m d]∧aN w (.agg #[.slice A n c,.slice B m d]) T P:=by
  obtain⟨A,n,c,B,m,d,hv,hr⟩:=id h
  exact⟨A,n,c,B,m,d,hv,by rw[← hv];exact h⟩
 clear h
 obtain⟨w1,hj⟩:∃w1,w1=w.alloc (.cells #[.slice A n c,.slice B m d] 52):=⟨_,rfl⟩
 have hi:Blk w1 w.heap.size 52 #[.slice A n c,.slice B m d]:=ee hj
 have ha:Below w.heap.size w w1:=bR hj
 have hs:w.heap.size<w1.heap.size:=ay hi
 have HQ:Hid (∀ wx,Below w1.heap.size w1 wx→wx.cell? ⟨w.heap.size,0,none⟩=some (.slice A n c)∧wx.cell? ⟨w.heap.size,1,none⟩=some (.slice B m d)):=aa fun wx h=>
  ⟨(h.cell (p:=⟨w.heap.size,0,none⟩) hs).trans ((ac hi 0).trans rfl),(h.cell (p:=⟨w.heap.size,1,none⟩) hs).trans ((ac hi 1).trans rfl)⟩
 have hg:=aa (xq w1 _ T P (hl.below ha) A' n' c' L (hL.below ha) hu hq)
 have hk:=aa fun(wx:World) (hb:Below w1.heap.size w1 wx)=>re wx _ T P ((hl.below ha).below hb)
 have h5:=im T P L (by rw[hL.1];exact hq)
 have h2:=jo T P
 have hf:=xD T P L
 have h1:ff T P L=if(bD T P L).2=0 then((eG T P).1.length+(bD T P L).1.length,0)else(0,(bD T P L).2):=rfl
 have h8:=aa ha
 have hh:=aa hj
 obtain⟨p0,p1⟩:=HQ.out _ (Below.refl _ _)
 generalize ff T P L=ans at*
 generalize bD T P L=cs at*
 generalize eG T P=bs at*
 obtain⟨cl,ck⟩:=cs
 obtain⟨bl,bk⟩:=bs
 dsimp only at h5 h2 hf h1
 clear hl hL hi ha hj
 by_cases h0:ck=0
 ·subst h0
  rw[if_pos rfl]at h1
  have h3:=aa h1
  clear h1
  go_enter Tryz.func59,Tryz.ntmps59
  go_upto_region 1 with fail
  rw[← hh.out]
  clear hh
  go_wp2_with fail
  refine hg.out.mono ?_
  rintro e w3 ⟨rfl,h7⟩
  (try dsimp only)
  have hc:Below w3.heap.size w3 (w3.alloc (.cells #[.string ⟨(aK cl).toArray⟩,.int .i64 (cl.length:Nat)] 24)):=(Below.refl _ _).alloc (ah _) _
  have hm:=aa (ag w3 24 #[.string ⟨(aK cl).toArray⟩,.int .i64 (cl.length:Nat)])
  have h6:=aa (ap h7 hc)
  clear h7 hc hg p0 p1
  go_upto_region 2 with fail
  generalize w3.alloc (.cells #[.string ⟨(aK cl).toArray⟩,.int .i64 (cl.length:Nat)] 24)=w4 at*
  generalize w3.heap.size=g6 at*
  obtain⟨p0,p1⟩:=HQ.out _ h6.out
  have h9:=aa (hk.out _ h6.out)
  go_wp2_with fail
  refine h9.out.mono ?_
  rintro e w5 ⟨rfl,hn⟩
  (try dsimp only)
  have he:Below w5.heap.size w5 (w5.alloc (.cells #[.string ⟨(aK bl).toArray⟩,.int .i64 (bl.length:Nat)] 24)):=(Below.refl _ _).alloc (ah _) _
  have h4:=ap hn he
  have ho:=aL h4 hm.out
  have hp:=ag w5 24 #[.string ⟨(aK bl).toArray⟩,.int .i64 (bl.length:Nat)]
  have x1:=(ac ho 1).trans (rfl:_=some (Value.int .i64 (cl.length:Nat)))
  have y1:=(ac hp 1).trans (rfl:_=some (Value.int .i64 (bl.length:Nat)))
  have ht:=aa (h8.out.trans ((ap h6.out h4).mono h8.out.size))
  clear hn he h4 ho hp h9 hm h6 p0 p1 hk HQ
  go_upto_region 5 with fail
  generalize w5.alloc (.cells #[.string ⟨(aK bl).toArray⟩,.int .i64 (bl.length:Nat)] 24)=w6 at*
  generalize w5.heap.size=g8 at*
  generalize bl.length=K at*
  generalize cl.length=M at*
  go_wp2_with fail
  go_ret2
  exact⟨by rw[h3.out];rfl,ht.out⟩
 ·have d0:((ck:Int) != 0)=true:=by
   rw[bne_iff_ne]
   omega
  rw[if_neg h0]at h1
  have h3:=aa h1
  clear h1 h0
  go_enter Tryz.func59,Tryz.ntmps59
  go_upto_region 1 with fail
  rw[← hh.out]
  clear hh
  go_wp2_with fail
  refine hg.out.mono ?_
  rintro e w3 ⟨rfl,h7⟩
  (try dsimp only)
  have h6:=aa (h8.out.trans ((h7.alloc h7.size (.cells #[.string ⟨(aK cl).toArray⟩,.int .i64 (cl.length:Nat)] 24)).mono h8.out.size))
  clear h7 hg p0 p1 hk HQ h8
  go_upto_region 2 with fail
  generalize w3.alloc (.cells #[.string ⟨(aK cl).toArray⟩,.int .i64 (cl.length:Nat)] 24)=w4 at*
  go_wp2_with fail
  go_ret2
  exact⟨by rw[h3.out];rfl,h6.out⟩
structure gg (w:World) (B g T n t:Nat) (G:Nat→Nat) (C:Nat→Nat→Nat):Prop where
 own:w.ownsRow B 36 1 (.slice (some ⟨g,0,none⟩) T T) T ((List.range T).map fun j=>if j<t then .slice (some ⟨G j,0,none⟩) n n else .slice none 0 0)
 rows:∀j,j<t→aB w B (G j) n n (C j)
 ne:∀i j,i<t→j<t→i≠j→G i≠G j
theorem wf(w:World)(B T n:Nat)(hB:B≤w.heap.size)(hT:T≤1000)(G:Nat→Nat)(C:Nat→Nat→Nat):gg (w.alloc (.cells (madeCells #[.slice none 0 0] T) 36)) B w.heap.size T n 0 G C:=by
 refine⟨?_,fun j hj=>absurd hj (Nat.not_lt_zero _),fun i _ hi=>absurd hi (Nat.not_lt_zero _)⟩
 have h:=(xt w B T hB hT).own
 have e:(fun j:Nat=>if j<0 then(.slice (some ⟨G j,0,none⟩) n n:Value)else .slice none 0 0)=fun _=>.slice none 0 0:=by
  funext j
  rw[if_neg (Nat.not_lt_zero _)]
 rw[e]
 exact h
section
variable {w w':World} {B g T n t:Nat} {G:Nat→Nat} {C:Nat→Nat→Nat}
theorem gg.g_ne(h:gg w B g T n t G C){j:Nat}(hj:j<t):G j≠g:=by
 intro e
 obtain⟨c1,f1,e1⟩:=Lib.ownsRow_kind (h.rows j hj) (G j) rfl
 obtain⟨c2,f2,e2⟩:=Lib.ownsRow_kind h.own g rfl
 rw[e,e2]at e1
 simp at e1
theorem gg.cell(h:gg w B g T n t G C)(j:Nat)(hj:j<t)(hT:j<T):w.cell? ⟨g,j,none⟩=some (.slice (some ⟨G j,0,none⟩) n n):=by
 rw[World.ownsRow.cellAt h.own j (by omega),List.getElem?_map,List.getElem?_range hT]
 show some (if j<t then _ else _)=_
 rw[if_pos hj]
theorem gg.frozen(h:gg w B g T n t G C)(j:Nat):w.frozen? ⟨g,j,none⟩=false:=World.ownsRow.frozenAt h.own j
theorem gg.lt(h:gg w B g T n t G C):B≤g∧g<w.heap.size:=World.ownsRow.lt h.own g rfl
theorem gg.step{B':Nat}(h:gg w B g T n t G C)(hs:ak B' [] [] w w'):gg w' B g T n t G C:=
 ⟨hs.row h.own (fun _ _=>aq) aq,fun j hj=>hs.row (h.rows j hj) (fun _ _=>aq) aq,h.ne⟩
theorem gg.same(h:gg w B g T n t G C){D:Nat→Nat→Nat}(hd:∀j,j<t→C j=D j):gg w B g T n t G D:=
 ⟨h.own,fun j hj=>by rw[← hd j hj];exact h.rows j hj,h.ne⟩
theorem gg.push{B2 gN:Nat}{f:Nat→Nat}(h:gg w B g T n t G C)(hb:Below w.heap.size w w')(h4:B≤B2)(hf:aB w' B2 gN n n f)(hg:w.heap.size≤gN):
 gg (w'.setCell ⟨g,t,none⟩ (.slice (some ⟨gN,0,none⟩) n n)) B g T n (t+1) (fun j=>if j=t then gN else G j) (fun j=>if j=t then f else C j):=by
 have h2:=h.step (am hb)
 have h5:=h.lt
 have h3:=World.ownsRow.stored h2.own t (.slice (some ⟨gN,0,none⟩) n n)
 have h0:((List.range T).map fun j=>if j<t then(.slice (some ⟨G j,0,none⟩) n n:Value)else .slice none 0 0).set t (.slice (some ⟨gN,0,none⟩) n n)=(List.range T).map fun j=>if j<t+1 then(.slice (some ⟨if j=t then gN else G j,0,none⟩) n n)else .slice none 0 0:=by
  apply List.ext_getElem?
  intro j
  rw[List.getElem?_set]
  by_cases e:t=j
  ·subst e
   by_cases hj:t<T
   ·simp[hj]
   ·simp[hj]
  ·have e':¬j=t:=fun k=>e k.symm
   rw[if_neg e,List.getElem?_map,List.getElem?_map]
   by_cases hj:j<T
   ·rw[List.getElem?_range hj]
    by_cases e3:j<t
    ·have:j<t+1:=by omega
     simp[e',e3,this]
    ·have:¬j<t+1:=by omega
     simp[e3,this]
   ·rw[List.getElem?_eq_none (by rw[List.length_range];omega)]
    rfl
 rw[h0]at h3
 have h1:∀(B3 k:Nat) (f3:Nat→Nat),aB w' B3 k n n f3→g≠k:=by
  intro B3 k f3 hk e
  obtain⟨c1,f1,e1⟩:=Lib.ownsRow_kind hk k rfl
  obtain⟨c2,f2,e2⟩:=Lib.ownsRow_kind h2.own g rfl
  rw[← e,e2]at e1
  simp at e1
 refine⟨h3.1,fun j hj=> ?_,fun i j hi hj hij=> ?_⟩
 ·by_cases e:j=t
  ·simp only[if_pos e]
   exact aB.other (World.ownsRow.mono hf h4) (h1 _ _ _ hf) t _
  ·simp only[if_neg e]
   have hr:=h2.rows j (by omega)
   exact aB.other hr (h1 _ _ _ hr) t _
 ·by_cases e:i=t
  ·rw[if_pos e,if_neg (by omega)]
   have:=(h.rows j (by omega)).lt
   omega
  ·rw[if_neg e]
   by_cases e2:j=t
   ·rw[if_pos e2]
    have:=(h.rows i (by omega)).lt
    omega
   ·rw[if_neg e2]
    exact h.ne i j (by omega) (by omega) hij
theorem gg.upd{B' j:Nat}{f:Nat→Nat}(h:gg w B g T n t G C)(hj:j<t)(hf:aB w' B (G j) n n f)(hs:ak B' [G j] [] w w'):gg w' B g T n t G (fun i=>if i=j then f else C i):=by
 refine⟨hs.row h.own (fun k hk=> ?_) aq,fun i hi=> ?_,h.ne⟩
 ·simp[Value.ownBlock]at hk
  rw[List.mem_singleton,←hk]
  exact fun e=>h.g_ne hj e.symm
 ·by_cases e:i=j
  ·simp only[if_pos e]
   rw[e]
   exact hf
  ·simp only[if_neg e]
   refine hs.row (h.rows i hi) (fun k hk=> ?_) aq
   simp[Value.ownBlock]at hk
   rw[List.mem_singleton,←hk]
   exact h.ne i j hi hj e
theorem gg.tabW(h:gg w B g T n T G C):cG w B g T fun j=>(List.range n).map (C j):=by
 refine⟨_,h.own,fun j hj=>⟨some ⟨G j,0,none⟩,n,?_,by rw[List.length_map,List.length_range];exact Nat.le_refl _,?_⟩⟩
 ·rw[if_pos hj,List.length_map,List.length_range]
 ·rw[if_pos hj,List.length_map,List.length_range]
  have:=h.rows j hj
  unfold aB bY at this
  rw[List.map_map]
  exact this
end
theorem vM(n:Nat)(h:n≤1000):bits BinOp.and IntKind.u64 (n:Int) 4294967295=(n:Int):=by
 have e:=u64_and_nat n 4294967295 (by omega) (by omega)
 rw[show ((4294967295:Nat):Int)=4294967295 from rfl]at e
 rw[e,show(4294967295:Nat)=2 ^ 32 - 1 by rfl,Nat.and_two_pow_sub_one_eq_mod,Nat.mod_eq_of_lt (by omega)]
theorem AE(w:World)(n:Nat)(hn:n≤1000):
 Calls Tryz.prog 223 #[.int .u64 1,.int .u64 n] w fun e w'=>e=.returned (.tuple #[.int .u64 0,.int .u64 n])∧w'=w:=by
 have h1:bits BinOp.and IntKind.u64 1 4294967295=1:=vM 1 (by omega)
 have h0:bits BinOp.and IntKind.u64 0 4294967295=0:=vM 0 (by omega)
 have h2:=vM n hn
 have h3:(n:Int) / 4294967296=0:=by omega
 have h4:(n:Int) / 2 ^ 32=0:=by omega
 have h5:(1:Int)*(n:Int)=(n:Int):=by omega
 have h6:(0:Int)*(n:Int)=0:=by omega
 go_enter Tryz.func223,Tryz.ntmps223
 go_wp2_with fail
 go_ret2
 exact⟨rfl,rfl⟩
theorem GK(w:World)(n:Nat)(hn:n≤1000):
 Calls Tryz.prog 196 #[.int .u64 1,.int .u64 n] w fun e w'=>e=.returned (.tuple #[.int .u64 0,.int .u64 n])∧w'=w:=by
 have HM:=aa (AE w n hn)
 go_enter Tryz.func196,Tryz.ntmps196
 go_wp2_with fail
 refine HM.out.mono ?_
 rintro e w1 ⟨rfl,rfl⟩
 go_wp2_with fail
 go_ret2
 exact⟨rfl,rfl⟩
theorem FG(w:World)(B g n k m:Nat)(f:Nat→Nat)(hf:aB w B g n n f)(hk:k<n)(_:1≤k)(hm:m=min (n - k) k)(ty:TypeId):
 (Builtin.copy_ #[36,36] ty #[.slice (some ⟨g,k,none⟩) (n - k) (n - k),.slice (some ⟨g,0,none⟩) k n]).run Tryz.prog w=.ok (goInt m) (w.setCells g k (bY m f)):=by
 obtain⟨i5,h5,h2,h1,h3⟩:=info_parts Tryz.info3
 have h0:(bY m f).length=m:=dO m f
 have hi:(Tryz.prog.info? 3).map (·.size)=some 1:=by rw[h5];exact congrArg some h1
 have:=run_copy_cells (P:=Tryz.prog) w 36 36 ty 3 g k (n - k) (n - k) ⟨g,0,none⟩ k n (bY m f) Tryz.underlying36 hi (by rw[h0,hm,Nat.min_comm])
  (fun j v hv=>by
    have hj:j<m:=by have:=(List.getElem?_eq_some_iff.1 hv).1;omega
    rw[n8,Nat.zero_add,hf.cell j (by omega),←hv,jQ m f j hj]
    rfl)
  (fun j hj=>by
    rw[h0]at hj
    rw[hf.cell (k+j) (by omega)]
    rfl) (fun j hj=>hf.frozen (k+j)) (fun v hv=>by
    unfold bY at hv
    obtain⟨x,_,rfl⟩:=List.mem_map.1 hv
    rfl)
 rw[h0]at this
 exact this
def Aq(w:World)(n:Nat)(f:Nat→Nat)(e:Ending)(w':World):Prop:=
 ∃g,e=.returned (.slice (some ⟨g,0,none⟩) n n)∧w.heap.size≤g∧aB w' w.heap.size g n n f∧Below w.heap.size w w'
theorem xQ(w:World)(A:Option Addr)(c x n:Nat)(hA:aw w A 1 [x])(h1:1≤n)(hn:n≤1000):
 Calls Tryz.prog 166 #[.slice A 1 c,.int .i64 n] w (Aq w n fun _=>x):=by
 have HM:=aa (GK w n hn)
 have hH:=bA w n (by omega)
 have h6:=a9 w w.heap.size n (ah _) (by omega)
 have hl:Below w.heap.size w (w.alloc (.cells (madeCells #[.int .i64 0] n) 3)):=(Below.refl w.heap.size w).alloc (ah _) _
 have hw:=bF hA hl
 obtain⟨b,off,rfl,hc⟩:=hw.2 (by omega)
 have h4:=hc 0 (by omega)
 rw[Nat.add_zero]at h4
 have hC:([x]:List Nat).getD 0 0=x:=rfl
 rw[hC]at h4
 have h9:∀ty,(Builtin.copy_ #[36,36] ty #[.slice (some ⟨w.heap.size,0,none⟩) n n,.slice (some ⟨b,off,none⟩) 1 c]).run Tryz.prog (w.alloc (.cells (madeCells #[.int .i64 0] n) 3))=.ok (goInt 1) ((w.alloc (.cells (madeCells #[.int .i64 0] n) 3)).setCells w.heap.size 0 [iv x]):=by
  intro ty
  obtain⟨i5,h5,hO,hJ,hP⟩:=info_parts Tryz.info3
  have hi:(Tryz.prog.info? 3).map (·.size)=some 1:=by rw[h5];exact congrArg some hJ
  exact run_copy_cells (P:=Tryz.prog) _ 36 36 ty 3 w.heap.size 0 n n ⟨b,off,none⟩ 1 c [iv x] Tryz.underlying36 hi (by show 1=min 1 n;omega)
   (fun j v hv=>by
     have hj:j<1:=by have:=(List.getElem?_eq_some_iff.1 hv).1;simpa using this
     obtain rfl:j=0:=by omega
     rw[n8,Nat.add_zero,h4,←hv]
     rfl)
   (fun j hj=>by
     rw[show j=0 by simpa using hj,h6.cell (0+0) (by omega)]
     rfl) (fun j _=>h6.frozen (0+j)) (fun v hv=>by
     rw[List.mem_singleton.1 hv]
     rfl)
 have h7:=gw [x] 0 _ _ h6
 have e1:(fun j=>if 0≤j∧j<0+ [x].length then([x]:List Nat).getD (j - 0) 0 else 0)=fun j=>if j<1 then x else 0:=by
  funext j
  by_cases e:j<1
  ·rw[if_pos (by simp;omega),if_pos e,show j=0 by omega]
   rfl
  ·rw[if_neg (by simp;omega),if_neg e]
 rw[e1]at h7
 have hx:Below w.heap.size w ((w.alloc (.cells (madeCells #[.int .i64 0] n) 3)).setCells w.heap.size 0 ([x].map iv)):=kB (ah _) _ _ _ hl
 have hu:=aa h7
 have hs:=aa hx
 have ht:=aa h9
 have HP:Hid (∀ g w',w.heap.size≤g→aB w' w.heap.size g n n (fun _=>x)→Below w.heap.size w w'→Aq w n (fun _=>x) (.returned (.slice (some ⟨g,0,none⟩) n n)) w'):=aa fun g w' h0 h2 h3=>⟨g,rfl,h0,h2,h3⟩
 have d0:decide ((n:Int)<0)=false:=ao (by omega)
 have d1:decide ((9223372036854775807:Int)<(n:Int))=false:=ao (by omega)
 generalize Aq w n (fun _=>x)=PO at*
 clear hA hw hc h4 hC h6 hl h9 h7 e1 hx
 go_enter Tryz.func166,Tryz.ntmps166
 go_wp2_with fail
 refine HM.out.mono ?_
 rintro e w1 ⟨rfl,rfl⟩
 go_upto_region 7 with fail
 go_wp2_with (refine tN rfl _ _ 36 36 rfl _ _ 1 rfl rfl (ht.out _) ?_)
 clear hH HM
 generalize w1.heap.size=g at*
 have hh:=hu.out
 have hg:=hs.out
 rw[show ([x]:List Nat).map iv= [iv x]from rfl]at hh hg
 clear hu hs ht
 go_wp2_with fail
 go_loopw [8] (fun kv wx=>∃k:Nat,1≤k∧k≤n∧kv=.int .i64 k∧aB wx g g n n (fun j=>if j<k then x else 0)∧Below g w1 wx) (fun kv _=>n - (intOf kv).toNat)
 case atStart=>exact⟨1,Nat.le_refl _,h1,rfl,hh,hg⟩
 case round=>
  clear hh hg
  rename World=>w2
  obtain⟨k,hF,hk,rfl,hf,hb⟩:=hrel
  by_cases e:k<n
  ·have dk:decide ((k:Int)<(n:Int))=true:=ar (by omega)
   obtain⟨m,hm⟩:∃m,m=min (n - k) k:=⟨_,rfl⟩
   have h8:=fun ty=>FG w2.drew g g n k m _ (hf.drew 1) e hF hm ty
   have hz:bY m (fun j=>if j<k then x else 0)=(List.replicate m x).map iv:=by
    rw[bN m _ (fun _=>x) fun j hj=>if_pos (by omega)]
    unfold bY
    rw[List.map_replicate,List.map_const',List.length_range]
   rw[hz]at h8
   have ha:=gw (List.replicate m x) k _ _ (hf.drew 1)
   have ho:Below g w1 (w2.drew.setCells g k ((List.replicate m x).map iv)):=kB (ah _) _ _ _ hb.drew
   have efn:(fun j=>if k≤j∧j<k+(List.replicate m x).length then(List.replicate m x).getD (j - k) 0 else if j<k then x else 0)=fun j=>if j<k+m then x else 0:=by
    funext j
    rw[List.length_replicate]
    by_cases e1:j<k
    ·rw[if_neg (by omega),if_pos e1,if_pos (by omega)]
    ·by_cases e2:j<k+m
     ·rw[if_pos (by omega),if_pos e2,List.getD_eq_getElem?_getD,List.getElem?_replicate,if_pos (by omega)]
      rfl
     ·rw[if_neg (by omega),if_neg e1,if_neg e2]
   rw[efn]at ha
   obtain⟨km,hB⟩:∃km,km=k+m:=⟨_,rfl⟩
   rw[← hB]at ha
   have hM:(k:Int)+(m:Int)=(km:Int):=by omega
   have hp:km≤n:=by omega
   have hG:k<km:=by omega
   have hK:(0:Int)≤(k:Int):=by omega
   have hL:(k:Int)≤(n:Int):=by omega
   have hN:¬n=k:=by omega
   have hI:¬k=n:=by omega
   obtain⟨w3,hq⟩:∃w3,w3=w2.drew.setCells g k ((List.replicate m x).map iv):=⟨_,rfl⟩
   rw[← hq]at h8 ho
   have hy:aB w3 g g n n (fun j=>if j<km then x else 0):=by rw[hq];exact ha
   have he:=aa h8
   have hE:=aa hy
   have hD:=aa ho
   clear h8 hz ha ho efn hf hb hB hm hq hy
   go_upto_region 9 with fail
   have hr:(Builtin.copy_ #[36,36] 3 #[.slice (some ⟨g,k,none⟩) (n - k) (n - k),.slice (some ⟨g,0,none⟩) k n]).run Tryz.prog w2.drew=.ok (.int .i64 m) w3:=he.out _
   go_region
   go_wp2_with fail
   go_roundw
   case rel=>exact⟨km,by omega,hp,by go_num,hE.out,hD.out⟩
   case measure=>simp[intOf];omega
  ·obtain rfl:k=n:=by omega
   have dk:decide ((k:Int)<(k:Int))=false:=ao (by omega)
   have h3:w2.ownsRow g 3 1 (.slice (some ⟨g,0,none⟩) k k) k (bY k fun j=>if j<k then x else 0):=hf
   rw[bN k _ (fun _=>x) fun j hj=>if_pos hj]at h3
   have HE:=aa (HP.out g w2 (ah _) h3 hb)
   clear hf hb h3
   go_wp2_with fail
   exact HE.out
def iU(n T s t x:Nat):Nat:=if x<s then n5 n T t x else 15
theorem Aa(w:World)(T n:Nat)(hE:1≤T)(hy:T≤6)(hH:3≤n)(hn:n≤258):
 Calls Tryz.prog 113 #[.int .i64 T,.int .i64 n] w fun e w'=>e=.returned (.slice (some ⟨w.heap.size,0,none⟩) T T)∧cG w' w.heap.size w.heap.size T (fun t=>(List.range n).map (n5 n T t))∧Below w.heap.size w w':=by
 have hA:=sB w T (by omega)
 have hh:=aa (wf w w.heap.size T n (ah _) (by omega) (fun _=>0) (fun _ _=>15))
 have he:Hid (Below w.heap.size w (w.alloc (.cells (madeCells #[.slice none 0 0] T) 36))):=aa ((Below.refl _ _).alloc (ah _) _)
 go_enter Tryz.func113,Tryz.ntmps113
 go_wp2_with fail
 clear hA
 go_loopw [6,12] (fun s6 tv wx=>∃(t:Nat) (G:Nat→Nat),t≤T∧tv=.int .i64 t∧gg wx w.heap.size w.heap.size T n t G (fun _ _=>15)∧Below w.heap.size w wx) (fun _ tv _=>T - (intOf tv).toNat)
 case atStart=>exact⟨0,fun _=>0,Nat.zero_le _,rfl,hh.out,he.out⟩
 case round=>
  clear hh he
  rename World=>w1
  obtain⟨t,G,ht,rfl,hD,hb⟩:=hrel
  by_cases e:t<T
  ·have dt:decide ((t:Int)<(T:Int))=true:=ar (by omega)
   have hO:(0:Int)≤(t:Int):=by omega
   have hP:(t:Int)<(T:Int):=by omega
   have hr:=hD.lt
   have hk:Below w1.heap.size w1 (w1.alloc (.cells #[.int .i64 15] 3)):=(Below.refl _ _).alloc (ah _) _
   have HR:=aa (xQ (w1.alloc (.cells #[.int .i64 15] 3)) (some ⟨w1.heap.size,0,none⟩) 1 15 n (FM w1 [15]) (by omega) (by omega))
   have HD:=aa hD
   have HB:=aa hb
   have hg:=aa hk
   have hv:(w1.alloc (.cells #[.int .i64 15] 3)).heap.size=w1.heap.size+1:=by simp
   have hi:=aa hv
   clear hD hb hk hv
   go_wp2_with fail
   refine HR.out.mono ?_
   rintro e w3 ⟨gN,rfl,hz,hf,hl⟩
   have h3:=ap hg.out hl
   have hp:=HD.out.push h3 (by rw[hi.out];omega) hf (by rw[hi.out]at hz;omega)
   have hF:w3.frozen? ⟨w.heap.size,t,none⟩=false:=(HD.out.step (am h3)).frozen t
   have hm:∃v,w3.cell? ⟨w.heap.size,t,none⟩=some v:=by
    have:=World.ownsRow.cellAt (HD.out.step (am h3)).own t (by omega)
    rw[List.getElem?_map,List.getElem?_range e]at this
    exact⟨_,this⟩
   obtain⟨v,hm⟩:=hm
   have h4:=(ap HB.out h3).setCell (p:=⟨w.heap.size,t,none⟩) (ah _) (.slice (some ⟨gN,0,none⟩) n n)
   have HP:=aa (hp.same (D:=fun _ _=>15) fun j _=>by
    by_cases ej:j=t
    ·rw[if_pos ej]
    ·rw[if_neg ej])
   have h9:=aa h4
   clear hp h4 hf hl h3 HR HD HB hg
   go_wp2_with fail
   go_roundw
   case rel=>exact⟨t+1,_,by omega,by go_num,HP.out,h9.out⟩
   case measure=>simp[intOf];omega
  ·obtain rfl:T=t:=by omega
   have dt:decide ((T:Int)<(T:Int))=false:=ao (by omega)
   have HD:=aa hD
   have HB:=aa hb
   have hr:=hD.lt
   clear hD hb
   go_wp2_with fail
   go_loopw [7,23] (fun s7 sv wx=>∃(s:Nat),s≤n∧sv=.int .i64 s∧gg wx w.heap.size w.heap.size T n T G (iU n T s)∧Below w.heap.size w wx) (fun _ sv _=>n - (intOf sv).toNat)
   case atStart=>
    refine⟨0,Nat.zero_le _,rfl,HD.out.same fun j _=> ?_,HB.out⟩
    funext x
    unfold iU
    rw[if_neg (by omega)]
   case round=>
    clear HD HB hr
    rename World=>w4
    obtain⟨s,hs,rfl,hD,hb⟩:=hrel
    by_cases e2:s<n
    ·have ds:decide ((s:Int)<(n:Int))=true:=ar (by omega)
     obtain⟨p,hp⟩:∃p:Nat,p=s*T:=⟨_,rfl⟩
     have hJ:(s:Int)*(T:Int)=(p:Int):=by rw[hp];simp
     have hI:p≤258*6:=by rw[hp];exact Nat.mul_le_mul (by omega) hy
     obtain⟨q,hq⟩:∃q:Nat,q=p / n:=⟨_,rfl⟩
     have ha:q<T:=by
      rw[hq,hp]
      refine Nat.div_lt_of_lt_mul ?_
      exact Nat.mul_lt_mul_of_pos_right e2 (by omega)
     have hL:(p:Int) / (n:Int)=(q:Int):=by rw[hq];simp
     have hG:¬(n:Int)=0:=by omega
     have hB:((n:Int)==0)=false:=by rw[beq_eq_false_iff_ne];omega
     have hK:(0:Int)≤(q:Int):=by omega
     have hC:(q:Int)<(T:Int):=by omega
     have hM:(0:Int)≤(s:Int):=by omega
     have hN:(s:Int)<(n:Int):=by omega
     have c1:=hD.cell q ha ha
     have h0:=hD.rows q ha
     have c2:=h0.cell s e2
     have f2:=h0.frozen s
     have h7:=h0.set s 1
     have h8:=hD.upd ha h7 ((ak.refl w.heap.size [G q] [] w4).set (p:=⟨G q,s,none⟩) h0.lt.1 (List.mem_singleton.2 rfl) _)
     have h4:=hb.setCell (p:=⟨G q,s,none⟩) h0.lt.1 (.int .i64 ((1:Nat):Int))
     have hc:s*T / n=q:=by rw[← hp,←hq]
     have h5:∀x,(if x=s then 1 else iU n T s q x)=iU n T (s+1) q x:=fun x=>by
      unfold iU n5
      by_cases ex:x=s
      ·have h1:x<s+1:=by omega
       rw[if_pos ex,if_pos h1,ex,hc,if_pos rfl]
      ·rw[if_neg ex]
       by_cases ex2:x<s
       ·have h1:x<s+1:=by omega
        rw[if_pos ex2,if_pos h1]
       ·have h1:¬x<s+1:=by omega
        rw[if_neg ex2,if_neg h1]
     have h6:∀j x,j≠q→iU n T s j x=iU n T (s+1) j x:=fun j x ej=>by
      unfold iU n5
      by_cases ex2:x<s
      ·have h1:x<s+1:=by omega
       rw[if_pos ex2,if_pos h1]
      ·rw[if_neg ex2]
       by_cases ex:x=s
       ·have h1:x<s+1:=by omega
        have h2:¬q=j:=fun h=>ej h.symm
        rw[if_pos h1,ex,hc,if_neg h2]
       ·have h1:¬x<s+1:=by omega
        rw[if_neg h1]
     have HU:=aa (h8.same (D:=iU n T (s+1)) fun j hj=>by
      by_cases ej:j=q
      ·rw[if_pos ej,ej]
       funext x
       exact h5 x
      ·rw[if_neg ej]
       funext x
       exact h6 j x ej)
     have h9:=aa h4
     obtain⟨gq,ho⟩:∃gq,gq=G q:=⟨_,rfl⟩
     obtain⟨v2,hu⟩:∃v2:Nat,v2=iU n T s q s:=⟨_,rfl⟩
     rw[← ho]at c1 c2 f2 HU h9
     rw[← hu]at c2
     clear hD hb h0 h7 h8 h4 hp hq ho hu hc h5 h6
     go_wp2_with fail
     go_roundw
     case rel=>exact⟨s+1,by omega,by go_num,HU.out,h9.out⟩
     case measure=>simp[intOf];omega
    ·obtain rfl:n=s:=by omega
     have ds:decide ((n:Int)<(n:Int))=false:=ao (by omega)
     have HE:=aa hD.tabW
     have hw:=aa hb
     clear hD hb
     go_wp2_with fail
     go_ret
     refine⟨rfl,HE.out.same fun j _=> ?_,hw.out⟩
     apply List.map_congr_left
     intro x hx
     unfold iU
     rw[if_pos (List.mem_range.1 hx)]
end Go.Proofs.YthakcjehhlpjnaaGreat
