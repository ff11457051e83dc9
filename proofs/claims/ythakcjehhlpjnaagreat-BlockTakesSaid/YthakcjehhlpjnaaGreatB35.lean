import Derived.Test.YthakcjehhlpjnaaGreatB34
set_option maxHeartbeats 6400000
set_option maxRecDepth 100000
namespace Go.Proofs.YthakcjehhlpjnaaGreat
open Go.RowKit
theorem G2(w:World)(v:Value)(T:List (List Int))(P:List Int)(h:aN w v T P)(s:ByteArray)(at':Int)(hs:s.size≤2000000)(hl: -9223372036854775808≤at')(hh:at'≤9223372036854775807)(hP:aR T P)(hG:at'<0∨8*(s.size:Int)<at'):
 Calls Tryz.prog 87 #[v,.string s,.int .i64 at'] w (aH w (eK T P (al s.data.toList) at')):=by
 have hn:(al s.data.toList).length=8*s.size:=by rw[aA];rfl
 rw[show eK T P (al s.data.toList) at'=([],0,2) by rw[eK,if_pos hP,if_pos (by rw[hn];omega)]]
 obtain⟨A,q,c,B,m,d,rfl,hT,hR,hq,hj,hN,hO⟩:=id h
 have hA:=hT.1
 have hH:=hj.1
 have hJ:2≤q∧q≤6:=by have h1:=hP.1;have h2:=hP.2.1;omega
 have hL:1≤m∧m≤32767:=by have h1:=hP.2.2.1;have h2:=hP.2.2.2.1;omega
 obtain⟨tb,tq,rfl,hp⟩:=hT.2 (by omega)
 obtain⟨b,off,rfl,hC⟩:=hj.2 (by omega)
 have hF:0≤P.getD 0 0∧(P.getD 0 0).toNat<q:=by
  have:=hP.2.2.2.2.2.1 (P.getD 0 0) (by
   rw[List.getD_eq_getElem?_getD,List.getElem?_eq_getElem (by omega)]
   exact List.getElem_mem _)
  rw[hA]at this
  omega
 have h3:∀i,i<q→(T.getD i []).length=(T.getD 0 []).length∧aY (T.getD i []):=fun i hi=>hP.2.2.2.2.1 _ (lW T i (by omega))
 obtain⟨m0,h9⟩:∃m0,m0=(T.getD 0 []).length:=⟨_,rfl⟩
 rw[← h9]at h3
 have hM:3≤m0∧m0≤258:=by
  have h1:=hP.2.2.2.2.2.2
  have h2:=(h3 0 (by omega)).2.2.1
  rw[← h9]at h1
  rw[(h3 0 (by omega)).1]at h2
  omega
 have hk:Below w.heap.size w (w.alloc (.cells #[.slice (some ⟨tb,tq,none⟩) q c,.slice (some ⟨b,off,none⟩) m d] 52)):=(Below.refl _ _).alloc (ah _) _
 have hx:=ag w 52 #[.slice (some ⟨tb,tq,none⟩) q c,.slice (some ⟨b,off,none⟩) m d]
 have HM:=aa (cK _ _ T P (h.below hk))
 rw[decide_eq_true hP]at HM
 obtain⟨y,hy⟩:∃y,y=(P.getD 0 0).toNat:=⟨_,rfl⟩
 have hD:P.getD 0 0=(y:Int):=by omega
 have hE:y<q:=by omega
 obtain⟨A2,c2,h1,h2,_,h4⟩:=hp y hE
 obtain⟨A0,c0,hg,_,_,_⟩:=hp 0 (by omega)
 rw[Nat.add_zero,←h9]at hg
 obtain⟨htl,hB⟩:=h3 y hE
 have hv:w.cell? ⟨tb,tq+y,none⟩=some (.slice A2 m0 c2):=by rw[← htl];exact h1
 have h7:w.cell? ⟨b,off,none⟩=some (.int .i64 (y:Int)):=by rw[← hD];have:=hC 0 (by omega);rw[Nat.add_zero]at this;exact this
 have h5:=aa fun(W:World) (hb:Below w.heap.size w W)=>show Calls Tryz.prog 148 #[.slice A2 m0 c2,.string s,.int .i64 at',.int .i64 50,.int .i64 ((m0:Int) - 1)] W (aH W ([],0,2))from by
  have hz:ZIn W A2 m0 (T.getD y []):=by rw[← htl];exact h2.below hb
  have hc:=wC W A2 m0 c2 (T.getD y []) s at' 50 ((m0:Int) - 1) hz (by unfold maxLen;omega) hs hl hh (by omega) (by omega) (by omega) (by omega)
  rw[show fz (T.getD y []) (al s.data.toList) at' 50 ((m0:Int) - 1)=([],0,2) by
   unfold fz
   rw[if_pos hB,if_pos (by rw[hn];omega)]]at hc
  exact hc
 have hu:Hid (∀ w',Below w.heap.size w w'→aH w ([],0,2) (.returned (.tuple #[.slice none 0 0,.int .i64 0,.int .i64 2])) w'):=aa fun w' hb=>⟨_,rfl,World.ownsRow_nil _ _ _ _,hb⟩
 generalize aH w ([],0,2)=PO at*
 have ht:=aa hk
 have h8:=aa hx
 have he:=aa hv
 have ha:=aa hg
 have hf:=aa h7
 have hQ:(0:Int)<(q:Int):=by omega
 have hS:(0:Int)≤(y:Int):=by omega
 have hK:(y:Int)<(q:Int):=by omega
 have hI:(0:Int)<(m:Int):=by omega
 clear h hk hx hP hT hj hp hC hF h3 h9 hA hH hy hD h1 h2 h4 hg htl hB hv h7 hn hG
 go_enter Tryz.func87,Tryz.ntmps87
 go_upto_region 1 with fail
 generalize w.alloc (.cells #[.slice (some ⟨tb,tq,none⟩) q c,.slice (some ⟨b,off,none⟩) m d] 52)=w1 at*
 have p0:w1.cell? ⟨w.heap.size,0,none⟩=some (.slice (some ⟨tb,tq,none⟩) q c):=(ac h8.out 0).trans rfl
 have p1:w1.cell? ⟨w.heap.size,1,none⟩=some (.slice (some ⟨b,off,none⟩) m d):=(ac h8.out 1).trans rfl
 go_wp2_with fail
 refine HM.out.mono ?_
 rintro e w2 ⟨rfl,hm⟩
 have ho:=aL hm h8.out
 have h0:=ap ht.out hm
 have p0:w2.cell? ⟨w.heap.size,0,none⟩=some (.slice (some ⟨tb,tq,none⟩) q c):=(ac ho 0).trans rfl
 have p1:w2.cell? ⟨w.heap.size,1,none⟩=some (.slice (some ⟨b,off,none⟩) m d):=(ac ho 1).trans rfl
 have k0:w2.cell? ⟨tb,tq,none⟩=some (.slice A0 m0 c0):=(h0.cell (p:=⟨tb,tq,none⟩) (World.block_lt_of_cell? w _ ha.out)).trans ha.out
 have k1:w2.cell? ⟨tb,tq+y,none⟩=some (.slice A2 m0 c2):=(h0.cell (p:=⟨tb,tq+y,none⟩) (World.block_lt_of_cell? w _ he.out)).trans he.out
 have k2:w2.cell? ⟨b,off,none⟩=some (.int .i64 (y:Int)):=(h0.cell (p:=⟨b,off,none⟩) (World.block_lt_of_cell? w _ hf.out)).trans hf.out
 have hr:=aa (h5.out w2 h0)
 have h6:=aa h0
 clear hm ho h0 HM ht h8 he ha hf h5
 go_wp2_with fail
 go_loopw [2,9,12,13,14,15,28] (fun av lv s12 s13 s14 s15 iv' wx=>av=.int .i64 at'∧lv=.slice none 0 0∧iv'=.int .i64 0∧wx=w2) (fun _ _ _ _ _ _ iv' _=>m - (intOf iv').toNat)
 case atStart=>exact⟨rfl,rfl,rfl,rfl⟩
 case round=>
  obtain⟨rfl,rfl,rfl,rfl⟩:=hrel
  have dm:decide ((0:Int)<(m:Int))=true:=decide_eq_true hI
  go_wp2_with fail
  refine hr.out.mono ?_
  rintro e w3 ⟨v3,rfl,_,hw⟩
  have HE:=aa (hu.out w3 (ap h6.out hw))
  clear hw hu h6 hr
  go_wp2_with fail
  first | go_ret3 | skip
  exact HE.out
theorem Fz(w:World)(v:Value)(T:List (List Int))(P:List Int)(h:aN w v T P)(s:ByteArray)(at':Int)(hs:s.size≤2000000)(hP:aR T P)(HC:0≤at')(pn:at'≤8*(s.size:Int)):
 Calls Tryz.prog 87 #[v,.string s,.int .i64 at'] w (aH w (eK T P (al s.data.toList) at')):=by
 have hE:(al s.data.toList).length=8*s.size:=by rw[aA];rfl
 obtain⟨a0,rfl⟩:=Int.eq_ofNat_of_zero_le HC
 have pl:a0≤8*s.size:=by omega
 obtain⟨bits,h0⟩:∃bits,bits=al s.data.toList:=⟨_,rfl⟩
 obtain⟨A,q,c,B,m,d,rfl,hT,qo,hq,HF,qb,ql⟩:=id h
 have p5:=hT.1
 have p4:=HF.1
 have q0:2≤q∧q≤6:=by have h1:=hP.1;have h2:=hP.2.1;omega
 have q9:1≤m∧m≤32767:=by have h1:=hP.2.2.1;have h2:=hP.2.2.2.1;omega
 obtain⟨tb,tq,rfl,HU⟩:=hT.2 (by omega)
 obtain⟨b,off,rfl,pf⟩:=HF.2 (by omega)
 have HZ:∀i,i<m→0≤P.getD i 0∧(P.getD i 0).toNat<q:=fun i hi=>by
  have:=hP.2.2.2.2.2.1 (P.getD i 0) (by
   rw[List.getD_eq_getElem?_getD,List.getElem?_eq_getElem (by omega)]
   exact List.getElem_mem _)
  rw[p5]at this
  omega
 have h7:∀i,i<q→(T.getD i []).length=(T.getD 0 []).length∧aY (T.getD i []):=fun i hi=>hP.2.2.2.2.1 _ (lW T i (by omega))
 obtain⟨m0,hR⟩:∃m0,m0=(T.getD 0 []).length:=⟨_,rfl⟩
 rw[← hR]at h7
 have qa:3≤m0∧m0≤258:=by
  have h1:=hP.2.2.2.2.2.2
  have h2:=(h7 0 (by omega)).2.2.1
  rw[← hR]at h1
  rw[(h7 0 (by omega)).1]at h2
  omega
 have HJ:Below w.heap.size w (w.alloc (.cells #[.slice (some ⟨tb,tq,none⟩) q c,.slice (some ⟨b,off,none⟩) m d] 52)):=(Below.refl _ _).alloc (ah _) _
 have p3:=ag w 52 #[.slice (some ⟨tb,tq,none⟩) q c,.slice (some ⟨b,off,none⟩) m d]
 have HM:=aa (cK _ _ T P (h.below HJ))
 rw[decide_eq_true hP]at HM
 obtain⟨A0,c0,HD,_,_,_⟩:=HU 0 (by omega)
 rw[Nat.add_zero,←hR]at HD
 obtain⟨n1,HQ⟩:∃n1,n1=m0 - 1:=⟨_,rfl⟩
 have ps:(m0:Int) - 1=(n1:Int):=by omega
 have hA:=aa fun(W:World) (hb:Below w.heap.size w W) (y:Nat) (hl:y<q) (A2:Option Addr) (c2:Nat) (h2:ZIn w A2 m0 (T.getD y [])) (a:Nat) (ha:a≤8*s.size)=>show Calls Tryz.prog 148 #[.slice A2 m0 c2,.string s,.int .i64 a,.int .i64 50,.int .i64 (n1:Nat)] W (aH W (fQ (nl (T.getD y [])) bits (m0 - 1:Nat) 50 a []))from by
  have hc:=wC W A2 m0 c2 (T.getD y []) s (a:Int) 50 ((n1:Nat):Int) (h2.below hb) (by unfold maxLen;omega) hs (by omega) (by omega) (by omega) (by omega) (by omega) (by omega)
  rw[show fz (T.getD y []) (al s.data.toList) (a:Int) 50 ((n1:Nat):Int)=fQ (nl (T.getD y [])) bits (m0 - 1:Nat) 50 a [] by
   unfold fz
   rw[if_pos (h7 y hl).2,if_neg (by rw[hE];omega),h0,HQ]
   rfl]at hc
  exact hc
 have H8:=aa fun(y:Nat) (hl:y<q) (a:Nat) (ha:a≤8*s.size)=>show(fQ (nl (T.getD y [])) bits (m0 - 1:Nat) 50 a []).2.1≤8*s.size from by
  have h:=(mE (nl (T.getD y [])) bits (m0 - 1:Nat) (fq (h7 y hl).2) 50 a [] (Nat.zero_le _) (by rw[h0,hE];exact ha)).2.1
  rw[h0,hE]at h
  rw[h0]
  exact h
 have hh:=aa fun(y:Nat) (hl:y<q) (a:Nat) (ha:a≤8*s.size)=>show(fQ (nl (T.getD y [])) bits (m0 - 1:Nat) 50 a []).1.length≤8*s.size from by
  have h:=(mE (nl (T.getD y [])) bits (m0 - 1:Nat) (fq (h7 y hl).2) 50 a [] (Nat.zero_le _) (by rw[h0,hE];exact ha)).1
  rw[h0,hE]at h
  rw[h0]
  exact h
 have hC:=aa fun(i r:Nat) (pre:List Nat) (a:Nat)=>qS (T.map nl) (nl P) bits m0 i r pre (by omega) 50 a [] (ah _) (fun x hx=>by cases hx)
 have h5:eK T P (al s.data.toList) (a0:Int)=kA (T.map nl) (nl P) bits m0 (50*m) 0 a0 []:=by
  rw[eK,if_pos hP,if_neg (by rw[hE];omega),p4,←hR,Int.toNat_natCast,h0]
 rw[h5]
 obtain⟨ANS,hD⟩:∃ANS,ANS=kA (T.map nl) (nl P) bits m0 (50*m) 0 a0 []:=⟨_,rfl⟩
 rw[← hD]
 have hB:=aa hD
 have hV:Hid (∀ w' v (X:List Nat) (n:Nat),ANS=(X,n,0)→w'.ownsRow w.heap.size 3 1 v X.length (X.map iv)→Below w.heap.size w w'→aH w ANS (.returned (.tuple #[v,.int .i64 n,.int .i64 0])) w'):=aa fun w' v X n h1 h2 h4=>by
  rw[h1]
  exact⟨v,rfl,h2,h4⟩
 have hN:Hid (∀ w' (z:Nat),ANS=([],0,z)→Below w.heap.size w w'→aH w ANS (.returned (.tuple #[.slice none 0 0,.int .i64 0,.int .i64 z])) w'):=aa fun w' z h1 h4=>by
  rw[h1]
  exact⟨_,rfl,World.ownsRow_nil _ _ _ _,h4⟩
 generalize aH w ANS=PO at*
 have HB:Hid (∀ y,y<q→∃A2 c2,w.cell? ⟨tb,tq+y,none⟩=some (.slice A2 m0 c2)∧ZIn w A2 m0 (T.getD y [])):=aa fun y hy=>by
  obtain⟨A2,c2,h1,h2,_,_⟩:=HU y hy
  rw[(h7 y hy).1]at h1 h2
  exact⟨A2,c2,h1,h2⟩
 have H5:Hid (∀ i,i<m→∃y:Nat,y<q∧w.cell? ⟨b,off+i,none⟩=some (.int .i64 (y:Int))∧(nl P).getD i 0=y):=aa fun i hi=>by
  obtain⟨h1,h2⟩:=HZ i hi
  refine⟨(P.getD i 0).toNat,h2,?_,?_⟩
  ·rw[pf i hi]
   congr 2
   omega
  ·unfold nl
   rw[List.getD_eq_getElem?_getD,List.getD_eq_getElem?_getD,List.getElem?_map]
   cases P[i]? <;>rfl
 have H4:Hid (∀ y,(T.map nl).getD y []=nl (T.getD y [])):=aa fun y=>by
  rw[List.getD_eq_getElem?_getD,List.getD_eq_getElem?_getD,List.getElem?_map]
  cases T[y]? <;>rfl
 have HV:=aa HJ
 have hS:=aa p3
 have H3:=aa HD
 have pg:=aa HQ
 have qm:(0:Int)<(q:Int):=by omega
 clear h HJ p3 hP hT HF HU pf HZ h7 hR p5 p4 HD hE pn h5 hD h0 HQ
 go_enter Tryz.func87,Tryz.ntmps87
 go_upto_region 1 with fail
 generalize w.alloc (.cells #[.slice (some ⟨tb,tq,none⟩) q c,.slice (some ⟨b,off,none⟩) m d] 52)=w1 at*
 have p0:w1.cell? ⟨w.heap.size,0,none⟩=some (.slice (some ⟨tb,tq,none⟩) q c):=(ac hS.out 0).trans rfl
 have p1:w1.cell? ⟨w.heap.size,1,none⟩=some (.slice (some ⟨b,off,none⟩) m d):=(ac hS.out 1).trans rfl
 go_wp2_with fail
 refine HM.out.mono ?_
 rintro e w2 ⟨rfl,HK⟩
 have HP:=aL HK hS.out
 have hp:=ap HV.out HK
 have p0:w2.cell? ⟨w.heap.size,0,none⟩=some (.slice (some ⟨tb,tq,none⟩) q c):=(ac HP 0).trans rfl
 have p1:w2.cell? ⟨w.heap.size,1,none⟩=some (.slice (some ⟨b,off,none⟩) m d):=(ac HP 1).trans rfl
 have k0:w2.cell? ⟨tb,tq,none⟩=some (.slice A0 m0 c0):=(hp.cell (p:=⟨tb,tq,none⟩) (World.block_lt_of_cell? w _ H3.out)).trans H3.out
 have hm:=aa hp
 have hj:=hp.size
 clear HK HP hp HM HV hS H3
 go_wp2_with fail
 go_loopw [2,9,12,13,14,15,28] (fun av lv s12 s13 s14 s15 iv' wx=>∃(i a N c9:Nat) (A9:Option Addr) (out:List Nat),i≤m∧iv'=.int .i64 i∧av=.int .i64 a∧lv=.slice A9 N c9∧wx.ownsRow w2.heap.size 3 1 (.slice A9 N c9) N (out.map iv)∧Below w2.heap.size w2 wx∧Hid (out.length=N∧N≤50*i∧a≤8*s.size∧kA (T.map nl) (nl P) bits m0 (50*(m - i)) (50*i) a out=ANS)) (fun _ _ _ _ _ _ iv' _=>m - (intOf iv').toNat)
 case atStart=>exact⟨0,a0,0,0,none, [],Nat.zero_le _,rfl,rfl,rfl,World.ownsRow_nil _ _ _ _,Below.refl _ _,⟨rfl,Nat.le_refl _,pl,hB.out.symm⟩⟩
 case round=>
  rename World=>wx
  obtain⟨i,a,N,c9,A9,out,hi,rfl,rfl,rfl,ho,hL,hI⟩:=hrel
  by_cases e:i<m
  ·have di:decide ((i:Int)<(m:Int))=true:=ar (by omega)
   have q7:(0:Int)≤(i:Int):=by omega
   have q8:(i:Int)<(m:Int):=by omega
   obtain⟨y,hl,HT,pb⟩:=H5.out i e
   obtain⟨A2,c2,h1,h2⟩:=HB.out y hl
   have hu:Below w.heap.size w wx:=hm.out.trans (hL.mono hj)
   have p0x:wx.cell? ⟨w.heap.size,0,none⟩=some (.slice (some ⟨tb,tq,none⟩) q c):=(hL.cell (p:=⟨w.heap.size,0,none⟩) (World.block_lt_of_cell? w2 _ p0)).trans p0
   have k1:wx.cell? ⟨tb,tq+y,none⟩=some (.slice A2 m0 c2):=(hu.cell (p:=⟨tb,tq+y,none⟩) (World.block_lt_of_cell? w _ h1)).trans h1
   have k2:wx.cell? ⟨b,off+i,none⟩=some (.int .i64 (y:Int)):=(hu.cell (p:=⟨b,off+i,none⟩) (World.block_lt_of_cell? w _ HT)).trans HT
   have HA:=aa (hA.out wx hu y hl A2 c2 h2 a hI.out.2.2.1)
   have H0:=H8.out y hl a hI.out.2.2.1
   have hv:=hh.out y hl a hI.out.2.2.1
   have hg:=hC.out i (50*(m - (i+1))) out a
   rw[pb,H4.out y,show 50+50*(m - (i+1))=50*(m - i) by omega,Nat.sub_self,Nat.add_zero,List.append_nil,hI.out.2.2.2]at hg
   obtain⟨⟨X,q5,z5⟩,hr⟩:∃r,r=fQ (nl (T.getD y [])) bits (m0 - 1:Nat) 50 a []:=⟨_,rfl⟩
   rw[← hr]at HA hg H0 hv
   dsimp only at hg H0 hv
   have HG:=aa hg
   have hO:=aa H0
   have HW:=aa hv
   have HO:=aa ho
   have H2:=aa hL
   have HI:=aa hI.out
   have qv:(0:Int)≤(y:Int):=by omega
   have q2:(y:Int)<(q:Int):=by omega
   clear HT pb h1 h2 hu H0 hv hg hr ho hL hI
   go_wp2_with fail
   refine HA.out.mono ?_
   rintro e w5 ⟨v5,rfl,hw,hK⟩
   dsimp only at hw ⊢
   have he:=ap H2.out hK
   have ht:=hm.out.trans (he.mono hj)
   by_cases ez:z5=0
   ·subst ez
    obtain⟨A5,c5,rfl,HL,_,hW⟩:=aj hw
    obtain⟨xl,hG⟩:∃xl,xl=X.length:=⟨_,rfl⟩
    have qs:xl≤16000000:=by have:=HW.out;omega
    have HN:aw w5 A5 xl X:=by rw[hG];exact aJ hw
    rw[← hG]at hw HL hW ⊢
    have hQ:∃o x,X=o++ [x]∧((x+1=m0∧ANS=(out++X,q5,0))∨(x+1≠m0∧X.length=50∧kA (T.map nl) (nl P) bits m0 (50*(m - (i+1))) (50*i+50) q5 (out++X)=ANS)):=by
     rcases HG.out with⟨h1,_⟩ | ⟨_,⟨o,h2⟩,h3⟩ | ⟨_,h2,h3,h4⟩
     ·exact absurd rfl h1
     ·exact⟨o,m0 - 1,h2,.inl ⟨by omega,h3⟩⟩
     ·rw[List.length_nil,Nat.zero_add]at h3
      have HR:X≠ []:=fun h=>by rw[h]at h3;cases h3
      refine⟨X.dropLast,X.getLast HR,(List.dropLast_concat_getLast HR).symm,.inr ⟨h2 _ (List.getLast_mem HR),h3,h4.symm⟩⟩
    obtain⟨o,x,hX,h6⟩:=hQ
    have hH:xl=o.length+1:=by rw[hG,hX,List.length_append];rfl
    obtain⟨g5,rfl⟩:=hW (by omega)
    have h9:=jh HO.out hK
    obtain⟨v6,w6,hZ,hM,hY⟩:=jf w5 w2.heap.size (.slice A9 N c9) N _ h9 (some ⟨g5,0,none⟩) xl c5 X HN (by have:=HI.out.2.1;omega) (Nat.le_trans H2.out.size hK.size)
    have hn:Below w2.heap.size w2 w6:=he.grown hY he.size (fun k hk=>(World.ownsRow.lt h9 k hk).1)
    have p2:=(World.ownsRow.lt hw g5 rfl).1
    have hF:=World.ownsRow.kept hw hY (.inr fun e=>by
     have:=(World.ownsRow.lt HO.out g5 e.symm).2
     omega)
    have po:w6.cell? ⟨g5,o.length,none⟩=some (.int .i64 (x:Nat)):=by
     rw[World.ownsRow.cellAt hF o.length (by omega),List.getElem?_map,hX,List.getElem?_append_right (ah _),Nat.sub_self]
     rfl
    obtain⟨ol,HS⟩:∃ol,ol=o.length:=⟨_,rfl⟩
    rw[← HS]at po hH
    have q1:(xl:Int) - 1=(ol:Int):=by omega
    have pv:(0:Int)≤(ol:Int):=by omega
    have pM:(ol:Int)<(xl:Int):=by omega
    have hf:x+1=m0↔x=n1:=by have:=pg.out;omega
    obtain⟨A6,c6,rfl,_,_,_⟩:=aj hM
    obtain⟨N6,hJ⟩:∃N6,N6=N+xl:=⟨_,rfl⟩
    rw[← hJ,←List.map_append]at hM
    rw[← hJ]at hZ
    have h8:(out++X).length=N6:=by rw[List.length_append,HI.out.1,←hG,hJ]
    have HY:=aa hZ
    have pk:=aa hM
    have H1:=aa hn
    have HX:=aa hG
    have q3:=aa h8
    have q4:=aa hJ
    by_cases ex:x+1=m0
    ·have h5:ANS=(out++X,q5,0):=(h6.resolve_right fun h=>h.1 ex).2
     have dx:((x:Int)==(n1:Int))=true:=by rw[hf.1 ex];exact beq_self_eq_true _
     have dx2:(x==n1)=true:=by rw[hf.1 ex];exact beq_self_eq_true _
     have HE:=aa (hV.out w6 (.slice A6 N6 c6) (out++X) q5 h5 (by rw[h8];exact World.ownsRow.mono hM hj) (hm.out.trans (hn.mono hj)))
     clear h5 h6 hX hG hH hw HL hW HN h9 hZ hM hY hn p2 hF HS hJ h8 he ht hK HG hV hN ex hf
     go_wp2_with (at_builtin;refine Lib.wpList_append_run _ rfl (.tmp 48) (.tmp 49) 36 36 rfl (.slice A9 N c9) (.slice (some ⟨g5,0,none⟩) xl c5) rfl rfl _ w6 HY.out ?_)
     first | go_ret3 | skip
     exact HE.out
    ·obtain⟨_,HH,hz⟩:=h6.resolve_left fun h=>ex h.1
     have dx:((x:Int)==(n1:Int))=false:=by rw[beq_eq_false_iff_ne];intro h;exact ex (hf.2 (by omega))
     have dx2:(x==n1)=false:=by rw[beq_eq_false_iff_ne];intro h;exact ex (hf.2 h)
     have pj:Hid ((out++X).length=N6∧N6≤50*(i+1)∧q5≤8*s.size∧kA (T.map nl) (nl P) bits m0 (50*(m - (i+1))) (50*(i+1)) q5 (out++X)=ANS):=aa ⟨h8,by have:=HI.out.2.1;omega,hO.out,by rw[show 50*(i+1)=50*i+50 by omega];exact hz⟩
     clear hz HH h6 hX hG hH hw HL hW HN h9 hZ hM hY hn p2 hF HS hJ h8 he ht hK HG ex hf
     go_wp2_with (at_builtin;refine Lib.wpList_append_run _ rfl (.tmp 48) (.tmp 49) 36 36 rfl (.slice A9 N c9) (.slice (some ⟨g5,0,none⟩) xl c5) rfl rfl _ w6 HY.out ?_)
     go_roundw
     case rel=>exact⟨i+1,q5,N6,c6,A6,out++X,by omega,by go_num,rfl,rfl,pk.out,H1.out,pj⟩
     case measure=>simp[intOf];omega
   ·have h5:ANS=([],0,z5):=by
     rcases HG.out with⟨_,h2⟩ | ⟨h1,_⟩ | ⟨h1,_⟩
     ·exact h2
     ·exact absurd h1 ez
     ·exact absurd h1 ez
    have HE:=aa (hN.out w5 z5 h5 ht)
    have dz2:((z5:Int) != 0)=true:=by rw[bne_iff_ne];omega
    have dz3:¬(z5:Int)=0:=by omega
    clear h5 hw hK he ht HA HG hO HW HO H2 HI hV hN hB hA H8 hh hC HB H5 H4
    go_wp2_with fail
    first | go_ret3 | skip
    exact HE.out
  ·obtain rfl:i=m:=by omega
   have di:decide ((i:Int)<(i:Int))=false:=ao (by omega)
   have h5:ANS=([],0,110):=by
    rw[← hI.out.2.2.2,Nat.sub_self]
    rfl
   have HE:=aa (hN.out wx 110 h5 (hm.out.trans (hL.mono hj)))
   clear h5 ho hL hI hV hN hB hA H8 hh hC HB H5 H4
   go_wp2_with fail
   first | go_ret3 | skip
   exact HE.out
theorem GQ(w:World)(v:Value)(T:List (List Int))(P:List Int)(h:aN w v T P)(s:ByteArray)(at':Int)(hs:s.size≤2000000)(hl: -9223372036854775808≤at')(hh:at'≤9223372036854775807):
 Calls Tryz.prog 87 #[v,.string s,.int .i64 at'] w (aH w (eK T P (al s.data.toList) at')):=by
 by_cases hP:aR T P
 ·by_cases h0:at'<0∨8*(s.size:Int)<at'
  ·exact G2 w v T P h s at' hs hl hh hP h0
  ·exact Fz w v T P h s at' hs hP (by omega) (by omega)
 ·exact Hu w v T P h s at' hP
def df(ls:List (List Nat)):List Value:=ls.flatMap fun l=> [.string ⟨(aK l).toArray⟩,.int .i64 l.length]
theorem tx(ls:List (List Nat))(l:List Nat):df (ls++ [l])=df ls++ [.string ⟨(aK l).toArray⟩,.int .i64 l.length]:=by simp[df]
theorem nP:∀(ls:List (List Nat)) (j:Nat),j<ls.length→(df ls)[j*2]? =some (.string ⟨(aK (ls.getD j [])).toArray⟩)∧(df ls)[j*2+1]? =some (.int .i64 (ls.getD j []).length)
 | [],_,h=>absurd h (Nat.not_lt_zero _)
 | l :: ls,0,_=>⟨rfl,rfl⟩
 | l :: ls,j+1,h=>by
   have ih:=nP ls j (by simpa using h)
   have e:df (l :: ls)= [.string ⟨(aK l).toArray⟩,.int .i64 l.length]++df ls:=rfl
   rw[e,show(j+1)*2=2+j*2 by omega,show 2+j*2+1=2+(j*2+1) by omega,List.getElem?_append_right (by simp),List.getElem?_append_right (by simp)]
   simpa using ih
structure Pcs (w:World) (B:Nat) (v:Value) (ls:List (List Nat)):Prop where
 own:w.ownsRow B 24 2 v ls.length (df ls)
 bit:∀l∈ls,an l
theorem Tryz.infoBits:(Tryz.prog.info? 24).map (fun i=>(i.zero,i.size,i.bytes))=some (some (.agg #[.string ⟨#[]⟩,.int .i64 0]),2,24):=by kernel_rfl
theorem I5(w:World)(B:Nat)(hB:B≤w.heap.size)(l:List Nat)(hl:an l):Pcs (w.alloc (.cells #[.string ⟨(aK l).toArray⟩,.int .i64 l.length] 24)) B (.slice (some ⟨w.heap.size,0,none⟩) 1 1) [l]:=
 ⟨⟨rfl,.inr ⟨w.heap.size,1,_,rfl,hB,heap_alloc_new w _,Nat.le_refl _,by unfold maxLen;omega,rfl,rfl⟩⟩,fun x hx=>by rw[List.mem_singleton.1 hx];exact hl⟩
theorem GU(w:World)(B:Nat):Pcs w B (.slice none 0 0) []:=⟨World.ownsRow_nil _ _ _ _,fun _ h=>by cases h⟩
theorem Pcs.below{w w':World}{B:Nat}{v:Value}{ls:List (List Nat)}(h:Pcs w B v ls)(hb:Below w.heap.size w w'):Pcs w' B v ls:=
 ⟨(am hb).row h.own (fun _ _=>aq) aq,h.bit⟩
theorem sk(w:World)(B:Nat)(v:Value)(ls:List (List Nat))(l:List Nat)(h:Pcs w B v ls)(hB:B≤w.heap.size)(hn:ls.length≤1000000)(hl:an l):
 ∃v' w',(Builtin.append_ #[111,111] 111 #[v,.slice (some ⟨w.heap.size,0,none⟩) 1 1]).run Tryz.prog (w.alloc (.cells #[.string ⟨(aK l).toArray⟩,.int .i64 l.length] 24))=.ok v' w'∧Pcs w' B v' (ls++ [l])∧Below B w w':=by
 obtain⟨i3,h3,h0,h5,h6⟩:=info_parts Tryz.infoBits
 obtain⟨v',w',h1,h2,h4,_⟩:=run_append_own (P:=Tryz.prog) (w.alloc (.cells #[.string ⟨(aK l).toArray⟩,.int .i64 l.length] 24)) B 111 111 24 i3 _ 2 24 Tryz.underlying111 h3 h0 h5 h6 rfl (by decide) v ls.length (df ls) (h.own.alloc _)
  ⟨w.heap.size,0,none⟩ 1 1 [.string ⟨(aK l).toArray⟩,.int .i64 l.length] rfl (u7 w _ _ _)
  (fun u hu=>by
    simp at hu
    rcases hu with rfl | rfl <;>rfl) (by unfold maxLen;omega) (by omega) (by simp;omega)
 refine⟨v',w',h1,⟨?_,fun x hx=> ?_⟩,((Below.refl B w).alloc hB _).grown h4 (by simp;omega) (fun k hk=>(World.ownsRow.lt h.own k hk).1)⟩
 ·rw[tx,List.length_append,List.length_singleton]
  exact h2
 ·rcases List.mem_append.1 hx with hx | hx
  ·exact h.bit x hx
  ·rw[List.mem_singleton.1 hx]
   exact hl
theorem Dt(l:List Nat)(hb:an l):nb ⟨(aK l).toArray⟩ l.length=true:=by
 rw[lX,show(ByteArray.mk (aK l).toArray).size=(l.length+7) / 8 by rw[← eB];rfl,show(ByteArray.mk (aK l).toArray).data.toList=aK l from rfl,mO l hb,List.drop_left]
 exact⟨by omega,by omega,by simp⟩
theorem xR(ls:List (List Nat))(hb:∀l∈ls,an l):∀i,i≤ls.length→gQ (fun i=>⟨(aK (ls.getD i [])).toArray⟩) (fun i=>((ls.getD i []).length:Int)) i=(ls.take i).flatten∧tz (fun i=>⟨(aK (ls.getD i [])).toArray⟩) i≤(ls.take i).flatten.length+i
 | 0,_=>by simp[gQ,tz]
 | i+1,h=>by
   obtain⟨h1,h2⟩:=xR ls hb i (by omega)
   have hg:ls.getD i []=ls[i]:=by rw[List.getD_eq_getElem?_getD,List.getElem?_eq_getElem (by omega)];rfl
   have e:ls.take (i+1)=ls.take i++ [ls.getD i []]:=by
    rw[List.take_succ_eq_append_getElem (by omega),hg]
   have h0:an (ls.getD i []):=by rw[hg];exact hb _ (List.getElem_mem _)
   have h3:(ByteArray.mk (aK (ls.getD i [])).toArray).size=((ls.getD i []).length+7) / 8:=by rw[← eB];rfl
   rw[e,List.flatten_append]
   refine⟨?_,?_⟩
   ·rw[gQ,h1]
    congr 1
    rw[Int.toNat_natCast,show(ByteArray.mk (aK (ls.getD i [])).toArray).data.toList=aK (ls.getD i [])from rfl,mO _ h0,List.take_left]
    simp
   ·rw[tz,h3,List.length_append]
    simp only[List.flatten_cons,List.flatten_nil,List.append_nil]
    omega
theorem Gl(ls:List (List Nat))(i:Nat)(h:i<ls.length):(ls.getD i []).length≤ls.flatten.length:=by
 rw[List.getD_eq_getElem?_getD,List.getElem?_eq_getElem h]
 exact List.Sublist.length_le (List.sublist_flatten_of_mem (List.getElem_mem h))
theorem qY(w:World)(B:Nat)(v:Value)(ls:List (List Nat))(h:Pcs w B v ls)(hn:ls.length≤1000000)(hl:ls.flatten.length≤100000000):
 Calls Tryz.prog 24 #[v] w (ow w (aK ls.flatten) ls.flatten.length 0):=by
 obtain⟨A,c,rfl,hc,_,hA⟩:=aj h.own
 obtain⟨hj,ht⟩:=xR ls h.bit ls.length (ah _)
 rw[List.take_length]at hj ht
 have hk:=IJ w A ls.length c (fun i=>⟨(aK (ls.getD i [])).toArray⟩) (fun i=>((ls.getD i []).length:Int)) (fun h0=>by
  obtain⟨g,rfl⟩:=hA h0
  refine⟨g,0,rfl,(World.ownsRow.lt h.own g rfl).2,fun i hi=> ?_⟩
  have hg:=nP ls i hi
  rw[Nat.zero_add,World.ownsRow.cellAt h.own (i*2) (by omega),World.ownsRow.cellAt h.own (i*2+1) (by omega)]
  exact hg) (by unfold maxLen;omega) (by omega)
  (fun i hi=>by
    have:=Gl ls i hi
    rw[show (ByteArray.mk (aK (ls.getD i [])).toArray).size=((ls.getD i []).length+7) / 8 by rw[← eB];rfl]
    omega)
  (fun i hi=>by
    have:=Gl ls i hi
    omega) (fun i hi=>Dt _ (by
     rw[List.getD_eq_getElem?_getD,List.getElem?_eq_getElem hi]
     exact h.bit _ (List.getElem_mem _)))
 rw[hj]at hk
 exact hk
theorem Gi(w:World)(v:Value)(T:List (List Int))(P:List Int)(h:aN w v T P)(A':Option Addr)(n' c':Nat)(L:List Int)(hL:L.length=n')(hq:n'≤2000000)(hP:aR T P)(hM:¬FU T P L):
 Calls Tryz.prog 23 #[v,.slice A' n' c'] w (aV w (bD T P L)):=by
 rw[show bD T P L=([],110)from if_neg hM]
 obtain⟨A,q,c,B,m,d,rfl,_,_,_,hi,_,ho⟩:=id h
 have hj:=hi.1
 have h7:Below w.heap.size w (w.alloc (.cells #[.slice A q c,.slice B m d] 52)):=(Below.refl _ _).alloc (ah _) _
 have h9:=ag w 52 #[.slice A q c,.slice B m d]
 obtain⟨w1,h5⟩:∃w1,w1=w.alloc (.cells #[.slice A q c,.slice B m d] 52):=⟨_,rfl⟩
 have hl:w1.heap.size=w.heap.size+1:=by rw[h5];simp
 rw[← h5]at h7 h9
 have h8:Below w1.heap.size w1 (w1.alloc (.cells #[.string ⟨#[]⟩,.int .i64 0] 24)):=(Below.refl _ _).alloc (ah _) _
 have hk:=aL h8 h9
 have hc:=ag w1 24 #[.string ⟨#[]⟩,.int .i64 0]
 rw[hl]at hc
 have h0:=ap h7 h8
 have hh:=aa h5.symm
 have hf:Hid (∀ w2,w2=w1.alloc (.cells #[.string ⟨#[]⟩,.int .i64 0] 24)→Calls Tryz.prog 65 #[.agg #[.slice A q c,.slice B m d]] w2.drew fun e w'=>e=.returned (.bool true)∧Below w2.heap.size w2.drew w'):=aa fun w2 e2=>by
  have h3:=cK w2.drew _ T P (h.below (by rw[e2];exact h0.drew))
  rw[decide_eq_true hP]at h3
  exact h3
 have he:=aa fun(wx:World)=>jp wx n' (by omega)
 have h4:¬(aR T P∧aQ n'≤m):=by rw[← hL,←hj];exact hM
 obtain⟨z,hz⟩:∃z,z=aQ n':=⟨_,rfl⟩
 have hr:z≤50000:=by rw[hz];unfold aQ;omega
 rw[← hz]at h4 he
 unfold maxLen at ho
 have d0:decide ((m:Int)<(z:Int))=true:=decide_eq_true (by have:¬z≤m:=fun k=>h4 ⟨hP,k⟩;omega)
 have hp:m<z:=by have:¬z≤m:=fun k=>h4 ⟨hP,k⟩;omega
 have h6:=aa hk
 have hg:=aa hc
 have hm:=aa h0
 clear h hM h7 h9 h8 hk hc h0 hl h5 h4 hP hz hL hj hi
 go_enter Tryz.func23,Tryz.ntmps23
 go_upto_region 1 with fail
 rw[hh.out]
 have HM:=aa (hf.out _ rfl)
 generalize w1.alloc (.cells #[.string ⟨#[]⟩,.int .i64 0] 24)=w2 at*
 clear hh hf
 have p0:w2.cell? ⟨w.heap.size,0,none⟩=some (.slice A q c):=(ac h6.out 0).trans rfl
 have p1:w2.cell? ⟨w.heap.size,1,none⟩=some (.slice B m d):=(ac h6.out 1).trans rfl
 have ha:w.heap.size<w2.heap.size:=ay h6.out
 have hb:w.heap.size+1<w2.heap.size:=ay hg.out
 go_region_held3 (fun w'=>w'.cell? ⟨w.heap.size,0,none⟩=some (.slice A q c)∧w'.cell? ⟨w.heap.size,1,none⟩=some (.slice B m d))
  (first | exact⟨p0,p1⟩ | exact⟨s0,s1⟩ | go_keep)
  (first
    | (go_at_call 65;refine HM.out.mono ?_;rintro e w3 ⟨rfl,h1⟩
       have s0:w3.cell? ⟨w.heap.size,0,none⟩=some (.slice A q c):=(h1.cell (p:=⟨w.heap.size,0,none⟩) ha).trans p0
       have s1:w3.cell? ⟨w.heap.size,1,none⟩=some (.slice B m d):=(h1.cell (p:=⟨w.heap.size,1,none⟩) ha).trans p1)
    | (go_at_call 68;refine(he.out _).mono ?_;rintro e w4 ⟨rfl,rfl⟩))
 have h2:Blk w3 (w.heap.size+1) 24 #[.string ⟨#[]⟩,.int .i64 0]:=(h1.block (w.heap.size+1) hb).trans hg.out
 have g0:=(ac h2 0).trans (rfl:_=some (Value.string ⟨#[]⟩))
 have g1:=(ac h2 1).trans (rfl:_=some (Value.int .i64 0))
 have f0:=ae h2 0
 have f1:=ae h2 1
 have hn:=aa (hm.out.drew.trans (h1.mono (Nat.le_of_lt ha)))
 clear h1 h2
 go_wp2_with fail
 refine bodyPost_ret (v:=.tuple #[.agg #[.string ⟨#[]⟩,.int .i64 0],.int .i64 110]) ?_ rfl ⟨rfl,(hn.out.setCell (p:=⟨w.heap.size+1,0,none⟩) (Nat.le_succ _) _).setCell (p:=⟨w.heap.size+1,1,none⟩) (Nat.le_succ _) _⟩
 simp[results,Tryz.results23,go_sem,g0,g1]
theorem Hs(w:World)(v:Value)(T:List (List Int))(P:List Int)(h:aN w v T P)(A':Option Addr)(n' c':Nat)(L:List Int)(hP:¬aR T P):
 Calls Tryz.prog 23 #[v,.slice A' n' c'] w (aV w (bD T P L)):=by
 rw[show bD T P L=([],110)from if_neg (fun k=>hP k.1)]
 obtain⟨A,q,c,B,m,d,rfl,_⟩:=id h
 have h6:Below w.heap.size w (w.alloc (.cells #[.slice A q c,.slice B m d] 52)):=(Below.refl _ _).alloc (ah _) _
 have h8:=ag w 52 #[.slice A q c,.slice B m d]
 obtain⟨w1,h4⟩:∃w1,w1=w.alloc (.cells #[.slice A q c,.slice B m d] 52):=⟨_,rfl⟩
 have hj:w1.heap.size=w.heap.size+1:=by rw[h4];simp
 rw[← h4]at h6 h8
 have h7:Below w1.heap.size w1 (w1.alloc (.cells #[.string ⟨#[]⟩,.int .i64 0] 24)):=(Below.refl _ _).alloc (ah _) _
 have hh:=aL h7 h8
 have hb:=ag w1 24 #[.string ⟨#[]⟩,.int .i64 0]
 rw[hj]at hb
 have h0:=ap h6 h7
 have hf:=aa h4.symm
 have hc:Hid (∀ w2,w2=w1.alloc (.cells #[.string ⟨#[]⟩,.int .i64 0] 24)→Calls Tryz.prog 65 #[.agg #[.slice A q c,.slice B m d]] w2.drew fun e w'=>e=.returned (.bool false)∧Below w2.heap.size w2.drew w'):=aa fun w2 e2=>by
  have h3:=cK w2.drew _ T P (h.below (by rw[e2];exact h0.drew))
  rw[decide_eq_false hP]at h3
  exact h3
 have h5:=aa hh
 have he:=aa hb
 have hk:=aa h0
 clear h h6 h8 h7 hh hb h0 hj h4 hP
 go_enter Tryz.func23,Tryz.ntmps23
 go_upto_region 1 with fail
 rw[hf.out]
 have HM:=aa (hc.out _ rfl)
 generalize w1.alloc (.cells #[.string ⟨#[]⟩,.int .i64 0] 24)=w2 at*
 clear hf hc
 have q0:w2.cell? ⟨w.heap.size,0,none⟩=some (.slice A q c):=(ac h5.out 0).trans rfl
 have q1:w2.cell? ⟨w.heap.size,1,none⟩=some (.slice B m d):=(ac h5.out 1).trans rfl
 have h9:w.heap.size<w2.heap.size:=ay h5.out
 have ha:w.heap.size+1<w2.heap.size:=ay he.out
 refine wp_region_held_drew (S:=fun w'=>w'.cell? ⟨w.heap.size,0,none⟩=some (.slice A q c)∧w'.cell? ⟨w.heap.size,1,none⟩=some (.slice B m d)) (by kernel_rfl) ⟨q0,q1⟩ (fun hHeld=> ?_)
 refine wpAnyH_take (i:=0) (v:=.agg #[.slice A q c,.slice B m d]) rfl (by kernel_rfl) (by kernel_rfl) (by kernel_rfl) (fun _ _ _ h=>h) (Or.inl ⟨by rfl,?hy⟩) (by assumption) ?_
 case hy=>
  intro w hg
  (try dsimp only at hg)
  obtain⟨s0,s1⟩:=hg
  go_simp
 (try simp only[List.getElem_toArray,List.getElem_cons_zero,Act.put,List.setIfInBounds_toArray,List.set_cons_zero,List.set_cons_succ])
 refine wpAnyH_ready (rs:= [1]) (by kernel_rfl) (by simp) (AllReadyH.cons rfl (fun K hK=> ?_) AllReadyH.nil)
 go_simp
 go_at_call 65
 refine HM.out.mono ?_
 rintro e w3 ⟨rfl,h1⟩
 have p0:w3.cell? ⟨w.heap.size,0,none⟩=some (.slice A q c):=(h1.cell (p:=⟨w.heap.size,0,none⟩) h9).trans q0
 have p1:w3.cell? ⟨w.heap.size,1,none⟩=some (.slice B m d):=(h1.cell (p:=⟨w.heap.size,1,none⟩) h9).trans q1
 have hi:Blk w3 (w.heap.size+1) 24 #[.string ⟨#[]⟩,.int .i64 0]:=(h1.block (w.heap.size+1) ha).trans he.out
 have hl:=aa (hk.out.drew.trans (h1.mono (Nat.le_of_lt h9)))
 have h2:=aa hi
 dsimp only
 refine hK.out _ _ ⟨p0,p1⟩ (fun hHeld2=> ?_)
 clear hK K h1 HM hHeld hi
 (try simp only[List.getElem_toArray,List.getElem_cons_succ,List.getElem_cons_zero,Act.put,List.setIfInBounds_toArray,List.set_cons_zero,List.set_cons_succ])
 refine wpAnyH_take (i:=2) (v:=.bool true) rfl (by kernel_rfl) (by kernel_rfl) (by kernel_rfl) (fun _ _ _ h=>h) (Or.inl ⟨by rfl,fun w _=>by go_simp⟩) (by assumption) ?_
 (try simp only[List.getElem_toArray,List.getElem_cons_succ,List.getElem_cons_zero,Act.put,List.setIfInBounds_toArray,List.set_cons_zero,List.set_cons_succ])
 refine wpAnyH_take (i:=3) (v:=.bool true) rfl (by kernel_rfl) (by kernel_rfl) (by kernel_rfl) (fun _ _ _ h=>h) (Or.inl ⟨by rfl,fun w _=>by go_simp⟩) (by assumption) ?_
 (try simp only[List.getElem_toArray,List.getElem_cons_succ,List.getElem_cons_zero,Act.put,List.setIfInBounds_toArray,List.set_cons_zero,List.set_cons_succ])
 refine wpAnyH_take (i:=4) (v:=undef) rfl (by kernel_rfl) (by kernel_rfl) (by kernel_rfl) (fun _ _ _ h=>h) (Or.inr ⟨by rfl,rfl⟩) (by assumption) ?_
 (try simp only[List.getElem_toArray,List.getElem_cons_succ,List.getElem_cons_zero,Act.put,List.setIfInBounds_toArray,List.set_cons_zero,List.set_cons_succ])
 refine wpAnyH_take (i:=5) (v:=undef) rfl (by kernel_rfl) (by kernel_rfl) (by kernel_rfl) (fun _ _ _ h=>h) (Or.inr ⟨by rfl,rfl⟩) (by assumption) ?_
 (try simp only[List.getElem_toArray,List.getElem_cons_succ,List.getElem_cons_zero,Act.put,List.setIfInBounds_toArray,List.set_cons_zero,List.set_cons_succ])
 refine wpAnyH_take (i:=6) (v:=undef) rfl (by kernel_rfl) (by kernel_rfl) (by kernel_rfl) (fun _ _ _ h=>h) (Or.inr ⟨by rfl,rfl⟩) (by assumption) ?_
 (try simp only[List.getElem_toArray,List.getElem_cons_succ,List.getElem_cons_zero,Act.put,List.setIfInBounds_toArray,List.set_cons_zero,List.set_cons_succ])
 refine wpAnyH_take (i:=7) (v:=undef) rfl (by kernel_rfl) (by kernel_rfl) (by kernel_rfl) (fun _ _ _ h=>h) (Or.inr ⟨by rfl,rfl⟩) (by assumption) ?_
 (try simp only[List.getElem_toArray,List.getElem_cons_succ,List.getElem_cons_zero,Act.put,List.setIfInBounds_toArray,List.set_cons_zero,List.set_cons_succ])
 refine wpAnyH_take (i:=8) (v:=undef) rfl (by kernel_rfl) (by kernel_rfl) (by kernel_rfl) (fun _ _ _ h=>h) (Or.inr ⟨by rfl,rfl⟩) (by assumption) ?_
 (try simp only[List.getElem_toArray,List.getElem_cons_succ,List.getElem_cons_zero,Act.put,List.setIfInBounds_toArray,List.set_cons_zero,List.set_cons_succ])
 refine wpAnyH_take (i:=9) (v:=undef) rfl (by kernel_rfl) (by kernel_rfl) (by kernel_rfl) (fun _ _ _ h=>h) (Or.inr ⟨by rfl,rfl⟩) (by assumption) ?_
 (try simp only[List.getElem_toArray,List.getElem_cons_succ,List.getElem_cons_zero,Act.put,List.setIfInBounds_toArray,List.set_cons_zero,List.set_cons_succ])
 refine wpAnyH_take (i:=10) (v:=undef) rfl (by kernel_rfl) (by kernel_rfl) (by kernel_rfl) (fun _ _ _ h=>h) (Or.inr ⟨by rfl,rfl⟩) (by assumption) ?_
 (try simp only[List.getElem_toArray,List.getElem_cons_succ,List.getElem_cons_zero,Act.put,List.setIfInBounds_toArray,List.set_cons_zero,List.set_cons_succ])
 refine wpAnyH_take (i:=11) (v:=.bool true) rfl (by kernel_rfl) (by kernel_rfl) (by kernel_rfl) (fun _ _ _ h=>h) (Or.inl ⟨by rfl,fun w _=>by go_simp⟩) (by assumption) ?_
 (try simp only[List.getElem_toArray,List.getElem_cons_succ,List.getElem_cons_zero,Act.put,List.setIfInBounds_toArray,List.set_cons_zero,List.set_cons_succ])
 refine wpAnyH_done (by kernel_rfl) ?_ _
 have g0:=(ac h2.out 0).trans (rfl:_=some (Value.string ⟨#[]⟩))
 have g1:=(ac h2.out 1).trans (rfl:_=some (Value.int .i64 0))
 have f0:=ae h2.out 0
 have f1:=ae h2.out 1
 go_wp2_with fail
 refine bodyPost_ret (v:=.tuple #[.agg #[.string ⟨#[]⟩,.int .i64 0],.int .i64 110]) ?_ rfl ⟨rfl,(hl.out.setCell (p:=⟨w.heap.size+1,0,none⟩) (Nat.le_succ _) _).setCell (p:=⟨w.heap.size+1,1,none⟩) (Nat.le_succ _) _⟩
 simp[results,Tryz.results23,go_sem,g0,g1]
theorem GM(w:World)(A:Option Addr)(n c:Nat)(L:List Int)(k:Nat)(hL:ZIn w A n L)(he:n≤c)(hn:n≤2000000)(hk:50*k<n):
 Calls Tryz.prog 70 #[.slice A n c,.int .i64 k] w fun e w'=>∃c2,e=.returned (.slice (A.map fun x=>x.add (50*k)) (bH L k).length c2)∧(bH L k).length≤c2∧w'=w:=by
 have h0:=hL.1
 obtain⟨m,hm⟩:∃m,m=(bH L k).length:=⟨_,rfl⟩
 have h5:m=min 50 (n - 50*k):=by rw[hm,fV,h0]
 obtain⟨b,off,rfl,_⟩:=hL.2 (by omega)
 obtain⟨lo,h1⟩:∃lo,lo=50*k:=⟨_,rfl⟩
 have hf:(k:Int)*50=(lo:Int):=by omega
 rw[← hm,←h1,Option.map_some,Addr.add_lit]
 obtain⟨hi,h3⟩:∃hi,hi=lo+50:=⟨_,rfl⟩
 have hg:(lo:Int)+50=(hi:Int):=by omega
 have h8:lo≤3000000:=by omega
 have h6:hi≤3000000:=by omega
 by_cases e:n<hi
 ·have d1:decide ((hi:Int)<(n:Int))=false:=ao (by omega)
  have d2:decide ((n:Int)<(hi:Int))=true:=ar (by omega)
  have d3:¬((hi:Int)<(n:Int)):=by omega
  have d4:((n:Int)<(hi:Int)):=by omega
  have d5:¬(hi<n):=by omega
  have ha:(n:Int) - (lo:Int)=(m:Int):=by omega
  have hb:n - lo=m:=by omega
  have h2:(0:Int)≤(lo:Int):=by omega
  have h9:(lo:Int)≤(n:Int):=by omega
  have hc:(n:Int)≤(c:Int):=by omega
  clear hL hm h5 h1 h0 h3
  go_enter Tryz.func70,Tryz.ntmps70
  go_wp2_with fail
  go_ret
  exact⟨_,rfl,by omega,rfl⟩
 ·have d1:decide ((hi:Int)<(n:Int))=decide (hi<n):=decide_eq_decide.2 (by omega)
  have d2:decide ((n:Int)<(hi:Int))=false:=ao (by omega)
  have d4:¬((n:Int)<(hi:Int)):=by omega
  have d5:(hi:Int)≤(n:Int):=by omega
  have ha:(hi:Int) - (lo:Int)=(m:Int):=by omega
  have hb:hi - lo=m:=by omega
  have h2:(0:Int)≤(lo:Int):=by omega
  have h4:(lo:Int)≤(hi:Int):=by omega
  have h7:(hi:Int)≤(c:Int):=by omega
  clear hL hm h5 h1 h0 h3
  go_enter Tryz.func70,Tryz.ntmps70
  go_wp2_with fail
  go_ret
  exact⟨_,rfl,by omega,rfl⟩
theorem Gy{w:World}{A:Option Addr}{n k:Nat}{L:List Int}(h:ZIn w A n L)(hk:50*k<n):ZIn w (A.map fun x=>x.add (50*k)) (bH L k).length (bH L k):=by
 have hl:=fV L k
 rw[h.1]at hl
 have hc:=ZIn.cut (k:=(bH L k).length) (a:=50*k) h (by omega)
 have e:(L.drop (50*k)).take (bH L k).length=bH L k:=by
  have h2:(bH L k).length=min 50 (L.drop (50*k)).length:=by unfold bH;rw[List.length_take]
  rw[h2]
  unfold bH
  by_cases e:50≤(L.drop (50*k)).length
  ·rw[Nat.min_eq_left e]
  ·rw[Nat.min_eq_right (by omega),List.take_of_length_le (ah _),List.take_of_length_le (by omega)]
 rw[e]at hc
 exact hc
def i6(T:List (List Int))(P L:List Int)(k:Nat):List Nat:=k7 (nl (T.getD (P.getD k 0).toNat [])) (bH L k)
theorem uM(P:List Int)(k:Nat):(nl P).getD k 0=(P.getD k 0).toNat:=by
 unfold nl
 rw[List.getD_eq_getElem?_getD,List.getD_eq_getElem?_getD,List.getElem?_map]
 cases P[k]? <;>rfl
theorem Ci(T:List (List Int))(k:Nat):(T.map nl).getD k []=nl (T.getD k []):=by
 rw[List.getD_eq_getElem?_getD,List.getD_eq_getElem?_getD,List.getElem?_map]
 cases T[k]? <;>rfl
theorem nG(T:List (List Int))(P L:List Int)(k:Nat):∀m,m≤50→50*k+m≤L.length→
 cQ (T.map nl) (nl P) (nl L) (50*k+m)=cQ (T.map nl) (nl P) (nl L) (50*k)++k7 (nl (T.getD (P.getD k 0).toNat [])) ((L.drop (50*k)).take m)
 | 0,_,_=>by simp[k7]
 | m+1,hm,hl=>by
   rw[← Nat.add_assoc,lF,nG T P L k m (by omega) (by omega),show(50*k+m) / 50=k by omega,uM,Ci,uM]
   have e:(L.drop (50*k)).take (m+1)=(L.drop (50*k)).take m++ [L.getD (50*k+m) 0]:=by
    rw[List.take_succ_eq_append_getElem (by rw[List.length_drop];omega),List.getElem_drop,List.getD_eq_getElem?_getD,List.getElem?_eq_getElem (by omega)]
    rfl
   rw[e]
   unfold k7
   rw[List.flatMap_append,List.append_assoc]
   simp
theorem ml(T:List (List Int))(P L:List Int):∀k,cQ (T.map nl) (nl P) (nl L) (min (50*k) L.length)=((List.range k).map (i6 T P L)).flatten
 | 0=>by simp[cQ]
 | k+1=>by
   rw[List.range_succ,List.map_append,List.flatten_append,←ml T P L k]
   simp only[List.map_cons,List.map_nil,List.flatten_cons,List.flatten_nil,List.append_nil]
   by_cases h:50*k≤L.length
   ·obtain⟨m,hm⟩:∃m,m=min 50 (L.length - 50*k):=⟨_,rfl⟩
    rw[Nat.min_eq_left h,show min (50*(k+1)) L.length=50*k+m by omega,nG T P L k m (by omega) (by omega)]
    congr 2
    unfold bH
    by_cases e:m=50
    ·rw[e]
    ·rw[List.take_of_length_le (by rw[List.length_drop];omega),List.take_of_length_le (by rw[List.length_drop];omega)]
   ·have e:i6 T P L k= []:=by
     unfold i6 bH k7
     rw[List.drop_eq_nil_of_le (by omega)]
     rfl
    rw[e,List.append_nil,Nat.min_eq_right (by omega),Nat.min_eq_right (by omega)]
theorem EK(l:List Nat)(list:List Int):an (k7 l list):=by
 unfold k7
 intro b hb
 obtain⟨x,_,hx⟩:=List.mem_flatMap.1 hb
 exact aE _ _ b hx
theorem zc{t:List Int}(ht:aY t)(list:List Int):(k7 (nl t) list).length≤20*list.length:=by
 induction list with
 | nil=>simp[k7]
 | cons x list ih=>
   have e:k7 (nl t) (x :: list)=bf (nl t) x.toNat++k7 (nl t) list:=rfl
   have hc:(bf (nl t) x.toNat).length≤20:=by
    unfold bf
    rw[af,uM]
    by_cases hx:x.toNat<t.length
    ·have:=(ht.2.2.1 (t.getD x.toNat 0) (by
      rw[List.getD_eq_getElem?_getD,List.getElem?_eq_getElem hx]
      exact List.getElem_mem _)).2
     omega
    ·rw[List.getD_eq_getElem?_getD,List.getElem?_eq_none (by omega)]
     exact Nat.zero_le _
   rw[e,List.length_append,List.length_cons]
   omega
theorem qG(T:List (List Int))(P L:List Int)(hT:∀k,aY (T.getD (P.getD k 0).toNat [])∨bH L k= []):∀k,((List.range k).map (i6 T P L)).flatten.length≤1000*k
 | 0=>by simp
 | k+1=>by
   rw[List.range_succ,List.map_append,List.flatten_append,List.length_append]
   have ih:=qG T P L hT k
   have:(i6 T P L k).length≤1000:=by
    unfold i6
    rcases hT k with h | h
    ·have h2:=zc h (bH L k)
     have h3:=fV L k
     omega
    ·rw[h]
     simp[k7]
   simp only[List.map_cons,List.map_nil,List.flatten_cons,List.flatten_nil,List.append_nil]
   omega
theorem Fe{L:List Int}{x:Int}(hx:x∈L):∃k,k<aQ L.length∧x∈bH L k:=by
 obtain⟨i,hi,rfl⟩:=List.getElem_of_mem hx
 refine⟨i / 50,by unfold aQ;omega,?_⟩
 unfold bH
 refine List.mem_take_iff_getElem.2 ⟨i % 50,by rw[List.length_drop];omega,?_⟩
 rw[List.getElem_drop]
 congr 1
 omega
theorem GI{L:List Int}{k:Nat}{x:Int}(hx:x∈bH L k):x∈L:=List.mem_of_mem_drop (List.mem_of_mem_take hx)
end Go.Proofs.YthakcjehhlpjnaaGreat
