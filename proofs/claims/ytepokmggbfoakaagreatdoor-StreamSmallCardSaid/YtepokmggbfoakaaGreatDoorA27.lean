import Derived.Test.YtepokmggbfoakaaGreatDoorA26
set_option maxHeartbeats 6400000
set_option maxRecDepth 100000
namespace Go.Proofs.YtepokmggbfoakaaGreatDoor
open Go.RowKit
theorem Hk(w:World)(v:Value)(T:List (List Int))(P:List Int)(h:bc w v T P)(s:ByteArray)(at':Int)(hs:s.size≤2000000)(hl: -9223372036854775808≤at')(hh:at'≤9223372036854775807)(hP:cJ T P)(hG:at'<0∨8*(s.size:Int)<at'):
 Calls Tryz.prog 179 #[v,.string s,.int .i64 at'] w (bz w (ij T P (ai s.data.toList) at')):=by
 have hn:(ai s.data.toList).length=8*s.size:=by rw[aw];rfl
 rw[show ij T P (ai s.data.toList) at'=([],0,2) by rw[ij,LX hP,LX (by rw[hn];omega)]];obtain⟨A,q,c,B,m,d,rfl,hT,hQ,hq,hj,hN,hO⟩:=id h;have hA:=hT.1;have hH:=hj.1;have hI:2≤q∧q≤6:=by have h1:=hP.1;have h2:=hP.2.1;omega
 have hK:1≤m∧m≤32767:=by have h1:=hP.2.2.1;have h2:=hP.2.2.2.1;omega
 obtain⟨tb,tq,rfl,hp⟩:=hT.2 (by omega);obtain⟨b,off,rfl,hC⟩:=hj.2 (by omega);have hF:0≤P.getD 0 0∧(P.getD 0 0).toNat<q:=by
  have:=hP.2.2.2.2.2.1 (P.getD 0 0) (by
   rw[LU,LV (by omega)]
   exact Mu _)
  rw[hA]at this;omega
 have h3:∀i,i<q→(T.getD i []).length=(T.getD 0 []).length∧bU (T.getD i []):=fun i hi=>hP.2.2.2.2.1 _ (m7 T i (by omega));obtain⟨m0,h9⟩:∃m0,m0=(T.getD 0 []).length:=⟨_,rfl⟩;rw[← h9]at h3;have hL:3≤m0∧m0≤258:=by have h1:=hP.2.2.2.2.2.2;have h2:=(h3 0 (by omega)).2.2.1;rw[← h9]at h1;rw[(h3 0 (by omega)).1]at h2;omega
 have hk:Below w.heap.size w (w.alloc (.cells #[.slice (some ⟨tb,tq,none⟩) q c,.slice (some ⟨b,off,none⟩) m d] 90)):=(L6 _ _).alloc (ag _) _;have hx:=ah w 90 #[.slice (some ⟨tb,tq,none⟩) q c,.slice (some ⟨b,off,none⟩) m d];have HM:=aa (dp _ _ T P (h.below hk));rw[L8 hP]at HM;obtain⟨y,hy⟩:∃y,y=(P.getD 0 0).toNat:=⟨_,rfl⟩;have hD:P.getD 0 0=(y:Int):=by omega
 have hE:y<q:=by omega
 obtain⟨A2,c2,h1,h2,_,h4⟩:=hp y hE;obtain⟨A0,c0,hg,_,_,_⟩:=hp 0 (by omega);rw[MM,←h9]at hg;obtain⟨htl,hB⟩:=h3 y hE;have hv:w.cell? ⟨tb,tq+y,none⟩=some (.slice A2 m0 c2):=by rw[← htl];exact h1
 have h7:w.cell? ⟨b,off,none⟩=some (.int .i64 (y:Int)):=by rw[← hD];have:=hC 0 (by omega);rw[MM]at this;exact this
 have h5:=aa fun(W:World) (hb:Below w.heap.size w W)=>show Calls Tryz.prog 218 #[.slice A2 m0 c2,.string s,.int .i64 at',.int .i64 50,.int .i64 ((m0:Int) - 1)] W (bz W ([],0,2))from by
  have hz:ZIn W A2 m0 (T.getD y []):=by rw[← htl];exact h2.below hb
  have hc:=yB W A2 m0 c2 (T.getD y []) s at' 50 ((m0:Int) - 1) hz (by unfold maxLen;omega) hs hl hh (by omega) (by omega) (by omega) (by omega)
  rw[show fD (T.getD y []) (ai s.data.toList) at' 50 ((m0:Int) - 1)=([],0,2) by
   unfold fD
   rw[LX hB,LX (by rw[hn];omega)]]at hc
  exact hc
 have hu:Hid (∀ w',Below w.heap.size w w'→bz w ([],0,2) (.returned (.tuple #[.slice none 0 0,.int .i64 0,.int .i64 2])) w'):=aa fun w' hb=>⟨_,rfl,Ml _ _ _ _,hb⟩;generalize bz w ([],0,2)=PO at*;have ht:=aa hk;have h8:=aa hx;have he:=aa hv;have ha:=aa hg;have hf:=aa h7;have hR:(0:Int)≤(y:Int):=by omega
 have hJ:(y:Int)<(q:Int):=by omega
 have hM:(0:Int)<(m:Int):=by omega
 clear h hk hx hP hT hj hp hC hF h3 h9 hA hH hy hD h1 h2 h4 hg htl hB hv h7 hn hG;go_enter Tryz.func179,Tryz.ntmps179;go_upto_region 1 with fail;generalize w.alloc (.cells #[.slice (some ⟨tb,tq,none⟩) q c,.slice (some ⟨b,off,none⟩) m d] 90)=w1 at*;have p0:w1.cell? ⟨w.heap.size,0,none⟩=some (.slice (some ⟨tb,tq,none⟩) q c):=(ac h8.out 0).trans rfl;have p1:w1.cell? ⟨w.heap.size,1,none⟩=some (.slice (some ⟨b,off,none⟩) m d):=(ac h8.out 1).trans rfl;go_wp2_with fail;refine HM.out.mono ?_;rintro e w2 ⟨rfl,hm⟩;have ho:=aP hm h8.out;have h0:=aq ht.out hm;have p0:w2.cell? ⟨w.heap.size,0,none⟩=some (.slice (some ⟨tb,tq,none⟩) q c):=(ac ho 0).trans rfl;have p1:w2.cell? ⟨w.heap.size,1,none⟩=some (.slice (some ⟨b,off,none⟩) m d):=(ac ho 1).trans rfl;have k0:w2.cell? ⟨tb,tq,none⟩=some (.slice A0 m0 c0):=(h0.cell (p:=⟨tb,tq,none⟩) (Md w _ ha.out)).trans ha.out;have k1:w2.cell? ⟨tb,tq+y,none⟩=some (.slice A2 m0 c2):=(h0.cell (p:=⟨tb,tq+y,none⟩) (Md w _ he.out)).trans he.out;have k2:w2.cell? ⟨b,off,none⟩=some (.int .i64 (y:Int)):=(h0.cell (p:=⟨b,off,none⟩) (Md w _ hf.out)).trans hf.out;have hr:=aa (h5.out w2 h0);have h6:=aa h0;clear hm ho h0 HM ht h8 he ha hf h5;go_wp2_with fail;go_loopw [2,9,12,13,14,15,28] (fun av lv s12 s13 s14 s15 iv' wx=>av=.int .i64 at'∧lv=.slice none 0 0∧iv'=.int .i64 0∧wx=w2) (fun _ _ _ _ _ _ iv' _=>m - (intOf iv').toNat)
 case atStart=>exact⟨rfl,rfl,rfl,rfl⟩
 case round=>obtain⟨rfl,rfl,rfl,rfl⟩:=hrel;go_wp2_with fail;refine hr.out.mono ?_;rintro e w3 ⟨v3,rfl,_,hw⟩;have HE:=aa (hu.out w3 (aq h6.out hw));clear hw hu h6 hr;go_wp2_with fail;(first | go_ret3 | skip);exact HE.out
theorem Hm(w:World)(v:Value)(T:List (List Int))(P:List Int)(h:bc w v T P)(s:ByteArray)(at':Int)(hs:s.size≤2000000)(hP:cJ T P)(H8:0≤at')(pf:at'≤8*(s.size:Int)):
 Calls Tryz.prog 179 #[v,.string s,.int .i64 at'] w (bz w (ij T P (ai s.data.toList) at')):=by
 have hE:(ai s.data.toList).length=8*s.size:=by rw[aw];rfl
 obtain⟨a0,rfl⟩:=O5 H8;have pb:a0≤8*s.size:=by omega
 obtain⟨bits,h0⟩:∃bits,bits=ai s.data.toList:=⟨_,rfl⟩;obtain⟨A,q,c,B,m,d,rfl,hT,q4,hq,HC,q2,q3⟩:=id h;have p2:=hT.1;have HZ:=HC.1;have pm:2≤q∧q≤6:=by have h1:=hP.1;have h2:=hP.2.1;omega
 have q0:1≤m∧m≤32767:=by have h1:=hP.2.2.1;have h2:=hP.2.2.2.1;omega
 obtain⟨tb,tq,rfl,HS⟩:=hT.2 (by omega);obtain⟨b,off,rfl,p4⟩:=HC.2 (by omega);have HW:∀i,i<m→0≤P.getD i 0∧(P.getD i 0).toNat<q:=fun i hi=>by
  have:=hP.2.2.2.2.2.1 (P.getD i 0) (by
   rw[LU,LV (by omega)]
   exact Mu _)
  rw[p2]at this;omega
 have h7:∀i,i<q→(T.getD i []).length=(T.getD 0 []).length∧bU (T.getD i []):=fun i hi=>hP.2.2.2.2.1 _ (m7 T i (by omega));obtain⟨m0,hR⟩:∃m0,m0=(T.getD 0 []).length:=⟨_,rfl⟩;rw[← hR]at h7;have q1:3≤m0∧m0≤258:=by have h1:=hP.2.2.2.2.2.2;have h2:=(h7 0 (by omega)).2.2.1;rw[← hR]at h1;rw[(h7 0 (by omega)).1]at h2;omega
 have HF:Below w.heap.size w (w.alloc (.cells #[.slice (some ⟨tb,tq,none⟩) q c,.slice (some ⟨b,off,none⟩) m d] 90)):=(L6 _ _).alloc (ag _) _;have HY:=ah w 90 #[.slice (some ⟨tb,tq,none⟩) q c,.slice (some ⟨b,off,none⟩) m d];have HM:=aa (dp _ _ T P (h.below HF));rw[L8 hP]at HM;obtain⟨A0,c0,HB,_,_,_⟩:=HS 0 (by omega);rw[MM,←hR]at HB;obtain⟨n1,HN⟩:∃n1,n1=m0 - 1:=⟨_,rfl⟩;have pj:(m0:Int) - 1=(n1:Int):=by omega
 have hA:=aa fun(W:World) (hb:Below w.heap.size w W) (y:Nat) (hl:y<q) (A2:Option Addr) (c2:Nat) (h2:ZIn w A2 m0 (T.getD y [])) (a:Nat) (ha:a≤8*s.size)=>show Calls Tryz.prog 218 #[.slice A2 m0 c2,.string s,.int .i64 a,.int .i64 50,.int .i64 (n1:Nat)] W (bz W (fU (nl (T.getD y [])) bits (m0 - 1:Nat) 50 a []))from by
  have hc:=yB W A2 m0 c2 (T.getD y []) s (a:Int) 50 ((n1:Nat):Int) (h2.below hb) (by unfold maxLen;omega) hs (by omega) (by omega) (by omega) (by omega) (by omega) (by omega)
  rw[show fD (T.getD y []) (ai s.data.toList) (a:Int) 50 ((n1:Nat):Int)=fU (nl (T.getD y [])) bits (m0 - 1:Nat) 50 a [] by
   unfold fD
   rw[LX (h7 y hl).2,LW (by rw[hE];omega),h0,HN]
   rfl]at hc
  exact hc
 have H6:=aa fun(y:Nat) (hl:y<q) (a:Nat) (ha:a≤8*s.size)=>show(fU (nl (T.getD y [])) bits (m0 - 1:Nat) 50 a []).2.1≤8*s.size from by have h:=(nC (nl (T.getD y [])) bits (m0 - 1:Nat) (hU (h7 y hl).2) 50 a [] (LY _) (by rw[h0,hE];exact ha)).2.1;rw[h0,hE]at h;rw[h0];exact h
 have hh:=aa fun(y:Nat) (hl:y<q) (a:Nat) (ha:a≤8*s.size)=>show(fU (nl (T.getD y [])) bits (m0 - 1:Nat) 50 a []).1.length≤8*s.size from by have h:=(nC (nl (T.getD y [])) bits (m0 - 1:Nat) (hU (h7 y hl).2) 50 a [] (LY _) (by rw[h0,hE];exact ha)).1;rw[h0,hE]at h;rw[h0];exact h
 have hC:=aa fun(i r:Nat) (pre:List Nat) (a:Nat)=>sX (T.map nl) (nl P) bits m0 i r pre (by omega) 50 a [] (ag _) (fun x hx=>by cases hx);have h5:ij T P (ai s.data.toList) (a0:Int)=j8 (T.map nl) (nl P) bits m0 (50*m) 0 a0 []:=by rw[ij,LX hP,LW (by rw[hE];omega),HZ,←hR,L9,h0]
 rw[h5];obtain⟨ANS,hD⟩:∃ANS,ANS=j8 (T.map nl) (nl P) bits m0 (50*m) 0 a0 []:=⟨_,rfl⟩;rw[← hD];have hB:=aa hD;have hV:Hid (∀ w' v (X:List Nat) (n:Nat),ANS=(X,n,0)→w'.ownsRow w.heap.size 3 1 v X.length (X.map iv)→Below w.heap.size w w'→bz w ANS (.returned (.tuple #[v,.int .i64 n,.int .i64 0])) w'):=aa fun w' v X n h1 h2 h4=>by rw[h1];exact⟨v,rfl,h2,h4⟩
 have hM:Hid (∀ w' (z:Nat),ANS=([],0,z)→Below w.heap.size w w'→bz w ANS (.returned (.tuple #[.slice none 0 0,.int .i64 0,.int .i64 z])) w'):=aa fun w' z h1 h4=>by rw[h1];exact⟨_,rfl,Ml _ _ _ _,h4⟩
 generalize bz w ANS=PO at*;have H7:Hid (∀ y,y<q→∃A2 c2,w.cell? ⟨tb,tq+y,none⟩=some (.slice A2 m0 c2)∧ZIn w A2 m0 (T.getD y [])):=aa fun y hy=>by obtain⟨A2,c2,h1,h2,_,_⟩:=HS y hy;rw[(h7 y hy).1]at h1 h2;exact⟨A2,c2,h1,h2⟩
 have H5:Hid (∀ i,i<m→∃y:Nat,y<q∧w.cell? ⟨b,off+i,none⟩=some (.int .i64 (y:Int))∧(nl P).getD i 0=y):=aa fun i hi=>by
  obtain⟨h1,h2⟩:=HW i hi;refine⟨(P.getD i 0).toNat,h2,?_,?_⟩;·rw[p4 i hi];congr 2;omega
  ·unfold nl;rw[LU,LU,Me];cases P[i]? <;>rfl
 have H4:Hid (∀ y,(T.map nl).getD y []=nl (T.getD y [])):=aa fun y=>by rw[LU,LU,Me];cases T[y]? <;>rfl
 have HT:=aa HF;have hS:=aa HY;have H3:=aa HB;have p5:=aa HN;clear h HF HY hP hT HC HS p4 HW h7 hR p2 HZ HB hE pf h5 hD h0 HN;go_enter Tryz.func179,Tryz.ntmps179;go_upto_region 1 with fail;generalize w.alloc (.cells #[.slice (some ⟨tb,tq,none⟩) q c,.slice (some ⟨b,off,none⟩) m d] 90)=w1 at*;have p0:w1.cell? ⟨w.heap.size,0,none⟩=some (.slice (some ⟨tb,tq,none⟩) q c):=(ac hS.out 0).trans rfl;have p1:w1.cell? ⟨w.heap.size,1,none⟩=some (.slice (some ⟨b,off,none⟩) m d):=(ac hS.out 1).trans rfl;go_wp2_with fail;refine HM.out.mono ?_;rintro e w2 ⟨rfl,HH⟩;have HL:=aP HH hS.out;have hp:=aq HT.out HH;have p0:w2.cell? ⟨w.heap.size,0,none⟩=some (.slice (some ⟨tb,tq,none⟩) q c):=(ac HL 0).trans rfl;have p1:w2.cell? ⟨w.heap.size,1,none⟩=some (.slice (some ⟨b,off,none⟩) m d):=(ac HL 1).trans rfl;have k0:w2.cell? ⟨tb,tq,none⟩=some (.slice A0 m0 c0):=(hp.cell (p:=⟨tb,tq,none⟩) (Md w _ H3.out)).trans H3.out;have hm:=aa hp;have hj:=hp.size;clear HH HL hp HM HT hS H3;go_wp2_with fail;go_loopw [2,9,12,13,14,15,28] (fun av lv s12 s13 s14 s15 iv' wx=>∃(i a N c9:Nat) (A9:Option Addr) (out:List Nat),i≤m∧iv'=.int .i64 i∧av=.int .i64 a∧lv=.slice A9 N c9∧wx.ownsRow w2.heap.size 3 1 (.slice A9 N c9) N (out.map iv)∧Below w2.heap.size w2 wx∧Hid (out.length=N∧N≤50*i∧a≤8*s.size∧j8 (T.map nl) (nl P) bits m0 (50*(m - i)) (50*i) a out=ANS)) (fun _ _ _ _ _ _ iv' _=>m - (intOf iv').toNat)
 case atStart=>exact⟨0,a0,0,0,none, [],LY _,rfl,rfl,rfl,Ml _ _ _ _,L6 _ _,⟨rfl,L5 _,pb,hB.out.symm⟩⟩
 case round=>
  rename World=>wx;obtain⟨i,a,N,c9,A9,out,hi,rfl,rfl,rfl,ho,hJ,hI⟩:=hrel;by_cases e:i<m
  ·have ps:(0:Int)≤(i:Int):=(by omega);have pv:(i:Int)<(m:Int):=(by omega);obtain⟨y,hl,HR,p3⟩:=H5.out i e;obtain⟨A2,c2,h1,h2⟩:=H7.out y hl;have hu:Below w.heap.size w wx:=hm.out.trans (hJ.mono hj);have p0x:wx.cell? ⟨w.heap.size,0,none⟩=some (.slice (some ⟨tb,tq,none⟩) q c):=(hJ.cell (p:=⟨w.heap.size,0,none⟩) (Md w2 _ p0)).trans p0;have k1:wx.cell? ⟨tb,tq+y,none⟩=some (.slice A2 m0 c2):=(hu.cell (p:=⟨tb,tq+y,none⟩) (Md w _ h1)).trans h1;have k2:wx.cell? ⟨b,off+i,none⟩=some (.int .i64 (y:Int)):=(hu.cell (p:=⟨b,off+i,none⟩) (Md w _ HR)).trans HR;have HA:=aa (hA.out wx hu y hl A2 c2 h2 a hI.out.2.2.1);have H0:=H6.out y hl a hI.out.2.2.1;have hv:=hh.out y hl a hI.out.2.2.1;have hg:=hC.out i (50*(m - (i+1))) out a;rw[p3,H4.out y,show 50+50*(m - (i+1))=50*(m - i) by omega,Ng,MM,Mv,hI.out.2.2.2]at hg;obtain⟨⟨X,q5,z5⟩,hr⟩:∃r,r=fU (nl (T.getD y [])) bits (m0 - 1:Nat) 50 a []:=⟨_,rfl⟩;rw[← hr]at HA hg H0 hv;dsimp only at hg H0 hv;have HG:=aa hg;have hN:=aa H0;have HU:=aa hv;have HO:=aa ho;have H2:=aa hJ;have HI:=aa hI.out;have q9:(0:Int)≤(y:Int):=(by omega);have pr:(y:Int)<(q:Int):=(by omega);clear HR p3 h1 h2 hu H0 hv hg hr ho hJ hI;go_wp2_with fail;refine HA.out.mono ?_;rintro e w5 ⟨v5,rfl,hw,hH⟩;dsimp only at hw ⊢;have he:=aq H2.out hH;have ht:=hm.out.trans (he.mono hj);by_cases ez:z5=0
   ·subst ez;obtain⟨A5,c5,rfl,HJ,_,hW⟩:=ao hw;obtain⟨xl,hL⟩:∃xl,xl=X.length:=⟨_,rfl⟩;have q8:xl≤16000000:=(by have:=HU.out;omega);have HK:aU w5 A5 xl X:=(by rw[hL];exact ct hw);rw[← hL]at hw HJ hW ⊢;have hQ:∃o x,X=o++ [x]∧((x+1=m0∧ANS=(out++X,q5,0))∨(x+1≠m0∧X.length=50∧j8 (T.map nl) (nl P) bits m0 (50*(m - (i+1))) (50*i+50) q5 (out++X)=ANS)):=by
     rcases HG.out with⟨h1,_⟩ | ⟨_,⟨o,h2⟩,h3⟩ | ⟨_,h2,h3,h4⟩;·exact absurd rfl h1
     ·exact⟨o,m0 - 1,h2,.inl ⟨by omega,h3⟩⟩
     ·rw[MH,MG]at h3;(have HP:X≠ []:=fun h=>by rw[h]at h3;cases h3);refine⟨X.dropLast,X.getLast HP,(List.dropLast_concat_getLast HP).symm,.inr ⟨h2 _ (List.getLast_mem HP),h3,h4.symm⟩⟩
    obtain⟨o,x,hX,h6⟩:=hQ;have hG:xl=o.length+1:=(by rw[hL,hX,LR];rfl);obtain⟨g5,rfl⟩:=hW (by omega);have h9:=gi HO.out hH;obtain⟨v6,w6,hZ,hK,hY⟩:=jK w5 w2.heap.size (.slice A9 N c9) N _ h9 (some ⟨g5,0,none⟩) xl c5 X HK (by have:=HI.out.2.1;omega) (Mk H2.out.size hH.size);have hn:Below w2.heap.size w2 w6:=he.grown hY he.size (fun k hk=>(Nl h9 k hk).1);have HX:=(Nl hw g5 rfl).1
    have hF:=Oh hw hY (.inr fun e=>by
     have:=(Nl HO.out g5 e.symm).2
     omega)
    have pg:w6.cell? ⟨g5,o.length,none⟩=some (.int .i64 (x:Nat)):=(by rw[NC hF o.length (by omega),Me,hX,MC (ag _),Ng];rfl);obtain⟨ol,HQ⟩:∃ol,ol=o.length:=⟨_,rfl⟩;rw[← HQ]at pg hG;have po:(xl:Int) - 1=(ol:Int):=(by omega);have pk:(0:Int)≤(ol:Int):=(by omega);have pl:(ol:Int)<(xl:Int):=(by omega);have hf:x+1=m0↔x=n1:=(by have:=p5.out;omega);obtain⟨A6,c6,rfl,_,_,_⟩:=ao hK;obtain⟨N6,hO⟩:∃N6,N6=N+xl:=⟨_,rfl⟩;rw[← hO,←Mw]at hK;rw[← hO]at hZ;have h8:(out++X).length=N6:=(by rw[LR,HI.out.1,←hL,hO]);have HV:=aa hZ;have p7:=aa hK;have H1:=aa hn;by_cases ex:x+1=m0;·have h5:ANS=(out++X,q5,0):=(h6.resolve_right fun h=>h.1 ex).2;have dx:((x:Int)==(n1:Int))=true:=(by rw[hf.1 ex];exact Oi _);have dx2:(x==n1)=true:=(by rw[hf.1 ex];exact Oi _);have HE:=aa (hV.out w6 (.slice A6 N6 c6) (out++X) q5 h5 (by rw[h8];exact World.ownsRow.mono hK hj) (hm.out.trans (hn.mono hj)));clear h5 h6 hX hL hG hw HJ hW HK h9 hZ hK hY hn HX hF HQ hO h8 he ht hH HG hV hM ex hf;(go_wp2_with (at_builtin;refine Lib.wpList_append_run _ rfl (.tmp 48) (.tmp 49) 57 57 rfl (.slice A9 N c9) (.slice (some ⟨g5,0,none⟩) xl c5) rfl rfl _ w6 HV.out ?_));(first | go_ret3 | skip);exact HE.out
    ·obtain⟨_,HD,hz⟩:=h6.resolve_left fun h=>ex h.1;have dx:((x:Int)==(n1:Int))=false:=(by rw[Mr];intro h;exact ex (hf.2 (by omega)));have dx2:(x==n1)=false:=(by rw[Mr];intro h;exact ex (hf.2 h));have p6:Hid ((out++X).length=N6∧N6≤50*(i+1)∧q5≤8*s.size∧j8 (T.map nl) (nl P) bits m0 (50*(m - (i+1))) (50*(i+1)) q5 (out++X)=ANS):=aa ⟨h8,by have:=HI.out.2.1;omega,hN.out,by rw[show 50*(i+1)=50*i+50 by omega];exact hz⟩;clear hz HD h6 hX hL hG hw HJ hW HK h9 hZ hK hY hn HX hF HQ hO h8 he ht hH HG ex hf;(go_wp2_with (at_builtin;refine Lib.wpList_append_run _ rfl (.tmp 48) (.tmp 49) 57 57 rfl (.slice A9 N c9) (.slice (some ⟨g5,0,none⟩) xl c5) rfl rfl _ w6 HV.out ?_));go_roundw;case rel=>exact⟨i+1,q5,N6,c6,A6,out++X,by omega,by go_num,rfl,rfl,p7.out,H1.out,p6⟩
     case measure=>simp[intOf];omega
   ·have h5:ANS=([],0,z5):=by
     rcases HG.out with⟨_,h2⟩ | ⟨h1,_⟩ | ⟨h1,_⟩;·exact h2
     ·exact absurd h1 ez
     ·exact absurd h1 ez
    have HE:=aa (hM.out w5 z5 h5 ht);have dz2:((z5:Int) != 0)=true:=(by rw[Oe];omega);clear h5 hw hH he ht HA HG hN HU HO H2 HI hV hM hB hA H6 hh hC H7 H5 H4;go_wp2_with fail;(first | go_ret3 | skip);exact HE.out
  ·obtain rfl:i=m:=(by omega);have h5:ANS=([],0,110):=(by rw[← hI.out.2.2.2,Ng];rfl);have HE:=aa (hM.out wx 110 h5 (hm.out.trans (hJ.mono hj)));clear h5 ho hJ hI hV hM hB hA H6 hh hC H7 H5 H4;go_wp2_with fail;(first | go_ret3 | skip);exact HE.out
theorem Hj(w:World)(v:Value)(T:List (List Int))(P:List Int)(h:bc w v T P)(s:ByteArray)(at':Int)(hs:s.size≤2000000)(hl: -9223372036854775808≤at')(hh:at'≤9223372036854775807):
 Calls Tryz.prog 179 #[v,.string s,.int .i64 at'] w (bz w (ij T P (ai s.data.toList) at')):=by
 by_cases hP:cJ T P
 ·by_cases h0:at'<0∨8*(s.size:Int)<at';·exact Hk w v T P h s at' hs hl hh hP h0
  ·exact Hm w v T P h s at' hs hP (by omega) (by omega)
 ·exact Hl w v T P h s at' hP
def cT(ls:List (List Nat)):List Value:=ls.flatMap fun l=> [.string ⟨(pack l).toArray⟩,.int .i64 l.length]
theorem kd(ls:List (List Nat))(l:List Nat):cT (ls++ [l])=cT ls++ [.string ⟨(pack l).toArray⟩,.int .i64 l.length]:=by simp[cT]
theorem oV:∀(ls:List (List Nat)) (j:Nat),j<ls.length→(cT ls)[j*2]? =some (.string ⟨(pack (ls.getD j [])).toArray⟩)∧(cT ls)[j*2+1]? =some (.int .i64 (ls.getD j []).length)
 | [],_,h=>absurd h (NY _)
 | l :: ls,0,_=>⟨rfl,rfl⟩
 | l :: ls,j+1,h=>by have ih:=oV ls j (by simpa using h);have e:cT (l :: ls)= [.string ⟨(pack l).toArray⟩,.int .i64 l.length]++cT ls:=rfl;rw[e,show(j+1)*2=2+j*2 by omega,show 2+j*2+1=2+(j*2+1) by omega,MC (by simp),MC (by simp)];simpa using ih
structure Pcs (w:World) (B:Nat) (v:Value) (ls:List (List Nat)):Prop where
 own:w.ownsRow B 43 2 v ls.length (cT ls)
 bit:∀l∈ls,au l
theorem Tryz.infoBits:(Tryz.prog.info? 43).map (fun i=>(i.zero,i.size,i.bytes))=some (some (.agg #[.string ⟨#[]⟩,.int .i64 0]),2,24):=by kernel_rfl
theorem DJ(w:World)(B:Nat)(hB:B≤w.heap.size)(l:List Nat)(hl:au l):Pcs (w.alloc (.cells #[.string ⟨(pack l).toArray⟩,.int .i64 l.length] 43)) B (.slice (some ⟨w.heap.size,0,none⟩) 1 1) [l]:=
 ⟨⟨rfl,.inr ⟨w.heap.size,1,_,rfl,hB,Pn w _,L5 _,by unfold maxLen;omega,rfl,rfl⟩⟩,fun x hx=>by rw[List.mem_singleton.1 hx];exact hl⟩
theorem I6(w:World)(B:Nat):Pcs w B (.slice none 0 0) []:=⟨Ml _ _ _ _,fun _ h=>by cases h⟩
theorem Pcs.below{w w':World}{B:Nat}{v:Value}{ls:List (List Nat)}(h:Pcs w B v ls)(hb:Below w.heap.size w w'):Pcs w' B v ls:=
 ⟨(an hb).row h.own (fun _ _=>ay) ay,h.bit⟩
theorem tT(w:World)(B:Nat)(v:Value)(ls:List (List Nat))(l:List Nat)(h:Pcs w B v ls)(hB:B≤w.heap.size)(hn:ls.length≤1000000)(hl:au l):
 ∃v' w',(Builtin.append_ #[45,45] 45 #[v,.slice (some ⟨w.heap.size,0,none⟩) 1 1]).run Tryz.prog (w.alloc (.cells #[.string ⟨(pack l).toArray⟩,.int .i64 l.length] 43))=.ok v' w'∧Pcs w' B v' (ls++ [l])∧Below B w w':=by
 obtain⟨i3,h3,h0,h5,h6⟩:=MT Tryz.infoBits
 obtain⟨v',w',h1,h2,h4,_⟩:=PV (P:=Tryz.prog) (w.alloc (.cells #[.string ⟨(pack l).toArray⟩,.int .i64 l.length] 43)) B 45 45 43 i3 _ 2 24 Tryz.underlying45 h3 h0 h5 h6 rfl (by decide) v ls.length (cT ls) (h.own.alloc _)
  ⟨w.heap.size,0,none⟩ 1 1 [.string ⟨(pack l).toArray⟩,.int .i64 l.length] rfl (rP w _ _ _)
  (fun u hu=>by
    simp at hu
    rcases hu with rfl | rfl <;>rfl) (by unfold maxLen;omega) (by omega) (by simp;omega)
 refine⟨v',w',h1,⟨?_,fun x hx=> ?_⟩,((L6 B w).alloc hB _).grown h4 (by simp;omega) (fun k hk=>(Nl h.own k hk).1)⟩;·rw[kd,LR,Mq];exact h2
 ·rcases List.mem_append.1 hx with hx | hx;·exact h.bit x hx
  ·rw[List.mem_singleton.1 hx];exact hl
theorem FT(l:List Nat)(hb:au l):oO ⟨(pack l).toArray⟩ l.length=true:=by rw[mT,show(ByteArray.mk (pack l).toArray).size=(l.length+7) / 8 by rw[← a8];rfl,show(ByteArray.mk (pack l).toArray).data.toList=pack l from rfl,lk l hb,NS];exact⟨by omega,by omega,by simp⟩
theorem Ad(ls:List (List Nat))(hb:∀l∈ls,au l):∀i,i≤ls.length→ik (fun i=>⟨(pack (ls.getD i [])).toArray⟩) (fun i=>((ls.getD i []).length:Int)) i=(ls.take i).flatten∧uZ (fun i=>⟨(pack (ls.getD i [])).toArray⟩) i≤(ls.take i).flatten.length+i
 | 0,_=>by simp[ik,uZ]
 | i+1,h=>by
  obtain⟨h1,h2⟩:=Ad ls hb i (by omega);have hg:ls.getD i []=ls[i]:=by rw[LU,LV (by omega)];rfl
  have e:ls.take (i+1)=ls.take i++ [ls.getD i []]:=by rw[Mn (by omega),hg]
  have h0:au (ls.getD i []):=by rw[hg];exact hb _ (Mu _)
  have h3:(ByteArray.mk (pack (ls.getD i [])).toArray).size=((ls.getD i []).length+7) / 8:=by rw[← a8];rfl
  rw[e,PA];refine⟨?_,?_⟩;·rw[ik,h1];congr 1;rw[L9,show(ByteArray.mk (pack (ls.getD i [])).toArray).data.toList=pack (ls.getD i [])from rfl,lk _ h0,List.take_left];simp
  ·rw[uZ,h3,LR];simp only[Pk,Qd,Mv];omega
theorem I4(ls:List (List Nat))(i:Nat)(h:i<ls.length):(ls.getD i []).length≤ls.flatten.length:=by rw[LU,LV h];exact List.Sublist.length_le (List.sublist_flatten_of_mem (Mu h))
theorem oW(w:World)(B:Nat)(v:Value)(ls:List (List Nat))(h:Pcs w B v ls)(hn:ls.length≤1000000)(hl:ls.flatten.length≤100000000):
 Calls Tryz.prog 22 #[v] w (mM w (pack ls.flatten) ls.flatten.length 0):=by
 obtain⟨A,c,rfl,hc,_,hA⟩:=ao h.own;obtain⟨hj,ht⟩:=Ad ls h.bit ls.length (ag _);rw[O3]at hj ht
 have hk:=Ku w A ls.length c (fun i=>⟨(pack (ls.getD i [])).toArray⟩) (fun i=>((ls.getD i []).length:Int)) (fun h0=>by
  obtain⟨g,rfl⟩:=hA h0
  refine⟨g,0,rfl,(Nl h.own g rfl).2,fun i hi=> ?_⟩
  have hg:=oV ls i hi
  rw[MG,NC h.own (i*2) (by omega),NC h.own (i*2+1) (by omega)]
  exact hg) (by unfold maxLen;omega) (by omega)
  (fun i hi=>by
    have:=I4 ls i hi
    rw[show (ByteArray.mk (pack (ls.getD i [])).toArray).size=((ls.getD i []).length+7) / 8 by rw[← a8];rfl]
    omega)
  (fun i hi=>by
    have:=I4 ls i hi
    omega) (fun i hi=>FT _ (by
     rw[LU,LV hi]
     exact h.bit _ (Mu _)))
 rw[hj]at hk;exact hk
theorem Hx(w:World)(v:Value)(T:List (List Int))(P:List Int)(h:bc w v T P)(A':Option Addr)(n' c':Nat)(L:List Int)(hL:L.length=n')(hq:n'≤2000000)(hP:cJ T P)(hM:¬GU T P L):
 Calls Tryz.prog 52 #[v,.slice A' n' c'] w (aS w (bI T P L)):=by
 rw[show bI T P L=([],110)from LW hM];obtain⟨A,q,c,B,m,d,rfl,_,_,_,hi,_,ho⟩:=id h;have hj:=hi.1;have h7:Below w.heap.size w (w.alloc (.cells #[.slice A q c,.slice B m d] 90)):=(L6 _ _).alloc (ag _) _;have h9:=ah w 90 #[.slice A q c,.slice B m d];obtain⟨w1,h4⟩:∃w1,w1=w.alloc (.cells #[.slice A q c,.slice B m d] 90):=⟨_,rfl⟩;have hl:w1.heap.size=w.heap.size+1:=by rw[h4];simp
 rw[← h4]at h7 h9;have h8:Below w1.heap.size w1 (w1.alloc (.cells #[.string ⟨#[]⟩,.int .i64 0] 43)):=(L6 _ _).alloc (ag _) _;have hk:=aP h8 h9;have hc:=ah w1 43 #[.string ⟨#[]⟩,.int .i64 0];rw[hl]at hc;have h0:=aq h7 h8;have hh:=aa h4.symm;have hf:Hid (∀ w2,w2=w1.alloc (.cells #[.string ⟨#[]⟩,.int .i64 0] 43)→Calls Tryz.prog 102 #[.agg #[.slice A q c,.slice B m d]] w2.drew fun e w'=>e=.returned (.bool true)∧Below w2.heap.size w2.drew w'):=aa fun w2 e2=>by have h3:=dp w2.drew _ T P (h.below (by rw[e2];exact h0.drew));rw[L8 hP]at h3;exact h3
 have he:=aa fun(wx:World)=>jN wx n' (by omega);have h6:¬(cJ T P∧aQ n'≤m):=by rw[← hL,←hj];exact hM
 obtain⟨z,hz⟩:∃z,z=aQ n':=⟨_,rfl⟩;have hr:z≤50000:=by rw[hz];unfold aQ;omega
 rw[← hz]at h6 he;unfold maxLen at ho;have hp:m<z:=by have:¬z≤m:=fun k=>h6 ⟨hP,k⟩;omega
 have h5:=aa hk;have hg:=aa hc;have hm:=aa h0;clear h hM h7 h9 h8 hk hc h0 hl h4 h6 hP hz hL hj hi;go_enter Tryz.func52,Tryz.ntmps52;go_upto_region 1 with fail;rw[hh.out];have HM:=aa (hf.out _ rfl);generalize w1.alloc (.cells #[.string ⟨#[]⟩,.int .i64 0] 43)=w2 at*;clear hh hf;have p0:w2.cell? ⟨w.heap.size,0,none⟩=some (.slice A q c):=(ac h5.out 0).trans rfl;have p1:w2.cell? ⟨w.heap.size,1,none⟩=some (.slice B m d):=(ac h5.out 1).trans rfl;have ha:w.heap.size<w2.heap.size:=aB h5.out;have hb:w.heap.size+1<w2.heap.size:=aB hg.out
 go_region_held3 (fun w'=>w'.cell? ⟨w.heap.size,0,none⟩=some (.slice A q c)∧w'.cell? ⟨w.heap.size,1,none⟩=some (.slice B m d))
  (first | exact⟨p0,p1⟩ | exact⟨s0,s1⟩ | go_keep)
  (first
    | (go_at_call 102;refine HM.out.mono ?_;rintro e w3 ⟨rfl,h1⟩
       have s0:w3.cell? ⟨w.heap.size,0,none⟩=some (.slice A q c):=(h1.cell (p:=⟨w.heap.size,0,none⟩) ha).trans p0
       have s1:w3.cell? ⟨w.heap.size,1,none⟩=some (.slice B m d):=(h1.cell (p:=⟨w.heap.size,1,none⟩) ha).trans p1)
    | (go_at_call 105;refine(he.out _).mono ?_;rintro e w4 ⟨rfl,rfl⟩))
 have h2:Blk w3 (w.heap.size+1) 43 #[.string ⟨#[]⟩,.int .i64 0]:=(h1.block (w.heap.size+1) hb).trans hg.out;have g0:=(ac h2 0).trans (rfl:_=some (Value.string ⟨#[]⟩));have g1:=(ac h2 1).trans (rfl:_=some (Value.int .i64 0));have f0:=ae h2 0;have f1:=ae h2 1;have hn:=aa (hm.out.drew.trans (h1.mono (MB ha)));clear h1 h2;go_wp2_with fail;refine Mm (v:=.tuple #[.agg #[.string ⟨#[]⟩,.int .i64 0],.int .i64 110]) ?_ rfl ⟨rfl,(hn.out.setCell (p:=⟨w.heap.size+1,0,none⟩) (NR _) _).setCell (p:=⟨w.heap.size+1,1,none⟩) (NR _) _⟩;simp[results,Tryz.results52,go_sem,g0,g1]
theorem Hw(w:World)(v:Value)(T:List (List Int))(P:List Int)(h:bc w v T P)(A':Option Addr)(n' c':Nat)(L:List Int)(hP:¬cJ T P):
 Calls Tryz.prog 52 #[v,.slice A' n' c'] w (aS w (bI T P L)):=by
 rw[show bI T P L=([],110)from LW (fun k=>hP k.1)];obtain⟨A,q,c,B,m,d,rfl,_⟩:=id h;have h6:Below w.heap.size w (w.alloc (.cells #[.slice A q c,.slice B m d] 90)):=(L6 _ _).alloc (ag _) _;have h8:=ah w 90 #[.slice A q c,.slice B m d];obtain⟨w1,h4⟩:∃w1,w1=w.alloc (.cells #[.slice A q c,.slice B m d] 90):=⟨_,rfl⟩;have hj:w1.heap.size=w.heap.size+1:=by rw[h4];simp
 rw[← h4]at h6 h8;have h7:Below w1.heap.size w1 (w1.alloc (.cells #[.string ⟨#[]⟩,.int .i64 0] 43)):=(L6 _ _).alloc (ag _) _;have hh:=aP h7 h8;have hb:=ah w1 43 #[.string ⟨#[]⟩,.int .i64 0];rw[hj]at hb;have h0:=aq h6 h7;have hf:=aa h4.symm;have hc:Hid (∀ w2,w2=w1.alloc (.cells #[.string ⟨#[]⟩,.int .i64 0] 43)→Calls Tryz.prog 102 #[.agg #[.slice A q c,.slice B m d]] w2.drew fun e w'=>e=.returned (.bool false)∧Below w2.heap.size w2.drew w'):=aa fun w2 e2=>by have h3:=dp w2.drew _ T P (h.below (by rw[e2];exact h0.drew));rw[L7 hP]at h3;exact h3
 have h5:=aa hh;have he:=aa hb;have hk:=aa h0;clear h h6 h8 h7 hh hb h0 hj h4 hP;go_enter Tryz.func52,Tryz.ntmps52;go_upto_region 1 with fail;rw[hf.out];have HM:=aa (hc.out _ rfl);generalize w1.alloc (.cells #[.string ⟨#[]⟩,.int .i64 0] 43)=w2 at*;clear hf hc;have q0:w2.cell? ⟨w.heap.size,0,none⟩=some (.slice A q c):=(ac h5.out 0).trans rfl;have q1:w2.cell? ⟨w.heap.size,1,none⟩=some (.slice B m d):=(ac h5.out 1).trans rfl;have h9:w.heap.size<w2.heap.size:=aB h5.out;have ha:w.heap.size+1<w2.heap.size:=aB he.out;refine wp_region_held_drew (S:=fun w'=>w'.cell? ⟨w.heap.size,0,none⟩=some (.slice A q c)∧w'.cell? ⟨w.heap.size,1,none⟩=some (.slice B m d)) (by kernel_rfl) ⟨q0,q1⟩ (fun hHeld=> ?_);refine OB (i:=0) (v:=.agg #[.slice A q c,.slice B m d]) rfl (by kernel_rfl) (by kernel_rfl) (by kernel_rfl) (fun _ _ _ h=>h) (Or.inl ⟨by rfl,?hy⟩) (by assumption) ?_;case hy=>intro w hg;(try dsimp only at hg);obtain⟨s0,s1⟩:=hg;go_simp
 (try simp only[Nd,M6,Act.put,MO,Nq,Nh]);refine wpAnyH_ready (rs:= [1]) (by kernel_rfl) (by simp) (AllReadyH.cons rfl (fun K hK=> ?_) AllReadyH.nil);go_simp;go_at_call 102;refine HM.out.mono ?_;rintro e w3 ⟨rfl,h1⟩;have p0:w3.cell? ⟨w.heap.size,0,none⟩=some (.slice A q c):=(h1.cell (p:=⟨w.heap.size,0,none⟩) h9).trans q0;have p1:w3.cell? ⟨w.heap.size,1,none⟩=some (.slice B m d):=(h1.cell (p:=⟨w.heap.size,1,none⟩) h9).trans q1;have hi:Blk w3 (w.heap.size+1) 43 #[.string ⟨#[]⟩,.int .i64 0]:=(h1.block (w.heap.size+1) ha).trans he.out;have hl:=aa (hk.out.drew.trans (h1.mono (MB h9)));have h2:=aa hi;dsimp only;refine hK.out _ _ ⟨p0,p1⟩ (fun hHeld2=> ?_);clear hK K h1 HM hHeld hi;(try simp only[Nd,Na,M6,Act.put,MO,Nq,Nh]);refine OB (i:=2) (v:=.bool true) rfl (by kernel_rfl) (by kernel_rfl) (by kernel_rfl) (fun _ _ _ h=>h) (Or.inl ⟨by rfl,fun w _=>by go_simp⟩) (by assumption) ?_;(try simp only[Nd,Na,M6,Act.put,MO,Nq,Nh]);refine OB (i:=3) (v:=.bool true) rfl (by kernel_rfl) (by kernel_rfl) (by kernel_rfl) (fun _ _ _ h=>h) (Or.inl ⟨by rfl,fun w _=>by go_simp⟩) (by assumption) ?_;(try simp only[Nd,Na,M6,Act.put,MO,Nq,Nh]);refine OB (i:=4) (v:=undef) rfl (by kernel_rfl) (by kernel_rfl) (by kernel_rfl) (fun _ _ _ h=>h) (Or.inr ⟨by rfl,rfl⟩) (by assumption) ?_;(try simp only[Nd,Na,M6,Act.put,MO,Nq,Nh]);refine OB (i:=5) (v:=undef) rfl (by kernel_rfl) (by kernel_rfl) (by kernel_rfl) (fun _ _ _ h=>h) (Or.inr ⟨by rfl,rfl⟩) (by assumption) ?_;(try simp only[Nd,Na,M6,Act.put,MO,Nq,Nh]);refine OB (i:=6) (v:=undef) rfl (by kernel_rfl) (by kernel_rfl) (by kernel_rfl) (fun _ _ _ h=>h) (Or.inr ⟨by rfl,rfl⟩) (by assumption) ?_;(try simp only[Nd,Na,M6,Act.put,MO,Nq,Nh]);refine OB (i:=7) (v:=undef) rfl (by kernel_rfl) (by kernel_rfl) (by kernel_rfl) (fun _ _ _ h=>h) (Or.inr ⟨by rfl,rfl⟩) (by assumption) ?_;(try simp only[Nd,Na,M6,Act.put,MO,Nq,Nh]);refine OB (i:=8) (v:=undef) rfl (by kernel_rfl) (by kernel_rfl) (by kernel_rfl) (fun _ _ _ h=>h) (Or.inr ⟨by rfl,rfl⟩) (by assumption) ?_;(try simp only[Nd,Na,M6,Act.put,MO,Nq,Nh]);refine OB (i:=9) (v:=undef) rfl (by kernel_rfl) (by kernel_rfl) (by kernel_rfl) (fun _ _ _ h=>h) (Or.inr ⟨by rfl,rfl⟩) (by assumption) ?_;(try simp only[Nd,Na,M6,Act.put,MO,Nq,Nh]);refine OB (i:=10) (v:=undef) rfl (by kernel_rfl) (by kernel_rfl) (by kernel_rfl) (fun _ _ _ h=>h) (Or.inr ⟨by rfl,rfl⟩) (by assumption) ?_;(try simp only[Nd,Na,M6,Act.put,MO,Nq,Nh]);refine OB (i:=11) (v:=.bool true) rfl (by kernel_rfl) (by kernel_rfl) (by kernel_rfl) (fun _ _ _ h=>h) (Or.inl ⟨by rfl,fun w _=>by go_simp⟩) (by assumption) ?_;(try simp only[Nd,Na,M6,Act.put,MO,Nq,Nh]);refine wpAnyH_done (by kernel_rfl) ?_ _;have g0:=(ac h2.out 0).trans (rfl:_=some (Value.string ⟨#[]⟩));have g1:=(ac h2.out 1).trans (rfl:_=some (Value.int .i64 0));have f0:=ae h2.out 0;have f1:=ae h2.out 1;go_wp2_with fail;refine Mm (v:=.tuple #[.agg #[.string ⟨#[]⟩,.int .i64 0],.int .i64 110]) ?_ rfl ⟨rfl,(hl.out.setCell (p:=⟨w.heap.size+1,0,none⟩) (NR _) _).setCell (p:=⟨w.heap.size+1,1,none⟩) (NR _) _⟩;simp[results,Tryz.results52,go_sem,g0,g1]
theorem Hv(w:World)(A:Option Addr)(n c:Nat)(L:List Int)(k:Nat)(hL:ZIn w A n L)(he:n≤c)(hn:n≤2000000)(hk:50*k<n):
 Calls Tryz.prog 107 #[.slice A n c,.int .i64 k] w fun e w'=>∃c2,e=.returned (.slice (A.map fun x=>x.add (50*k)) (bL L k).length c2)∧(bL L k).length≤c2∧w'=w:=by
 have h0:=hL.1;obtain⟨m,hm⟩:∃m,m=(bL L k).length:=⟨_,rfl⟩;have h5:m=min 50 (n - 50*k):=by rw[hm,fZ,h0]
 obtain⟨b,off,rfl,_⟩:=hL.2 (by omega);obtain⟨lo,h1⟩:∃lo,lo=50*k:=⟨_,rfl⟩;have hf:(k:Int)*50=(lo:Int):=by omega
 rw[← hm,←h1,Nn,NX];obtain⟨hi,h3⟩:∃hi,hi=lo+50:=⟨_,rfl⟩;have hg:(lo:Int)+50=(hi:Int):=by omega
 have h8:lo≤3000000:=by omega
 have h6:hi≤3000000:=by omega
 by_cases e:n<hi;·have d4:((n:Int)<(hi:Int)):=(by omega);have ha:(n:Int) - (lo:Int)=(m:Int):=(by omega);have hb:n - lo=m:=(by omega);have h2:(0:Int)≤(lo:Int):=(by omega);have h9:(lo:Int)≤(n:Int):=(by omega);have hc:(n:Int)≤(c:Int):=(by omega);clear hL hm h5 h1 h0 h3;go_enter Tryz.func107,Tryz.ntmps107;go_wp2_with fail;go_ret;exact⟨_,rfl,by omega,rfl⟩
 ·have d4:¬((n:Int)<(hi:Int)):=(by omega);have ha:(hi:Int) - (lo:Int)=(m:Int):=(by omega);have hb:hi - lo=m:=(by omega);have h2:(0:Int)≤(lo:Int):=(by omega);have h4:(lo:Int)≤(hi:Int):=(by omega);have h7:(hi:Int)≤(c:Int):=(by omega);clear hL hm h5 h1 h0 h3;go_enter Tryz.func107,Tryz.ntmps107;go_wp2_with fail;go_ret;exact⟨_,rfl,by omega,rfl⟩
theorem I2{w:World}{A:Option Addr}{n k:Nat}{L:List Int}(h:ZIn w A n L)(hk:50*k<n):ZIn w (A.map fun x=>x.add (50*k)) (bL L k).length (bL L k):=by
 have hl:=fZ L k;rw[h.1]at hl;have hc:=ZIn.cut (k:=(bL L k).length) (a:=50*k) h (by omega);have e:(L.drop (50*k)).take (bL L k).length=bL L k:=by
  have h2:(bL L k).length=min 50 (L.drop (50*k)).length:=by unfold bL;rw[Mj]
  rw[h2];unfold bL;by_cases e:50≤(L.drop (50*k)).length;·rw[MN e]
  ·rw[N9 (by omega),Mh (ag _),Mh (by omega)]
 rw[e]at hc;exact hc
def ju(T:List (List Int))(P L:List Int)(k:Nat):List Nat:=lW (nl (T.getD (P.getD k 0).toNat [])) (bL L k)
theorem xh(P:List Int)(k:Nat):(nl P).getD k 0=(P.getD k 0).toNat:=by unfold nl;rw[LU,LU,Me];cases P[k]? <;>rfl
theorem Fj(T:List (List Int))(k:Nat):(T.map nl).getD k []=nl (T.getD k []):=by rw[LU,LU,Me];cases T[k]? <;>rfl
theorem oq(T:List (List Int))(P L:List Int)(k:Nat):∀m,m≤50→50*k+m≤L.length→
 dB (T.map nl) (nl P) (nl L) (50*k+m)=dB (T.map nl) (nl P) (nl L) (50*k)++lW (nl (T.getD (P.getD k 0).toNat [])) ((L.drop (50*k)).take m)
 | 0,_,_=>by simp[lW]
 | m+1,hm,hl=>by rw[← Nu,l8,oq T P L k m (by omega) (by omega),show(50*k+m) / 50=k by omega,xh,Fj,xh];have e:(L.drop (50*k)).take (m+1)=(L.drop (50*k)).take m++ [L.getD (50*k+m) 0]:=(by rw[Mn (by rw[Mc];omega),PY,LU,LV (by omega)];rfl);rw[e];unfold lW;rw[M9,LZ];simp
theorem nd(T:List (List Int))(P L:List Int):∀k,dB (T.map nl) (nl P) (nl L) (min (50*k) L.length)=((List.range k).map (ju T P L)).flatten
 | 0=>by simp[dB]
 | k+1=>by
  rw[MQ,Mw,PA,←nd T P L k];simp only[M8,Pa,Pk,Qd,Mv];by_cases h:50*k≤L.length
  ·obtain⟨m,hm⟩:∃m,m=min 50 (L.length - 50*k):=⟨_,rfl⟩;rw[MN h,show min (50*(k+1)) L.length=50*k+m by omega,oq T P L k m (by omega) (by omega)];congr 2;unfold bL;by_cases e:m=50;·rw[e]
   ·rw[Mh (by rw[Mc];omega),Mh (by rw[Mc];omega)]
  ·have e:ju T P L k= []:=(by unfold ju bL lW;rw[Nt (by omega)];rfl);rw[e,Mv,N9 (by omega),N9 (by omega)]
theorem FZ(l:List Nat)(list:List Int):au (lW l list):=by unfold lW;intro b hb;obtain⟨x,_,hx⟩:=List.mem_flatMap.1 hb;exact aD _ _ b hx
theorem CI{t:List Int}(ht:bU t)(list:List Int):(lW (nl t) list).length≤20*list.length:=by
 induction list with
 | nil=>simp[lW]
 | cons x list ih=>
  have e:lW (nl t) (x :: list)=eO (nl t) x.toNat++lW (nl t) list:=rfl;have hc:(eO (nl t) x.toNat).length≤20:=by
   unfold eO;rw[af,xh];by_cases hx:x.toNat<t.length
   ·have:=(ht.2.2.1 (t.getD x.toNat 0) (by
     rw[LU,LV hx]
     exact Mu _)).2
    omega
   ·rw[LU,Mf (by omega)];exact LY _
  rw[e,LR,Mb];omega
theorem td(T:List (List Int))(P L:List Int)(hT:∀k,bU (T.getD (P.getD k 0).toNat [])∨bL L k= []):∀k,((List.range k).map (ju T P L)).flatten.length≤1000*k
 | 0=>by simp
 | k+1=>by
  rw[MQ,Mw,PA,LR];have ih:=td T P L hT k;have:(ju T P L k).length≤1000:=by
   unfold ju;rcases hT k with h | h;·have h2:=CI h (bL L k);have h3:=fZ L k;omega
   ·rw[h];simp[lW]
  simp only[M8,Pa,Pk,Qd,Mv];omega
theorem IQ{L:List Int}{x:Int}(hx:x∈L):∃k,k<aQ L.length∧x∈bL L k:=by obtain⟨i,hi,rfl⟩:=NU hx;refine⟨i / 50,by unfold aQ;omega,?_⟩;unfold bL;refine List.mem_take_iff_getElem.2 ⟨i % 50,by rw[Mc];omega,?_⟩;rw[PY];congr 1;omega
theorem I3{L:List Int}{k:Nat}{x:Int}(hx:x∈bL L k):x∈L:=NA (NO hx)
theorem Hy(w:World)(v:Value)(T:List (List Int))(P:List Int)(h:bc w v T P)(A':Option Addr)(n' c':Nat)(L:List Int)(hL:ZIn w A' n' L)(pf:n'≤c')(pb:n'≤2000000)(hF:GU T P L):
 Calls Tryz.prog 52 #[v,.slice A' n' c'] w (aS w (bI T P L)):=by
 have hP:=hF.1;obtain⟨A,q,c,B,m,d,rfl,hT,q2,hq,H7,q1,p7⟩:=id h;have HW:=hT.1;have HV:=H7.1;have hV:=hL.1;have pg:2≤q∧q≤6:=by have h1:=hP.1;have h2:=hP.2.1;omega
 have q0:1≤m∧m≤32767:=by have h1:=hP.2.2.1;have h2:=hP.2.2.2.1;omega
 obtain⟨z,hz⟩:∃z,z=aQ n':=⟨_,rfl⟩;have q4:z≤m:=by have:=hF.2;rw[hV,HV,←hz]at this;exact this
 have q5:n'≤50*z∧50*z<n'+50:=by rw[hz];unfold aQ;omega
 obtain⟨tb,tq,rfl,HY⟩:=hT.2 (by omega);obtain⟨b,off,rfl,ht⟩:=H7.2 (by omega);have HR:∀i,i<m→0≤P.getD i 0∧(P.getD i 0).toNat<q:=fun i hi=>by
  have:=hP.2.2.2.2.2.1 (P.getD i 0) (by
   rw[LU,LV (by omega)]
   exact Mu _)
  rw[HW]at this;omega
 have ho:∀i,i<q→(T.getD i []).length=(T.getD 0 []).length∧bU (T.getD i []):=fun i hi=>hP.2.2.2.2.1 _ (m7 T i (by omega));obtain⟨m0,HD⟩:∃m0,m0=(T.getD 0 []).length:=⟨_,rfl⟩;rw[← HD]at ho;have hA:bI T P L=if ∀x∈L,0≤x∧x<(m0:Int)then(((List.range z).map (ju T P L)).flatten,0)else([],60):=by unfold bI;rw[LX hF,←nd T P L z,N9 (by omega),HD]
 rw[hA];have HA:Below w.heap.size w (w.alloc (.cells #[.slice (some ⟨tb,tq,none⟩) q c,.slice (some ⟨b,off,none⟩) m d] 90)):=(L6 _ _).alloc (ag _) _;have HC:=ah w 90 #[.slice (some ⟨tb,tq,none⟩) q c,.slice (some ⟨b,off,none⟩) m d];obtain⟨w1,hY⟩:∃w1,w1=w.alloc (.cells #[.slice (some ⟨tb,tq,none⟩) q c,.slice (some ⟨b,off,none⟩) m d] 90):=⟨_,rfl⟩;have p2:w1.heap.size=w.heap.size+1:=by rw[hY];simp
 rw[← hY]at HA HC;have HB:Below w1.heap.size w1 (w1.alloc (.cells #[.string ⟨#[]⟩,.int .i64 0] 43)):=(L6 _ _).alloc (ag _) _;have HU:=aP HB HC;have HG:=ah w1 43 #[.string ⟨#[]⟩,.int .i64 0];rw[p2]at HG;have hp:=aq HA HB;have HP:=aa hY.symm;have HN:Hid (∀ w2,w2=w1.alloc (.cells #[.string ⟨#[]⟩,.int .i64 0] 43)→Calls Tryz.prog 102 #[.agg #[.slice (some ⟨tb,tq,none⟩) q c,.slice (some ⟨b,off,none⟩) m d]] w2.drew fun e w'=>e=.returned (.bool true)∧Below w2.heap.size w2.drew w'):=aa fun w2 e2=>by have h3:=dp w2.drew _ T P (h.below (by rw[e2];exact hp.drew));rw[L8 hP]at h3;exact h3
 have hM:=aa fun(wx:World)=>jN wx n' (by omega);rw[← hz]at hM;unfold maxLen at p7;have d0:decide ((m:Int)<(z:Int))=false:=aN (by omega);have dn:¬m<z:=by omega
 have HO:=aa HY;have H1:=aa ht;have H3:=aa HR;have hn:=aa ho;have HL:=aa hL;have p4:=aa hV;have po:=aa hz;have hN:=aa HU;have H4:=aa HG;have HK:=aa hp;have hl:Hid (∀ i,i<z→(¬ ∀x∈bL L i,0≤x∧x<(m0:Int))→∀w',Below w.heap.size w w'→aS w (if ∀x∈L,0≤x∧x<(m0:Int)then(((List.range z).map (ju T P L)).flatten,0)else([],60)) (.returned (.tuple #[.agg #[.string ⟨#[]⟩,.int .i64 0],.int .i64 60])) w'):=aa fun i _ hno w' hb=>by rw[LW fun h0=>hno fun x hx=>h0 x (I3 hx)];exact⟨rfl,hb⟩
 have ha:Hid ((∀ j,j<z→∀x∈bL L j,0≤x∧x<(m0:Int))→∀w' X,X=((List.range z).map (ju T P L)).flatten→Below w.heap.size w w'→aS w (if ∀x∈L,0≤x∧x<(m0:Int)then(((List.range z).map (ju T P L)).flatten,0)else([],60)) (.returned (.tuple #[.agg #[.string ⟨(pack X).toArray⟩,.int .i64 X.length],.int .i64 0])) w'):=aa fun h0 w' X hX hb=>by (have:∀x∈L,0≤x∧x<(m0:Int):=fun x hx=>by obtain⟨k,hk,pj⟩:=IQ hx;exact h0 k (by rw[hz,←hV];exact hk) x pj);rw[LX this,hX];exact⟨rfl,hb⟩
 generalize aS w (if ∀x∈L,0≤x∧x<(m0:Int)then(((List.range z).map (ju T P L)).flatten,0)else([],60))=PO at*;clear h hF HA HC HB HU HG hp p2 hY hP hz hL HV H7 hT HY ht HR ho hA hV HD HW;go_enter Tryz.func52,Tryz.ntmps52;go_upto_region 1 with fail;rw[HP.out];have HM:=aa (HN.out _ rfl);generalize w1.alloc (.cells #[.string ⟨#[]⟩,.int .i64 0] 43)=w2 at*;clear HP HN;have p0:w2.cell? ⟨w.heap.size,0,none⟩=some (.slice (some ⟨tb,tq,none⟩) q c):=(ac hN.out 0).trans rfl;have p1:w2.cell? ⟨w.heap.size,1,none⟩=some (.slice (some ⟨b,off,none⟩) m d):=(ac hN.out 1).trans rfl;have hW:w.heap.size<w2.heap.size:=aB hN.out;have hH:w.heap.size+1<w2.heap.size:=aB H4.out
 go_region_held3 (fun w'=>w'.cell? ⟨w.heap.size,0,none⟩=some (.slice (some ⟨tb,tq,none⟩) q c)∧w'.cell? ⟨w.heap.size,1,none⟩=some (.slice (some ⟨b,off,none⟩) m d))
  (first | exact⟨p0,p1⟩ | exact⟨s0,s1⟩ | go_keep)
  (first
    | (go_at_call 102;refine HM.out.mono ?_;rintro e w3 ⟨rfl,hB⟩
       have s0:w3.cell? ⟨w.heap.size,0,none⟩=some (.slice (some ⟨tb,tq,none⟩) q c):=(hB.cell (p:=⟨w.heap.size,0,none⟩) hW).trans p0
       have s1:w3.cell? ⟨w.heap.size,1,none⟩=some (.slice (some ⟨b,off,none⟩) m d):=(hB.cell (p:=⟨w.heap.size,1,none⟩) hW).trans p1)
    | (go_at_call 105;refine(hM.out _).mono ?_;rintro e w4 ⟨rfl,rfl⟩))
 have H5:Hid (Blk w3 (w.heap.size+1) 43 #[.string ⟨#[]⟩,.int .i64 0]):=aa ((hB.block (w.heap.size+1) hH).trans H4.out);have hK:=aa (HK.out.drew.trans (hB.mono (MB hW)));clear hB hN H4 HK HM p0 p1 hW hH;go_wp2_with fail;refine(hM.out _).mono ?_;rintro e w3 ⟨rfl,rfl⟩;clear hM;have he:=hK.out.size;have hh:=aB H5.out;go_wp2_with fail;go_loopw [6,7,8,9,26] (fun pv s7 s8 s9 iv' wx=>∃(i:Nat) (A9:Option Addr) (c9:Nat),i≤z∧iv'=.int .i64 i∧pv=.slice A9 i c9∧Pcs wx w3.heap.size (.slice A9 i c9) ((List.range i).map (ju T P L))∧Below w3.heap.size w3 wx∧Hid (∀ j,j<i→∀x∈bL L j,0≤x∧x<(m0:Int))) (fun _ _ _ _ iv' _=>z - (intOf iv').toNat)
 case atStart=>exact⟨0,none,0,LY _,rfl,rfl,I6 _ _,L6 _ _,fun j hj=>absurd hj (NY _)⟩
 case round=>
  rename World=>wx;obtain⟨i,A9,c9,hi,rfl,rfl,ht,hg,hS⟩:=hrel;by_cases e:i<z
  ·have pr:(0:Int)≤(i:Int):=(by omega);have ps:(i:Int)<(m:Int):=(by omega);have H6:50*i<n':=(by omega);obtain⟨pk,HI⟩:=H3.out i (by omega);obtain⟨y,hy⟩:∃y,y=(P.getD i 0).toNat:=⟨_,rfl⟩;have HZ:P.getD i 0=(y:Int):=(by omega);rw[← hy]at HI;obtain⟨A2,c2,h1,h2,_,h4⟩:=HO.out y HI;obtain⟨htl,HX⟩:=hn.out y HI;have hD:∀W,Below wx.heap.size wx W→Below w.heap.size w W:=fun W hb=>(hK.out.trans (hg.mono he)).trans (hb.mono (Mk he hg.size));have hs:=hD wx (L6 _ _);have c0:wx.cell? ⟨w.heap.size,0,none⟩=some (.slice (some ⟨tb,tq,none⟩) q c):=(hg.cell (p:=⟨w.heap.size,0,none⟩) (Md w3 _ s0)).trans s0;have c1:wx.cell? ⟨w.heap.size,1,none⟩=some (.slice (some ⟨b,off,none⟩) m d):=(hg.cell (p:=⟨w.heap.size,1,none⟩) (Md w3 _ s1)).trans s1;have c2':wx.cell? ⟨b,off+i,none⟩=some (.int .i64 (y:Int)):=(by rw[← HZ];exact(hs.cell (p:=⟨b,off+i,none⟩) (Md w _ (H1.out i (by omega)))).trans (H1.out i (by omega)));have c3:wx.cell? ⟨tb,tq+y,none⟩=some (.slice A2 m0 c2):=(by rw[← htl];exact(hs.cell (p:=⟨tb,tq+y,none⟩) (Md w _ h1)).trans h1);have h5:=aa fun(W:World) (hb:Below wx.heap.size wx W)=>Hv W A' n' c' L i (HL.out.below (hD W hb)) pf pb H6;have h6:=aa fun(W:World) (hb:Below wx.heap.size wx W) (cc:Nat) (hR:(bL L i).length≤cc)=>kG W A2 (A'.map fun x=>x.add (50*i)) m0 c2 (bL L i).length cc (T.getD y []) (bL L i) (by rw[← htl];exact h2.below (hD W hb)) (by rw[← htl];exact h4) (I2 (HL.out.below (hD W hb)) H6) hR (by rw[fZ];omega);(have hI:my (T.getD y []) (bL L i)=if ∀x∈bL L i,0≤x∧x<(m0:Int)then(ju T P L i,0)else([],60):=by unfold my ju;rw[LX HX,htl,hy]);rw[hI]at h6;(obtain⟨⟨X,zz⟩,H8⟩:∃r:List Nat×Nat,r=if ∀x∈bL L i,0≤x∧x<(m0:Int)then(ju T P L i,0)else([],60):=⟨_,rfl⟩);rw[← H8]at h6;have hO:=aa H8;have hm:=aa ht;have hf:=aa hg;have hw:=aa hS;have q3:(0:Int)≤(y:Int):=(by omega);have pm:(y:Int)<(q:Int):=(by omega);have bd:Below wx.heap.size wx wx.drew:=(L6 _ _).drew;have ba:Below wx.heap.size wx (wx.alloc (.cells #[.string ⟨#[]⟩,.int .i64 0] 43)).drew:=((L6 _ _).alloc (ag _) _).drew;have ka:Blk (wx.alloc (.cells #[.string ⟨#[]⟩,.int .i64 0] 43)).drew wx.heap.size 43 #[.string ⟨#[]⟩,.int .i64 0]:=ah wx _ _;have l0:=Md wx _ c0;have l2:=Md wx _ c2';have l3:=Md wx _ c3;generalize (bL L i).length=pl at*;generalize (A'.map fun x=>x.add (50*i))=AP at*;clear ht hg hS hI H8 h1 h2 h4 htl HX hD hs hy HZ pk s0 s1 H6;go_upto_region 7 with fail;(go_cut [8,9]from 29 to 44 (fun s8 s9 wy=>∃b8,s8=.pointer (some ⟨b8,0,none⟩)∧s9=.int .i64 (zz:Nat)∧Blk wy b8 43 #[.string ⟨(pack X).toArray⟩,.int .i64 (X.length:Nat)]∧wx.heap.size≤b8∧Below wx.heap.size wx wy));case first=>
    go_region_held3 (fun w'=>w'.cell? ⟨w.heap.size,0,none⟩=some (.slice (some ⟨tb,tq,none⟩) q c)∧w'.cell? ⟨w.heap.size,1,none⟩=some (.slice (some ⟨b,off,none⟩) m d)∧w'.cell? ⟨b,off+i,none⟩=some (.int .i64 (y:Int))∧w'.cell? ⟨tb,tq+y,none⟩=some (.slice A2 m0 c2))
     (first | exact⟨c0,c1,c2',c3⟩ | exact⟨t0,t1,t2,t3⟩ | exact⟨u0,u1,u2,u3⟩ | go_keep)
     (first
       | (go_at_call 107;(first | with_reducible refine(h5.out _ bd).mono ?_ | with_reducible refine(h5.out _ ba).mono ?_);rintro e w7 ⟨cc,rfl,hR,rfl⟩)
       | (go_at_call 106;(with_reducible refine(h6.out _ bd cc hR).mono ?_);rintro e w9 ⟨rfl,h8⟩
          have t0:w9.cell? ⟨w.heap.size,0,none⟩=some (.slice (some ⟨tb,tq,none⟩) q c):=(h8.cell (p:=⟨w.heap.size,0,none⟩) l0).trans c0
          have t1:w9.cell? ⟨w.heap.size,1,none⟩=some (.slice (some ⟨b,off,none⟩) m d):=(h8.cell (p:=⟨w.heap.size,1,none⟩) l0).trans c1
          have t2:w9.cell? ⟨b,off+i,none⟩=some (.int .i64 (y:Int)):=(h8.cell (p:=⟨b,off+i,none⟩) l2).trans c2'
          have t3:w9.cell? ⟨tb,tq+y,none⟩=some (.slice A2 m0 c2):=(h8.cell (p:=⟨tb,tq+y,none⟩) l3).trans c3
          have h9:Below wx.heap.size wx w9:=bd.trans h8)
       | (go_at_call 106;(with_reducible refine(h6.out _ ba cc hR).mono ?_);rintro e w9 ⟨rfl,h8⟩
          have h9:Below wx.heap.size wx w9:=aq ba h8
          have t0:w9.cell? ⟨w.heap.size,0,none⟩=some (.slice (some ⟨tb,tq,none⟩) q c):=(h9.cell (p:=⟨w.heap.size,0,none⟩) l0).trans c0
          have t1:w9.cell? ⟨w.heap.size,1,none⟩=some (.slice (some ⟨b,off,none⟩) m d):=(h9.cell (p:=⟨w.heap.size,1,none⟩) l0).trans c1
          have t2:w9.cell? ⟨b,off+i,none⟩=some (.int .i64 (y:Int)):=(h9.cell (p:=⟨b,off+i,none⟩) l2).trans c2'
          have t3:w9.cell? ⟨tb,tq+y,none⟩=some (.slice A2 m0 c2):=(h9.cell (p:=⟨tb,tq+y,none⟩) l3).trans c3
          have k9:Blk w9 wx.heap.size 43 #[.string ⟨#[]⟩,.int .i64 0]:=(h8.block wx.heap.size (aB ka)).trans ka
          have x0:=(ac k9 0).trans (rfl:_=some (Value.string ⟨#[]⟩))
          have x1:=(ac k9 1).trans (rfl:_=some (Value.int .i64 0))
          have y0:=ae k9 0
          have y1:=ae k9 1
          have hC:Below wx.heap.size wx ((w9.setCell ⟨wx.heap.size,0,none⟩ (.string ⟨(pack X).toArray⟩)).setCell ⟨wx.heap.size,1,none⟩ (.int .i64 (X.length:Nat))):=(h9.setCell (p:=⟨wx.heap.size,0,none⟩) (ag _) _).setCell (p:=⟨wx.heap.size,1,none⟩) (ag _) _
          have u0:=(hC.cell (p:=⟨w.heap.size,0,none⟩) l0).trans c0
          have u1:=(hC.cell (p:=⟨w.heap.size,1,none⟩) l0).trans c1
          have u2:=(hC.cell (p:=⟨b,off+i,none⟩) l2).trans c2'
          have u3:=(hC.cell (p:=⟨tb,tq+y,none⟩) l3).trans c3))
    (all_goals go_wp2_with fail);all_goals go_meet
    all_goals first
     | exact⟨_,rfl,rfl,ah w9 _ _,h9.size,h9.alloc h9.size _⟩
     | exact⟨_,rfl,rfl,az (az k9 0 _) 1 _,L5 _,hC⟩
   case rest=>
    obtain⟨b8,rfl,rfl,hG,HT,hQ⟩:=hcut;have h7:=aq hf.out hQ;have hu:w3.heap.size≤wc.heap.size:=h7.size;by_cases h0:∀x∈bL L i,0≤x∧x<(m0:Int)
    ·have hv:=hO.out;rw[LX h0]at hv;obtain⟨rfl,rfl⟩:X=ju T P L i∧zz=0:=by
      injection hv with e1 e2
      exact⟨e1,e2⟩
     have hZ:Hid (au (ju T P L i)):=aa (FZ _ _);have hE:∀j,j<i+1→∀x∈bL L j,0≤x∧x<(m0:Int):=fun j hj=>by
      by_cases ej:j=i;·rw[ej];exact h0
      ·exact hw.out j (by omega)
     have HF:(List.range (i+1)).map (ju T P L)=(List.range i).map (ju T P L)++ [ju T P L i]:=(by rw[MQ,Mw];rfl);obtain⟨X,hX⟩:∃X,X=ju T P L i:=⟨_,rfl⟩;rw[← hX]at hG hZ HF;obtain⟨v5,w5,HH,hc,HS⟩:=tT wc w3.heap.size (.slice A9 i c9) _ X (hm.out.below hQ) hu (by simp;omega) hZ.out;rw[← HF]at hc;obtain⟨A5,c5,rfl,_,_,_⟩:=ao hc.own;rw[Mi,Mt]at hc HH;have x0:=(ac hG 0).trans (rfl:_=some (Value.string ⟨(pack X).toArray⟩));have x1:=(ac hG 1).trans (rfl:_=some (Value.int .i64 X.length));have p5:=aa HH;have H2:=aa hc;have p3:=aa (h7.trans HS);have H0:=aa hE;clear hG HT hQ h7 hu h0 hv hE HF hX HH hc HS hZ hO hm hf hw h5 h6 c0 c1 c2' c3 bd ba ka l0 l2 l3;(go_wp2_with (at_builtin;refine Lib.wpList_append_run _ rfl (.tmp 49) (.tmp 51) 45 45 rfl (.slice A9 i c9) (.slice (some ⟨wc.heap.size,0,none⟩) 1 1) rfl rfl _ w5 p5.out ?_));go_roundw;case rel=>exact⟨i+1,A5,c5,by omega,by go_num,rfl,H2.out,p3.out,H0.out⟩
     case measure=>simp[intOf];omega
    ·have hv:=hO.out;rw[LW h0]at hv;obtain⟨rfl,rfl⟩:X= []∧zz=60:=by
      injection hv with e1 e2
      exact⟨e1,e2⟩
     have hr:=(h7.block (w.heap.size+1) hh).trans H5.out;have g0:=(ac (show Blk wc (w.heap.size+1) _ _ from hr) 0).trans (rfl:_=some (Value.string ⟨#[]⟩));have g1:=(ac (show Blk wc (w.heap.size+1) _ _ from hr) 1).trans (rfl:_=some (Value.int .i64 0));have f0:=ae (show Blk wc (w.heap.size+1) _ _ from hr) 0;have f1:=ae (show Blk wc (w.heap.size+1) _ _ from hr) 1;have HE:=aa (hl.out i e h0 _ (((hK.out.trans (h7.mono he)).setCell (p:=⟨w.heap.size+1,0,none⟩) (NR _) (.string ⟨#[]⟩)).setCell (p:=⟨w.heap.size+1,1,none⟩) (NR _) (.int .i64 0)));clear hG HT hQ h7 hu h0 hv hr hO hm hf hw h5 h6 c0 c1 c2' c3 bd ba ka l0 l2 l3 hl ha;go_wp2_with fail;refine Mm (v:=.tuple #[.agg #[.string ⟨#[]⟩,.int .i64 0],.int .i64 60]) ?_ rfl HE.out;simp[results,Tryz.results52,go_sem,g0,g1]
  ·obtain rfl:i=z:=by omega
   have p6:((List.range i).map (ju T P L)).flatten.length≤1000*i:=td T P L (fun k=>by
    by_cases hk:k<m
    ·exact .inl (hn.out _ (H3.out k hk).2).2
    ·right
     unfold bL
     rw[Nt (by have:=p4.out;omega)]
     rfl) i
   have HJ:=aa (oW wx w3.heap.size (.slice A9 i c9) _ ht (by simp;omega) (by omega));obtain⟨X,hX⟩:∃X,X=((List.range i).map (ju T P L)).flatten:=⟨_,rfl⟩;rw[← hX]at HJ;have HQ:=aa hX;have hf:=aa hg;have hw:=aa hS;clear ht hg hS p6 hX hl HO H1 H3 hn HL;go_wp2_with fail;refine HJ.out.mono ?_;rintro e w9 ⟨rfl,h8⟩;have hJ:=(an h8).blk ((hf.out.block (w.heap.size+1) hh).trans H5.out) ay ay;have g0:=(ac hJ 0).trans (rfl:_=some (Value.string ⟨#[]⟩));have g1:=(ac hJ 1).trans (rfl:_=some (Value.int .i64 0));have f0:=ae hJ 0;have f1:=ae hJ 1;have h9:=(hK.out.trans (hf.out.mono he)).trans (h8.mono (Mk he hf.out.size));have HE:=aa (ha.out hw.out _ X HQ.out ((h9.setCell (p:=⟨w.heap.size+1,0,none⟩) (NR _) (.string ⟨(pack X).toArray⟩)).setCell (p:=⟨w.heap.size+1,1,none⟩) (NR _) (.int .i64 X.length)));clear hJ h8 h9 HJ hf hw ha HQ;go_wp2_with fail;refine Mm (v:=.tuple #[.agg #[.string ⟨(pack X).toArray⟩,.int .i64 X.length],.int .i64 0]) ?_ rfl HE.out;simp[results,Tryz.results52,go_sem,g0,g1]
theorem yV(w:World)(v:Value)(T:List (List Int))(P:List Int)(h:bc w v T P)(A':Option Addr)(n' c':Nat)(L:List Int)(hL:ZIn w A' n' L)(h1:n'≤c')(h0:n'≤2000000):
 Calls Tryz.prog 52 #[v,.slice A' n' c'] w (aS w (bI T P L)):=by
 by_cases hP:cJ T P
 ·by_cases hM:GU T P L;·exact Hy w v T P h A' n' c' L hL h1 h0 hM
  ·exact Hx w v T P h A' n' c' L hL.1 h0 hP hM
 ·exact Hw w v T P h A' n' c' L hP
theorem Bz(w:World)(v:Value)(T:List (List Int))(P:List Int)(h:bc w v T P)(hM:¬cJ T P):
 Calls Tryz.prog 51 #[v] w (aS w (fe T P)):=by rw[show fe T P=([],110)from LW hM];obtain⟨A,q,c,B,m,d,rfl,_⟩:=id h;have h4:Below w.heap.size w (w.alloc (.cells #[.slice A q c,.slice B m d] 90)):=(L6 _ _).alloc (ag _) _;have h7:=ah w 90 #[.slice A q c,.slice B m d];obtain⟨w1,h2⟩:∃w1,w1=w.alloc (.cells #[.slice A q c,.slice B m d] 90):=⟨_,rfl⟩;have he:w1.heap.size=w.heap.size+1:=(by rw[h2];simp);rw[← h2]at h4 h7;have h5:Below w1.heap.size w1 (w1.alloc (.cells #[.string ⟨#[]⟩,.int .i64 0] 43)):=(L6 _ _).alloc (ag _) _;have hc:=aP h5 h7;have h8:=ah w1 43 #[.string ⟨#[]⟩,.int .i64 0];rw[he]at h8;have h0:=aq h4 h5;have HM:=aa (dp _ _ T P (h.below h0));rw[L7 hM]at HM;have h3:=aa hc;have ha:=aa h8;have h9:=aa h0;have hb:=aa h2.symm;clear h hM h4 h7 h5 hc h8 h0 he h2;go_enter Tryz.func51,Tryz.ntmps51;go_upto_region 1 with fail;rw[hb.out];generalize w1.alloc (.cells #[.string ⟨#[]⟩,.int .i64 0] 43)=w2 at*;clear hb;have p0:w2.cell? ⟨w.heap.size,0,none⟩=some (.slice A q c):=(ac h3.out 0).trans rfl;have p1:w2.cell? ⟨w.heap.size,1,none⟩=some (.slice B m d):=(ac h3.out 1).trans rfl;go_wp2_with fail;refine HM.out.mono ?_;rintro e w3 ⟨rfl,h6⟩;have h1:=aP h6 ha.out;have q0:=(ac h1 0).trans (rfl:_=some (Value.string ⟨#[]⟩));have q1:=(ac h1 1).trans (rfl:_=some (Value.int .i64 0));have f0:=ae h1 0;have f1:=ae h1 1;have hf:=aa (aq h9.out h6);clear h1 h6 ha h3 h9 HM p0 p1;go_wp2_with fail;refine Mm (v:=.tuple #[.agg #[.string ⟨#[]⟩,.int .i64 0],.int .i64 110]) ?_ rfl ⟨rfl,(hf.out.setCell (p:=⟨w.heap.size+1,0,none⟩) (NR _) _).setCell (p:=⟨w.heap.size+1,1,none⟩) (NR _) _⟩;simp[results,Tryz.results51,go_sem,q0,q1]
theorem BA(w:World)(v:Value)(T:List (List Int))(P:List Int)(h:bc w v T P)(hM:cJ T P):
 Calls Tryz.prog 51 #[v] w (aS w (fe T P)):=by
 obtain⟨A,q,c,B,m,d,rfl,hT,r2,hq,hP,r1,hm⟩:=id h;have hL:=hT.1;have ps:=hP.1;have h5:2≤q∧q≤6:=by have h1:=hM.1;have h2:=hM.2.1;omega
 have hr:1≤m∧m≤32767:=by have h1:=hM.2.2.1;have h2:=hM.2.2.2.1;omega
 have H2:∀x∈P,0≤x∧x<(q:Int):=fun x hx=>by rw[← hL];exact hM.2.2.2.2.2.1 x hx
 have H3:∀t∈T,bU t:=fun t ht=>(hM.2.2.2.2.1 t ht).2;obtain⟨H,hH⟩:∃H,H=aj q 3++aj m 15++aH (List.range q) (nl P):=⟨_,rfl⟩;have HC:(nl P).length=m:=by unfold nl;rw[Mi,ps]
 have hA:∀x∈nl P,x<q:=by intro x hx;unfold nl at hx;obtain⟨y,hy,rfl⟩:=List.mem_map.1 hx;have:=H2 y hy;omega
 have ho:fe T P=(H++(T.map nl).flatMap aZ,0):=by unfold fe iq;rw[LX hM,Mi,hL,HC,t8 h5.2 (nl P) hA,hH]
 rw[ho];have p7:au H:=by rw[hH];exact((aD 3 q).append (aD 15 m)).append (lj _ _)
 have pb:H.length≤200000:=by rw[hH,LR,LR,af,af];have:=lP (nl P) (List.range q) q (by simp) (fun x hx=>List.mem_range.2 (hA x hx));rw[HC]at this;have h2:q*m≤6*32767:=Nat.mul_le_mul h5.2 hr.2;omega
 have pg:((T.map nl).flatMap aZ).length≤11000*T.length:=mD T fun t ht=>kO (H3 t ht);have H8:aU w B m (nl P):=fM hP fun x hx=>(H2 x hx).1;have pf:∀a,B=some a→a.block<w.heap.size:=fun a ha=>by obtain⟨b,off,he,hc⟩:=H8.2 hr.1;rw[he]at ha;cases ha;exact Md w _ (hc 0 hr.1)
 have H4:Below w.heap.size w (w.alloc (.cells #[.slice A q c,.slice B m d] 90)):=(L6 _ _).alloc (ag _) _;have HA:=ah w 90 #[.slice A q c,.slice B m d];obtain⟨w1,hO⟩:∃w1,w1=w.alloc (.cells #[.slice A q c,.slice B m d] 90):=⟨_,rfl⟩;have q8:w1.heap.size=w.heap.size+1:=by rw[hO];simp
 rw[← hO]at H4 HA;have H5:Below w1.heap.size w1 (w1.alloc (.cells #[.string ⟨#[]⟩,.int .i64 0] 43)):=(L6 _ _).alloc (ag _) _;have po:=aP H5 HA;have HD:=ah w1 43 #[.string ⟨#[]⟩,.int .i64 0];rw[q8]at HD;have h9:=aq H4 H5;have HM:=aa (dp _ _ T P (h.below h9));rw[L8 hM]at HM;have HT:=aa fun(w1:World) (hb:Below w.heap.size w w1)=>hT.below hb;have HO:=aa fun(w1:World) (hb:Below w.heap.size w w1)=>dG H8 hb;have HS:=aa pf;have HU:=aa hA;have qa:=aa p7;have qb:=aa pb;have HN:=aa hH;have qo:=aa pg;have qm:=aa H3;have hz:=aa hL;have hw:=aa po;have HX:=aa HD;have HI:=aa h9;have p4:=aa hO.symm;have HV:Hid (∀ w' X,X=H++(T.map nl).flatMap aZ→Below w.heap.size w w'→aS w (H++(T.map nl).flatMap aZ,0) (.returned (.tuple #[.agg #[.string ⟨(pack X).toArray⟩,.int .i64 X.length],.int .i64 0])) w'):=aa fun w' X hX hb=>by rw[hX];exact⟨rfl,hb⟩
 generalize aS w (H++(T.map nl).flatMap aZ,0)=PO at*;clear h hM H4 HA H5 po HD h9 q8 hO hT hP ps H2 H3 hH HC hA ho p7 pb pg H8 pf hL;go_enter Tryz.func51,Tryz.ntmps51;go_upto_region 1 with fail;rw[p4.out];generalize w1.alloc (.cells #[.string ⟨#[]⟩,.int .i64 0] 43)=w2 at*;clear p4;have p0:w2.cell? ⟨w.heap.size,0,none⟩=some (.slice A q c):=(ac hw.out 0).trans rfl;have p1:w2.cell? ⟨w.heap.size,1,none⟩=some (.slice B m d):=(ac hw.out 1).trans rfl;go_wp2_with fail;refine HM.out.mono ?_;rintro e w3 ⟨rfl,hD⟩;have hV:=aa (aP hD hw.out);have hY:=aa (aP hD HX.out);have hv:=aa (aq HI.out hD);clear hD HX hw HI HM p0 p1;go_wp2_with fail;refine(Cu w3).mono ?_;rintro e w4 ⟨rfl,HG⟩;have pj:IsW w3.heap.size w4 w3.heap.size (.slice none 0 0) []:=by rw[HG];exact ly w3 w3.heap.size (ag _)
 have hE:Below w3.heap.size w3 w4:=b9 HG;have hJ:=aP hE hV.out;have q3:=aP hE hY.out;have hg:=aq hv.out hE;have p0:w4.cell? ⟨w.heap.size,0,none⟩=some (.slice A q c):=(ac hJ 0).trans rfl;have p1:w4.cell? ⟨w.heap.size,1,none⟩=some (.slice B m d):=(ac hJ 1).trans rfl;have H1:=uI w3.heap.size w4 w3.heap.size _ [] pj (by simp) A q c B m d (nl P) (HO.out w4 hg) (fun a ha=>Np (HS.out a ha) hv.out.size) h5.1 h5.2 hr.1 hr.2 HU.out;rw[Mz,←HN.out]at H1;have HW:=aa H1;have HP:=aa hJ;have HY:=aa q3;have HK:=aa hg;have HB:w.heap.size<w3.heap.size:=aB hV.out;have hp:w.heap.size+1<w3.heap.size:=aB hY.out;have HE:w.heap.size≤w3.heap.size:=hv.out.size;clear HG pj hE hJ q3 hg H1 hV hY hv HS HU HN;generalize w3.heap.size=p at*;go_wp2_with fail;refine HW.out.mono ?_;rintro e w5 ⟨rfl,⟨v5,hC⟩,hB⟩;have pr:=(hB.below.block w.heap.size HB).trans HP.out;have q4:=(hB.below.block (w.heap.size+1) hp).trans HY.out;have hh:=HK.out.trans (hB.below.mono HE);have p0:w5.cell? ⟨w.heap.size,0,none⟩=some (.slice A q c):=(ac (show Blk w5 w.heap.size _ _ from pr) 0).trans rfl;have p3:=aa (gU p w5 p v5 H hC);have HQ:=aa (jG w5 p (H.length:Nat) (by have:=ac hC.blk 0;simpa using this) (by have:=ac hC.blk 2;simpa using this));have hZ:Hid (Blk w5 (w.heap.size+1) 43 #[.string ⟨#[]⟩,.int .i64 0]):=aa q4;have hQ:=aa hh;have HZ:=aa (HT.out w5 hh);clear hC hB pr q4 hh HW HP HY HK HT HO p1;go_wp2_with fail;refine p3.out.mono ?_;rintro e w5 ⟨rfl,rfl⟩;go_wp2_with fail;refine HQ.out.mono ?_;rintro e w5 ⟨rfl,rfl⟩;clear p3 HQ;have hl:=aa (DJ w5 w5.heap.size (ag _) H qa.out);have hR:Hid (Below w5.heap.size w5 (w5.alloc (.cells #[.string ⟨(pack H).toArray⟩,.int .i64 H.length] 43))):=aa ((L6 _ _).alloc (ag _) _);have p0':(w5.alloc (.cells #[.string ⟨(pack H).toArray⟩,.int .i64 H.length] 43)).cell? ⟨w.heap.size,0,none⟩=some (.slice A q c):=(hR.out.cell (p:=⟨w.heap.size,0,none⟩) (Md w5 _ p0)).trans p0;obtain⟨tb,tq,rfl,q5⟩:=HZ.out.2 (by omega);have p2:=aa q5;have qq:w.heap.size+1<w5.heap.size:=aB hZ.out;clear q5 HZ;go_upto_region 6 with fail;generalize w5.alloc (.cells #[.string ⟨(pack H).toArray⟩,.int .i64 H.length] 43)=w6 at*;go_wp2_with fail;go_loopw [5,7,8,9,27] (fun pv s7 s8 s9 iv' wx=>∃(i:Nat) (A9:Option Addr) (c9:Nat),i≤q∧iv'=.int .i64 i∧pv=.slice A9 (i+1) c9∧Pcs wx w5.heap.size (.slice A9 (i+1) c9) (H :: ((T.map nl).map aZ).take i)∧Below w5.heap.size w5 wx) (fun _ _ _ _ iv' _=>q - (intOf iv').toNat)
 case atStart=>refine⟨0,_,_,LY _,rfl,rfl,?_,hR.out⟩;rw[OJ];exact hl.out
 case round=>
  clear hl hR p0 p0';rename World=>wx;obtain⟨i,A9,c9,hi,rfl,rfl,hs,hk⟩:=hrel;by_cases e:i<q
  ·have qs:(0:Int)≤(i:Int):=(by omega);have r0:(i:Int)<(q:Int):=(by omega);obtain⟨A2,c2,h1,h2,_,h4⟩:=p2.out i e;have H7:i<T.length:=(by rw[hz.out];exact e);have c1:wx.cell? ⟨tb,tq+i,none⟩=some (.slice A2 (T.getD i []).length c2):=(hk.cell (p:=⟨tb,tq+i,none⟩) (Md w5 _ h1)).trans h1;have hN:=S10.pN wx A2 (T.getD i []).length c2 (T.getD i []) (h2.below hk) h4;have pm:DOk (T.getD i []):=kO (qm.out _ (m7 T i H7));rw[show jV (T.getD i [])=(aZ (nl (T.getD i [])),0)from LX pm]at hN;obtain⟨X,hX⟩:∃X,X=aZ (nl (T.getD i [])):=⟨_,rfl⟩;rw[← hX]at hN;have pk:au X:=(by rw[hX];exact vj _);have h8:H :: ((T.map nl).map aZ).take (i+1)=(H :: ((T.map nl).map aZ).take i)++ [X]:=(by rw[Mn (by simp;exact H7),Qc,Qc,hX,LU,LV H7];rfl);have HR:=aa h8;have p6:=aa pk;have H0:=aa hN;have hl:=aa hs;have h7:=aa hk;obtain⟨tl,htl⟩:∃tl,tl=(T.getD i []).length:=⟨_,rfl⟩;rw[← htl]at c1 H0;have HF:tl≤maxLen:=(by rw[htl];exact h4);unfold maxLen at HF;clear h1 h2 h4 hN pm hX pk h8 hs hk htl;go_wp2_with fail;refine H0.out.mono ?_;rintro e w7 ⟨rfl,hF⟩;have hG:Below w7.heap.size w7 (w7.alloc (.cells #[.string ⟨(pack X).toArray⟩,.int .i64 X.length] 43)):=(L6 _ _).alloc (ag _) _;have hK:=ah w7 43 #[.string ⟨(pack X).toArray⟩,.int .i64 X.length];obtain⟨w8,HH⟩:∃w8,w8=w7.alloc (.cells #[.string ⟨(pack X).toArray⟩,.int .i64 X.length] 43):=⟨_,rfl⟩;rw[← HH]at hG hK;have hu:=(hl.out.below hF).below hG;have hf:=(aq h7.out hF).trans (hG.mono (Mk h7.out.size hF.size));obtain⟨v9,w9,h6,h0,hj⟩:=tT w8 w5.heap.size (.slice A9 (i+1) c9) _ X hu hf.size (by simp;omega) p6.out;rw[← HR.out]at h0;have q2:(H :: ((T.map nl).map aZ).take (i+1)).length=i+1+1:=(by simp;omega);obtain⟨A3,c3,rfl,_,_,_⟩:=ao h0.own;rw[q2]at h0 h6;have x0:=(ac hK 0).trans (rfl:_=some (Value.string ⟨(pack X).toArray⟩));have x1:=(ac hK 1).trans (rfl:_=some (Value.int .i64 X.length));have ql:=aa h6;have hW:=aa h0;have q9:=aa (hf.trans hj);have p5:=aa HH.symm;clear hF hG hK HH hu hf h6 h0 hj q2 H0 hl h7 HR p6;go_upto_region 10 with fail;rw[p5.out];clear p5;generalize w7.heap.size=g8 at*;(go_wp2_with (at_builtin;refine Lib.wpList_append_run _ rfl (.tmp 36) (.tmp 38) 45 45 rfl (.slice A9 (i+1) c9) (.slice (some ⟨w8.heap.size,0,none⟩) 1 1) rfl rfl _ w9 ql.out ?_));go_roundw;case rel=>exact⟨i+1,A3,c3,by omega,by go_num,rfl,hW.out,q9.out⟩
   case measure=>simp[intOf];omega
  ·obtain rfl:i=q:=(by omega);have hn:(H :: ((T.map nl).map aZ).take i)=H :: (T.map nl).map aZ:=(by rw[Mh (by have:=hz.out;simp;omega)]);rw[hn]at hs;have hI:(H :: (T.map nl).map aZ).flatten=H++(T.map nl).flatMap aZ:=(by rw[Pk,List.flatMap_def]);have H6:(H :: (T.map nl).map aZ).flatten.length≤1000000:=(by rw[hI,LR];have h1:=qb.out;have h2:=qo.out;have h3:=hz.out;have h4:11000*T.length≤11000*6:=Qq _ (by omega);omega);have HJ:=aa (oW wx w5.heap.size (.slice A9 (i+1) c9) _ hs (by simp;have:=hz.out;omega) (by omega));obtain⟨X,hX⟩:∃X,X=(H :: (T.map nl).map aZ).flatten:=⟨_,rfl⟩;rw[← hX]at HJ hI;have HL:=aa hI;have h7:=aa hk;clear hs hk hn hI H6 hX;go_wp2_with fail;refine HJ.out.mono ?_;rintro e w9 ⟨rfl,hj⟩;have h6:=(an hj).blk ((h7.out.block (w.heap.size+1) qq).trans hZ.out) ay ay;have q0:=(ac h6 0).trans (rfl:_=some (Value.string ⟨#[]⟩));have q1:=(ac h6 1).trans (rfl:_=some (Value.int .i64 0));have f0:=ae h6 0;have f1:=ae h6 1;have pl:=(aq hQ.out h7.out).trans (hj.mono (Mk hQ.out.size h7.out.size));have hS:=aa (HV.out _ X HL.out ((pl.setCell (p:=⟨w.heap.size+1,0,none⟩) (NR _) (.string ⟨(pack X).toArray⟩)).setCell (p:=⟨w.heap.size+1,1,none⟩) (NR _) (.int .i64 X.length)));clear h6 hj pl HJ HL h7 HV hZ hQ p2;go_wp2_with fail;refine Mm (v:=.tuple #[.agg #[.string ⟨(pack X).toArray⟩,.int .i64 X.length],.int .i64 0]) ?_ rfl hS.out;simp[results,Tryz.results51,go_sem,q0,q1]
theorem sz(w:World)(v:Value)(T:List (List Int))(P:List Int)(h:bc w v T P):
 Calls Tryz.prog 51 #[v] w (aS w (fe T P)):=by
 by_cases hM:cJ T P;·exact BA w v T P h hM
 ·exact Bz w v T P h hM
theorem ER(w:World)(v:Value)(T:List (List Int))(P:List Int)(h:bc w v T P)(A':Option Addr)(n' c':Nat)(L:List Int)(hL:ZIn w A' n' L)(hu:n'≤c')(hq:n'≤2000000):
 Calls Tryz.prog 100 #[v,.slice A' n' c'] w fun e w'=>e=.returned (.tuple #[.int .i64 (ft T P L).1,.int .i64 (ft T P L).2])∧Below w.heap.size w w':=by
 obtain⟨A,n,c,B,m,d,rfl,hl⟩:∃A n c B m d,v=.agg #[.slice A n c,.slice B m d]∧bc w (.agg #[.slice A n c,.slice B m d]) T P:=by obtain⟨A,n,c,B,m,d,hv,hr⟩:=id h;exact⟨A,n,c,B,m,d,hv,by rw[← hv];exact h⟩
 clear h;obtain⟨w1,hj⟩:∃w1,w1=w.alloc (.cells #[.slice A n c,.slice B m d] 90):=⟨_,rfl⟩;have hi:Blk w1 w.heap.size 90 #[.slice A n c,.slice B m d]:=fL hj;have ha:Below w.heap.size w w1:=b9 hj;have hs:w.heap.size<w1.heap.size:=aB hi;have HQ:Hid (∀ wx,Below w1.heap.size w1 wx→wx.cell? ⟨w.heap.size,0,none⟩=some (.slice A n c)∧wx.cell? ⟨w.heap.size,1,none⟩=some (.slice B m d)):=aa fun wx h=>⟨(h.cell (p:=⟨w.heap.size,0,none⟩) hs).trans ((ac hi 0).trans rfl),(h.cell (p:=⟨w.heap.size,1,none⟩) hs).trans ((ac hi 1).trans rfl)⟩;have hg:=aa (yV w1 _ T P (hl.below ha) A' n' c' L (hL.below ha) hu hq);have hk:=aa fun(wx:World) (hb:Below w1.heap.size w1 wx)=>sz wx _ T P ((hl.below ha).below hb);have h5:=iM T P L (by rw[hL.1];exact hq);have h2:=jM T P;have hf:=yQ T P L;have h1:ft T P L=if(bI T P L).2=0 then((fe T P).1.length+(bI T P L).1.length,0)else(0,(bI T P L).2):=rfl
 have h8:=aa ha;have hh:=aa hj;obtain⟨p0,p1⟩:=HQ.out _ (L6 _ _);generalize ft T P L=ans at*;generalize bI T P L=cs at*;generalize fe T P=bs at*;obtain⟨cl,ck⟩:=cs;obtain⟨bl,bk⟩:=bs;dsimp only at h5 h2 hf h1;clear hl hL hi ha hj;by_cases h0:ck=0;·subst h0;rw[LX rfl]at h1;have h3:=aa h1;clear h1;go_enter Tryz.func100,Tryz.ntmps100;go_upto_region 1 with fail;rw[← hh.out];clear hh;go_wp2_with fail;refine hg.out.mono ?_;rintro e w3 ⟨rfl,h7⟩;(try dsimp only);have hc:Below w3.heap.size w3 (w3.alloc (.cells #[.string ⟨(pack cl).toArray⟩,.int .i64 (cl.length:Nat)] 43)):=(L6 _ _).alloc (ag _) _;have hm:=aa (ah w3 43 #[.string ⟨(pack cl).toArray⟩,.int .i64 (cl.length:Nat)]);have h6:=aa (aq h7 hc);clear h7 hc hg p0 p1;go_upto_region 2 with fail;generalize w3.alloc (.cells #[.string ⟨(pack cl).toArray⟩,.int .i64 (cl.length:Nat)] 43)=w4 at*;generalize w3.heap.size=g6 at*;obtain⟨p0,p1⟩:=HQ.out _ h6.out;have h9:=aa (hk.out _ h6.out);go_wp2_with fail;refine h9.out.mono ?_;rintro e w5 ⟨rfl,hn⟩;(try dsimp only);have he:Below w5.heap.size w5 (w5.alloc (.cells #[.string ⟨(pack bl).toArray⟩,.int .i64 (bl.length:Nat)] 43)):=(L6 _ _).alloc (ag _) _;have h4:=aq hn he;have ho:=aP h4 hm.out;have hp:=ah w5 43 #[.string ⟨(pack bl).toArray⟩,.int .i64 (bl.length:Nat)];have x1:=(ac ho 1).trans (rfl:_=some (Value.int .i64 (cl.length:Nat)));have y1:=(ac hp 1).trans (rfl:_=some (Value.int .i64 (bl.length:Nat)));have ht:=aa (h8.out.trans ((aq h6.out h4).mono h8.out.size));clear hn he h4 ho hp h9 hm h6 p0 p1 hk HQ;go_upto_region 5 with fail;generalize w5.alloc (.cells #[.string ⟨(pack bl).toArray⟩,.int .i64 (bl.length:Nat)] 43)=w6 at*;generalize w5.heap.size=g8 at*;generalize bl.length=K at*;generalize cl.length=M at*;go_wp2_with fail;go_ret2;exact⟨by rw[h3.out];rfl,ht.out⟩
 ·have d0:((ck:Int) != 0)=true:=(by rw[Oe];omega);rw[LW h0]at h1;have h3:=aa h1;clear h1 h0;go_enter Tryz.func100,Tryz.ntmps100;go_upto_region 1 with fail;rw[← hh.out];clear hh;go_wp2_with fail;refine hg.out.mono ?_;rintro e w3 ⟨rfl,h7⟩;(try dsimp only);have h6:=aa (h8.out.trans ((h7.alloc h7.size (.cells #[.string ⟨(pack cl).toArray⟩,.int .i64 (cl.length:Nat)] 43)).mono h8.out.size));clear h7 hg p0 p1 hk HQ h8;go_upto_region 2 with fail;generalize w3.alloc (.cells #[.string ⟨(pack cl).toArray⟩,.int .i64 (cl.length:Nat)] 43)=w4 at*;go_wp2_with fail;go_ret2;exact⟨by rw[h3.out];rfl,h6.out⟩
structure gr (w:World) (B g T n t:Nat) (G:Nat→Nat) (C:Nat→Nat→Nat):Prop where
 own:w.ownsRow B 57 1 (.slice (some ⟨g,0,none⟩) T T) T ((List.range T).map fun j=>if j<t then .slice (some ⟨G j,0,none⟩) n n else .slice none 0 0)
 rows:∀j,j<t→aA w B (G j) n n (C j)
 ne:∀i j,i<t→j<t→i≠j→G i≠G j
theorem AE(w:World)(B T n:Nat)(hB:B≤w.heap.size)(hT:T≤1000)(G:Nat→Nat)(C:Nat→Nat→Nat):gr (w.alloc (.cells (madeCells #[.slice none 0 0] T) 57)) B w.heap.size T n 0 G C:=by refine⟨?_,fun j hj=>absurd hj (NY _),fun i _ hi=>absurd hi (NY _)⟩;have h:=(AF w B T hB hT).own;have e:(fun j:Nat=>if j<0 then(.slice (some ⟨G j,0,none⟩) n n:Value)else .slice none 0 0)=fun _=>.slice none 0 0:=(by funext j;rw[LW (NY _)]);rw[e];exact h
section
variable {w w':World} {B g T n t:Nat} {G:Nat→Nat} {C:Nat→Nat→Nat}
theorem gr.g_ne(h:gr w B g T n t G C){j:Nat}(hj:j<t):G j≠g:=by intro e;obtain⟨c1,f1,e1⟩:=Lib.ownsRow_kind (h.rows j hj) (G j) rfl;obtain⟨c2,f2,e2⟩:=Lib.ownsRow_kind h.own g rfl;rw[e,e2]at e1;simp at e1
theorem gr.cell(h:gr w B g T n t G C)(j:Nat)(hj:j<t)(hT:j<T):w.cell? ⟨g,j,none⟩=some (.slice (some ⟨G j,0,none⟩) n n):=by rw[NC h.own j (by omega),Me,Mx hT];show some (if j<t then _ else _)=_;rw[LX hj]
theorem gr.frozen(h:gr w B g T n t G C)(j:Nat):w.frozen? ⟨g,j,none⟩=false:=PW h.own j
theorem gr.lt(h:gr w B g T n t G C):B≤g∧g<w.heap.size:=Nl h.own g rfl
theorem gr.step{B':Nat}(h:gr w B g T n t G C)(hs:ak B' [] [] w w'):gr w' B g T n t G C:=
 ⟨hs.row h.own (fun _ _=>ay) ay,fun j hj=>hs.row (h.rows j hj) (fun _ _=>ay) ay,h.ne⟩
theorem gr.same(h:gr w B g T n t G C){D:Nat→Nat→Nat}(hd:∀j,j<t→C j=D j):gr w B g T n t G D:=
 ⟨h.own,fun j hj=>by rw[← hd j hj];exact h.rows j hj,h.ne⟩
theorem gr.push{B2 gN:Nat}{f:Nat→Nat}(h:gr w B g T n t G C)(hb:Below w.heap.size w w')(h4:B≤B2)(hf:aA w' B2 gN n n f)(hg:w.heap.size≤gN):
 gr (w'.setCell ⟨g,t,none⟩ (.slice (some ⟨gN,0,none⟩) n n)) B g T n (t+1) (fun j=>if j=t then gN else G j) (fun j=>if j=t then f else C j):=by
 have h2:=h.step (an hb);have h5:=h.lt;have h3:=Qg h2.own t (.slice (some ⟨gN,0,none⟩) n n);have h0:((List.range T).map fun j=>if j<t then(.slice (some ⟨G j,0,none⟩) n n:Value)else .slice none 0 0).set t (.slice (some ⟨gN,0,none⟩) n n)=(List.range T).map fun j=>if j<t+1 then(.slice (some ⟨if j=t then gN else G j,0,none⟩) n n)else .slice none 0 0:=by
  apply ML;intro j;rw[List.getElem?_set];by_cases e:t=j
  ·subst e;by_cases hj:t<T;·simp[hj]
   ·simp[hj]
  ·have e':¬j=t:=fun k=>e k.symm;rw[LW e,Me,Me];by_cases hj:j<T
   ·rw[Mx hj];by_cases e3:j<t;·have:j<t+1:=(by omega);simp[e',e3,this]
    ·have:¬j<t+1:=(by omega);simp[e3,this]
   ·rw[Mf (by rw[Mt];omega)];rfl
 rw[h0]at h3;have h1:∀(B3 k:Nat) (f3:Nat→Nat),aA w' B3 k n n f3→g≠k:=by intro B3 k f3 hk e;obtain⟨c1,f1,e1⟩:=Lib.ownsRow_kind hk k rfl;obtain⟨c2,f2,e2⟩:=Lib.ownsRow_kind h2.own g rfl;rw[← e,e2]at e1;simp at e1
 refine⟨h3.1,fun j hj=> ?_,fun i j hi hj hij=> ?_⟩
 ·by_cases e:j=t;·simp only[LX e];exact aA.other (World.ownsRow.mono hf h4) (h1 _ _ _ hf) t _
  ·simp only[LW e];have hr:=h2.rows j (by omega);exact aA.other hr (h1 _ _ _ hr) t _
 ·by_cases e:i=t;·rw[LX e,LW (by omega)];have:=(h.rows j (by omega)).lt;omega
  ·rw[LW e];by_cases e2:j=t;·rw[LX e2];have:=(h.rows i (by omega)).lt;omega
   ·rw[LW e2];exact h.ne i j (by omega) (by omega) hij
theorem gr.upd{B' j:Nat}{f:Nat→Nat}(h:gr w B g T n t G C)(hj:j<t)(hf:aA w' B (G j) n n f)(hs:ak B' [G j] [] w w'):gr w' B g T n t G (fun i=>if i=j then f else C i):=by
 refine⟨hs.row h.own (fun k hk=> ?_) ay,fun i hi=> ?_,h.ne⟩;·simp[Value.ownBlock]at hk;rw[MK,←hk];exact fun e=>h.g_ne hj e.symm
 ·by_cases e:i=j;·simp only[LX e];rw[e];exact hf
  ·simp only[LW e];refine hs.row (h.rows i hi) (fun k hk=> ?_) ay;simp[Value.ownBlock]at hk;rw[MK,←hk];exact h.ne i j hi hj e
theorem gr.tabW(h:gr w B g T n T G C):iz w B g T fun j=>(List.range n).map (C j):=by
 refine⟨_,h.own,fun j hj=>⟨some ⟨G j,0,none⟩,n,?_,by rw[Mi,Mt];exact L5 _,?_⟩⟩;·rw[LX hj,Mi,Mt]
 ·rw[LX hj,Mi,Mt];have:=h.rows j hj;unfold aA cz at this;rw[MX];exact this
end
theorem wM(n:Nat)(h:n≤1000):bits BinOp.and IntKind.u64 (n:Int) 4294967295=(n:Int):=by have e:=u64_and_nat n 4294967295 (by omega) (by omega);rw[show ((4294967295:Nat):Int)=4294967295 from rfl]at e;rw[e,show(4294967295:Nat)=2 ^ 32 - 1 by rfl,Nat.and_two_pow_sub_one_eq_mod,Ms (by omega)]
theorem BG(w:World)(n:Nat)(hn:n≤1000):
 Calls Tryz.prog 266 #[.int .u64 1,.int .u64 n] w fun e w'=>e=.returned (.tuple #[.int .u64 0,.int .u64 n])∧w'=w:=by have h1:bits BinOp.and IntKind.u64 1 4294967295=1:=wM 1 (by omega);have h0:bits BinOp.and IntKind.u64 0 4294967295=0:=wM 0 (by omega);have h2:=wM n hn;have h3:(n:Int) / 4294967296=0:=(by omega);have h5:(1:Int)*(n:Int)=(n:Int):=(by omega);have h6:(0:Int)*(n:Int)=0:=(by omega);go_enter Tryz.func266,Tryz.ntmps266;go_wp2_with fail;go_ret2;exact⟨rfl,rfl⟩
theorem Ho(w:World)(n:Nat)(hn:n≤1000):
 Calls Tryz.prog 233 #[.int .u64 1,.int .u64 n] w fun e w'=>e=.returned (.tuple #[.int .u64 0,.int .u64 n])∧w'=w:=by have HM:=aa (BG w n hn);go_enter Tryz.func233,Tryz.ntmps233;go_wp2_with fail;refine HM.out.mono ?_;rintro e w1 ⟨rfl,rfl⟩;go_wp2_with fail;go_ret2;exact⟨rfl,rfl⟩
theorem Ht(w:World)(B g n k m:Nat)(f:Nat→Nat)(hf:aA w B g n n f)(hk:k<n)(_:1≤k)(hm:m=min (n - k) k)(ty:TypeId):
 (Builtin.copy_ #[57,57] ty #[.slice (some ⟨g,k,none⟩) (n - k) (n - k),.slice (some ⟨g,0,none⟩) k n]).run Tryz.prog w=.ok (goInt m) (w.setCells g k (cz m f)):=by
 obtain⟨i5,h5,h2,h1,h3⟩:=MT Tryz.info3;have h0:(cz m f).length=m:=dZ m f;have hi:(Tryz.prog.info? 3).map (·.size)=some 1:=by rw[h5];exact congrArg some h1
 have:=QG (P:=Tryz.prog) w 57 57 ty 3 g k (n - k) (n - k) ⟨g,0,none⟩ k n (cz m f) Tryz.underlying57 hi (by rw[h0,hm,Nat.min_comm])
  (fun j v hv=>by
    have hj:j<m:=by have:=(List.getElem?_eq_some_iff.1 hv).1;omega
    rw[pR,MG,hf.cell j (by omega),←hv,kX m f j hj]
    rfl)
  (fun j hj=>by
    rw[h0]at hj
    rw[hf.cell (k+j) (by omega)]
    rfl) (fun j hj=>hf.frozen (k+j)) (fun v hv=>by
    unfold cz at hv
    obtain⟨x,_,rfl⟩:=List.mem_map.1 hv
    rfl)
 rw[h0]at this;exact this
def AZ(w:World)(n:Nat)(f:Nat→Nat)(e:Ending)(w':World):Prop:=
 ∃g,e=.returned (.slice (some ⟨g,0,none⟩) n n)∧w.heap.size≤g∧aA w' w.heap.size g n n f∧Below w.heap.size w w'
theorem y4(w:World)(A:Option Addr)(c x n:Nat)(hA:aU w A 1 [x])(h1:1≤n)(hn:n≤1000):
 Calls Tryz.prog 196 #[.slice A 1 c,.int .i64 n] w (AZ w n fun _=>x):=by
 have HM:=aa (Ho w n hn);have hH:=bC w n (by omega);have h6:=bh w w.heap.size n (ag _) (by omega);have hl:Below w.heap.size w (w.alloc (.cells (madeCells #[.int .i64 0] n) 3)):=(L6 w.heap.size w).alloc (ag _) _;have hw:=dG hA hl;obtain⟨b,off,rfl,hc⟩:=hw.2 (by omega);have h4:=hc 0 (by omega);rw[MM]at h4;have hC:([x]:List Nat).getD 0 0=x:=rfl;rw[hC]at h4;have h9:∀ty,(Builtin.copy_ #[57,57] ty #[.slice (some ⟨w.heap.size,0,none⟩) n n,.slice (some ⟨b,off,none⟩) 1 c]).run Tryz.prog (w.alloc (.cells (madeCells #[.int .i64 0] n) 3))=.ok (goInt 1) ((w.alloc (.cells (madeCells #[.int .i64 0] n) 3)).setCells w.heap.size 0 [iv x]):=by
  intro ty;obtain⟨i5,h5,hN,hI,hO⟩:=MT Tryz.info3;have hi:(Tryz.prog.info? 3).map (·.size)=some 1:=by rw[h5];exact congrArg some hI
  exact QG (P:=Tryz.prog) _ 57 57 ty 3 w.heap.size 0 n n ⟨b,off,none⟩ 1 c [iv x] Tryz.underlying57 hi (by show 1=min 1 n;omega)
   (fun j v hv=>by
     have hj:j<1:=by have:=(List.getElem?_eq_some_iff.1 hv).1;simpa using this
     obtain rfl:j=0:=by omega
     rw[pR,MM,h4,←hv]
     rfl)
   (fun j hj=>by
     rw[show j=0 by simpa using hj,h6.cell (0+0) (by omega)]
     rfl) (fun j _=>h6.frozen (0+j)) (fun v hv=>by
     rw[List.mem_singleton.1 hv]
     rfl)
 have h7:=ia [x] 0 _ _ h6;have e1:(fun j=>if 0≤j∧j<0+ [x].length then([x]:List Nat).getD (j - 0) 0 else 0)=fun j=>if j<1 then x else 0:=by
  funext j;by_cases e:j<1;·rw[LX (by simp;omega),LX e,show j=0 by omega];rfl
  ·rw[LW (by simp;omega),LW e]
 rw[e1]at h7;have hx:Below w.heap.size w ((w.alloc (.cells (madeCells #[.int .i64 0] n) 3)).setCells w.heap.size 0 ([x].map iv)):=li (ag _) _ _ _ hl;have hu:=aa h7;have hs:=aa hx;have ht:=aa h9;have HP:Hid (∀ g w',w.heap.size≤g→aA w' w.heap.size g n n (fun _=>x)→Below w.heap.size w w'→AZ w n (fun _=>x) (.returned (.slice (some ⟨g,0,none⟩) n n)) w'):=aa fun g w' h0 h2 h3=>⟨g,rfl,h0,h2,h3⟩;have d0:decide ((n:Int)<0)=false:=aN (by omega);have d1:decide ((9223372036854775807:Int)<(n:Int))=false:=aN (by omega);generalize AZ w n (fun _=>x)=PO at*;clear hA hw hc h4 hC h6 hl h9 h7 e1 hx;go_enter Tryz.func196,Tryz.ntmps196;go_wp2_with fail;refine HM.out.mono ?_;rintro e w1 ⟨rfl,rfl⟩;go_upto_region 7 with fail;go_wp2_with (refine vB rfl _ _ 57 57 rfl _ _ 1 rfl rfl (ht.out _) ?_)
 clear hH HM;generalize w1.heap.size=g at*;have hh:=hu.out;have hg:=hs.out;rw[show ([x]:List Nat).map iv= [iv x]from rfl]at hh hg;clear hu hs ht;go_wp2_with fail;go_loopw [8] (fun kv wx=>∃k:Nat,1≤k∧k≤n∧kv=.int .i64 k∧aA wx g g n n (fun j=>if j<k then x else 0)∧Below g w1 wx) (fun kv _=>n - (intOf kv).toNat)
 case atStart=>exact⟨1,L5 _,h1,rfl,hh,hg⟩
 case round=>
  clear hh hg;rename World=>w2;obtain⟨k,hF,hk,rfl,hf,hb⟩:=hrel;by_cases e:k<n
  ·obtain⟨m,hm⟩:∃m,m=min (n - k) k:=⟨_,rfl⟩;have h8:=fun ty=>Ht w2.drew g g n k m _ (hf.drew 1) e hF hm ty;have hz:cz m (fun j=>if j<k then x else 0)=(List.replicate m x).map iv:=(by rw[bW m _ (fun _=>x) fun j hj=>LX (by omega)];unfold cz;rw[List.map_replicate,PH,Mt]);rw[hz]at h8;have ha:=ia (List.replicate m x) k _ _ (hf.drew 1);have ho:Below g w1 (w2.drew.setCells g k ((List.replicate m x).map iv)):=li (ag _) _ _ _ hb.drew;have efn:(fun j=>if k≤j∧j<k+(List.replicate m x).length then(List.replicate m x).getD (j - k) 0 else if j<k then x else 0)=fun j=>if j<k+m then x else 0:=by
    funext j;rw[Mo];by_cases e1:j<k;·rw[LW (by omega),LX e1,LX (by omega)]
    ·by_cases e2:j<k+m;·rw[LX (by omega),LX e2,LU,N8,LX (by omega)];rfl
     ·rw[LW (by omega),LW e1,LW e2]
   rw[efn]at ha;obtain⟨km,hB⟩:∃km,km=k+m:=⟨_,rfl⟩;rw[← hB]at ha;have hL:(k:Int)+(m:Int)=(km:Int):=(by omega);have hp:km≤n:=(by omega);have hG:k<km:=(by omega);have hJ:(0:Int)≤(k:Int):=(by omega);have hK:(k:Int)≤(n:Int):=(by omega);have hM:¬n=k:=(by omega);obtain⟨w3,hq⟩:∃w3,w3=w2.drew.setCells g k ((List.replicate m x).map iv):=⟨_,rfl⟩;rw[← hq]at h8 ho;have hy:aA w3 g g n n (fun j=>if j<km then x else 0):=(by rw[hq];exact ha);have he:=aa h8;have hE:=aa hy;have hD:=aa ho;clear h8 hz ha ho efn hf hb hB hm hq hy;go_upto_region 9 with fail;have hr:(Builtin.copy_ #[57,57] 3 #[.slice (some ⟨g,k,none⟩) (n - k) (n - k),.slice (some ⟨g,0,none⟩) k n]).run Tryz.prog w2.drew=.ok (.int .i64 m) w3:=he.out _;go_region;go_wp2_with fail;go_roundw;case rel=>exact⟨km,by omega,hp,by go_num,hE.out,hD.out⟩
   case measure=>simp[intOf];omega
  ·obtain rfl:k=n:=(by omega);have h3:w2.ownsRow g 3 1 (.slice (some ⟨g,0,none⟩) k k) k (cz k fun j=>if j<k then x else 0):=hf;rw[bW k _ (fun _=>x) fun j hj=>LX hj]at h3;have HE:=aa (HP.out g w2 (ag _) h3 hb);clear hf hb h3;go_wp2_with fail;exact HE.out
def jD(n T s t x:Nat):Nat:=if x<s then qi n T t x else 15
theorem Bv(w:World)(T n:Nat)(hC:1≤T)(hy:T≤6)(hG:3≤n)(hn:n≤258):
 Calls Tryz.prog 147 #[.int .i64 T,.int .i64 n] w fun e w'=>e=.returned (.slice (some ⟨w.heap.size,0,none⟩) T T)∧iz w' w.heap.size w.heap.size T (fun t=>(List.range n).map (qi n T t))∧Below w.heap.size w w':=by
 have hA:=tA w T (by omega);have hh:=aa (AE w w.heap.size T n (ag _) (by omega) (fun _=>0) (fun _ _=>15));have he:Hid (Below w.heap.size w (w.alloc (.cells (madeCells #[.slice none 0 0] T) 57))):=aa ((L6 _ _).alloc (ag _) _);go_enter Tryz.func147,Tryz.ntmps147;go_wp2_with fail;clear hA;go_loopw [6,12] (fun s6 tv wx=>∃(t:Nat) (G:Nat→Nat),t≤T∧tv=.int .i64 t∧gr wx w.heap.size w.heap.size T n t G (fun _ _=>15)∧Below w.heap.size w wx) (fun _ tv _=>T - (intOf tv).toNat)
 case atStart=>exact⟨0,fun _=>0,LY _,rfl,hh.out,he.out⟩
 case round=>
  clear hh he;rename World=>w1;obtain⟨t,G,ht,rfl,hD,hb⟩:=hrel;by_cases e:t<T
  ·have hN:(0:Int)≤(t:Int):=(by omega);have hO:(t:Int)<(T:Int):=(by omega);have hr:=hD.lt;have hk:Below w1.heap.size w1 (w1.alloc (.cells #[.int .i64 15] 3)):=(L6 _ _).alloc (ag _) _;have HR:=aa (y4 (w1.alloc (.cells #[.int .i64 15] 3)) (some ⟨w1.heap.size,0,none⟩) 1 15 n (IH w1 [15]) (by omega) (by omega));have HD:=aa hD;have HB:=aa hb;have hg:=aa hk;have hv:(w1.alloc (.cells #[.int .i64 15] 3)).heap.size=w1.heap.size+1:=(by simp);have hi:=aa hv;clear hD hb hk hv;go_wp2_with fail;refine HR.out.mono ?_;rintro e w3 ⟨gN,rfl,hz,hf,hl⟩;have h3:=aq hg.out hl;have hp:=HD.out.push h3 (by rw[hi.out];omega) hf (by rw[hi.out]at hz;omega);have hE:w3.frozen? ⟨w.heap.size,t,none⟩=false:=(HD.out.step (an h3)).frozen t;have hm:∃v,w3.cell? ⟨w.heap.size,t,none⟩=some v:=(by have:=NC (HD.out.step (an h3)).own t (by omega);rw[Me,Mx e]at this;exact⟨_,this⟩);obtain⟨v,hm⟩:=hm;have h4:=(aq HB.out h3).setCell (p:=⟨w.heap.size,t,none⟩) (ag _) (.slice (some ⟨gN,0,none⟩) n n)
   have HP:=aa (hp.same (D:=fun _ _=>15) fun j _=>by
    by_cases ej:j=t
    ·rw[LX ej]
    ·rw[LW ej])
   have h9:=aa h4;clear hp h4 hf hl h3 HR HD HB hg;go_wp2_with fail;go_roundw;case rel=>exact⟨t+1,_,by omega,by go_num,HP.out,h9.out⟩
   case measure=>simp[intOf];omega
  ·obtain rfl:T=t:=(by omega);have HD:=aa hD;have HB:=aa hb;have hr:=hD.lt;clear hD hb;go_wp2_with fail;(go_loopw [7,23] (fun s7 sv wx=>∃(s:Nat),s≤n∧sv=.int .i64 s∧gr wx w.heap.size w.heap.size T n T G (jD n T s)∧Below w.heap.size w wx) (fun _ sv _=>n - (intOf sv).toNat));case atStart=>refine⟨0,LY _,rfl,HD.out.same fun j _=> ?_,HB.out⟩;funext x;unfold jD;rw[LW (by omega)]
   case round=>
    clear HD HB hr;rename World=>w4;obtain⟨s,hs,rfl,hD,hb⟩:=hrel;by_cases e2:s<n
    ·obtain⟨p,hp⟩:∃p:Nat,p=s*T:=⟨_,rfl⟩;have hI:(s:Int)*(T:Int)=(p:Int):=(by rw[hp];simp);have hH:p≤258*6:=(by rw[hp];exact Nat.mul_le_mul (by omega) hy);obtain⟨q,hq⟩:∃q:Nat,q=p / n:=⟨_,rfl⟩;have ha:q<T:=(by rw[hq,hp];refine Nat.div_lt_of_lt_mul ?_;exact Nw e2 (by omega));have hK:(p:Int) / (n:Int)=(q:Int):=(by rw[hq];simp);have hF:¬(n:Int)=0:=(by omega);have hJ:(0:Int)≤(q:Int):=(by omega);have hB:(q:Int)<(T:Int):=(by omega);have hL:(0:Int)≤(s:Int):=(by omega);have hM:(s:Int)<(n:Int):=(by omega);have c1:=hD.cell q ha ha;have h0:=hD.rows q ha;have c2:=h0.cell s e2;have f2:=h0.frozen s;have h7:=h0.set s 1;have h8:=hD.upd ha h7 ((ak.refl w.heap.size [G q] [] w4).set (p:=⟨G q,s,none⟩) h0.lt.1 (List.mem_singleton.2 rfl) _);have h4:=hb.setCell (p:=⟨G q,s,none⟩) h0.lt.1 (.int .i64 ((1:Nat):Int));have hc:s*T / n=q:=(by rw[← hp,←hq]);have h5:∀x,(if x=s then 1 else jD n T s q x)=jD n T (s+1) q x:=fun x=>by
      unfold jD qi;by_cases ex:x=s;·have h1:x<s+1:=(by omega);rw[LX ex,LX h1,ex,hc,LX rfl]
      ·rw[LW ex];by_cases ex2:x<s;·have h1:x<s+1:=(by omega);rw[LX ex2,LX h1]
       ·have h1:¬x<s+1:=(by omega);rw[LW ex2,LW h1]
     have h6:∀j x,j≠q→jD n T s j x=jD n T (s+1) j x:=fun j x ej=>by
      unfold jD qi;by_cases ex2:x<s;·have h1:x<s+1:=(by omega);rw[LX ex2,LX h1]
      ·rw[LW ex2];by_cases ex:x=s;·have h1:x<s+1:=(by omega);have h2:¬q=j:=fun h=>ej h.symm;rw[LX h1,ex,hc,LW h2]
       ·have h1:¬x<s+1:=(by omega);rw[LW h1]
     have HU:=aa (h8.same (D:=jD n T (s+1)) fun j hj=>by
      by_cases ej:j=q
      ·rw[LX ej,ej]
       funext x
       exact h5 x
      ·rw[LW ej]
       funext x
       exact h6 j x ej)
     have h9:=aa h4;obtain⟨gq,ho⟩:∃gq,gq=G q:=⟨_,rfl⟩;obtain⟨v2,hu⟩:∃v2:Nat,v2=jD n T s q s:=⟨_,rfl⟩;rw[← ho]at c1 c2 f2 HU h9;rw[← hu]at c2;clear hD hb h0 h7 h8 h4 hp hq ho hu hc h5 h6;go_wp2_with fail;go_roundw;case rel=>exact⟨s+1,by omega,by go_num,HU.out,h9.out⟩
     case measure=>simp[intOf];omega
    ·obtain rfl:n=s:=(by omega);have HE:=aa hD.tabW;have hw:=aa hb;clear hD hb;go_wp2_with fail;go_ret;refine⟨rfl,HE.out.same fun j _=> ?_,hw.out⟩;apply MJ;intro x hx;unfold jD;rw[LX (List.mem_range.1 hx)]
end Go.Proofs.YtepokmggbfoakaaGreatDoor
