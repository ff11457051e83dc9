import Derived.Test.YtfhgikojdfblpaaGreatM38
import Derived.Test.YtfhgikojdfblpaaGreatM36
import Derived.Test.YtfhgikojdfblpaaGreatM20
import Derived.Test.YtfhgikojdfblpaaGreatM11
set_option maxHeartbeats 6400000
set_option maxRecDepth 100000
namespace Go.Proofs.YtfhgikojdfblpaaGreat
open _root_.Go.Proofs.Tryz
open Go.RowKit
theorem Hx(bits:List Nat)(n a:Nat):xu bits n a=if(eA bits a).2.2=0 then BN bits n a (eA bits a).1 (eA bits a).2.1 else([], [],0,(eA bits a).2.2):=by
 unfold xu eA;by_cases h1:bits.length<a+3;·rw[Nf h1,Nf h1,Nd (by simp)]
 ·rw[Nd h1,Nd h1];by_cases h2:val ((bits.drop a).take 3)<2\/6<val ((bits.drop a).take 3);·rw[Nf h2,Nf h2,Nd (by simp)]
  ·rw[Nd h2,Nd h2];by_cases h3:bits.length<a+18;·rw[Nf h3,Nf h3,Nd (by simp)]
   ·rw[Nd h3,Nd h3];by_cases h4:val ((bits.drop (a+3)).take 15)=0;·rw[Nf h4,Nf h4,Nd (by simp)]
    ·rw[Nd h4,Nd h4,Nf rfl]
theorem Mw(bits:List Nat)(a:Nat)(hb:au bits)(h:(eA bits a).2.2=0):2<=(eA bits a).1/\(eA bits a).1<=6/\(eA bits a).2.1<=32767/\a+18<=bits.length:=by
 unfold eA at h |-;by_cases h1:bits.length<a+3;·rw[Nf h1]at h;cases h
 ·rw[Nd h1]at h |-;by_cases h2:val ((bits.drop a).take 3)<2\/6<val ((bits.drop a).take 3);·rw[Nf h2]at h;cases h
  ·rw[Nd h2]at h |-;by_cases h3:bits.length<a+18;·rw[Nf h3]at h;cases h
   ·rw[Nd h3]at h |-;by_cases h4:val ((bits.drop (a+3)).take 15)=0;·rw[Nf h4]at h;cases h
    ·rw[Nd h4];have h5:=gH _ ((hb.drop (a+3)).take 15);rw[NB,Ny,OJ (by omega)]at h5;exact⟨by dsimp only;omega,by dsimp only;omega,by dsimp only;omega,by omega⟩
theorem I3(bits:List Nat)(a:Nat):(eA bits a).2.2<=110:=by unfold eA;(repeat' split) <;>simp
theorem CC(w:World)(s:ByteArray)(at' n:Int)(hs:s.size<=2000000):
 Calls prog 73 #[.string s,.int .i64 at',.int .i64 n] w (Ec w (gD (ao s.data.toList) at' n)):=by
 have hE:(ao s.data.toList).length=8*s.size:=by rw[aC];rfl
 obtain⟨w1,hI⟩:∃w1,w1=w.alloc (.cells #[.slice none 0 0,.slice none 0 0] 43):=⟨_,rfl⟩;have HL:Below w.heap.size w w1:=cB hI;have HM:Blk w1 w.heap.size 43 #[.slice none 0 0,.slice none 0 0]:=dW hI;have hG:gD (ao s.data.toList) at' n=if at'<0\/((8*s.size:Nat):Int)<at'\/n<3\/258<n then([], [],0,2)else xu (ao s.data.toList) n.toNat at'.toNat:=by unfold gD;rw[hE]
 have h4:Hid (∀ (wx:World) (k:Nat),gD (ao s.data.toList) at' n=([], [],0,k)->Below w.heap.size w wx->Ec w (gD (ao s.data.toList) at' n) (.returned (.tuple #[.agg #[.slice none 0 0,.slice none 0 0],.int .i64 0,.int .i64 k])) ((wx.setCell ⟨w.heap.size,0,none⟩ (.slice none 0 0)).setCell ⟨w.heap.size,1,none⟩ (.slice none 0 0))):=aa fun wx k h1 h3=>by rw[h1];exact⟨_,rfl,GO _,(h3.setCell (p:=⟨w.heap.size,0,none⟩) (ag _) _).setCell (p:=⟨w.heap.size,1,none⟩) (ag _) _⟩
 have ho:Hid (∀ (wx:World) (v:Value) (T:List (List Int)) (P:List Int) (pl:Nat),gD (ao s.data.toList) at' n=(T,P,pl,0)->aJ wx v T P->Below w.heap.size w wx->Ec w (gD (ao s.data.toList) at' n) (.returned (.tuple #[v,.int .i64 pl,.int .i64 0])) wx):=aa fun wx v T P pl h1 h2 h3=>⟨v,by rw[h1];rfl,by rw[h1];exact h2,h3⟩;generalize Ec w (gD (ao s.data.toList) at' n)=PO at*;generalize gD (ao s.data.toList) at' n=ans at*;have h7:=aa hG;have hn:=aa HM;have hM:=aa HL;have HS:w1.heap.size=w.heap.size+1:=by rw[hI];simp
 have HV:=aa HS;have hB:=aa hI.symm;clear hG HM HL HS hI;have q0:=(ac hn.out 0).trans rfl;have q1:=(ac hn.out 1).trans rfl;have f0:=ae hn.out 0;have f1:=ae hn.out 1;by_cases h1:at'<0\/8*(s.size:Int)<at';·have h0:=h7.out;rw[Nf]at h0;have hz:=aa (lx w1 s at' (by omega) h1);have HE:=aa (h4.out w1 2 h0 hM.out);clear h0 h1 h4 ho h7 hE;go_enter func73,ntmps73;go_upto_region 1 with fail;rw[hB.out];clear hB;go_wp2_with fail;refine hz.out.mono ?_;rintro e w1 ⟨rfl,rfl⟩;go_wp2_with fail;refine NH (v:=.tuple #[.agg #[.slice none 0 0,.slice none 0 0],.int .i64 0,.int .i64 2]) ?_ rfl HE.out;simp[results,results73,go_sem,q0,q1]
 ·obtain⟨a,rfl⟩:=Qz (show 0<=at' by omega);have ha:a<=8*s.size:=by omega
  have hz:=aa (gv w1 s (a:Int) (by omega) (by omega) (by omega));have HI:=lY w1 w1.heap.size (ag _) s a;have H1:Below w1.heap.size w1 (w1.alloc (.cells #[.bool true,.string s,.int .i64 a] 107)):=(Nj _ _).alloc (ag _) _;have HN:=aO H1 hn.out;have hA:=aa HI;have hc:=aa HN;have hl:=aa (aq hM.out H1);have hy:=aa fun(wx:World)=>mR wx n;clear HI H1 HN h1 q0 q1 f0 f1;by_cases h2:3<=n/\n<=258
  ·rw[Nn h2]at hy;obtain⟨m,rfl⟩:=Qz (show 0<=n by omega);have h0:=h7.out;rw[Nd,Nv,Nv,Hx]at h0;have he:=aa h0;have hv:=Mw (ao s.data.toList) a (bh _);rw[hE]at hv;have hi:=aa hv;have hh:=aa fun(wx:World) (hR:IsR w1.heap.size wx w1.heap.size s a)=>zK w1.heap.size wx w1.heap.size s a hR hs ha;obtain⟨⟨T,K,z⟩,H3⟩:∃c,c=eA (ao s.data.toList) a:=⟨_,rfl⟩;rw[<- H3]at he hi hh;have HT:z<=110:=(by have:=I3 (ao s.data.toList) a;rw[<- H3]at this;exact this);have p1:=aa HT;obtain⟨bits,h9⟩:∃bits,bits=ao s.data.toList:=⟨_,rfl⟩;have h5:=aa h9;have HB:=aa hE;rw[<- h9]at he;clear h0 hv H3 h7 HT hE h9;go_enter func73,ntmps73;go_upto_region 1 with fail;rw[hB.out];clear hB;go_wp2_with fail;refine hz.out.mono ?_;rintro e w2 ⟨rfl,hJ⟩;rw[<- hJ]at hA hc hl;clear hJ hz hn hM;generalize w1.heap.size=p at*;go_wp2_with fail;refine(hy.out w2).mono ?_;rintro e w2 ⟨rfl,rfl⟩;clear hy;go_wp2_with fail;refine(hh.out w2 hA.out).mono ?_;rintro e w3 ⟨rfl,hD,hP⟩;dsimp only at hD |-;have hW:w.heap.size<p:=(by rw[HV.out];exact PP _);have hw:Blk w3 w.heap.size 43 #[.slice none 0 0,.slice none 0 0]:=(hP.below.block w.heap.size hW).trans hc.out;have hT:=hl.out.trans (hP.below.mono (NT hW));have HC:=aa hw;have HA:=aa hT;by_cases ez:z=0
   ·subst ez;have hD:=hD rfl;obtain⟨HX,HJ,hK,hr⟩:=hi.out rfl;have h0:=he.out;rw[Nf rfl]at h0;unfold BN at h0;have hO:=tJ p w3 p s (a+18) T K hD hs hr HX HJ (by omega);have hb:=iW bits T (by omega) K [0,1,2,3,4,5] (a+18) [] (by rw[h5.out,HB.out];exact hr);rw[<- h5.out]at hO;obtain⟨⟨X,q,y⟩,HO⟩:∃c,c=aS bits T K [0,1,2,3,4,5] (a+18) []:=⟨_,rfl⟩;rw[<- HO]at hO h0 hb;dsimp only at h0 hb;rw[h5.out,HB.out]at hb;have hY:=aa hO;have hf:=aa h0;have hp:=aa hb;clear hw hT hD hP hr h0 hO hb HO he hi hh hA hc hl;go_wp2_with fail;refine hY.out.mono ?_;rintro e w4 ⟨v4,rfl,hH,hq,hQ⟩;dsimp only at hH hq |-;have hx:Blk w4 w.heap.size 43 #[.slice none 0 0,.slice none 0 0]:=(hQ.below.block w.heap.size hW).trans HC.out;have hV:=HA.out.trans (hQ.below.mono (NT hW));have hF:=aa hx;have hm:=aa hV;by_cases ey:y=0
    ·subst ey;have hq:=hq rfl;have h0:=hf.out;rw[Nf rfl]at h0;have hS:=vC w4 s q m T hs hp.out.1 (by omega) HJ;rw[<- h5.out]at hS;obtain⟨⟨TS,q5,z5⟩,HQ⟩:∃c,c=gG bits m T q []:=⟨_,rfl⟩;rw[<- HQ]at hS h0;dsimp only at h0;have hZ:=aa hS;have hg:=aa h0;have hX:=aa (nS w4 p (q:Nat) (by have:=ac hq.blk 0;simpa using this) (by have:=ac hq.blk 2;simpa using this));obtain⟨A4,c4,rfl,H2,p0,HW⟩:=ai hH;have hN:=aa hH;clear hx hV hq hQ h0 hS HQ hH HW hY hf hp HC HA;obtain⟨xl,H8⟩:∃xl,xl=X.length:=⟨_,rfl⟩;rw[<- H8]at hN H2 |-;have HU:=aa H8;clear H8;go_wp2_with fail;refine hX.out.mono ?_;rintro e w4 ⟨rfl,rfl⟩;go_wp2_with fail;refine hZ.out.mono ?_;intro e w5 hu;rcases hu with⟨hL,A5,c5,F,C,rfl,hC,H0,HD⟩|⟨hL,rfl,hj⟩
     ·dsimp only at hL H0 |-;subst hL;have hj:=hC.below;have h6:=aO hj hF.out;have h8:=aq hm.out hj;have HF:mA w w5 (.slice A5 T c5) T F C:=⟨World.ownsRow.mono hC.row hm.out.size,fun t ht=>⟨(hC.each t ht).1,World.ownsRow.mono (hC.each t ht).2 hm.out.size⟩,h8⟩;have H5:=fw hN.out hj;have HG:=HF.store h6 (by decide) (by decide) (ag _) 0 (.slice A5 T c5);have H4:=ay h6 0 (.slice A5 T c5);have HH:=HG.store H4 (by decide) (by decide) (ag _) 1 (.slice A4 xl c4)
      have H7:ak w.heap.size [w.heap.size] [] w5 ((w5.setCell ⟨w.heap.size,0,none⟩ (.slice A5 T c5)).setCell ⟨w.heap.size,1,none⟩ (.slice A4 xl c4)):=
       ((ak.refl _ _ _ _).set (p:=⟨w.heap.size,0,none⟩) (ag _) (by simp) _).set (p:=⟨w.heap.size,1,none⟩) (ag _) (by simp) _
      have H6:=H7.row H5 (fun k hk=>by rw[Og];exact dV H5 h6 (by decide) k hk) aw;have HZ:=ay H4 1 (.slice A4 xl c4);obtain⟨_,_,HR,HY,_,_⟩:=ai hC.row;simp only[Ol]at HR;obtain⟨rfl,_,rfl⟩:=HR;have h0:=hg.out;rw[Nf rfl]at h0;have HK:TS.map zL=(List.range T).map fun t=>zL (C t):=(by rw[<- H0,Ou];rfl);rw[HK]at h0
      have HP:aJ _ (.agg #[.slice A5 T c5,.slice A4 xl c4]) ((List.range T).map fun t=>zL (C t)) (zL X):=
       ⟨_,T,c5,_,xl,c4,rfl,HH.tabZ (fun t ht=>by have:=HD t ht;omega),HY,by unfold maxLen;omega,by rw[HU.out]at H6 |-;exact dw (aE H6),H2,ND H2 p0⟩
      have HE:=aa (ho.out _ _ _ _ q5 h0 HP (h8.trans H7.below));have g0:=(ac h6 0).trans (rfl:_=some (Value.slice none 0 0));have g1:=(ac h6 1).trans (rfl:_=some (Value.slice none 0 0));have f0:=ae h6 0;have f1:=ae h6 1;clear hj h6 h8 HF H5 HG H4 HH H7 H6 HZ h0 HK HP hC H0 HD ho h4 hg hZ hX hN hF hm;go_wp2_with fail;refine NH (v:=.tuple #[.agg #[.slice A5 T c5,.slice A4 xl c4],.int .i64 q5,.int .i64 0]) ?_ rfl HE.out;simp[results,results73,go_sem,g0,g1]
     ·dsimp only at hL |-;have h6:=aO hj hF.out;have h8:=aq hm.out hj;have h0:=hg.out;rw[Nd hL]at h0;have HE:=aa (h4.out w5 z5 h0 h8);have g0:=(ac h6 0).trans (rfl:_=some (Value.slice none 0 0));have g1:=(ac h6 1).trans (rfl:_=some (Value.slice none 0 0));have f0:=ae h6 0;have f1:=ae h6 1;have dz2:((z5:Int) != 0)=true:=(by rw[Pe];omega);clear h6 h8 h0 hj ho h4 hg hZ hX hN hF hm;go_wp2_with fail;refine NH (v:=.tuple #[.agg #[.slice none 0 0,.slice none 0 0],.int .i64 0,.int .i64 z5]) ?_ rfl HE.out;simp[results,results73,go_sem,g0,g1]
    ·have h0:=hf.out;rw[Nd ey]at h0;have HE:=aa (h4.out w4 y h0 hV);have g0:=(ac hx 0).trans (rfl:_=some (Value.slice none 0 0));have g1:=(ac hx 1).trans (rfl:_=some (Value.slice none 0 0));have f0:=ae hx 0;have f1:=ae hx 1;have dz2:((y:Int) != 0)=true:=(by rw[Pe];omega);clear h0 hx hV hH hq hQ hY hf hp ho h4 hF hm;go_wp2_with fail;refine NH (v:=.tuple #[.agg #[.slice none 0 0,.slice none 0 0],.int .i64 0,.int .i64 y]) ?_ rfl HE.out;simp[results,results73,go_sem,g0,g1]
   ·have h0:=he.out;rw[Nd ez]at h0;have HE:=aa (h4.out w3 z h0 hT);have g0:=(ac hw 0).trans (rfl:_=some (Value.slice none 0 0));have g1:=(ac hw 1).trans (rfl:_=some (Value.slice none 0 0));have f0:=ae hw 0;have f1:=ae hw 1;have dz2:((z:Int) != 0)=true:=(by rw[Pe];omega);clear h0 hw hT hD hP he hi hh ho h4 hA hc hl;go_wp2_with fail;refine NH (v:=.tuple #[.agg #[.slice none 0 0,.slice none 0 0],.int .i64 0,.int .i64 z]) ?_ rfl HE.out;simp[results,results73,go_sem,g0,g1]
  ·rw[Nl h2]at hy;have h0:=h7.out;rw[Nf]at h0;have he:=aa h0;clear h0 h7 hE h2;go_enter func73,ntmps73;go_upto_region 1 with fail;rw[hB.out];clear hB;go_wp2_with fail;refine hz.out.mono ?_;rintro e w2 ⟨rfl,hJ⟩;rw[<- hJ]at hA hc hl;clear hJ hz hn hM hA;go_wp2_with fail;refine(hy.out w2).mono ?_;rintro e w2 ⟨rfl,rfl⟩;have HE:=aa (h4.out w2 2 he.out hl.out);have g0:=(ac hc.out 0).trans (rfl:_=some (Value.slice none 0 0));have g1:=(ac hc.out 1).trans (rfl:_=some (Value.slice none 0 0));have f0:=ae hc.out 0;have f1:=ae hc.out 1;clear hy h4 ho he hc hl;go_wp2_with fail;refine NH (v:=.tuple #[.agg #[.slice none 0 0,.slice none 0 0],.int .i64 0,.int .i64 2]) ?_ rfl HE.out;simp[results,results73,go_sem,g0,g1]
theorem oH(l bs:List Nat)(en:Int)(h:fy l):∀(k a:Nat) (o:List Nat),o.length<=a->a<=bs.length->(gf l bs en k a o).1.length<=bs.length/\(gf l bs en k a o).2.1<=bs.length/\(gf l bs en k a o).2.2<=90
 | 0,a,o,h1,h2=>⟨ND h1 h2,h2,Ng _⟩
 | k+1,a,o,h1,h2=>by
  rw[qG]
  cases hx:kF l (bs.drop a)with
  | hit i=>
   have h0:=uz 20 1 (show gL l (bs.drop a) 20 1=.hit i from hx);have h3:=(h.one h0.2.1).1;have h4:=h0.1;rw[Ny]at h4;have h5:(o++ [i]).length<=a+l.getD i 0:=(by rw[Nb];show o.length+1<=_;omega);show(if(i:Int)=en then(o++ [i],a+l.getD i 0,0)else gf l bs en k (a+l.getD i 0) (o++ [i])).1.length<=_/\(if(i:Int)=en then(o++ [i],a+l.getD i 0,0)else gf l bs en k (a+l.getD i 0) (o++ [i])).2.1<=_/\(if(i:Int)=en then(o++ [i],a+l.getD i 0,0)else gf l bs en k (a+l.getD i 0) (o++ [i])).2.2<=_;by_cases e:(i:Int)=en;·rw[Nf e];exact⟨by show(o++ [i]).length<=_;omega,by show a+l.getD i 0<=_;omega,Ng _⟩
   ·rw[Nd e];exact oH l bs en h k _ _ h5 (by omega)
  | short=>exact⟨Ng _,Ng _,by show 10<=90;omega⟩
  | code=>exact⟨Ng _,Ng _,Nk _⟩
theorem tY(T:List (List Nat))(P bits:List Nat)(n0 g r:Nat)(pre:List Nat)(h0:1<=n0):∀(k a:Nat) (out:List Nat),k<=50->(∀ x∈out,x+1≠n0)->
 ((gf (T.getD (P.getD g 0) []) bits (n0-1:Nat) k a out).2.2≠0/\nX T P bits n0 (k+r) (50*g+(50-k)) a (pre++out)=([],0,(gf (T.getD (P.getD g 0) []) bits (n0-1:Nat) k a out).2.2))\/
 ((gf (T.getD (P.getD g 0) []) bits (n0-1:Nat) k a out).2.2=0/\(∃ o,(gf (T.getD (P.getD g 0) []) bits (n0-1:Nat) k a out).1=o++ [n0-1])/\nX T P bits n0 (k+r) (50*g+(50-k)) a (pre++out)=(pre++(gf (T.getD (P.getD g 0) []) bits (n0-1:Nat) k a out).1,(gf (T.getD (P.getD g 0) []) bits (n0-1:Nat) k a out).2.1,0))\/
 ((gf (T.getD (P.getD g 0) []) bits (n0-1:Nat) k a out).2.2=0/\(∀ x∈(gf (T.getD (P.getD g 0) []) bits (n0-1:Nat) k a out).1,x+1≠n0)/\(gf (T.getD (P.getD g 0) []) bits (n0-1:Nat) k a out).1.length=out.length+k/\nX T P bits n0 (k+r) (50*g+(50-k)) a (pre++out)=nX T P bits n0 r (50*g+50) (gf (T.getD (P.getD g 0) []) bits (n0-1:Nat) k a out).2.1 (pre++(gf (T.getD (P.getD g 0) []) bits (n0-1:Nat) k a out).1))
 | 0,a,out,_,ho=>.inr (.inr ⟨rfl,ho,rfl,by rw[N8,QF];rfl⟩)
 | k+1,a,out,hk,ho=>by
  have hi:(50*g+(50-(k+1)))/50=g:=by omega
  rw[qG,show k+1+r=(k+r)+1 by omega,qV,hi]
  cases hx:kF (T.getD (P.getD g 0) []) (bits.drop a)with
  | hit x=>
   dsimp only;by_cases e:x+1=n0
   ·have e1:((x:Int)=((n0-1:Nat):Int)):=(by omega);rw[Nf e1,Nf e];refine .inr (.inl ⟨rfl,⟨out,?_⟩,?_⟩);·rw[show n0-1=x by omega]
    ·simp
   ·have e1:¬((x:Int)=((n0-1:Nat):Int)):=(by omega);rw[Nd e1,Nd e]
    have ih:=tY T P bits n0 g r pre h0 k (a+(T.getD (P.getD g 0) []).getD x 0) (out++ [x]) (by omega) (fun y hy=>by
     rcases List.mem_append.1 hy with hy|hy
     ·exact ho y hy
     ·rw[List.mem_singleton.1 hy]
      exact e)
    rw[show 50*g+(50-(k+1))+1=50*g+(50-k) by omega,Ni];rcases ih with⟨h1,h2⟩|⟨h1,h2,h3⟩|⟨h1,h2,h3,h4⟩;·exact .inl ⟨h1,h2⟩
    ·exact .inr (.inl ⟨h1,h2,h3⟩)
    ·exact .inr (.inr ⟨h1,h2,by rw[h3,Nb,NP];omega,h4⟩)
  | short=>exact .inl ⟨by show(10:Nat)≠0;omega,rfl⟩
  | code=>exact .inl ⟨by show(90:Nat)≠0;omega,rfl⟩
theorem IZ(w:World)(v:Value)(T:List (List Int))(P:List Int)(h:aJ w v T P)(s:ByteArray)(at':Int)(hM:¬aV T P):
 Calls prog 74 #[v,.string s,.int .i64 at'] w (cn w (mD T P (ao s.data.toList) at')):=by rw[show mD T P (ao s.data.toList) at'=([],0,110)from Nd hM];obtain⟨A,q,c,B,m,d,rfl,_⟩:=id h;have h1:Below w.heap.size w (w.alloc (.cells #[.slice A q c,.slice B m d] 43)):=(Nj _ _).alloc (ag _) _;have h5:=aj w 43 #[.slice A q c,.slice B m d];have HM:=aa (dR _ _ T P (h.below h1));rw[Nl hM]at HM;have h2:=aa h1;have h0:=aa h5;have h3:Hid (∀ w',Below w.heap.size w w'->cn w ([],0,110) (.returned (.tuple #[.slice none 0 0,.int .i64 0,.int .i64 110])) w'):=aa fun w' hb=>⟨_,rfl,Nt _ _ _ _,hb⟩;generalize cn w ([],0,110)=PO at*;clear h hM h1 h5;go_enter func74,ntmps74;go_upto_region 1 with fail;generalize w.alloc (.cells #[.slice A q c,.slice B m d] 43)=w1 at*;have p0:w1.cell? ⟨w.heap.size,0,none⟩=some (.slice A q c):=(ac h0.out 0).trans rfl;have p1:w1.cell? ⟨w.heap.size,1,none⟩=some (.slice B m d):=(ac h0.out 1).trans rfl;go_wp2_with fail;refine HM.out.mono ?_;rintro e w2 ⟨rfl,h4⟩;have HE:=aa (h3.out w2 (aq h2.out h4));clear h4 h3 h2 h0 HM;go_wp2_with fail;(first|go_ret3|skip);exact HE.out
theorem IY(w:World)(v:Value)(T:List (List Int))(P:List Int)(h:aJ w v T P)(s:ByteArray)(at':Int)(hs:s.size<=2000000)(hl: -9223372036854775808<=at')(hh:at'<=9223372036854775807)(hP:aV T P)(hG:at'<0\/8*(s.size:Int)<at'):
 Calls prog 74 #[v,.string s,.int .i64 at'] w (cn w (mD T P (ao s.data.toList) at')):=by
 have hn:(ao s.data.toList).length=8*s.size:=by rw[aC];rfl
 rw[show mD T P (ao s.data.toList) at'=([],0,2) by rw[mD,Nf hP,Nf (by rw[hn];omega)]];obtain⟨A,q,c,B,m,d,rfl,hT,hQ,hq,hj,hN,hO⟩:=id h;have hA:=hT.1;have hH:=hj.1;have hI:2<=q/\q<=6:=by have h1:=hP.1;have h2:=hP.2.1;omega
 have hK:1<=m/\m<=32767:=by have h1:=hP.2.2.1;have h2:=hP.2.2.2.1;omega
 obtain⟨tb,tq,rfl,hp⟩:=hT.2 (by omega);obtain⟨b,off,rfl,hC⟩:=hj.2 (by omega);have hF:0<=P.getD 0 0/\(P.getD 0 0).toNat<q:=by
  have:=hP.2.2.2.2.2.1 (P.getD 0 0) (by
   rw[Na,Nc (by omega)]
   exact NM _)
  rw[hA]at this;omega
 have h3:∀i,i<q->(T.getD i []).length=(T.getD 0 []).length/\bK (T.getD i []):=fun i hi=>hP.2.2.2.2.1 _ (nU T i (by omega));obtain⟨m0,h9⟩:∃m0,m0=(T.getD 0 []).length:=⟨_,rfl⟩;rw[<- h9]at h3;have hL:3<=m0/\m0<=258:=by have h1:=hP.2.2.2.2.2.2;have h2:=(h3 0 (by omega)).2.2.1;rw[<- h9]at h1;rw[(h3 0 (by omega)).1]at h2;omega
 have hk:Below w.heap.size w (w.alloc (.cells #[.slice (some ⟨tb,tq,none⟩) q c,.slice (some ⟨b,off,none⟩) m d] 43)):=(Nj _ _).alloc (ag _) _;have hx:=aj w 43 #[.slice (some ⟨tb,tq,none⟩) q c,.slice (some ⟨b,off,none⟩) m d];have HM:=aa (dR _ _ T P (h.below hk));rw[Nn hP]at HM;obtain⟨y,hy⟩:∃y,y=(P.getD 0 0).toNat:=⟨_,rfl⟩;have hD:P.getD 0 0=(y:Int):=by omega
 have hE:y<q:=by omega
 obtain⟨A2,c2,h1,h2,_,h4⟩:=hp y hE;obtain⟨A0,c0,hg,_,_,_⟩:=hp 0 (by omega);rw[NY,<-h9]at hg;obtain⟨htl,hB⟩:=h3 y hE;have hv:w.cell? ⟨tb,tq+y,none⟩=some (.slice A2 m0 c2):=by rw[<- htl];exact h1
 have h7:w.cell? ⟨b,off,none⟩=some (.int .i64 (y:Int)):=by rw[<- hD];have:=hC 0 (by omega);rw[NY]at this;exact this
 have h5:=aa fun(W:World) (hb:Below w.heap.size w W)=>show Calls prog 127 #[.slice A2 m0 c2,.string s,.int .i64 at',.int .i64 50,.int .i64 ((m0:Int)-1)] W (cn W ([],0,2))from by
  have hz:ZIn W A2 m0 (T.getD y []):=by rw[<- htl];exact h2.below hb
  have hc:=zD W A2 m0 c2 (T.getD y []) s at' 50 ((m0:Int)-1) hz (by unfold maxLen;omega) hs hl hh (by omega) (by omega) (by omega) (by omega)
  rw[show fP (T.getD y []) (ao s.data.toList) at' 50 ((m0:Int)-1)=([],0,2) by
   unfold fP
   rw[Nf hB,Nf (by rw[hn];omega)]]at hc
  exact hc
 have hu:Hid (∀ w',Below w.heap.size w w'->cn w ([],0,2) (.returned (.tuple #[.slice none 0 0,.int .i64 0,.int .i64 2])) w'):=aa fun w' hb=>⟨_,rfl,Nt _ _ _ _,hb⟩;generalize cn w ([],0,2)=PO at*;have ht:=aa hk;have h8:=aa hx;have he:=aa hv;have ha:=aa hg;have hf:=aa h7;have hR:(0:Int)<=(y:Int):=by omega
 have hJ:(y:Int)<(q:Int):=by omega
 have hM:(0:Int)<(m:Int):=by omega
 clear h hk hx hP hT hj hp hC hF h3 h9 hA hH hy hD h1 h2 h4 hg htl hB hv h7 hn hG;go_enter func74,ntmps74;go_upto_region 1 with fail;generalize w.alloc (.cells #[.slice (some ⟨tb,tq,none⟩) q c,.slice (some ⟨b,off,none⟩) m d] 43)=w1 at*;have p0:w1.cell? ⟨w.heap.size,0,none⟩=some (.slice (some ⟨tb,tq,none⟩) q c):=(ac h8.out 0).trans rfl;have p1:w1.cell? ⟨w.heap.size,1,none⟩=some (.slice (some ⟨b,off,none⟩) m d):=(ac h8.out 1).trans rfl;go_wp2_with fail;refine HM.out.mono ?_;rintro e w2 ⟨rfl,hm⟩;have ho:=aO hm h8.out;have h0:=aq ht.out hm;have p0:w2.cell? ⟨w.heap.size,0,none⟩=some (.slice (some ⟨tb,tq,none⟩) q c):=(ac ho 0).trans rfl;have p1:w2.cell? ⟨w.heap.size,1,none⟩=some (.slice (some ⟨b,off,none⟩) m d):=(ac ho 1).trans rfl;have k0:w2.cell? ⟨tb,tq,none⟩=some (.slice A0 m0 c0):=(h0.cell (p:=⟨tb,tq,none⟩) (No w _ ha.out)).trans ha.out;have k1:w2.cell? ⟨tb,tq+y,none⟩=some (.slice A2 m0 c2):=(h0.cell (p:=⟨tb,tq+y,none⟩) (No w _ he.out)).trans he.out;have k2:w2.cell? ⟨b,off,none⟩=some (.int .i64 (y:Int)):=(h0.cell (p:=⟨b,off,none⟩) (No w _ hf.out)).trans hf.out;have hr:=aa (h5.out w2 h0);have h6:=aa h0;clear hm ho h0 HM ht h8 he ha hf h5;go_wp2_with fail;go_loopw [2,9,12,13,14,15,28] (fun av lv s12 s13 s14 s15 iv' wx=>av=.int .i64 at'/\lv=.slice none 0 0/\iv'=.int .i64 0/\wx=w2) (fun _ _ _ _ _ _ iv' _=>m-(intOf iv').toNat)
 case atStart=>exact⟨rfl,rfl,rfl,rfl⟩
 case round=>obtain⟨rfl,rfl,rfl,rfl⟩:=hrel;go_wp2_with fail;refine hr.out.mono ?_;rintro e w3 ⟨v3,rfl,_,hw⟩;have HE:=aa (hu.out w3 (aq h6.out hw));clear hw hu h6 hr;go_wp2_with fail;(first|go_ret3|skip);exact HE.out
theorem I0(w:World)(v:Value)(T:List (List Int))(P:List Int)(h:aJ w v T P)(s:ByteArray)(at':Int)(hs:s.size<=2000000)(hP:aV T P)(H8:0<=at')(p9:at'<=8*(s.size:Int)):
 Calls prog 74 #[v,.string s,.int .i64 at'] w (cn w (mD T P (ao s.data.toList) at')):=by
 have hE:(ao s.data.toList).length=8*s.size:=by rw[aC];rfl
 obtain⟨a0,rfl⟩:=Qz H8;have p8:a0<=8*s.size:=by omega
 obtain⟨bits,h0⟩:∃bits,bits=ao s.data.toList:=⟨_,rfl⟩;obtain⟨A,q,c,B,m,d,rfl,hT,q1,hq,HC,pv,q0⟩:=id h;have p2:=hT.1;have HZ:=HC.1;have pk:2<=q/\q<=6:=by have h1:=hP.1;have h2:=hP.2.1;omega
 have pr:1<=m/\m<=32767:=by have h1:=hP.2.2.1;have h2:=hP.2.2.2.1;omega
 obtain⟨tb,tq,rfl,HS⟩:=hT.2 (by omega);obtain⟨b,off,rfl,p4⟩:=HC.2 (by omega);have HW:∀i,i<m->0<=P.getD i 0/\(P.getD i 0).toNat<q:=fun i hi=>by
  have:=hP.2.2.2.2.2.1 (P.getD i 0) (by
   rw[Na,Nc (by omega)]
   exact NM _)
  rw[p2]at this;omega
 have h7:∀i,i<q->(T.getD i []).length=(T.getD 0 []).length/\bK (T.getD i []):=fun i hi=>hP.2.2.2.2.1 _ (nU T i (by omega));obtain⟨m0,hR⟩:∃m0,m0=(T.getD 0 []).length:=⟨_,rfl⟩;rw[<- hR]at h7;have ps:3<=m0/\m0<=258:=by have h1:=hP.2.2.2.2.2.2;have h2:=(h7 0 (by omega)).2.2.1;rw[<- hR]at h1;rw[(h7 0 (by omega)).1]at h2;omega
 have HF:Below w.heap.size w (w.alloc (.cells #[.slice (some ⟨tb,tq,none⟩) q c,.slice (some ⟨b,off,none⟩) m d] 43)):=(Nj _ _).alloc (ag _) _;have HY:=aj w 43 #[.slice (some ⟨tb,tq,none⟩) q c,.slice (some ⟨b,off,none⟩) m d];have HM:=aa (dR _ _ T P (h.below HF));rw[Nn hP]at HM;obtain⟨A0,c0,HB,_,_,_⟩:=HS 0 (by omega);rw[NY,<-hR]at HB;obtain⟨n1,HN⟩:∃n1,n1=m0-1:=⟨_,rfl⟩;have pf:(m0:Int)-1=(n1:Int):=by omega
 have hA:=aa fun(W:World) (hb:Below w.heap.size w W) (y:Nat) (hl:y<q) (A2:Option Addr) (c2:Nat) (h2:ZIn w A2 m0 (T.getD y [])) (a:Nat) (ha:a<=8*s.size)=>show Calls prog 127 #[.slice A2 m0 c2,.string s,.int .i64 a,.int .i64 50,.int .i64 (n1:Nat)] W (cn W (gf (nl (T.getD y [])) bits (m0-1:Nat) 50 a []))from by
  have hc:=zD W A2 m0 c2 (T.getD y []) s (a:Int) 50 ((n1:Nat):Int) (h2.below hb) (by unfold maxLen;omega) hs (by omega) (by omega) (by omega) (by omega) (by omega) (by omega)
  rw[show fP (T.getD y []) (ao s.data.toList) (a:Int) 50 ((n1:Nat):Int)=gf (nl (T.getD y [])) bits (m0-1:Nat) 50 a [] by
   unfold fP
   rw[Nf (h7 y hl).2,Nd (by rw[hE];omega),h0,HN]
   rfl]at hc
  exact hc
 have H6:=aa fun(y:Nat) (hl:y<q) (a:Nat) (ha:a<=8*s.size)=>show(gf (nl (T.getD y [])) bits (m0-1:Nat) 50 a []).2.1<=8*s.size from by have h:=(oH (nl (T.getD y [])) bits (m0-1:Nat) (fM (h7 y hl).2) 50 a [] (Ng _) (by rw[h0,hE];exact ha)).2.1;rw[h0,hE]at h;rw[h0];exact h
 have hh:=aa fun(y:Nat) (hl:y<q) (a:Nat) (ha:a<=8*s.size)=>show(gf (nl (T.getD y [])) bits (m0-1:Nat) 50 a []).1.length<=8*s.size from by have h:=(oH (nl (T.getD y [])) bits (m0-1:Nat) (fM (h7 y hl).2) 50 a [] (Ng _) (by rw[h0,hE];exact ha)).1;rw[h0,hE]at h;rw[h0];exact h
 have hC:=aa fun(i r:Nat) (pre:List Nat) (a:Nat)=>tY (T.map nl) (nl P) bits m0 i r pre (by omega) 50 a [] (ag _) (fun x hx=>by cases hx);have h5:mD T P (ao s.data.toList) (a0:Int)=nX (T.map nl) (nl P) bits m0 (50*m) 0 a0 []:=by rw[mD,Nf hP,Nd (by rw[hE];omega),HZ,<-hR,Nv,h0]
 rw[h5];obtain⟨ANS,hD⟩:∃ANS,ANS=nX (T.map nl) (nl P) bits m0 (50*m) 0 a0 []:=⟨_,rfl⟩;rw[<- hD];have hB:=aa hD;have hV:Hid (∀ w' v (X:List Nat) (n:Nat),ANS=(X,n,0)->w'.ownsRow w.heap.size 3 1 v X.length (X.map iv)->Below w.heap.size w w'->cn w ANS (.returned (.tuple #[v,.int .i64 n,.int .i64 0])) w'):=aa fun w' v X n h1 h2 h4=>by rw[h1];exact⟨v,rfl,h2,h4⟩
 have hM:Hid (∀ w' (z:Nat),ANS=([],0,z)->Below w.heap.size w w'->cn w ANS (.returned (.tuple #[.slice none 0 0,.int .i64 0,.int .i64 z])) w'):=aa fun w' z h1 h4=>by rw[h1];exact⟨_,rfl,Nt _ _ _ _,h4⟩
 generalize cn w ANS=PO at*;have H7:Hid (∀ y,y<q->∃A2 c2,w.cell? ⟨tb,tq+y,none⟩=some (.slice A2 m0 c2)/\ZIn w A2 m0 (T.getD y [])):=aa fun y hy=>by obtain⟨A2,c2,h1,h2,_,_⟩:=HS y hy;rw[(h7 y hy).1]at h1 h2;exact⟨A2,c2,h1,h2⟩
 have H5:Hid (∀ i,i<m->∃y:Nat,y<q/\w.cell? ⟨b,off+i,none⟩=some (.int .i64 (y:Int))/\(nl P).getD i 0=y):=aa fun i hi=>by
  obtain⟨h1,h2⟩:=HW i hi;refine⟨(P.getD i 0).toNat,h2,?_,?_⟩;·rw[p4 i hi];congr 2;omega
  ·unfold nl;rw[Na,Na,Np];cases P[i]? <;>rfl
 have H4:Hid (∀ y,(T.map nl).getD y []=nl (T.getD y [])):=aa fun y=>by rw[Na,Na,Np];cases T[y]? <;>rfl
 have HT:=aa HF;have hS:=aa HY;have H3:=aa HB;have p5:=aa HN;clear h HF HY hP hT HC HS p4 HW h7 hR p2 HZ HB hE p9 h5 hD h0 HN;go_enter func74,ntmps74;go_upto_region 1 with fail;generalize w.alloc (.cells #[.slice (some ⟨tb,tq,none⟩) q c,.slice (some ⟨b,off,none⟩) m d] 43)=w1 at*;have p0:w1.cell? ⟨w.heap.size,0,none⟩=some (.slice (some ⟨tb,tq,none⟩) q c):=(ac hS.out 0).trans rfl;have p1:w1.cell? ⟨w.heap.size,1,none⟩=some (.slice (some ⟨b,off,none⟩) m d):=(ac hS.out 1).trans rfl;go_wp2_with fail;refine HM.out.mono ?_;rintro e w2 ⟨rfl,HH⟩;have HL:=aO HH hS.out;have hp:=aq HT.out HH;have p0:w2.cell? ⟨w.heap.size,0,none⟩=some (.slice (some ⟨tb,tq,none⟩) q c):=(ac HL 0).trans rfl;have p1:w2.cell? ⟨w.heap.size,1,none⟩=some (.slice (some ⟨b,off,none⟩) m d):=(ac HL 1).trans rfl;have k0:w2.cell? ⟨tb,tq,none⟩=some (.slice A0 m0 c0):=(hp.cell (p:=⟨tb,tq,none⟩) (No w _ H3.out)).trans H3.out;have hm:=aa hp;have hj:=hp.size;clear HH HL hp HM HT hS H3;go_wp2_with fail;go_loopw [2,9,12,13,14,15,28] (fun av lv s12 s13 s14 s15 iv' wx=>∃(i a N c9:Nat) (A9:Option Addr) (out:List Nat),i<=m/\iv'=.int .i64 i/\av=.int .i64 a/\lv=.slice A9 N c9/\wx.ownsRow w2.heap.size 3 1 (.slice A9 N c9) N (out.map iv)/\Below w2.heap.size w2 wx/\Hid (out.length=N/\N<=50*i/\a<=8*s.size/\nX (T.map nl) (nl P) bits m0 (50*(m-i)) (50*i) a out=ANS)) (fun _ _ _ _ _ _ iv' _=>m-(intOf iv').toNat)
 case atStart=>exact⟨0,a0,0,0,none, [],Ng _,rfl,rfl,rfl,Nt _ _ _ _,Nj _ _,⟨rfl,Nk _,p8,hB.out.symm⟩⟩
 case round=>
  rename World=>wx;obtain⟨i,a,N,c9,A9,out,hi,rfl,rfl,rfl,ho,hJ,hI⟩:=hrel;by_cases e:i<m
  ·have pn:(0:Int)<=(i:Int):=(by omega);have po:(i:Int)<(m:Int):=(by omega);obtain⟨y,hl,HR,p3⟩:=H5.out i e;obtain⟨A2,c2,h1,h2⟩:=H7.out y hl;have hu:Below w.heap.size w wx:=hm.out.trans (hJ.mono hj);have p0x:wx.cell? ⟨w.heap.size,0,none⟩=some (.slice (some ⟨tb,tq,none⟩) q c):=(hJ.cell (p:=⟨w.heap.size,0,none⟩) (No w2 _ p0)).trans p0;have k1:wx.cell? ⟨tb,tq+y,none⟩=some (.slice A2 m0 c2):=(hu.cell (p:=⟨tb,tq+y,none⟩) (No w _ h1)).trans h1;have k2:wx.cell? ⟨b,off+i,none⟩=some (.int .i64 (y:Int)):=(hu.cell (p:=⟨b,off+i,none⟩) (No w _ HR)).trans HR;have HA:=aa (hA.out wx hu y hl A2 c2 h2 a hI.out.2.2.1);have H0:=H6.out y hl a hI.out.2.2.1;have hv:=hh.out y hl a hI.out.2.2.1;have hg:=hC.out i (50*(m-(i+1))) out a;rw[p3,H4.out y,show 50+50*(m-(i+1))=50*(m-i) by omega,Oz,NY,NU,hI.out.2.2.2]at hg;obtain⟨⟨X,q5,z5⟩,hr⟩:∃r,r=gf (nl (T.getD y [])) bits (m0-1:Nat) 50 a []:=⟨_,rfl⟩;rw[<- hr]at HA hg H0 hv;dsimp only at hg H0 hv;have HG:=aa hg;have hN:=aa H0;have HU:=aa hv;have HO:=aa ho;have H2:=aa hJ;have HI:=aa hI.out;have q3:(0:Int)<=(y:Int):=(by omega);have pm:(y:Int)<(q:Int):=(by omega);clear HR p3 h1 h2 hu H0 hv hg hr ho hJ hI;go_wp2_with fail;refine HA.out.mono ?_;rintro e w5 ⟨v5,rfl,hw,hH⟩;dsimp only at hw |-;have he:=aq H2.out hH;have ht:=hm.out.trans (he.mono hj);by_cases ez:z5=0
   ·subst ez;obtain⟨A5,c5,rfl,HJ,_,hW⟩:=ai hw;obtain⟨xl,hL⟩:∃xl,xl=X.length:=⟨_,rfl⟩;have q2:xl<=16000000:=(by have:=HU.out;omega);have HK:aB w5 A5 xl X:=(by rw[hL];exact aE hw);rw[<- hL]at hw HJ hW |-;have hQ:∃o x,X=o++ [x]/\((x+1=m0/\ANS=(out++X,q5,0))\/(x+1≠m0/\X.length=50/\nX (T.map nl) (nl P) bits m0 (50*(m-(i+1))) (50*i+50) q5 (out++X)=ANS)):=by
     rcases HG.out with⟨h1,_⟩|⟨_,⟨o,h2⟩,h3⟩|⟨_,h2,h3,h4⟩;·exact absurd rfl h1
     ·exact⟨o,m0-1,h2,.inl ⟨by omega,h3⟩⟩
     ·rw[Ox,N8]at h3;(have HP:X≠ []:=fun h=>by rw[h]at h3;cases h3);refine⟨X.dropLast,X.getLast HP,(List.dropLast_concat_getLast HP).symm,.inr ⟨h2 _ (List.getLast_mem HP),h3,h4.symm⟩⟩
    obtain⟨o,x,hX,h6⟩:=hQ;have hG:xl=o.length+1:=(by rw[hL,hX,Nb];rfl);obtain⟨g5,rfl⟩:=hW (by omega);have h9:=fw HO.out hH;obtain⟨v6,w6,hZ,hK,hY⟩:=bB w5 w2.heap.size (.slice A9 N c9) N _ h9 (some ⟨g5,0,none⟩) xl c5 X HK (by have:=HI.out.2.1;omega) (ND H2.out.size hH.size);have hn:Below w2.heap.size w2 w6:=he.grown hY he.size (fun k hk=>(NS h9 k hk).1);have HX:=(NS hw g5 rfl).1
    have hF:=OU hw hY (.inr fun e=>by
     have:=(NS HO.out g5 e.symm).2
     omega)
    have pb:w6.cell? ⟨g5,o.length,none⟩=some (.int .i64 (x:Nat)):=(by rw[Oy hF o.length (by omega),Np,hX,NO (ag _),Oz];rfl);obtain⟨ol,HQ⟩:∃ol,ol=o.length:=⟨_,rfl⟩;rw[<- HQ]at pb hG;have pl:(xl:Int)-1=(ol:Int):=(by omega);have pg:(0:Int)<=(ol:Int):=(by omega);have pj:(ol:Int)<(xl:Int):=(by omega);have hf:x+1=m0↔x=n1:=(by have:=p5.out;omega);obtain⟨A6,c6,rfl,_,_,_⟩:=ai hK;obtain⟨N6,hO⟩:∃N6,N6=N+xl:=⟨_,rfl⟩;rw[<- hO,<-Nz]at hK;rw[<- hO]at hZ;have h8:(out++X).length=N6:=(by rw[Nb,HI.out.1,<-hL,hO]);have HV:=aa hZ;have p7:=aa hK;have H1:=aa hn;by_cases ex:x+1=m0;·have h5:ANS=(out++X,q5,0):=(h6.resolve_right fun h=>h.1 ex).2;have dx:((x:Int)==(n1:Int))=true:=(by rw[hf.1 ex];exact O9 _);have dx2:(x==n1)=true:=(by rw[hf.1 ex];exact O9 _);have HE:=aa (hV.out w6 (.slice A6 N6 c6) (out++X) q5 h5 (by rw[h8];exact World.ownsRow.mono hK hj) (hm.out.trans (hn.mono hj)));clear h5 h6 hX hL hG hw HJ hW HK h9 hZ hK hY hn HX hF HQ hO h8 he ht hH HG hV hM ex hf;(go_wp2_with (at_builtin;refine Lib.wpList_append_run _ rfl (.tmp 48) (.tmp 49) 37 37 rfl (.slice A9 N c9) (.slice (some ⟨g5,0,none⟩) xl c5) rfl rfl _ w6 HV.out ?_));(first|go_ret3|skip);exact HE.out
    ·obtain⟨_,HD,hz⟩:=h6.resolve_left fun h=>ex h.1;have dx:((x:Int)==(n1:Int))=false:=(by rw[NC];intro h;exact ex (hf.2 (by omega)));have dx2:(x==n1)=false:=(by rw[NC];intro h;exact ex (hf.2 h));have p6:Hid ((out++X).length=N6/\N6<=50*(i+1)/\q5<=8*s.size/\nX (T.map nl) (nl P) bits m0 (50*(m-(i+1))) (50*(i+1)) q5 (out++X)=ANS):=aa ⟨h8,by have:=HI.out.2.1;omega,hN.out,by rw[show 50*(i+1)=50*i+50 by omega];exact hz⟩;clear hz HD h6 hX hL hG hw HJ hW HK h9 hZ hK hY hn HX hF HQ hO h8 he ht hH HG ex hf;(go_wp2_with (at_builtin;refine Lib.wpList_append_run _ rfl (.tmp 48) (.tmp 49) 37 37 rfl (.slice A9 N c9) (.slice (some ⟨g5,0,none⟩) xl c5) rfl rfl _ w6 HV.out ?_));go_roundw;case rel=>exact⟨i+1,q5,N6,c6,A6,out++X,by omega,by go_num,rfl,rfl,p7.out,H1.out,p6⟩
     case measure=>simp[intOf];omega
   ·have h5:ANS=([],0,z5):=by
     rcases HG.out with⟨_,h2⟩|⟨h1,_⟩|⟨h1,_⟩;·exact h2
     ·exact absurd h1 ez
     ·exact absurd h1 ez
    have HE:=aa (hM.out w5 z5 h5 ht);have dz2:((z5:Int) != 0)=true:=(by rw[Pe];omega);clear h5 hw hH he ht HA HG hN HU HO H2 HI hV hM hB hA H6 hh hC H7 H5 H4;go_wp2_with fail;(first|go_ret3|skip);exact HE.out
  ·obtain rfl:i=m:=(by omega);have h5:ANS=([],0,110):=(by rw[<- hI.out.2.2.2,Oz];rfl);have HE:=aa (hM.out wx 110 h5 (hm.out.trans (hJ.mono hj)));clear h5 ho hJ hI hV hM hB hA H6 hh hC H7 H5 H4;go_wp2_with fail;(first|go_ret3|skip);exact HE.out
theorem IX(w:World)(v:Value)(T:List (List Int))(P:List Int)(h:aJ w v T P)(s:ByteArray)(at':Int)(hs:s.size<=2000000)(hl: -9223372036854775808<=at')(hh:at'<=9223372036854775807):
 Calls prog 74 #[v,.string s,.int .i64 at'] w (cn w (mD T P (ao s.data.toList) at')):=by
 by_cases hP:aV T P
 ·by_cases h0:at'<0\/8*(s.size:Int)<at';·exact IY w v T P h s at' hs hl hh hP h0
  ·exact I0 w v T P h s at' hs hP (by omega) (by omega)
 ·exact IZ w v T P h s at' hP
def ef(ls:List (List Nat)):List Value:=ls.flatMap fun l=> [.string ⟨(aK l).toArray⟩,.int .i64 l.length]
theorem vI(ls:List (List Nat))(l:List Nat):ef (ls++ [l])=ef ls++ [.string ⟨(aK l).toArray⟩,.int .i64 l.length]:=by simp[ef]
theorem qh:∀(ls:List (List Nat)) (j:Nat),j<ls.length->(ef ls)[j*2]? =some (.string ⟨(aK (ls.getD j [])).toArray⟩)/\(ef ls)[j*2+1]? =some (.int .i64 (ls.getD j []).length)
 | [],_,h=>absurd h (O4 _)
 | l::ls,0,_=>⟨rfl,rfl⟩
 | l::ls,j+1,h=>by have ih:=qh ls j (by simpa using h);have e:ef (l::ls)= [.string ⟨(aK l).toArray⟩,.int .i64 l.length]++ef ls:=rfl;rw[e,show(j+1)*2=2+j*2 by omega,show 2+j*2+1=2+(j*2+1) by omega,NO (by simp),NO (by simp)];simpa using ih
structure Pcs (w:World) (B:Nat) (v:Value) (ls:List (List Nat)):Prop where
 own:w.ownsRow B 24 2 v ls.length (ef ls)
 bit:∀l∈ls,au l
theorem Tryz.infoBits:(prog.info? 24).map (fun i=>(i.zero,i.size,i.bytes))=some (some (.agg #[.string ⟨#[]⟩,.int .i64 0]),2,24):=by kernel_rfl
theorem LP(w:World)(B:Nat)(hB:B<=w.heap.size)(l:List Nat)(hl:au l):Pcs (w.alloc (.cells #[.string ⟨(aK l).toArray⟩,.int .i64 l.length] 24)) B (.slice (some ⟨w.heap.size,0,none⟩) 1 1) [l]:=
 ⟨⟨rfl,.inr ⟨w.heap.size,1,_,rfl,hB,PC w _,Nk _,by unfold maxLen;omega,rfl,rfl⟩⟩,fun x hx=>by rw[List.mem_singleton.1 hx];exact hl⟩
theorem J3(w:World)(B:Nat):Pcs w B (.slice none 0 0) []:=⟨Nt _ _ _ _,fun _ h=>by cases h⟩
theorem Pcs.below{w w':World}{B:Nat}{v:Value}{ls:List (List Nat)}(h:Pcs w B v ls)(hb:Below w.heap.size w w'):Pcs w' B v ls:=
 ⟨(an hb).row h.own (fun _ _=>aw) aw,h.bit⟩
theorem uE(w:World)(B:Nat)(v:Value)(ls:List (List Nat))(l:List Nat)(h:Pcs w B v ls)(hB:B<=w.heap.size)(hn:ls.length<=1000000)(hl:au l):
 ∃v' w',(Builtin.append_ #[90,90] 90 #[v,.slice (some ⟨w.heap.size,0,none⟩) 1 1]).run prog (w.alloc (.cells #[.string ⟨(aK l).toArray⟩,.int .i64 l.length] 24))=.ok v' w'/\Pcs w' B v' (ls++ [l])/\Below B w w':=by
 obtain⟨i3,h3,h0,h5,h6⟩:=N4 Tryz.infoBits
 obtain⟨v',w',h1,h2,h4,_⟩:=run_append_own (P:=prog) (w.alloc (.cells #[.string ⟨(aK l).toArray⟩,.int .i64 l.length] 24)) B 90 90 24 i3 _ 2 24 underlying90 h3 h0 h5 h6 rfl (by decide) v ls.length (ef ls) (h.own.alloc _)
  ⟨w.heap.size,0,none⟩ 1 1 [.string ⟨(aK l).toArray⟩,.int .i64 l.length] rfl (yN w _ _ _)
  (fun u hu=>by
    simp at hu
    rcases hu with rfl|rfl <;>rfl) (by unfold maxLen;omega) (by omega) (by simp;omega)
 refine⟨v',w',h1,⟨?_,fun x hx=> ?_⟩,((Nj B w).alloc hB _).grown h4 (by simp;omega) (fun k hk=>(NS h.own k hk).1)⟩;·rw[vI,Nb,NP];exact h2
 ·rcases List.mem_append.1 hx with hx|hx;·exact h.bit x hx
  ·rw[List.mem_singleton.1 hx];exact hl
theorem GK(l:List Nat)(hb:au l):pW ⟨(aK l).toArray⟩ l.length=true:=by rw[nM,show(ByteArray.mk (aK l).toArray).size=(l.length+7)/8 by rw[<- ee];rfl,show(ByteArray.mk (aK l).toArray).data.toList=aK l from rfl,lP l hb,Qj];exact⟨by omega,by omega,by simp⟩
theorem Be(ls:List (List Nat))(hb:∀l∈ls,au l):∀i,i<=ls.length->iM (fun i=>⟨(aK (ls.getD i [])).toArray⟩) (fun i=>((ls.getD i []).length:Int)) i=(ls.take i).flatten/\vS (fun i=>⟨(aK (ls.getD i [])).toArray⟩) i<=(ls.take i).flatten.length+i
 | 0,_=>by simp[iM,vS]
 | i+1,h=>by
  obtain⟨h1,h2⟩:=Be ls hb i (by omega);have hg:ls.getD i []=ls[i]:=by rw[Na,Nc (by omega)];rfl
  have e:ls.take (i+1)=ls.take i++ [ls.getD i []]:=by rw[NF (by omega),hg]
  have h0:au (ls.getD i []):=by rw[hg];exact hb _ (NM _)
  have h3:(ByteArray.mk (aK (ls.getD i [])).toArray).size=((ls.getD i []).length+7)/8:=by rw[<- ee];rfl
  rw[e,Q9];refine⟨?_,?_⟩;·rw[iM,h1];congr 1;rw[Nv,show(ByteArray.mk (aK (ls.getD i [])).toArray).data.toList=aK (ls.getD i [])from rfl,lP _ h0,QZ];simp
  ·rw[vS,h3,Nb];simp only[Pg,List.flatten_nil,NU];omega
theorem J2(ls:List (List Nat))(i:Nat)(h:i<ls.length):(ls.getD i []).length<=ls.flatten.length:=by rw[Na,Nc h];exact List.Sublist.length_le (List.sublist_flatten_of_mem (NM h))
theorem uF(w:World)(B:Nat)(v:Value)(ls:List (List Nat))(h:Pcs w B v ls)(hn:ls.length<=1000000)(hl:ls.flatten.length<=100000000):
 Calls prog 17 #[v] w (qE w (aK ls.flatten) ls.flatten.length 0):=by
 obtain⟨A,c,rfl,hc,_,hA⟩:=ai h.own;obtain⟨hj,ht⟩:=Be ls h.bit ls.length (ag _);rw[Q0]at hj ht
 have hk:=LB w A ls.length c (fun i=>⟨(aK (ls.getD i [])).toArray⟩) (fun i=>((ls.getD i []).length:Int)) (fun h0=>by
  obtain⟨g,rfl⟩:=hA h0
  refine⟨g,0,rfl,(NS h.own g rfl).2,fun i hi=> ?_⟩
  have hg:=qh ls i hi
  rw[N8,Oy h.own (i*2) (by omega),Oy h.own (i*2+1) (by omega)]
  exact hg) (by unfold maxLen;omega) (by omega)
  (fun i hi=>by
    have:=J2 ls i hi
    rw[show (ByteArray.mk (aK (ls.getD i [])).toArray).size=((ls.getD i []).length+7)/8 by rw[<- ee];rfl]
    omega)
  (fun i hi=>by
    have:=J2 ls i hi
    omega) (fun i hi=>GK _ (by
     rw[Na,Nc hi]
     exact h.bit _ (NM _)))
 rw[hj]at hk;exact hk
