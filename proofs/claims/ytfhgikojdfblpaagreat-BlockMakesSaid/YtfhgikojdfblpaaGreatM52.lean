import Derived.Test.YtfhgikojdfblpaaGreatM30
import Derived.WalkMore
set_option maxHeartbeats 3200000
set_option maxRecDepth 100000
namespace Go.Proofs.YtfhgikojdfblpaaGreat.S07
open _root_.Go.Proofs.Tryz
open Go.RowKit
theorem tB(w:World)(n:Int)(h1:1<=n)(h2:n<=256):Calls prog 38 #[.int .i64 n] w fun e w'=>e=.returned (.bool true)/\w=w':=by go_enter func38,ntmps38;go_wp2_with fail;go_ret;exact⟨rfl,rfl⟩
theorem Ej(w:World)(n:Int)(h:n<1\/256<n):Calls prog 38 #[.int .i64 n] w fun e w'=>e=.returned (.bool false)/\w=w':=by
 by_cases h1:1<=n;·have d1:decide (n<=(256:Int))=false:=aR;clear h;go_enter func38,ntmps38;go_wp2_with fail;go_ret;exact⟨rfl,rfl⟩
 ·clear h;go_enter func38,ntmps38;go_wp2_with fail;go_ret;exact⟨rfl,rfl⟩
theorem tz(w:World)(n:Nat)(hn:n<=256):Calls prog 40 #[.int .i64 n] w fun e w'=>e=.returned (.int .i64 ((n:Int)+1))/\w=w':=by obtain⟨n1,h0⟩:∃n1,n1=n+1:=⟨_,rfl⟩;have h1:((n:Int)+1)=(n1:Int):=(by omega);rw[h1];clear h0;go_enter func40,ntmps40;go_wp2_with fail;go_ret;exact⟨rfl,rfl⟩
def dX(n:Nat)(s:Int):Prop:=0<=s/\s<=(n:Int)+1
instance (n:Nat) (s:Int):Decidable (dX n s):=inferInstanceAs (Decidable (_/\_))
theorem Ag(w:World)(n:Nat)(s:Int)(hn:n<=256):Calls prog 129 #[.int .i64 n,.int .i64 s] w fun e w'=>e=.returned (.bool (decide (dX n s)))/\w=w':=by
 have HE:=aa (tz w n hn);by_cases h0:0<=s
 ·have hd:decide (dX n s)=decide (s<=(n:Int)+1):=by
   by_cases h:s<=(n:Int)+1;·have h2:dX n s:=⟨h0,h⟩;rw[Nn h,Nn h2]
   ·rw[Nl h,Nl (fun h2:dX n s=>h h2.2)]
  rw[hd];generalize (n:Int)+1=t at*;go_enter func129,ntmps129;go_wp2_with fail;refine HE.out.mono ?_;rintro e w1 ⟨rfl,rfl⟩;go_wp2_with fail;go_ret;exact⟨rfl,rfl⟩
 ·have hd:decide (dX n s)=false:=Nl (fun h2=>h0 h2.1);rw[hd];go_enter func129,ntmps129;go_wp2_with fail;go_ret;exact⟨rfl,rfl⟩
def zw(n:Nat):List Int->Nat
 | []=>0
 | s::_=>if dX n s then 70 else 60
theorem IL(w:World)(A:Option Addr)(m c:Nat)(L:List Int)(n:Nat)(hL:ZIn w A m L)(hn:n<=256):Calls prog 130 #[.int .i64 n,.slice A m c] w fun e w'=>e=.returned (.int .i64 (zw n L))/\w=w':=by
 have h2:=hL.1;by_cases h0:m=0;·subst h0;have:L= []:=Nq h2;subst this;clear hL h2;go_enter func130,ntmps130;go_wp2_with fail;go_ret;exact⟨rfl,rfl⟩
 ·obtain⟨b,off,rfl,hc⟩:=hL.2 (by omega);have h3:=hc 0 (by omega);rw[NY]at h3;obtain⟨s,L2,rfl⟩:∃s L2,L=s::L2:=by
   cases L with
   | nil=>exact absurd h2.symm h0
   | cons s L2=>exact⟨s,L2,rfl⟩
  have h4:w.cell? ⟨b,off,none⟩=some (.int .i64 s):=h3;have HS:=aa (Ag w n s hn);have d0:((m:Int)==0)=false:=by rw[NC];omega
  have h5:0<m:=by omega
  have h1:zw n (s::L2)=if dX n s then 70 else 60:=rfl
  clear hL h2 hc h3;by_cases hs:dX n s;·rw[Nf hs]at h1;rw[Nn hs]at HS;rw[h1];go_enter func130,ntmps130;go_wp2_with fail;refine HS.out.mono ?_;rintro e w1 ⟨rfl,rfl⟩;go_wp2_with fail;go_ret;exact⟨rfl,rfl⟩
  ·rw[Nd hs]at h1;rw[Nl hs]at HS;rw[h1];go_enter func130,ntmps130;go_wp2_with fail;refine HS.out.mono ?_;rintro e w1 ⟨rfl,rfl⟩;go_wp2_with fail;go_ret;exact⟨rfl,rfl⟩
theorem Jh:dig 0= []:=lk (by omega)
theorem Ji(j:Nat)(h:0<j):dig j=(j-1)%2::dig ((j-1)/2):=by
 unfold dig;rw[fV (by omega)];congr 1;·omega
 ·congr 1;omega
def sS(B:Nat)(w:World)(r:List Nat)(e:Ending)(w':World):Prop:=∃v,e=.returned v/\w'.ownsRow B 3 1 v r.length (r.map iv)/\Below B w w'
theorem FL(w:World)(B:Nat)(v:Value)(o:List Nat)(k:Nat)(h0:w.ownsRow B 3 1 v o.length (o.map iv))(hk:k<=2147483647)(ho:o.length<=10000000)(hB:B<=w.heap.size):Calls prog 39 #[v,.int .i64 k] w (sS B w (o++dig k)):=by
 obtain⟨i3,h3,hC,hD,hE⟩:=N4 Tryz.info3;have he:=vL k;rw[show yB (k:Int)=(dig k,0) by unfold yB;rw[Nd,Nv]]at he;have hf:(dig k).length<=31:=he;have HP:Hid (∀ (v':Value) (w':World) (o':List Nat),o'=o++dig k->w'.ownsRow B 3 1 v' o'.length (o'.map iv)->Below B w w'->sS B w (o++dig k) (.returned v') w'):=aa fun v' w' o' h1 h2 h3=>⟨v',rfl,by rw[<- h1];exact h2,h3⟩;have hp:=aa h0;obtain⟨A,c,rfl,hz,hI,_⟩:=ai h0;clear h0 he;generalize sS B w (o++dig k)=PO at*;obtain⟨R,hR⟩:∃R,R=o++dig k:=⟨_,rfl⟩;have hw:R.length=o.length+(dig k).length:=by rw[hR,Nb]
 have hG:R.length<=10000031:=by omega
 rw[<- hR]at HP;have HR:=aa hR;have hm:=aa hB;obtain⟨N0,hc⟩:∃N0,N0=o.length:=⟨_,rfl⟩;have hn:=aa hc;rw[<- hc]at ho hz |-;clear hR hw hf hc;go_enter func39,ntmps39;go_wp2_with fail;go_loopw [0,1] (fun out kk wx=>∃(j:Nat) (o':List Nat),kk=.int .i64 j/\j<=k/\wx.ownsRow B 3 1 out o'.length (o'.map iv)/\Hid (R=o'++dig j)/\Below B w wx) (fun _ kk _=>(intOf kk).toNat)
 case atStart=>exact⟨k,o,rfl,Nk _,by rw[hn.out];exact hp.out,HR,Nj _ _⟩
 case round=>
  obtain⟨j,o',rfl,hj,h0,h4,hb⟩:=hrel;have hF:=hb.size;have hv:B<=wr.heap.size:=ND hm.out hF;obtain⟨A0,c0,rfl,hy,hx,ht⟩:=ai h0;clear ht;unfold maxLen at hx;have HB:=aa hb;have HO:=aa h0;have hA:o'.length<=R.length:=by rw[h4.out,Nb];exact Rx _ _
  by_cases e:0<j
  ·obtain⟨j1,hi⟩:∃j1,j1=j-1:=⟨_,rfl⟩;have hJ:(j:Int)-1=(j1:Int):=(by omega);obtain⟨b,hg⟩:∃b,b=j1%2:=⟨_,rfl⟩;have hH:(j1:Int)%2=(b:Int):=(by omega);obtain⟨z,ha⟩:∃z,z=j1/2:=⟨_,rfl⟩;have hL:(j1:Int)/2=(z:Int):=(by omega);have h6:=h4.out;rw[Ji j e,<-hi,<-hg,<-ha]at h6;have h9:R=(o'++ [b])++dig z:=(by rw[h6,Ni];rfl);have hs:=aa h9;have hK:z<j:=(by omega);obtain⟨N,hN⟩:∃N,N=o'.length:=⟨_,rfl⟩;obtain⟨X,hX⟩:∃X,X=o'.map iv:=⟨_,rfl⟩;rw[<- hN,<-hX]at HO;have HN:=aa hN;have HX:=aa hX;rw[<- hN]at hy hA |-;clear hb h0 h4 h6 h9 hN hX hg ha hi e;(go_wp2_with (at_builtin;refine N5 _ rfl _ _ 37 rfl B 3 i3 (.int .i64 0) 1 8 underlying37 h3 hC hD hE rfl (by decide) _ _ _ rfl (HO.out.alloc _) ⟨wr.heap.size,0,none⟩ 1 1 [.int .i64 b] rfl rfl ?c1 ?c2 ?c3 ?c4 ?c5 ?_));case c1=>exact bV _ _ _
   case c2=>intro u hu;simp at hu;subst hu;rfl
   case c3=>unfold maxLen;omega
   case c4=>omega
   case c5=>simp;omega
   intro v4 w4 h7 h5 _;have hh:Below B w w4:=(HB.out.alloc hv _).grown h5 (by simp;omega) (fun k hk=>(HO.out.lt k hk).1);have hq:=aa h7;have hl:=aa hh;clear h7 h5 hh;go_wp2_with fail;go_roundw;case rel=>refine⟨z,o'++ [b],rfl,by omega,?_,hs,hl.out⟩;rw[Nb,<-HN.out,Nz,<-HX.out];exact hq.out
   case measure=>simp[intOf];omega
  ·obtain rfl:j=0:=(by omega);have h8:=h4.out;rw[Jh,NU]at h8;have hr:=aa (HP.out _ wr o' h8.symm HO.out HB.out);clear hb h0 h4 h8;go_wp2_with fail;exact hr.out
theorem IV(w:World)(A:Option Addr)(m c:Nat)(n:Int)(h:n<1\/256<n):Calls prog 12 #[.int .i64 n,.slice A m c] w (aD w ([],2)):=by have HM:=aa (Ej w n h);clear h;go_enter func12,ntmps12;go_wp2_with fail;refine HM.out.mono ?_;rintro e w1 ⟨rfl,rfl⟩;go_wp2_with fail;go_ret2;exact⟨_,rfl,Nt _ _ _ _,Nj _ _⟩
theorem Jk(n r x:Nat)(l:List Nat)(o:List Nat)(h:x≠0):o++eM n r (x::l)=(o++dig r++ [x+1])++eM n 0 l:=by rw[tR n r x l h];simp
theorem jJ(w:World)(A:Option Addr)(m c:Nat)(L:List Int)(n:Nat)(hL:ZIn w A m L)(HD:m<=c)(hm:m<=1100000)(hn:1<=n)(H6:n<=256):Calls prog 12 #[.int .i64 n,.slice A m c] w (aD w (gj n L)):=by
 obtain⟨i3,h3,hJ,hK,hM⟩:=N4 Tryz.info3;obtain⟨m1,hV⟩:∃m1,m1=m+1:=⟨_,rfl⟩;have HE:(m:Int)+1=(m1:Int):=by omega
 have hW:∀w1:World,(Instr.makeSlice 37 (.int .i64 0) (.int .i64 m1)).run prog w1=.ok (.slice (some ⟨w1.heap.size,0,none⟩) 0 m1) (w1.alloc (.cells (madeCells #[.int .i64 0] m1) 3)):=by intro w1;have h:=Qv (P:=prog) w1 37 3 i3 (.int .i64 0) underlying37 h3 hJ .i64 .i64 (0:Int) (m1:Int) (by omega) (by omega) (by rw[hM];omega) (by omega);rw[hK,Nv,Oc]at h;exact h
 have hH:=hW w;have HM:=aa (tB w n (by omega) (by omega));have hA:=aa fun w'=>tz w' n H6;have hj:=aa (show gj (n:Int) L=if ∀x∈L,0<=x/\x<(n:Int)then(eM n 0 (L.map Int.toNat),0)else([],60) by unfold gj;rw[Nd,Nv]);have HL:=aa hL;have h9:=aa FL;have hT:=hL.1;have hs:=aa hT;have HA:=aa hV;clear hL hT hW hV;generalize gj (n:Int) L=ans at*;go_enter func12,ntmps12;go_wp2_with fail;refine HM.out.mono ?_;rintro e w1 ⟨rfl,rfl⟩;go_wp2_with fail;clear hH;go_loopw [6,7,19] (fun out r i wx=>∃(q k:Nat) (o:List Nat),q<=m/\i=.int .i64 q/\r=.int .i64 k/\wx.ownsRow w.heap.size 3 1 out o.length (o.map iv)/\o.length+k<=q/\Hid (eM n 0 (L.map Int.toNat)=o++eM n k ((L.map Int.toNat).drop q))/\Hid (∀ x∈L.take q,0<=x/\x<(n:Int))/\Below w.heap.size w wx) (fun _ _ i _=>m-(intOf i).toNat)
 case atStart=>have H5:(madeCells #[.int .i64 0] m1).size=m1*1:=(by simp[madeCells]);exact⟨0,0, [],Ng _,rfl,rfl,OM w (madeCells #[.int .i64 0] m1) m1 (ag _) (by unfold maxLen;omega) H5,Nk _,by simp[Hid],by simp[Hid],(Nj _ _).alloc (ag _) _⟩
 case round=>
  obtain⟨q,k,o,hq,rfl,rfl,h6,HH,hg,hp,hb⟩:=hrel;have hw:=hb.size;obtain⟨A0,c0,rfl,HF,H4,H2⟩:=ai h6;clear H2;unfold maxLen at H4;have HB:=aa hb;by_cases e:q<m
  ·obtain⟨b,off,rfl,hc⟩:=HL.out.2 (by omega);have ht:=hc q e;have H3:=No w _ ht;have hI:=cK L q (by rw[hs.out];exact e);have hF:=od L q (by rw[hs.out];exact e);obtain⟨x,hx⟩:∃x,x=L.getD q 0:=⟨_,rfl⟩;rw[<- hx]at ht hI hF;have HC:=(hb.cell (p:=⟨b,off+q,none⟩) H3).trans ht;have hR:=aa hI;have hP:=aa hF;have HO:=aa h6;clear hc hx ht hI hF hb h6;by_cases e1:0<=x/\x<n
   ·obtain⟨y,rfl⟩:∃y:Nat,x=y:=⟨x.toNat,by omega⟩;have d3:decide ((y:Int)<0)=false:=aR;have HJ:y<n:=(by omega);have HG:¬n<=y:=(by omega);have d4:decide ((n:Int)<=(y:Int))=false:=aR;have ha:∀x∈L.take (q+1),0<=x/\x<(n:Int):=by
     rw[hR.out];intro x hx;rcases List.mem_append.1 hx with hx|hx;·exact hp.out x hx
     ·rw[List.mem_singleton.1 hx];exact e1
    have hS:=aa ha;clear ha e1;by_cases h0:y=0
    ·subst h0;have h4:eM n 0 (L.map Int.toNat)=o++eM n (k+1) ((L.map Int.toNat).drop (q+1)):=(by rw[hg.out,hP.out,show((0:Nat):Int).toNat=0 from rfl,tT]);have hr:=aa h4;clear h4;go_wp2_with fail;go_roundw;case rel=>exact⟨q+1,k+1,o,by omega,by go_num,by go_num,HO.out,by omega,hr,hS,HB.out⟩
     case measure=>simp[intOf];omega
    ·have d5:((y:Int)==0)=false:=(by rw[NC];omega);have h4:eM n 0 (L.map Int.toNat)=(o++dig k++ [y+1])++eM n 0 ((L.map Int.toNat).drop (q+1)):=(by rw[hg.out,hP.out,Nv,Jk n k y _ o h0]);have hr:=aa h4;have HT:=aa (h9.out wr w.heap.size _ o k HO.out (by omega) (by omega) hw);have hE:=qS k;obtain⟨y1,hZ⟩:∃y1,y1=y+1:=⟨_,rfl⟩;have HK:((y:Int)+1)=(y1:Int):=(by omega);have HI:IntKind.i64.wrap (y1:Int)=(y1:Int):=(by rw[Of];omega);have H1:=aa hZ;obtain⟨o2,hh⟩:∃o2,o2=o++dig k:=⟨_,rfl⟩;have hi:o2.length<=q:=(by rw[hh,Nb];omega);rw[<- hh]at HT hr;clear h4 hZ hh hE;go_wp2_with fail;refine HT.out.mono ?_;rintro e w3 ⟨v3,rfl,h7,hf⟩;obtain⟨A3,c3,rfl,hD,hG,_⟩:=ai h7;unfold maxLen at hG;have hO:w.heap.size<=w3.heap.size:=ND hw hf.size;have hy:=aa (HB.out.trans hf);obtain⟨N,hN⟩:∃N,N=o2.length:=⟨_,rfl⟩;obtain⟨X,hX⟩:∃X,X=o2.map iv:=⟨_,rfl⟩;rw[<- hN,<-hX]at h7;have hl:=aa h7;have HN:=aa hN;have HX:=aa hX;rw[<- hN]at hi hD |-;clear h7 hf hN hX;(go_wp2_with (at_builtin;refine N5 _ rfl _ _ 37 rfl w.heap.size 3 i3 (.int .i64 0) 1 8 underlying37 h3 hJ hK hM rfl (by decide) _ _ _ rfl (hl.out.alloc _) ⟨w3.heap.size,0,none⟩ 1 1 [.int .i64 y1] rfl rfl ?c1 ?c2 ?c3 ?c4 ?c5 ?_));case c1=>exact bV _ _ _
     case c2=>intro u hu;simp at hu;subst hu;rfl
     case c3=>unfold maxLen;omega
     case c4=>omega
     case c5=>simp;omega
     intro v4 w4 h5 h2 _;have ho:Below w.heap.size w w4:=(hy.out.alloc hO _).grown h2 (by simp;omega) (fun k hk=>(hl.out.lt k hk).1);have hB:=aa h5;have hz:=aa ho;clear h5 h2 ho;go_wp2_with fail;go_roundw;case rel=>refine⟨q+1,0,o2++ [y+1],by omega,by go_num,rfl,?_,by rw[Nb,<-HN.out];show N+1+0<=q+1;omega,hr,hS,hz.out⟩;rw[Nb,<-HN.out,Nz,<-HX.out,<-H1.out];exact hB.out
     case measure=>simp[intOf];omega
   ·have H7:ans=([],60):=(by rw[hj.out,if_neg];intro hC;have:x∈L:=(by have h1:x∈L.take (q+1):=(by rw[hR.out];exact OX _ (List.mem_singleton.2 rfl));exact OC h1);exact e1 (hC x this));subst H7;by_cases e2:x<0;·have d3:decide (x<0)=true:=Nn e2;clear e1;go_wp2_with fail;go_ret2;exact⟨_,rfl,Nt _ _ _ _,HB.out⟩
    ·have d3:decide (x<0)=false:=Nl e2;have e3:(n:Int)<=x:=(by omega);have d4:decide ((n:Int)<=x)=true:=Nn e3;clear e1;go_wp2_with fail;go_ret2;exact⟨_,rfl,Nt _ _ _ _,HB.out⟩
  ·obtain rfl:q=m:=(by omega);have he:ans=(o++dig k++ [n+1],0):=(by have hv:=hp.out;rw[Nr (Oi hs.out)]at hv;rw[hj.out,Nf hv,hg.out,N9 (by rw[Nu,hs.out];exact Nk _),eM,Ni]);have HO:=aa h6;have HT:=aa (h9.out wr w.heap.size _ o k HO.out (by omega) (by omega) hw);have hE:=qS k;obtain⟨o2,hh⟩:∃o2,o2=o++dig k:=⟨_,rfl⟩;have hi:o2.length<=q:=(by rw[hh,Nb];omega);rw[<- hh]at HT he;have h8:=aa he;clear h6 hb he hh hE;go_wp2_with fail;refine HT.out.mono ?_;rintro e w3 ⟨v3,rfl,h7,hf⟩;obtain⟨A3,c3,rfl,hD,hG,_⟩:=ai h7;unfold maxLen at hG;have hO:w.heap.size<=w3.heap.size:=ND hw hf.size;have hy:=aa (HB.out.trans hf);obtain⟨N,hN⟩:∃N,N=o2.length:=⟨_,rfl⟩;obtain⟨X,hX⟩:∃X,X=o2.map iv:=⟨_,rfl⟩;rw[<- hN,<-hX]at h7;have hl:=aa h7;have HN:=aa hN;have HX:=aa hX;have hQ:=aa (hA.out w3);obtain⟨n1,hY⟩:∃n1,n1=n+1:=⟨_,rfl⟩;have H8:((n:Int)+1)=(n1:Int):=(by omega);rw[H8]at hQ;have H0:=aa hY;rw[<- hN]at hi hD |-;clear h7 hf hN hX hY;go_wp2_with fail;refine hQ.out.mono ?_;rintro e w3 ⟨rfl,rfl⟩;(go_wp2_with (at_builtin;refine N5 _ rfl _ _ 37 rfl w.heap.size 3 i3 (.int .i64 0) 1 8 underlying37 h3 hJ hK hM rfl (by decide) _ _ _ rfl (hl.out.alloc _) ⟨_,0,none⟩ 1 1 [.int .i64 n1] rfl rfl ?c1 ?c2 ?c3 ?c4 ?c5 ?_));case c1=>exact bV _ _ _
   case c2=>intro u hu;simp at hu;subst hu;rfl
   case c3=>unfold maxLen;omega
   case c4=>omega
   case c5=>simp;omega
   intro v4 w4 h5 h2 _;have ho:Below w.heap.size w w4:=(hy.out.alloc hO _).grown h2 (by simp;omega) (fun k hk=>(hl.out.lt k hk).1);have hB:=aa h5;have hz:=aa ho;clear h5 h2 ho;go_wp2_with fail;go_ret2;refine⟨v4,by rw[h8.out];rfl,?_,hz.out⟩;rw[h8.out];dsimp only;rw[Nb,Nz,<-HN.out,<-HX.out,<-H0.out];exact hB.out
theorem IU(w:World)(A:Option Addr)(m c:Nat)(L:List Int)(n:Int)(hL:ZIn w A m L)(h0:m<=c)(hm:m<=1100000):Calls prog 12 #[.int .i64 n,.slice A m c] w (aD w (gj n L)):=by
 by_cases h:n<1\/256<n;·rw[show gj n L=([],2)from Nf h];exact IV w A m c n h
 ·obtain⟨k,rfl⟩:∃k:Nat,n=k:=⟨n.toNat,by omega⟩;exact jJ w A m c L k hL h0 hm (by omega) (by omega)
def ot(L:List Int)(room q Z:Nat)(wo:Nat):Prop:=∀(n most:Nat) (o:List Nat),1<=n->o.length+room=most->eT n most L o 1 false=eT n most (L.drop q) (o++List.replicate Z 0) wo false
def sR(L:List Int)(room:Nat):Prop:=∀(n most:Nat) (o:List Nat),1<=n->o.length+room=most->eT n most L o 1 false=([],3)
theorem G9(L:List Int)(room:Nat):ot L room 0 0 1:=by intro n most o _ _;simp
theorem Hb{L:List Int}{room q Z wo s:Nat}(h:ot L room q Z wo)(hq:L.drop q=(s:Int)::L.drop (q+1))(hs:s<2)(hr:Z+(s+1)*wo<=room):ot L room (q+1) (Z+(s+1)*wo) (wo*2):=by intro n most o hn ho;rw[h n most o hn ho,hq,pN,Nd,Nd (by simp),Nd,Nd,Nv,Nd (by rw[Nb,NA];omega),Ni,Qs]
theorem Ha{L:List Int}{room q Z wo s:Nat}(h:ot L room q Z wo)(hq:L.drop q=(s:Int)::L.drop (q+1))(hs:s<2)(hr:room<Z+(s+1)*wo):sR L room:=by intro n most o hn ho;rw[h n most o hn ho,hq,pN,Nd,Nd (by simp),Nd,Nd,Nv,Nf (by rw[Nb,NA];omega)]
def sB(m:Nat)(L:List Int)(room:Nat)(w:World)(e:Ending)(w':World):Prop:=w=w'/\
 ((∃ q Z wo,q<=m/\Z<=room/\e=.returned (.tuple #[.int .i64 (Z:Nat),.int .i64 (q:Nat),.bool true])/\ot L room q Z wo/\∀x l,L.drop q=x::l->x≠0/\x≠1)\/
  (e=.returned (.tuple #[.int .i64 0,.int .i64 0,.bool false])/\sR L room))
theorem FG(w:World)(A:Option Addr)(m c:Nat)(L:List Int)(room:Nat)(hL:ZIn w A m L)(hm:m<=2000000)(hr:room<=262144):Calls prog 128 #[.int .i64 room,.slice A m c] w (sB m L room w):=by
 have HL:=aa hL;have hk:=hL.1;have he:=aa hk;have HP:Hid (∀ q Z wo,q<=m->Z<=room->ot L room q Z wo->(∀ x l,L.drop q=x::l->x≠0/\x≠1)->sB m L room w (.returned (.tuple #[.int .i64 (Z:Nat),.int .i64 (q:Nat),.bool true])) w):=aa fun q Z wo h1 h2 h3 h4=>⟨rfl,Or.inl ⟨q,Z,wo,h1,h2,rfl,h3,h4⟩⟩;have HQ:Hid (sR L room->sB m L room w (.returned (.tuple #[.int .i64 0,.int .i64 0,.bool false])) w):=aa fun h=>⟨rfl,Or.inr ⟨rfl,h⟩⟩;clear hL hk;generalize sB m L room w=PO at*;go_enter func128,ntmps128;go_wp2_with fail;go_step3;go_wp2_with fail;go_step3;go_wp2_with fail;go_loopw [4,5,11] (fun no di i wx=>∃(q Z P:Nat),q<=m/\Z<=room/\P=2^q/\P<=Z+1/\no=.int .i64 Z/\di=.int .i64 q/\i=.int .i64 q/\Hid (ot L room q Z P)/\wx=w) (fun _ _ i _=>m-(intOf i).toNat)
 case atStart=>exact⟨0,0,1,Ng _,Ng _,rfl,Nk _,rfl,rfl,rfl,aa (G9 _ _),rfl⟩
 case round=>
  obtain⟨q,Z,P,hq,hZ,hP,hv,rfl,rfl,rfl,ha,rfl⟩:=hrel;by_cases e:q<m
  ·obtain⟨b,off,rfl,hc⟩:=HL.out.2 (by omega);have ho:=hc q e;have hf:L.drop q=L.getD q 0::L.drop (q+1):=(by rw[NN (by rw[he.out];exact e),Na,Nc (by rw[he.out];exact e)];rfl);obtain⟨x,hx⟩:∃x,x=L.getD q 0:=⟨_,rfl⟩;rw[<- hx]at ho hf;have hb:=aa hf;have hp:q<20:=by
    rcases N1 q 20 with h|h;·exact h
    ·exfalso;have h2:2^20<=2^q:=Od (by decide) h;have h3:(2:Nat)^20=1048576:=(by decide);omega
   clear hc hx hf;have hy:((2:Int)^q)=(P:Int):=(by rw[hP];simp);have hn:=aa hP;have hu:P<=262145:=(by omega);clear hP;by_cases hi:x=0\/x=1
   ·obtain⟨s,rfl,hs⟩:∃s:Nat,x=s/\s<2:=⟨x.toNat,by omega,by omega⟩;obtain⟨t,ht⟩:∃t,t=(s+1)*P:=⟨_,rfl⟩;have hw:P<=t:=(by rw[ht];exact Nat.le_mul_of_pos_left P (by omega));have hz:t<=2*P:=(by rw[ht];exact Qp P (by omega));have hl:IntKind.i64.wrap (((s:Int)+1)*(P:Int))=(t:Int):=(by have:((s:Int)+1)*(P:Int)=(t:Int):=(by rw[ht];simp);rw[this,Of];omega);have HT:=aa ht;have key:((s:Int)+1)*(P:Int)=(t:Int):=(by rw[ht];simp);by_cases er:room<Z+t
    ·have h6:=Ha ha.out hb.out hs (by rw[<- ht];exact er);have h8:=aa (HQ.out h6);have d3:decide ((room:Int)<(Z:Int)+(t:Int))=true:=bE;clear hi h6 HP HQ hl;rcases N1 s 1 with h0|h0;·obtain rfl:s=0:=(by omega);obtain rfl:t=P:=(by omega);clear key ht;go_wp2_with fail;(try rw[OR]);go_ret3;exact h8.out
     ·obtain rfl:s=1:=(by omega);have k2:(2:Int)*(P:Int)=(t:Int):=(by omega);clear key ht er h0 hs;go_wp2_with fail;(try rw[OR]);go_ret3;exact h8.out
    ·have h7:=Hb ha.out hb.out hs (by rw[<- ht];omega);rw[<- ht]at h7;have hh:=aa h7;have d3:decide ((room:Int)<(Z:Int)+(t:Int))=false:=aR;have hj:Z+t<=room:=(by omega);have h9:P*2=2^(q+1):=(by rw[hn.out,Ot]);have hg:=aa h9;clear hi h7 HP HQ hl h9 er;rcases N1 s 1 with h0|h0
     ·obtain rfl:s=0:=(by omega);obtain rfl:t=P:=(by omega);clear key ht;go_wp2_with fail;go_roundw;case rel=>exact⟨q+1,Z+t,t*2,by omega,hj,hg.out,by omega,by go_num,by go_num,by go_num,hh,trivial⟩
      case measure=>simp[intOf];omega
     ·obtain rfl:s=1:=(by omega);have k2:(2:Int)*(P:Int)=(t:Int):=(by omega);clear key ht h0 hs;go_wp2_with fail;go_roundw;case rel=>exact⟨q+1,Z+t,P*2,by omega,hj,hg.out,by omega,by go_num,by go_num,by go_num,hh,trivial⟩
      case measure=>simp[intOf];omega
   ·have e0:(x==0)=false:=(by rw[NC];omega);have e1:(x==1)=false:=by rw[NC];omega
    have h5:=HP.out q Z P hq hZ ha.out (by
     intro y l h
     rw[hb.out]at h
     simp only[List.cons.injEq]at h
     rw[<- h.1]
     omega)
    have h8:=aa h5;clear h5;go_wp2_with fail;(try rw[OR]);go_ret3;exact h8.out
  ·obtain rfl:q=m:=by omega
   have h5:=HP.out q Z P (ag _) hZ ha.out (by
    intro x l h
    rw[N9 (Oi he.out)]at h
    cases h)
   have h8:=aa h5;clear h5;go_wp2_with fail;(try rw[OR]);go_ret3;exact h8.out
theorem ro{P:Program}(w:World)(t tn ty e:TypeId)(i:TypeInfo)(kq kn:IntKind)(ht:P.underlying t=some (.slice e))(h1:P.underlying tn=some (.int kn))(hi:P.info? e=some i)(h0:i.bytes=8)
 (A:Option Addr) (n c:Nat) (h:n<=c):(Builtin.append_ #[t,tn] ty #[.slice A n c,.int kq 0]).run P w=.ok (.slice A n c) w:=by have hw:IntKind.i64.wrap (0:Int)=0:=(by rw[Of];omega);cases A <;>simp[Builtin.append_,Pk ht,Pk h1,sizeOf,typeInfo,hi,h0,asInt,asIntOf,hw,h,storeCells]
theorem ze(w:World)(B:Nat)(v:Value)(n:Nat)(xs:List Value)(h0:w.ownsRow B 3 1 v n xs)(k:Nat)(hk:k<=1000000000)(hn:n<=1000000000)(hB:B<=w.heap.size):
 ∃v' w',(Builtin.append_ #[37,3] 37 #[v,.int .i64 k]).run prog w=.ok v' w'/\w'.ownsRow B 3 1 v' (n+k) (xs++List.replicate k (Value.int .i64 0))/\Below B w w':=by
 obtain⟨i3,h3,h7,h8,h5⟩:=N4 Tryz.info3;rcases OL k with h|h;·subst h;obtain⟨A,c,rfl,h6,_,_⟩:=ai h0;refine⟨_,_,ro (P:=prog) w 37 3 37 3 i3 .i64 .i64 underlying37 underlying3 h3 h5 A n c h6,?_,Nj _ _⟩;rw[P6,NU];exact h0
 ·obtain⟨v2,w2,h4,h2,h1,_⟩:=iV (P:=prog) w B 37 3 37 3 i3 .i64 .i64 underlying37 underlying3 h3 h7 h8 h5 _ _ _ h0 k h hk hn hB;exact⟨v2,w2,h4,h2,(Nj B w).grown h1 hB (fun k hk=>(h0.lt k hk).1)⟩
theorem K7{w:World}{b off n:Nat}{x:Int}{L:List Int}(h:ZIn w (some ⟨b,off,none⟩) n (x::L))(A:Option Addr)(hA:n=1\/A=some ⟨b,off+1,none⟩):ZIn w A (n-1) L:=by obtain⟨hl,hc⟩:=h;simp only[Ns]at hl;refine⟨by omega,fun h0=> ?_⟩;obtain rfl:=hA.resolve_left (by omega);obtain⟨b',o',e,h1⟩:=hc (by omega);simp only[Oj,PR]at e;obtain⟨rfl,rfl,_⟩:=e;refine⟨b,off+1,rfl,fun i hi=> ?_⟩;have:=h1 (i+1) (by omega);rw[show off+(i+1)=off+1+i by omega]at this;rw[this];rfl
theorem K5{w:World}{b off q n:Nat}{L:List Int}(h:ZIn w (some ⟨b,off,none⟩) (q+n) L):ZIn w (some ⟨b,off+q,none⟩) n (L.drop q):=by obtain⟨hl,hc⟩:=h;refine⟨by rw[Ny,hl];omega,fun h0=> ?_⟩;obtain⟨b',o',e,h1⟩:=hc (by omega);simp only[Oj,PR]at e;obtain⟨rfl,rfl,_⟩:=e;refine⟨b,off+q,rfl,fun i hi=> ?_⟩;have:=h1 (q+i) (by omega);rw[show off+(q+i)=off+q+i by omega]at this;rw[this,Na,Na,O3]
theorem Lr(n most:Nat)(L:List Int)(o:List Nat)(wo:Nat):eT n most L o wo true=if zw n L=0 then(o,0)else([],zw n L):=by
 cases L with
 | nil=>rfl
 | cons s L=>
  rw[pN];by_cases h:dX n s;·have h2:=h;unfold dX at h2;rw[Nd,Nf rfl];simp[zw,h]
  ·have h2:=h;unfold dX at h2;rw[Nf];simp[zw,h]
theorem Mp(n:Nat)(L:List Int):zw n L<=70:=by
 cases L with
 | nil=>exact Ng _
 | cons y l=>
  show(if dX n y then 70 else 60)<=70;split;·exact Nk _
  ·exact Nat.le_of_ble_eq_true rfl
def un:Value->Nat
 | .slice _ n _=>n
 | _=>0
theorem IR(w:World)(A:Option Addr)(m c:Nat)(n most:Int)(h:n<1\/256<n\/most<0\/262144<most):Calls prog 76 #[.int .i64 n,.int .i64 most,.slice A m c] w (aD w ([],2)):=by
 have fin:aD w ([],2) (.returned (.tuple #[.slice none 0 0,.int .i64 2])) w:=⟨_,rfl,Nt _ _ _ _,Nj _ _⟩;have F:=aa fin;clear fin;generalize aD w ([],2)=PO at*;by_cases h1:n<1\/256<n;·have HM:=aa (Ej w n h1);clear h h1;go_enter func76,ntmps76;go_wp2_with fail;refine HM.out.mono ?_;rintro e w1 ⟨rfl,rfl⟩;go_wp2_with fail;(first|exact F.out|(go_ret2;exact F.out))
 ·have HM:=aa (tB w n (by omega) (by omega));have h2:most<0\/262144<most:=by omega
  clear h h1;by_cases h3:most<0;·have d2:decide (most<0)=true:=Nn h3;clear h2;go_enter func76,ntmps76;go_wp2_with fail;refine HM.out.mono ?_;rintro e w1 ⟨rfl,rfl⟩;go_wp2_with fail;(first|exact F.out|(go_ret2;exact F.out))
  ·have d2:decide (most<0)=false:=Nl h3;have d3:decide (262144<most)=true:=bE;clear h2;go_enter func76,ntmps76;go_wp2_with fail;refine HM.out.mono ?_;rintro e w1 ⟨rfl,rfl⟩;go_wp2_with fail;(first|exact F.out|(go_ret2;exact F.out))
theorem tx(w:World)(A:Option Addr)(m c:Nat)(L:List Int)(n most:Nat)(hL:ZIn w A m L)(HT:m<=c)(hm:m<=2000000)(hn:1<=n)(hP:n<=256)(H7:most<=262144):Calls prog 76 #[.int .i64 n,.int .i64 most,.slice A m c] w (aD w (eT n most L [] 1 false)):=by
 obtain⟨i3,h3,p4,p5,p6⟩:=N4 Tryz.info3;have d2:decide ((most:Int)<0)=false:=aR;have d3:decide ((262144:Int)<(most:Int))=false:=aR;have HP:Hid (∀ (v:Value) (a:List Nat×Nat) (w':World),eT n most L [] 1 false=a->w'.ownsRow w.heap.size 3 1 v a.1.length (a.1.map iv)->Below w.heap.size w w'->aD w (eT n most L [] 1 false) (.returned (.tuple #[v,.int .i64 a.2])) w'):=aa fun v a w' h1 h2 h3=>⟨v,by rw[h1],by rw[h1];exact h2,h3⟩;have HM:=aa (tB w n (by omega) (by omega));have h8:=aa fun w':World=>(tz w' n hP).mono fun e W' h=>(⟨h.1,0,h.2.symm⟩:e=.returned (.int .i64 ((n:Int)+1))/\∃m,W'=w'.drewN m);have hH:=aa fun(w':World) (s:Int)=>Ag w' n s hP;have hF:=aa fun(w':World) (A:Option Addr) (m c:Nat) (L:List Int) (hL:ZIn w' A m L)=>IL w' A m c L n hL hP;have he:=aa FG;have HL:=aa hL;obtain⟨n1,H8⟩:∃n1,n1=n+1:=⟨_,rfl⟩;have HA:((n:Int)+1)=(n1:Int):=by omega
 rw[HA]at h8;have p9:=aa H8;have HW:n1<=257:=by omega
 clear hL H8;generalize aD w (eT n most L [] 1 false)=PO at*;generalize hans:eT n most L [] 1 false=ans at*;have h5:=aa hans;clear hans;go_enter func76,ntmps76;go_wp2_with fail;refine HM.out.mono ?_;rintro e w1 ⟨rfl,rfl⟩;go_wp2_with fail;go_loopw [2,8] (fun l places wx=>∃(A':Option Addr) (m' c':Nat) (L':List Int) (o:List Nat),l=.slice A' m' c'/\ZIn w A' m' L'/\m'<=c'/\m'<=m/\wx.ownsRow w.heap.size 3 1 places o.length (o.map iv)/\o.length<=most/\Hid (ans=eT n most L' o 1 false)/\Below w.heap.size w wx) (fun l _ _=>un l)
 case atStart=>exact⟨A,m,c,L, [],rfl,HL.out,HT,Nk _,Nt _ _ _ _,Ng _,by rw[<- h5.out];rfl,Nj _ _⟩
 case round=>
  obtain⟨A',m',c',L',o,rfl,hZ,hO,H6,hr,p0,ho,hb⟩:=hrel;have p8:=hb.size;obtain⟨A0,c0,rfl,HV,HR,HK⟩:=ai hr;clear HK;unfold maxLen at HR;have HB:=aa hb;have HO:=aa hr;have HZ:=aa hZ;obtain⟨room,hC⟩:∃room,room=most-o.length:=⟨_,rfl⟩;have hD:o.length+room=most:=by omega
  have hW:=aa (he.out wr A' m' c' L' room (hZ.below hb) (by omega) (by omega));obtain⟨N,hN⟩:∃N,N=o.length:=⟨_,rfl⟩;have pj:(most:Int)-(N:Int)=(room:Int):=by omega
  have hw:=aa hD;have HN:=aa hN;rw[<- hN]at HV p0 |-;clear hZ hr hb hC hD hN;go_wp2_with fail;refine hW.out.mono ?_;rintro e w2 ⟨rfl,hz⟩;rcases hz with⟨q,Z,wo,hq,pb,rfl,HE,hQ⟩|⟨rfl,hg⟩
  ·have h0:=ho.out.trans (HE n most o hn hw.out);obtain⟨v2,w2,ht,hh,H1⟩:=ze wr w.heap.size _ _ _ HO.out Z (by omega) (by rw[<- HN.out];omega) p8;rw[<- HN.out]at ht;have h7:w2.ownsRow w.heap.size 3 1 v2 (o++List.replicate Z 0).length ((o++List.replicate Z 0).map iv):=(by rw[Nb,NA,Nz,Qh];exact hh);have hJ:=HB.out.trans H1;have hp:(o++List.replicate Z 0).length<=most:=(by rw[Nb,NA,<-HN.out];omega);obtain⟨o2,HC⟩:∃o2,o2=o++List.replicate Z 0:=⟨_,rfl⟩;rw[<- HC]at h0 h7 hp;obtain⟨A2,c2,rfl,HY,HS,_⟩:=ai h7;unfold maxLen at HS;have h6:=aa ht;have hG:=aa h7;have hc:=aa hJ;have hT:=hJ.size;obtain⟨N2,hI⟩:∃N2,N2=o2.length:=⟨_,rfl⟩;have hv:=aa hI;rw[<- hI]at HY hp h6;clear HE ht hh H1 h7 hJ HC hI ho hW he;by_cases eq:q=m';·subst eq;have hB:L'.drop q= []:=N9 (Oi HZ.out.1);rw[hB]at h0;have h4:=aa (HP.out (.slice none 0 0) ([],70) w2 h0 (Nt _ _ _ _) hc.out);clear hB h0 hQ HP h5;(go_wp2_with (at_builtin;refine Lib.wpList_append_run _ rfl _ _ 37 3 rfl (.slice A0 N c0) (.int .i64 Z) rfl rfl (.slice A2 N2 c2) w2 h6.out ?_));all_goals (first|exact h4.out|(go_ret2;exact h4.out))
   ·obtain⟨m2,rfl⟩:∃m2,m'=q+m2:=⟨m'-q,by omega⟩;obtain⟨c3,rfl⟩:∃c3,c'=q+c3:=⟨c'-q,by omega⟩;have H5:0<m2:=(by omega);have pf:¬c3=0:=(by omega);have HU:m2<=c3:=(by omega);have HH:=aa H6;obtain⟨b,off,rfl,_⟩:=HZ.out.2 (by omega);have hy:=K5 HZ.out;obtain⟨x,L3,hx⟩:∃x L3,L'.drop q=x::L3:=by
     cases h:L'.drop q with
     | nil=>have:=hy.1;rw[h]at this;simp at this;omega
     | cons x L3=>exact⟨x,L3,rfl⟩
    rw[hx]at hy h0;have ha:=hQ x L3 hx;obtain⟨b',off',e',hf⟩:=hy.2 H5;simp only[Oj,PR]at e';obtain⟨rfl,rfl,_⟩:=e';have hR:=hf 0 H5;rw[NY]at hR;have hS:w.cell? ⟨b,off+q,none⟩=some (.int .i64 x):=hR;have H4:=No w _ hS;have hM:=(hc.out.cell (p:=⟨b,off+q,none⟩) H4).trans hS;have H0:=K7 hy;have hY:=aa H0;have hl:=aa (hH.out w2 x);have d5:((m2:Int)==0)=false:=(by rw[NC];omega);have pg:(q:Int)<=((q+m2:Nat):Int):=(by omega);clear hf hR hS H4 hx hQ H6 hO eq hq H0 hy;rw[pN]at h0;by_cases hs:dX n x
    ·rw[Nn hs]at hl;have hj:=hs;unfold dX at hj;rw[Nd,Nd (by simp)]at h0;obtain⟨s,rfl⟩:∃s:Nat,x=s:=⟨x.toNat,by omega⟩;rw[HA]at h0 hj;by_cases e1:s=n1
     ·subst e1;rw[Nf rfl,Lr]at h0;have d6:((s:Int)==(s:Int))=true:=O9 _;obtain⟨be,hK⟩:∃be,be=zw n L3:=⟨_,rfl⟩;have hE:=aa fun(k:Nat) (A:Option Addr) (c:Nat) (hA:m2=1\/A=some ⟨b,off+q+1,none⟩)=>hF.out (w2.drewN k) A (m2-1) c L3 ((hY.out A hA).below (ax hc.out k));rw[<- hK]at h0 hE;have H2:be<=70:=(by rw[hK];exact Mp n L3);clear hK ha hs hj;by_cases e0:be=0
      ·subst e0;rw[Nf rfl]at h0;(have h4:Hid (∀ k,PO (.returned (.tuple #[.slice A2 N2 c2,.int .i64 0])) (w2.drewN k)):=aa fun k=>by rw[hv.out];exact HP.out (.slice A2 o2.length c2) (o2,0) (w2.drewN k) h0 hG.out (ax hc.out k));clear h0 HP h5;(go_wp2_with (at_builtin;refine Lib.wpList_append_run _ rfl _ _ 37 3 rfl (.slice A0 N c0) (.int .i64 Z) rfl rfl (.slice A2 N2 c2) w2 h6.out ?_));refine hl.out.mono ?_;rintro e w3 ⟨rfl,rfl⟩;go_wp2_with fail;go_quiet (first|(go_at_call 40;exact NI (h8.out _)));go_wp2_with fail
       all_goals (
        refine(hE.out _ _ _ (by first|exact Or.inr rfl|exact Or.inl (by omega))).mono ?_
        rintro e w4 ⟨rfl,rfl⟩
        go_wp2_with fail
        (first|exact h4.out _|(go_ret2;exact h4.out _)))
      ·rw[Nd e0]at h0;have h4:Hid (∀ k,PO (.returned (.tuple #[.slice none 0 0,.int .i64 be])) (w2.drewN k)):=aa fun k=>HP.out (.slice none 0 0) ([],be) (w2.drewN k) h0 (Nt _ _ _ _) (ax hc.out k);have d7:((be:Int) != 0)=true:=(by rw[Pe];omega);clear h0 HP h5 e0;(go_wp2_with (at_builtin;refine Lib.wpList_append_run _ rfl _ _ 37 3 rfl (.slice A0 N c0) (.int .i64 Z) rfl rfl (.slice A2 N2 c2) w2 h6.out ?_));refine hl.out.mono ?_;rintro e w3 ⟨rfl,rfl⟩;go_wp2_with fail;go_quiet (first|(go_at_call 40;exact NI (h8.out _)));go_wp2_with fail
       all_goals (
        refine(hE.out _ _ _ (by first|exact Or.inr rfl|exact Or.inl (by omega))).mono ?_
        rintro e w4 ⟨rfl,rfl⟩
        go_wp2_with fail
        (first|exact h4.out _|(go_ret2;exact h4.out _)))
     ·have p1:s<n1:=(by omega);have p3:1<s:=(by omega);have d6:((s:Int)==(n1:Int))=false:=(by rw[NC];omega);rw[Nd,Nf,Nv,<-hv.out]at h0;by_cases e4:most<=N2;·rw[Nf e4]at h0;have d8:((N2:Int)==(most:Int))=true:=(by rw[Pn];omega);have h4:Hid (∀ k,PO (.returned (.tuple #[.slice none 0 0,.int .i64 3])) (w2.drewN k)):=aa fun k=>HP.out (.slice none 0 0) ([],3) (w2.drewN k) h0 (Nt _ _ _ _) (ax hc.out k);clear h0 HP h5 e4 hp ha hs hj;(go_wp2_with (at_builtin;refine Lib.wpList_append_run _ rfl _ _ 37 3 rfl (.slice A0 N c0) (.int .i64 Z) rfl rfl (.slice A2 N2 c2) w2 h6.out ?_));refine hl.out.mono ?_;rintro e w3 ⟨rfl,rfl⟩;go_wp2_with fail;go_quiet (first|(go_at_call 40;exact NI (h8.out _)));go_wp2_with fail;(first|exact h4.out _|(go_ret2;exact h4.out _))
      ·rw[Nd e4]at h0;have d8:((N2:Int)==(most:Int))=false:=(by rw[NC];omega);obtain⟨s1,HD⟩:∃s1,s1=s-1:=⟨_,rfl⟩;rw[<- HD]at h0;have pk:((s:Int)-1)=(s1:Int):=(by omega);have HJ:=aa h0;obtain⟨X,hX⟩:∃X,X=o2.map iv:=⟨_,rfl⟩;rw[<- hX,<-hv.out]at hG;have HX:=aa hX;have p2:s1<=257:=(by omega);clear h0 hX HD ha hs hj p1 p3 e1;(go_wp2_with (at_builtin;refine Lib.wpList_append_run _ rfl _ _ 37 3 rfl (.slice A0 N c0) (.int .i64 Z) rfl rfl (.slice A2 N2 c2) w2 h6.out ?_));refine hl.out.mono ?_;rintro e w3 ⟨rfl,rfl⟩;go_wp2_with fail;go_quiet (first|(go_at_call 40;exact NI (h8.out _)));have HF:=aa (ax hc.out nq);have hV:Hid ((w2.drewN nq).ownsRow w.heap.size 3 1 (.slice A2 N2 c2) N2 X):=aa hG.out;have HQ:(w2.drewN nq).cell? ⟨b,off+q,none⟩=some (.int .i64 (s:Nat)):=hM;have p7:w.heap.size<=(w2.drewN nq).heap.size:=hT;generalize w2.drewN nq=w5 at*;(go_wp2_with (at_builtin;refine N5 _ rfl _ _ 37 rfl w.heap.size 3 i3 (.int .i64 0) 1 8 underlying37 h3 p4 p5 p6 rfl (by decide) _ _ _ rfl (hV.out.alloc _) ⟨w5.heap.size,0,none⟩ 1 1 [.int .i64 s1] rfl rfl ?c1 ?c2 ?c3 ?c4 ?c5 ?_));case c1=>exact bV _ _ _
       case c2=>intro u hu;simp at hu;subst hu;rfl
       case c3=>unfold maxLen;omega
       case c4=>omega
       case c5=>simp;omega
       intro v6 w6 hi h9 _;have H3:Below w.heap.size w w6:=(HF.out.alloc p7 _).grown h9 (by simp;omega) (fun k hk=>(hV.out.lt k hk).1);have HI:=aa hi;have HG:=aa H3;clear hi h9 H3;go_wp2_with fail
       all_goals (
        go_roundw
        case rel=>
         refine⟨_,_,_,L3,o2++ [s1],rfl,hY.out _ (by first|exact Or.inr rfl|exact Or.inl (by omega)|(by_cases h:c3=1;exact Or.inl (by omega);exact Or.inr (Nd h))),by omega,by have:=HH.out;omega,?_,by rw[Nb,<-hv.out];show N2+1<=most;omega,HJ,HG.out⟩
         rw[Nb,<-hv.out,Nz,<-HX.out]
         exact HI.out
        case measure=>simp[un];omega)
    ·rw[Nl hs]at hl;have hj:=hs;unfold dX at hj;rw[Nf]at h0;have h4:=aa (HP.out (.slice none 0 0) _ w2 h0 (Nt _ _ _ _) hc.out);clear h0 HP h5 hs hj ha;(go_wp2_with (at_builtin;refine Lib.wpList_append_run _ rfl _ _ 37 3 rfl (.slice A0 N c0) (.int .i64 Z) rfl rfl (.slice A2 N2 c2) w2 h6.out ?_));refine hl.out.mono ?_;rintro e w3 ⟨rfl,rfl⟩;go_wp2_with fail;(first|exact h4.out|(go_ret2;exact h4.out))
  ·have h0:=ho.out.trans (hg n most o hn hw.out);have h4:=aa (HP.out (.slice none 0 0) ([],3) wr h0 (Nt _ _ _ _) HB.out);clear hg h0 HP h5;go_wp2_with fail;(first|exact h4.out|(go_ret2;exact h4.out))
theorem IQ(w:World)(A:Option Addr)(m c:Nat)(L:List Int)(n most:Int)(hL:ZIn w A m L)(h0:m<=c)(hm:m<=2000000):Calls prog 76 #[.int .i64 n,.int .i64 most,.slice A m c] w (aD w (fD n most L)):=by
 by_cases h:n<1\/256<n\/most<0\/262144<most;·rw[show fD n most L=([],2)from Nf h];exact IR w A m c n most h
 ·obtain⟨k,rfl⟩:∃k:Nat,n=k:=⟨n.toNat,by omega⟩;obtain⟨j,rfl⟩:∃j:Nat,most=j:=⟨most.toNat,by omega⟩;rw[show fD (k:Int) (j:Int) L=eT k j L [] 1 false by unfold fD;rw[Nd h,Nv,Nv]];exact tx w A m c L k j hL h0 hm (by omega) (by omega) (by omega)
