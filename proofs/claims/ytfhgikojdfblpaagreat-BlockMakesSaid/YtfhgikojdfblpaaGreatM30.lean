import Derived.Test.YtfhgikojdfblpaaGreatM29
import Derived.Lib.AppendZeros
import Derived.Lib.AppendZerosOnto
set_option maxHeartbeats 1600000
set_option maxRecDepth 100000
namespace Go.Proofs.YtfhgikojdfblpaaGreat.S07
open _root_.Go.Proofs.Tryz
open Go.RowKit
def yB(k:Int):List Nat×Nat:=if k<0\/2147483647<k then([],2)else(dig k.toNat,0)
def gj(n:Int)(L:List Int):List Nat×Nat:=if n<1\/256<n then([],2)else if ∀x∈L,0<=x/\x<n then(eM n.toNat 0 (L.map Int.toNat),0)else([],60)
def fD(n most:Int)(L:List Int):List Nat×Nat:=if n<1\/256<n\/most<0\/262144<most then([],2)else eT n.toNat most.toNat L [] 1 false
def aD(w:World)(ans:List Nat×Nat)(e:Ending)(w':World):Prop:=∃v,e=.returned (.tuple #[v,.int .i64 ans.2])/\w'.ownsRow w.heap.size 3 1 v ans.1.length (ans.1.map iv)/\Below w.heap.size w w'
theorem Gr(n:Nat):∀left,rc (n+1) left=rc n left++ [left/2^n%2]:=by
 induction n with
 | zero=>intro left;simp[rc]
 | succ n ih=>intro left;rw[rc,ih (left/2),rc,Oq,O0,Ot,Om 2]
theorem AL(n:Nat):∀left,(rc n left).length=n:=by
 induction n with
 | zero=>intro left;rfl
 | succ n ih=>intro left;rw[rc,Ns,ih]
theorem Kv(w:World)(k:Nat)(hk:k<=2147483647):Calls prog 111 #[.int .i64 k] w (aD w (dig k,0)):=by
 obtain⟨i3,h3,hv,hw,hx⟩:=N4 Tryz.info3;have d0:decide ((k:Int)<0)=false:=aR;have d1:decide ((2147483647:Int)<(k:Int))=false:=aR;go_enter func111,ntmps111;go_wp2_with fail;go_loopw [4] (fun x wx=>∃n:Nat,n<=31/\x=.int .i64 n/\2^n<=k+1/\wx=w) (fun x _=>40-(intOf x).toNat)
 case atStart=>exact⟨0,by omega,rfl,by simp,rfl⟩
 case round=>
  obtain⟨n,hn,rfl,hp,rfl⟩:=hrel;obtain⟨A,hA⟩:∃A:Nat,A=2^(n+1):=⟨_,rfl⟩;obtain⟨B,hB⟩:∃B:Nat,B=2^n:=⟨_,rfl⟩;have hc:A=2*B:=by rw[hA,hB,Ot,Om]
  have hz:((2:Int)^(n+1))=(A:Int):=by rw[hA];simp
  have hy:((2:Int)^n)=(B:Int):=by rw[hB];simp
  have hs:n<=31:=hn;have hD:1<=B:=by rw[hB];exact Nat.one_le_two_pow
  rw[<- hB]at hp;by_cases e:A<=k+1
  ·have ha:n+1<=31:=by
    rcases N1 n 31 with h|h;·omega
    ·exfalso;have:n=31:=(by omega);subst this;have:B=2147483648:=hB;omega
   have d2:decide ((A:Int)-1<=(k:Int))=true:=bE;have HA:=aa hA;clear hA hB hc;go_wp2_with fail;go_roundw;case rel=>exact⟨n+1,ha,by go_num,by rw[<- HA.out];exact e,trivial⟩
   case measure=>simp[intOf];omega
  ·have d2:decide ((A:Int)-1<=(k:Int))=false:=aR;obtain⟨left,h4⟩:∃left,left=k+1-B:=⟨_,rfl⟩;have hl:(k:Int)-((B:Int)-1)=(left:Int):=(by omega);have h6:dig k=rc n left:=(by unfold dig;rw[Jg n (k+1) (by omega) (by omega),h4,hB]);have HD:=aa h6;clear hA hB h6 hc h4 e;go_wp2_with fail;(go_loopw [5,6,7] (fun l out x wx=>∃i y:Nat,i<=n/\x=.int .i64 i/\l=.int .i64 y/\y=left/2^i/\wx.ownsRow wr.heap.size 3 1 out i ((rc i left).map iv)/\Below wr.heap.size wr wx) (fun _ _ x _=>n-(intOf x).toNat));case atStart=>exact⟨0,left,Ng _,rfl,rfl,by simp,Nt _ _ _ _,Nj _ _⟩
   case round=>
    rename World=>w2;obtain⟨i,y,hi,rfl,rfl,hy,h2,hb⟩:=hrel;have hC:=hb.size;obtain⟨A0,c0,rfl,hF,hr,hq⟩:=ai h2;clear hq;unfold maxLen at hr;have HB:=aa hb;have HO:=aa h2;by_cases e:i<n
    ·have h8:=Gr i left;rw[<- hy]at h8;obtain⟨b,he⟩:∃b,b=y%2:=⟨_,rfl⟩;rw[<- he]at h8;have hE:(y:Int)%2=(b:Int):=(by omega);obtain⟨z,h7⟩:∃z,z=y/2:=⟨_,rfl⟩;have hG:(y:Int)/2=(z:Int):=(by omega);have hg:z=left/2^(i+1):=(by rw[h7,hy,O0,Ot]);have ht:y<=4294967296:=(by rw[hy];exact ND (QK _ _) (by omega));have hm:=aa h8;have ho:=aa hg;obtain⟨X,hX⟩:∃X,X=(rc i left).map iv:=⟨_,rfl⟩;rw[<- hX]at HO;have HX:=aa hX;clear hb h2 hy h8 he h7 hg hX;(go_wp2_with (at_builtin;refine N5 _ rfl _ _ 37 rfl wr.heap.size 3 i3 (.int .i64 0) 1 8 underlying37 h3 hv hw hx rfl (by decide) _ _ _ rfl (HO.out.alloc _) ⟨w2.heap.size,0,none⟩ 1 1 [.int .i64 b] rfl rfl ?c1 ?c2 ?c3 ?c4 ?c5 ?_));case c1=>exact bV _ _ _
     case c2=>intro u hu;simp at hu;subst hu;rfl
     case c3=>unfold maxLen;omega
     case c4=>omega
     case c5=>simp;omega
     intro v4 w4 h5 h0 _;have hf:Below wr.heap.size wr w4:=(HB.out.alloc hC _).grown h0 (by simp;omega) (fun k hk=>(HO.out.lt k hk).1);have hj:=aa h5;have hh:=aa hf;clear h5 h0 hf;go_wp2_with fail;go_roundw;case rel=>refine⟨i+1,z,by omega,by go_num,rfl,ho.out,?_,hh.out⟩;rw[hm.out,Nz,<-HX.out];exact hj.out
     case measure=>simp[intOf];omega
    ·obtain rfl:i=n:=(by omega);clear hb h2 hy;go_wp2_with fail;go_ret2;refine⟨_,rfl,?_,HB.out⟩;have h1:=HO.out;rw[<- HD.out]at h1;have h9:(dig k).length=i:=(by rw[HD.out,AL]);rw[h9];exact h1
theorem tT(n r:Nat)(l:List Nat):eM n r (0::l)=eM n (r+1) l:=by rw[eM,Nf rfl]
theorem tR(n r x:Nat)(l:List Nat)(h:x≠0):eM n r (x::l)=dig r++(x+1)::eM n 0 l:=by rw[eM,Nd h]
theorem cK(L:List Int)(q:Nat)(h:q<L.length):L.take (q+1)=L.take q++ [L.getD q 0]:=by rw[NF h,Na,Nc h];rfl
theorem od(L:List Int)(q:Nat)(h:q<L.length):(L.map Int.toNat).drop q=(L.getD q 0).toNat::(L.map Int.toNat).drop (q+1):=by have h1:q<(L.map Int.toNat).length:=(by rw[Nu];exact h);rw[NN h1,Q4,Na,Nc h];rfl
theorem sY(w:World)(B:Nat)(v:Value)(n:Nat)(xs:List Value)(h0:w.ownsRow B 3 1 v n xs)(A:Option Addr)(k c:Nat)(L:List Nat)(hi:aB w A k L)(x:Nat)(hf:n+k<=100000000)(hB:B<=w.heap.size):
 (∃ v4 w4 v5 w5,(Builtin.append_ #[37,37] 37 #[v,.slice A k c]).run Tryz.prog w=.ok v4 w4∧(Builtin.append_ #[37,37] 37 #[v4,.slice (some ⟨w4.heap.size,0,none⟩) 1 1]).run Tryz.prog (w4.alloc (.cells #[.int .i64 x] 3))=.ok v5 w5∧
   w5.ownsRow B 3 1 v5 (n+k+1) (xs++L.map iv++ [iv x])/\Below B w w4/\Below B w w5)/\
 (∃ v4 w4 v5 w5,(Builtin.append_ #[37,37] 37 #[v,.slice A k c]).run Tryz.prog (w.alloc (.cells #[.int .i64 x] 3))=.ok v4 w4∧(Builtin.append_ #[37,37] 37 #[v4,.slice (some ⟨w.heap.size,0,none⟩) 1 1]).run Tryz.prog w4=.ok v5 w5∧
   w5.ownsRow B 3 1 v5 (n+k+1) (xs++L.map iv++ [iv x])/\Below B w w4/\Below B w w5):=by
 have one:∀w0:World,aB (w0.alloc (.cells #[.int .i64 x] 3)) (some ⟨w0.heap.size,0,none⟩) 1 [x]:=by intro w0;refine⟨rfl,fun _=>⟨w0.heap.size,0,rfl,fun i hi=> ?_⟩⟩;have:i=0:=(by omega);subst this;rw[ac (aj w0 3 _)];rfl
 constructor;·obtain⟨v4,w4,h4,h3,h6⟩:=bB w B v n xs h0 A k c L hi (by omega) hB;have h2:Below B w w4:=(Nj B w).grown h6 hB (fun k hk=>(h0.lt k hk).1);have he:=h2.size;obtain⟨v5,w5,h5,h9,h8⟩:=bB (w4.alloc (.cells #[.int .i64 x] 3)) B v4 (n+k) _ (h3.alloc _) (some ⟨w4.heap.size,0,none⟩) 1 1 [x] (one w4) (by omega) (by simp;omega);have h7:Below B w w5:=(h2.alloc (by omega) _).grown h8 (by simp;omega) (fun k hk=>(h3.lt k hk).1);exact⟨v4,w4,v5,w5,h4,h5,h9,h2,h7⟩
 ·have ha:Below B w (w.alloc (.cells #[.int .i64 x] 3)):=(Nj B w).alloc hB _;have hc:Below w.heap.size w (w.alloc (.cells #[.int .i64 x] 3)):=(Nj _ w).alloc (ag _) _;obtain⟨v4,w4,h4,h3,h6⟩:=bB (w.alloc (.cells #[.int .i64 x] 3)) B v n xs (h0.alloc _) A k c L (cF hi hc) (by omega) (by simp;omega);have h2:Below B w w4:=ha.grown h6 (by simp;omega) (fun k hk=>(h0.lt k hk).1);have h1:aB w4 (some ⟨w.heap.size,0,none⟩) 1 [x]:=by
   refine⟨rfl,fun _=>⟨w.heap.size,0,rfl,fun i hi=> ?_⟩⟩
   have hb:w4.heap[w.heap.size]? =(w.alloc (.cells #[.int .i64 x] 3)).heap[w.heap.size]? :=h6.block w.heap.size (by simp) (fun e=>by
    have:=(h0.lt w.heap.size e.symm).2
    omega)
   have i0:i=0:=(by omega);subst i0;rw[World.cell?_of_block (a:=⟨w.heap.size,0+0,none⟩) hb,ac (aj w 3 _)];rfl
  have he:=h2.size;obtain⟨v5,w5,h5,h9,h8⟩:=bB w4 B v4 (n+k) _ h3 (some ⟨w.heap.size,0,none⟩) 1 1 [x] h1 (by omega) (by omega);have h7:Below B w w5:=h2.grown h8 (by omega) (fun k hk=>(h3.lt k hk).1);exact⟨v4,w4,v5,w5,h4,h5,h9,h2,h7⟩
theorem Kd(w:World)(A:Option Addr)(m c:Nat)(n:Int)(h:n<1\/256<n):Calls prog 62 #[.int .i64 n,.slice A m c] w (aD w ([],2)):=by
 by_cases h1:n<1;·clear h;go_enter func62,ntmps62;go_wp2_with fail;go_ret2;exact⟨_,rfl,Nt _ _ _ _,Nj _ _⟩
 ·have h2:256<n:=h.resolve_left h1;clear h;go_enter func62,ntmps62;go_wp2_with fail;go_ret2;exact⟨_,rfl,Nt _ _ _ _,Nj _ _⟩
theorem uR(w:World)(A:Option Addr)(m c:Nat)(L:List Int)(n:Nat)(hL:ZIn w A m L)(HF:m<=c)(hm:m<=2000000)(hn:1<=n)(HG:n<=256):Calls prog 62 #[.int .i64 n,.slice A m c] w (aD w (gj n L)):=by
 have d0:decide ((n:Int)<1)=false:=aR;have d1:decide ((256:Int)<(n:Int))=false:=aR;have hh:=aa (show gj (n:Int) L=if ∀x∈L,0<=x/\x<(n:Int)then(eM n 0 (L.map Int.toNat),0)else([],60) by unfold gj;rw[Nd,Nv]);have HL:=aa hL;have hi:=aa Kv;have hW:=hL.1;have hD:=aa hW;clear hL hW;generalize gj (n:Int) L=ans at*;go_enter func62,ntmps62;go_wp2_with fail;go_loopw [6,7,8] (fun out r i wx=>∃(q k:Nat) (o:List Nat),q<=m/\i=.int .i64 q/\r=.int .i64 k/\wx.ownsRow w.heap.size 3 1 out o.length (o.map iv)/\o.length+k<=q/\Hid (eM n 0 (L.map Int.toNat)=o++eM n k ((L.map Int.toNat).drop q))/\Hid (∀ x∈L.take q,0<=x/\x<(n:Int))/\Below w.heap.size w wx) (fun _ _ i _=>m-(intOf i).toNat)
 case atStart=>exact⟨0,0, [],Ng _,rfl,rfl,Nt _ _ _ _,Nk _,by simp[Hid],by simp[Hid],Nj _ _⟩
 case round=>
  obtain⟨q,k,o,hq,rfl,rfl,h3,H0,h9,hz,hb⟩:=hrel;have hA:=hb.size;obtain⟨A0,c0,rfl,hY,H7,H5⟩:=ai h3;clear H5;unfold maxLen at H7;have HB:=aa hb;by_cases e:q<m
  ·obtain⟨b,off,rfl,hc⟩:=HL.out.2 (by omega);have hp:=hc q e;have hg:=No w _ hp;have hR:=cK L q (by rw[hD.out];exact e);have hO:=od L q (by rw[hD.out];exact e);obtain⟨x,hx⟩:∃x,x=L.getD q 0:=⟨_,rfl⟩;rw[<- hx]at hp hR hO;have HE:=(hb.cell (p:=⟨b,off+q,none⟩) hg).trans hp;have H2:=aa hp;have hV:=aa hR;have hT:=aa hO;have HO:=aa h3;clear hc hx hp hR hO hb h3;by_cases e1:0<=x/\x<n
   ·obtain⟨y,rfl⟩:∃y:Nat,x=y:=⟨x.toNat,by omega⟩;have d3:decide ((y:Int)<0)=false:=aR;have HK:y<n:=(by omega);have HI:¬n<=y:=(by omega);have d4:decide ((n:Int)<=(y:Int))=false:=aR;have h7:∀x∈L.take (q+1),0<=x/\x<(n:Int):=by
     rw[hV.out];intro x hx;rcases List.mem_append.1 hx with hx|hx;·exact hz.out x hx
     ·rw[List.mem_singleton.1 hx];exact e1
    have hK:=aa h7;clear h7 e1;by_cases h0:y=0
    ·subst h0;have h2:eM n 0 (L.map Int.toNat)=o++eM n (k+1) ((L.map Int.toNat).drop (q+1)):=(by rw[h9.out,hT.out,show((0:Nat):Int).toNat=0 from rfl,tT]);have hC:=aa h2;clear h2;go_wp2_with fail;go_roundw;case rel=>exact⟨q+1,k+1,o,by omega,by go_num,by go_num,HO.out,by omega,hC,hK,HB.out⟩
     case measure=>simp[intOf];omega
    ·have d5:((y:Int)==0)=false:=(by rw[NC];omega);have h2:eM n 0 (L.map Int.toNat)=(o++dig k++ [y+1])++eM n 0 ((L.map Int.toNat).drop (q+1)):=(by rw[h9.out,hT.out,Nv,tR n k y _ h0];simp);have hC:=aa h2;have hJ:=aa (hi.out wr k (by omega));have H6:=qS k;obtain⟨y1,H1⟩:∃y1,y1=y+1:=⟨_,rfl⟩;have HM:((y:Int)+1)=(y1:Int):=(by omega);have HJ:IntKind.i64.wrap (y1:Int)=(y1:Int):=(by rw[Of];omega);have H4:=aa H1;obtain⟨N,hN⟩:∃N,N=o.length:=⟨_,rfl⟩;obtain⟨X,hX⟩:∃X,X=o.map iv:=⟨_,rfl⟩;rw[<- hN,<-hX]at HO;have HN:=aa hN;have HX:=aa hX;rw[<- hN]at H0 hY |-;clear h2 hN hX H1;go_wp2_with fail;refine hJ.out.mono ?_;rintro e w3 ⟨v3,rfl,ha,h5⟩;obtain⟨A3,c3,rfl,_,_,_⟩:=ai ha;have hs:=aE ha;have hj:=(an h5).row HO.out (fun _ _=>aw) aw;have h4:=((HB.out.trans (h5.mono hA)).cell (p:=⟨b,off+q,none⟩) hg).trans H2.out;have hS:w.heap.size<=w3.heap.size:=ND hA h5.size;have hk:w3.drew.ownsRow w.heap.size 3 1 (.slice A0 N c0) N X:=hj;have ht:aB w3.drew A3 (dig k).length (dig k):=hs;obtain⟨⟨v4,w4,v5,w5,r1,r2,hw,hE,hf⟩,⟨v4',w4',v5',w5',r1',r2',hy,ho,h8⟩⟩:=sY w3.drew w.heap.size _ N X hk A3 (dig k).length c3 (dig k) ht y1 (by omega) hS;have HA:=(hE.cell (p:=⟨b,off+q,none⟩) hg).trans h4;have hP:=(ho.cell (p:=⟨b,off+q,none⟩) hg).trans h4;have HC:=(hf.cell (p:=⟨b,off+q,none⟩) hg).trans h4;have hQ:=(h8.cell (p:=⟨b,off+q,none⟩) hg).trans h4;have HD:w3.drew.cell? ⟨b,off+q,none⟩=some (.int .i64 y):=h4;dsimp only;have s1:(Builtin.append_ #[37,37] 37 #[.slice A0 N c0,.slice A3 (dig k).length c3]).run prog (w3.alloc (.cells #[.int .i64 y1] 3)).drew=.ok v4' w4':=r1';have s2:(Builtin.append_ #[37,37] 37 #[v4',.slice (some ⟨w3.heap.size,0,none⟩) 1 1]).run prog w4'=.ok v5' w5':=r2';clear r1' r2';have he:∀(v6:Value) (w6:World),w6.ownsRow w.heap.size 3 1 v6 (N+(dig k).length+1) (X++(dig k).map iv++ [iv y1])->w6.ownsRow w.heap.size 3 1 v6 (o++dig k++ [y+1]).length ((o++dig k++ [y+1]).map iv):=(by intro v6 w6 h;rw[Nb,Nb,Nz,Nz,<-HN.out,<-HX.out];rw[H4.out]at h;exact h);have hu:(o++dig k++ [y+1]).length+0<=q+1:=(by rw[Nb,Nb,<-HN.out];show N+(dig k).length+1+0<=q+1;omega);have hB:=aa ((HB.out.trans (h5.mono hA)).drew);have hH:=aa (he v5 w5 hw);have hI:=aa (he v5' w5' hy);have hF:=aa (hB.out.trans hf);have hG:=aa (hB.out.trans h8);clear he hw hy hE ho hf h8 hk ht hs hj ha h5;go_upto_region 13 with fail
     go_region_held3 (fun w'=>w'.cell? ⟨b,off+q,none⟩=some (.int .i64 y)) (first|with_reducible exact HD|with_reducible exact HA|with_reducible exact hP|with_reducible exact HC|with_reducible exact hQ|go_keep)
      (first|(refine dG (v':=v4) (w':=w4) rfl (.tmp 50) (.tmp 51) 37 rfl (.slice A0 N c0) (.slice A3 (dig k).length c3) rfl rfl ?hr ?_;case hr=>(dsimp only;with_reducible exact r1))|(refine dG (v':=v4') (w':=w4') rfl (.tmp 50) (.tmp 51) 37 rfl (.slice A0 N c0) (.slice A3 (dig k).length c3) rfl rfl ?hr ?_;case hr=>(dsimp only;with_reducible exact s1))|(refine dG (v':=v5) (w':=w5) rfl (.tmp 52) (.tmp 58) 37 rfl v4 (.slice (some ⟨w4.heap.size,0,none⟩) 1 1) rfl rfl ?hr ?_;case hr=>(dsimp only;with_reducible exact r2))|(refine dG (v':=v5') (w':=w5') rfl (.tmp 52) (.tmp 58) 37 rfl v4' (.slice (some ⟨w3.heap.size,0,none⟩) 1 1) rfl rfl ?hr ?_;case hr=>(dsimp only;with_reducible exact s2)))
     all_goals (go_wp2_with fail;go_roundw)
     all_goals first
      | exact⟨q+1,0,o++dig k++ [y+1],by omega,by go_num,rfl,hH.out,hu,hC,hK,hF.out⟩
      | exact⟨q+1,0,o++dig k++ [y+1],by omega,by go_num,rfl,hI.out,hu,hC,hK,hG.out⟩
      | (simp [intOf];omega)
   ·have H8:ans=([],60):=(by rw[hh.out,if_neg];intro hM;have:x∈L:=(by have h1:x∈L.take (q+1):=(by rw[hV.out];exact OX _ (List.mem_singleton.2 rfl));exact OC h1);exact e1 (hM x this));subst H8;by_cases e2:x<0;·have d3:decide (x<0)=true:=Nn e2;clear e1;go_wp2_with fail;go_ret2;exact⟨_,rfl,Nt _ _ _ _,HB.out⟩
    ·have d3:decide (x<0)=false:=Nl e2;have e3:(n:Int)<=x:=(by omega);have d4:decide ((n:Int)<=x)=true:=Nn e3;clear e1;go_wp2_with fail;go_ret2;exact⟨_,rfl,Nt _ _ _ _,HB.out⟩
  ·obtain rfl:q=m:=(by omega);have hl:ans=(o++dig k++ [n+1],0):=(by have hv:=hz.out;rw[Nr (Oi hD.out)]at hv;rw[hh.out,Nf hv,h9.out,N9 (by rw[Nu,hD.out];exact Nk _),eM,Ni]);have hJ:=aa (hi.out wr k (by omega));have H6:=qS k;obtain⟨n1,hZ⟩:∃n1,n1=n+1:=⟨_,rfl⟩;have HH:((n:Int)+1)=(n1:Int):=(by omega);obtain⟨N,hN⟩:∃N,N=o.length:=⟨_,rfl⟩;obtain⟨X,hX⟩:∃X,X=o.map iv:=⟨_,rfl⟩;rw[<- hN,<-hX]at h3;have HO:=aa h3;have HN:=aa hN;have HX:=aa hX;rw[<- hN]at H0 hY |-;have h6:=aa hl;have H3:=aa hZ;clear h3 hb hN hX hl hZ;go_wp2_with fail;refine hJ.out.mono ?_;rintro e w3 ⟨v3,rfl,ha,h5⟩;obtain⟨A3,c3,rfl,_,_,_⟩:=ai ha;have hs:=aE ha;have hj:=(an h5).row HO.out (fun _ _=>aw) aw;have hS:w.heap.size<=w3.heap.size:=ND hA h5.size;obtain⟨⟨v4,w4,v5,w5,r1,r2,hw,hE,hf⟩,_⟩:=sY w3 w.heap.size _ N X hj A3 (dig k).length c3 (dig k) hs n1 (by omega) hS;have hB:=aa (HB.out.trans (h5.mono hA));have hF:=aa (hB.out.trans hf);have hH:=aa hw;have R1:=aa r1;have R2:=aa r2;dsimp only;clear hw hE hf hs hj ha h5 r1 r2
   go_wp2_with (at_builtin;first
    | refine Lib.wpList_append_run _ rfl (.tmp 65) (.tmp 66) 37 37 rfl (.slice A0 N c0) (.slice A3 (dig k).length c3) rfl rfl v4 w4 R1.out ?_
    | refine Lib.wpList_append_run _ rfl (.tmp 67) (.tmp 70) 37 37 rfl v4 (.slice (some ⟨w4.heap.size,0,none⟩) 1 1) rfl rfl v5 w5 R2.out ?_)
   go_ret2;refine⟨v5,by rw[h6.out];rfl,?_,hF.out⟩;rw[h6.out];dsimp only;rw[Nb,Nb,Nz,Nz,<-HN.out,<-HX.out,<-H3.out];exact hH.out
theorem Kc(w:World)(A:Option Addr)(m c:Nat)(L:List Int)(n:Int)(hL:ZIn w A m L)(h0:m<=c)(hm:m<=2000000):Calls prog 62 #[.int .i64 n,.slice A m c] w (aD w (gj n L)):=by
 by_cases h:n<1\/256<n;·rw[show gj n L=([],2)from Nf h];exact Kd w A m c n h
 ·obtain⟨k,rfl⟩:∃k:Nat,n=k:=⟨n.toNat,by omega⟩;exact uR w A m c L k hL h0 hm (by omega) (by omega)
theorem kp(m:Nat):(Builtin.zeroCells (Value.int .i64 0).cells m).toList=List.replicate m (.int .i64 0):=by
 apply Ob;intro j;by_cases hj:j<m;·simp[Builtin.zeroCells,hj,Nat.mod_one,Value.cells]
 ·simp[Builtin.zeroCells,hj,Value.cells]
theorem iu{P:Program}(w:World)(t tn ty e:TypeId)(i:TypeInfo)(kq kn:IntKind)(ht:P.underlying t=some (.slice e))(h8:P.underlying tn=some (.int kn))(hi:P.info? e=some i)(hz:i.zero=some (.int .i64 0))(hs:i.size=1)(h5:i.bytes=8)
 (g sLen sCap:Nat) (cur:Array Value) (hg:w.heap[g]? =some (.cells cur e (0,0)))
 (k:Nat) (h0:0<k) (hk:k<=1000000000) (h1:sLen+k<=sCap) (h6:sLen+k<=cur.size):
 (Builtin.append_ #[t,tn] ty #[.slice (some ⟨g,0,none⟩) sLen sCap,.int kq k]).run P w=
   .ok (.slice (some ⟨g,0,none⟩) (sLen+k) sCap) (w.setRow g (cur.toList.take sLen++List.replicate k (Value.int .i64 0)++cur.toList.drop (sLen+k)).toArray):=by have h7:k≠0:=(by omega);have hw:IntKind.i64.wrap (k:Int)=k:=(by rw[Of];omega);have h2:¬(281474976710656<(k:Int)*8):=(by omega);have h3:¬((k:Int)<0):=(by omega);have h4:=run_storeCells_at P g sLen e (List.replicate k (Value.int .i64 0)) 0 cur w hg (by simp;omega) (by intro u hu;rw[Qr hu];rfl);simp only[NY,NA]at h4;simp[Builtin.append_,Pk ht,Pk h8,sizeOf,typeInfo,zeroValue,hi,hz,hs,h5,asInt,asIntOf,hw,h1,h3,h7,h2,OT,kp,h4]
theorem iV{P:Program}(w:World)(base:Nat)(t tn ty e:TypeId)(i:TypeInfo)(kq kn:IntKind)(ht:P.underlying t=some (.slice e))(hb:P.underlying tn=some (.int kn))(hi:P.info? e=some i)(hz:i.zero=some (.int .i64 0))(hs:i.size=1)(h8:i.bytes=8)
 (v:Value) (n:Nat) (xs:List Value) (h1:w.ownsRow base e 1 v n xs) (k:Nat) (h0:0<k) (hk:k<=1000000000) (hn:n<=1000000000) (h6:base<=w.heap.size):
 ∃v' w',(Builtin.append_ #[t,tn] ty #[v,.int kq k]).run P w=.ok v' w'/\w'.ownsRow base e 1 v' (n+k) (xs++List.replicate k (Value.int .i64 0))/\w.grownBy w' v.ownBlock/\(v'.ownBlock=v.ownBlock\/v'.ownBlock=some w.heap.size):=by
 have h2:(xs++List.replicate k (Value.int .i64 0)).length=(n+k)*1:=by rw[Nb,h1.1,NA];omega
 have grown:∀(old:Nat),old<n+k->∀(row:Option Nat),
  (w.drew.alloc (.cells (xs.toArray++Builtin.zeroCells (Value.int .i64 0).cells k++Builtin.zeroCells (Value.int .i64 0).cells (grownCap w (n+k) old e - (n+k))) e)).ownsRow base e 1
    (.slice (some ⟨w.heap.size,0,none⟩) (n+k) (grownCap w (n+k) old e)) (n+k) (xs++List.replicate k (Value.int .i64 0))/\
  w.grownBy (w.drew.alloc (.cells (xs.toArray++Builtin.zeroCells (Value.int .i64 0).cells k++Builtin.zeroCells (Value.int .i64 0).cells (grownCap w (n+k) old e-(n+k))) e)) row:=by
  intro old ho row
  have hf:=grownCap_ge w (n+k) old e
  have h9:grownCap w (n+k) old e<=maxLen:=RX w (n+k) old e (by unfold maxLen;omega)
  have hh:xs.length=n:=by rw[h1.1,Oc]
  refine⟨⟨h2,.inr ⟨w.heap.size,_,_,rfl,h6,_root_.Go.heap_alloc_new w.drew _,hf,h9,?_,?_⟩⟩,⟨rfl,rfl,rfl,by simp,fun q hq _=>_root_.Go.heap_alloc_old w.drew _ hq⟩⟩
  ·simp only[Rr,P3,RY,Value.cells,hh]
   simp
   omega
  ·simp only[Pd,Ni,kp]
   rw[<- Ni,<-h2]
   exact QZ
 rcases h1.2 with⟨rfl,rfl⟩|⟨g,cap,cur,rfl,hc,hg,hj,h9,he,h4⟩;·have hx:xs= []:=Nq (by simpa using h1.1);subst hx;have hr:=Lib.run_append_nil_zeros (P:=P) w t tn ty e i (.int .i64 0) kq kn ht hb hi hz k h0 (by omega) (by omega) (by rw[h8];omega);have h5:=grown 0 (by omega) (Value.ownBlock (.slice none 0 0));simp only[N8,Ok,Array.empty_append]at h5 |-;exact⟨_,_,hr,h5.1,h5.2,Or.inr rfl⟩
 ·rw[Oc]at he;by_cases h3:n+k<=cap
  ·have hr:=iu (P:=P) w t tn ty e i kq kn ht hb hi hz hs h8 g n cap cur hg k h0 hk h3 (by omega);refine⟨_,_,hr,⟨h2,.inr ⟨g,cap,_,rfl,hc,_root_.Go.setRow_heap w g cur _ e _ hg,h3,h9,?_,?_⟩⟩,⟨rfl,rfl,rfl,by simp,fun q _ hq=>_root_.Go.setRow_other w g q _ (fun e=>hq (by simp[Value.ownBlock,e]))⟩,Or.inl rfl⟩;·simp only[P3,Nb,NB,Ny,Q8,NA];omega
   ·rw[Oc]at h4;rw[h4,<-h2];exact QZ
  ·have h7:∀j u,xs[j]? =some u->w.cell? ((⟨g,0,none⟩:Addr).add j)=some u:=h1.cells (g:=g) rfl;have ha:=run_firstCells_some (P:=P) w.drew i.size n ⟨g,0,none⟩ n cap xs (by rw[h1.1,hs]) (by simpa using h7);have hr:=Lib.run_append_grow_zeros (P:=P) w t tn ty e i (.int .i64 0) kq kn ht hb hi hz (some ⟨g,0,none⟩) n cap xs ha k h0 (by omega) (by omega) (by omega) (by rw[h8];omega) (by rw[h8];exact growslice_fits (by omega) (by omega));have h5:=grown cap (by omega) (Value.ownBlock (.slice (some ⟨g,0,none⟩) n cap));exact⟨_,_,hr,h5.1,h5.2,Or.inr rfl⟩
theorem pN(n most:Nat)(s:Int)(l:List Int)(o:List Nat)(wo:Nat)(ended:Bool):eT n most (s::l) o wo ended=
 if s<0\/(n:Int)+1<s then([],60)
 else if ended then([],70)
 else if s=(n:Int)+1 then eT n most l o wo true
 else if 1<s then(if most<=o.length then([],3)else eT n most l (o++ [s.toNat-1]) 1 false)
 else if most<o.length+(s.toNat+1)*wo then([],3)else eT n most l (o++List.replicate ((s.toNat+1)*wo) 0) (wo*2) false:=rfl
theorem vL(k:Int):(yB k).1.length<=31:=by
 unfold yB;split;·exact Ng _
 ·have h:=(tN k.toNat).1;show(dig k.toNat).length<=31;rcases N1 (dig k.toNat).length 32 with h1|h1;·omega
  ·have h2:2^32<=2^(dig k.toNat).length:=Od (by decide) h1;omega
