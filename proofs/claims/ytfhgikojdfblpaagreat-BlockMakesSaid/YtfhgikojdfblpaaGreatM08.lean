import Derived.Test.YtfhgikojdfblpaaGreatM07
import Derived.Shelf.Small.Bits
import Derived.Lib.ItoaNum
set_option maxHeartbeats 3200000
set_option maxRecDepth 100000
namespace Go.Proofs.YtfhgikojdfblpaaGreat
open _root_.Go.Proofs.Tryz
open Go.RowKit
theorem fb.low{w w':World}{C g:Nat}{T:List (Nat×Nat)}(h:fb w g T)(hb:Below C w w')(hg:g<C):fb w' g T:=by obtain⟨cs,h1,h2⟩:=h;exact⟨cs,(hb.block g hg).trans h1,h2⟩
theorem Js(W:List Nat)(i j:Nat)(hi:i<W.length)(hj:j<W.length)(h:i≠j):eD W i≠eD W j:=by
 rcases OI (W.getD i 0) (W.getD j 0)with h1|h1|h1;·have:=iK W hj (.inl h1);omega
 ·rcases N1 i j with h2|h2;·have:=iK W hi (.inr ⟨h1,h2⟩);omega
  ·have:=iK W hj (.inr ⟨h1.symm,by omega⟩);omega
 ·have:=iK W hi (.inl h1);omega
theorem Fu(w:World)(A:Option Addr)(n c:Nat)(L:List Int)(hL:ZIn w A n L)(hM:gU L):Calls prog 89 #[.slice A n c] w (kZ w L):=by
 have ht:=hL.1;have HB:2<=n:=by have:=hM.1;omega
 have hn:n<=258:=by have:=hM.2.1;omega
 have HM:=aa (wS w A n c L hL (by unfold maxLen;omega));rw[show decide (gU L)=true from Nn hM]at HM;have HC:=aa (rL w A n c L hL (fun x hx=>(hM.2.2 x hx).1) (by omega) (by omega));obtain⟨f,hf⟩:∃f,f=rg L:=⟨_,rfl⟩;rw[<- hf]at HC;have hS:gK L=(List.range n).map f:=by unfold gK;rw[ht,hf]
 have hP:Hid (∀ (v:Value) (k:Nat) w',2^k<=n->n<2^(k+1)->w'.ownsRow w.heap.size 3 1 v n (cN n (bj k (2^(k+1)-n) (gK L)))->Below w.heap.size w w'->kZ w L (.returned (.tuple #[v,.int .i64 0])) w'):=aa fun v k w' h1 h2 h3 h4=>.inr ⟨hM,v,k,by rw[ht];exact h1,by rw[ht];exact h2,rfl,by rw[ht];exact h3,h4⟩;generalize kZ w L=PO at*;generalize gK L=W at*;have HA:=aa fun(w1:World) (B g c1:Nat) (h:az w1 B g c1 n f)=>vZ w1 (some ⟨g,0,none⟩) n c1 f h.ints (by omega) (by omega);obtain⟨k,hk⟩:∃k,k=Lib.bitLen n-1:=⟨_,rfl⟩;have hw:=Lib.bitLenAux_bounds 64 n (by omega) (by omega);have hh:1<=Lib.bitLen n:=hw.1;have hm:2^k<=n:=by rw[hk];exact hw.2.1
 have hY:n<2^(k+1):=by rw[hk,Nat.sub_add_cancel hh];exact hw.2.2
 obtain⟨P,hE⟩:∃P:Nat,P=2^(k+1):=⟨_,rfl⟩;have H4:(2:Int)*(2:Int)^k=(P:Int):=by rw[hE,Ot];push_cast;omega
 have HG:k<=8:=by
  rcases N1 k 9 with h|h;·omega
  ·have:=Od (show 0<2 by decide) h;omega
 have HD:P<=512:=by rw[hE];have:2^(k+1)<=2^9:=Od (by decide) (by omega);exact this
 obtain⟨C,hC⟩:∃C,C=P-n:=⟨_,rfl⟩;have H3:(P:Int)-(n:Int)=(C:Int):=by omega
 have hu:=aa fun w1:World=>Any.bits_Len Tryz.laysBits (n:Int) w1 (by omega) (by omega);rw[Nv]at hu;obtain⟨b,hb⟩:∃b,b=Lib.bitLen n:=⟨_,rfl⟩;rw[<- hb]at hu hk hh;have hZ:(b:Int)-1=(k:Int):=by omega
 have HK:=aa (show 2^k<=n/\n<2^(k+1)/\C=2^(k+1)-n from⟨hm,hY,by omega⟩);have HW:=aa hS;clear hL ht hM hf hS hk hw hh hm hY hE hC hb;go_enter func89,ntmps89;go_wp2_with fail;refine HM.out.mono ?_;rintro e w ⟨rfl,rfl⟩;clear HM;go_wp2_with fail;refine HC.out.mono ?_;rintro e w1 ⟨gA,cA,rfl,hX,hV⟩;have hI:=aa (HA.out w1 w.heap.size gA cA hX);have hA:=aa hV;clear hX hV HC HA;go_wp2_with fail;refine hI.out.mono ?_;rintro e w2 ⟨rfl,hH,hW⟩;obtain⟨T,hT⟩:∃T,T=(List.range n).map fun i=>(f i,i):=⟨_,rfl⟩;rw[<- hT]at hH;have hQ:T.length=n:=by rw[hT];simp
 have hR:(T.map Prod.snd).Nodup:=by rw[hT,Ou];have:(Prod.snd ∘ fun i=>(f i,i))=id:=rfl;rw[this,QV];exact OD
 have HT:=aa hT;have zg:w.heap.size<=w1.heap.size:=hA.out.size;have hl:=yD w2 w.heap.size w1.heap.size n T hH.row zg (by omega) hR;rw[hQ]at hl;have hr:=aa hl;have hK:=aa (hA.out.trans (hW.mono zg));clear hH hW hT hQ hR hl hI hA;go_wp2_with fail;refine hr.out.mono ?_;rintro e w3 ⟨rfl,LS,hc,he,h0,H1⟩;have h8:=aa hc;have h9:=aa he;have hq:=aa h0;have hN:=aa (hK.out.trans H1.below);have zg3:w1.heap.size<w3.heap.size:=h0.lt;have hp:=aa (hu.out w3);clear hc he h0 H1 hr hu hK;go_wp2_with fail;refine hp.out.mono ?_;rintro e w4 ⟨rfl,rfl⟩;have H6:=bu w4 n (by omega);have hO:=aa (bf w4 w.heap.size n hN.out.size (by omega));have hJ:Hid (Below w4.heap.size w4 (w4.alloc (.cells (madeCells #[.int .i64 0] n) 3))):=aa ((Nj w4.heap.size w4).alloc (ag _) (.cells (madeCells #[.int .i64 0] n) 3));go_wp2_with fail;clear H6 H4 H3 hZ hp;have hg:Hid (W.length=n):=aa (by rw[HW.out];simp)
 have hD:Hid (LS.length=n/\∀i x,LS[i]? =some x->x.2<n/\eD W x.2=i):=aa (by
  have H0:LS.Perm ((List.range W.length).map fun i=>(W.getD i 0,i)):=by
   rw[hg.out]
   refine h8.out.trans ?_
   rw[HT.out]
   have:((List.range n).map fun i=>(f i,i))=(List.range n).map fun i=>(W.getD i 0,i):=Oe fun i hi=>by rw[HW.out,dE n f i (List.mem_range.1 hi)]
   rw[this]
  refine⟨by rw[H0.length_eq];simp[hg.out],fun i x hx=> ?_⟩
  have h3:=Bj W LS H0 h9.out i x hx
  rw[hg.out]at h3
  exact h3)
 clear h8 h9 HT;go_loopw [8,9,33] (fun s8 s9 x wx=>∃i:Nat,i<=n/\x=.int .i64 i/\az wx w.heap.size w4.heap.size n n (fun j=>if eD W j<i then bj k C W j else 0)/\Below w4.heap.size w4 wx) (fun _ _ x _=>n-(intOf x).toNat)
 case atStart=>refine⟨0,Ng _,rfl,?_,hJ.out⟩;have e0:(fun j=>if eD W j<0 then bj k C W j else 0)=fun _=>0:=(by funext j;rw[Nd]);rw[e0];exact hO.out
 case round=>
  clear hO hJ;obtain⟨i,hi,rfl,hf,hj⟩:=hrel;by_cases e:i<n
  ·have HE:(0:Int)<=(i:Int):=(by omega);have hF:i<LS.length:=(by rw[hD.out.1];exact e);have hx:=hD.out.2 i (LS.getD i (0,0)) (by rw[Na,Nc hF];rfl);have h0:=hq.out.low hj zg3;have l0:=h0.cell0 hF;have l1:=h0.cell1 hF;generalize LS.getD i (0,0)=t at*;obtain⟨t0,j⟩:=t;dsimp only at l0 l1 hx;have hG:=hx.1;have hy:=hx.2;have HF:(0:Int)<=(j:Int):=(by omega);have H5:(j:Int)<(n:Int):=(by omega);have H8:w4.heap.size<=wr.heap.size:=hj.size;have hs:az (wr.alloc (.cells #[.int .i64 t0,.int .i64 j] 192)) w.heap.size w4.heap.size n n _:=hf.alloc _;have b1:=(ac (aj wr 192 #[.int .i64 t0,.int .i64 j]) 1).trans (rfl:_=some (Value.int .i64 j));have c1:=hs.cell j hG;have g1:=hs.frozen j;have ho:=hs.set j k;have c2:=ho.cell j hG;rw[Nf rfl]at c2;have g2:=ho.frozen j;have H7:wr.heap.size≠w4.heap.size:=(by have:=hf.lt.2;omega);have b2:=(ac (lQ (b:=w4.heap.size) (o:=j) (aj wr 192 #[.int .i64 t0,.int .i64 j]) H7 (.int .i64 (k:Nat))) 1).trans (rfl:_=some (Value.int .i64 j));obtain⟨k1,hm⟩:∃k1,k1=k+1:=⟨_,rfl⟩;have hZ:(k:Int)+1=(k1:Int):=(by omega);have hz:=ho.set j k1;have h7:=((hj.alloc H8 (.cells #[.int .i64 t0,.int .i64 j] 192)).setCell (p:=⟨w4.heap.size,j,none⟩) (ag _) (.int .i64 (k:Nat)));have h6:∀v:Nat,v=bj k C W j->∀w':World,az w' w.heap.size w4.heap.size n n (fun a=>if a=j then v else if eD W a<i then bj k C W a else 0)->az w' w.heap.size w4.heap.size n n (fun a=>if eD W a<i+1 then bj k C W a else 0):=by
    intro v hv w' h;have h3:w'.ownsRow w.heap.size 3 1 (.slice (some ⟨w4.heap.size,0,none⟩) n n) n (cN n (fun a=>if a=j then v else if eD W a<i then bj k C W a else 0)):=h
    rw[cw n _ (fun a=>if eD W a<i+1 then bj k C W a else 0) fun a ha=>by
     by_cases ea:a=j
     ·rw[Nf ea,Nf (by rw[ea];omega),hv,ea]
     ·rw[Nd ea]
      have:=Js W a j (by rw[hg.out];exact ha) (by rw[hg.out];exact hG) ea
      by_cases e2:eD W a<i
      ·rw[Nf e2,Nf]
      ·rw[Nd e2,Nd]]at h3
    exact h3
   by_cases c:C<=i
   ·have hv:k1=bj k C W j:=(by unfold bj;rw[hy,Nf c];exact hm);have e2:(fun a=>if a=j then k1 else if a=j then k else if eD W a<i then bj k C W a else 0)=fun a=>if a=j then k1 else if eD W a<i then bj k C W a else 0:=by
     funext a;by_cases ea:a=j;·rw[Nf ea,Nf ea]
     ·rw[Nd ea,Nd ea,Nd ea]
    rw[e2]at hz;have HS:=aa (h6 k1 hv _ hz);have hB:=aa (h7.setCell (p:=⟨w4.heap.size,j,none⟩) (ag _) (.int .i64 (k1:Nat)));clear hf hj hx h0 hs ho hz h7 h6 hv e2 hm hy;go_wp2_with fail;go_roundw;case rel=>exact⟨i+1,by omega,by go_num,HS.out,hB.out⟩
    case measure=>simp[intOf];omega
   ·have hv:k=bj k C W j:=(by unfold bj;rw[hy,Nd c]);have HS:=aa (h6 k hv _ ho);have hB:=aa h7;clear hf hj hx h0 hs ho hz h7 h6 hv hm hy;go_wp2_with fail;go_roundw;case rel=>exact⟨i+1,by omega,by go_num,HS.out,hB.out⟩
    case measure=>simp[intOf];omega
  ·obtain rfl:i=n:=(by omega);have h3:wr.ownsRow w.heap.size 3 1 (.slice (some ⟨w4.heap.size,0,none⟩) i i) i (cN i fun a=>if eD W a<i then bj k C W a else 0):=hf
   rw[cw i _ (bj k C W) fun a ha=>by
    have:eD W a<i:=by
     have h5:=(tV W).mem_iff.1 (List.mem_map.2 ⟨a,List.mem_range.2 (by rw[hg.out];exact ha),rfl⟩)
     rw[hg.out]at h5
     exact List.mem_range.1 h5
    rw[Nf this]]at h3
   rw[HK.out.2.2]at h3;have H2:=aa (hP.out _ k wr HK.out.1 HK.out.2.1 h3 (aq hN.out hj));clear hf hj h3 hP hD hq;go_wp2_with fail;exact H2.out
