import Derived.Test.YthakcjehhlpjnaaGreatA08
import Derived.Shelf.Small.Bits
import Derived.Lib.ItoaNum
set_option maxHeartbeats 3200000
set_option maxRecDepth 100000
namespace Go.Proofs.YthakcjehhlpjnaaGreat
open Go.RowKit
theorem dV.low{w w':World}{C g:Nat}{T:List (Nat×Nat)}(h:dV w g T)(hb:Below C w w')(hg:g<C):dV w' g T:=by
 obtain⟨cs,h1,h2⟩:=h
 exact⟨cs,(hb.block g hg).trans h1,h2⟩
theorem Fb(W:List Nat)(i j:Nat)(hi:i<W.length)(hj:j<W.length)(h:i≠j):dQ W i≠dQ W j:=by
 rcases Nat.lt_trichotomy (W.getD i 0) (W.getD j 0)with h1 | h1 | h1
 ·have:=gd W hj (.inl h1)
  omega
 ·rcases Nat.lt_or_ge i j with h2 | h2
  ·have:=gd W hi (.inr ⟨h1,h2⟩)
   omega
  ·have:=gd W hj (.inr ⟨h1.symm,by omega⟩)
   omega
 ·have:=gd W hi (.inl h1)
  omega
theorem BH(w:World)(A:Option Addr)(n c:Nat)(L:List Int)(hL:ZIn w A n L)(hM:iG L):Calls Tryz.prog 117 #[.slice A n c] w (qV w L):=by
 have ht:=hL.1
 have H8:2≤n:=by have:=hM.1;omega
 have hn:n≤258:=by have:=hM.2.1;omega
 have HM:=aa (tI w A n c L hL (by unfold maxLen;omega))
 rw[show decide (iG L)=true from decide_eq_true hM]at HM
 have HC:=aa (px w A n c L hL (fun x hx=>(hM.2.2 x hx).1) (by omega) (by omega))
 obtain⟨f,hf⟩:∃f,f=qU L:=⟨_,rfl⟩
 rw[← hf]at HC
 have hS:iS L=(List.range n).map f:=by
  unfold iS
  rw[ht,hf]
 have hP:Hid (∀ (v:Value) (k:Nat) w',2 ^ k≤n→n<2 ^ (k+1)→w'.ownsRow w.heap.size 3 1 v n (bW n (bE k (2 ^ (k+1) - n) (iS L)))→Below w.heap.size w w'→qV w L (.returned (.tuple #[v,.int .i64 0])) w'):=aa fun v k w' h1 h2 h3 h4=>
  .inr ⟨hM,v,k,by rw[ht];exact h1,by rw[ht];exact h2,rfl,by rw[ht];exact h3,h4⟩
 generalize qV w L=PO at*
 generalize iS L=W at*
 have HA:=aa fun(w1:World) (B g c1:Nat) (h:aB w1 B g c1 n f)=>tU w1 (some ⟨g,0,none⟩) n c1 f h.ints (by omega) (by omega)
 obtain⟨k,hk⟩:∃k,k=Lib.bitLen n - 1:=⟨_,rfl⟩
 have hw:=Lib.bitLenAux_bounds 64 n (by omega) (by omega)
 have hh:1≤Lib.bitLen n:=hw.1
 have hm:2 ^ k≤n:=by rw[hk];exact hw.2.1
 have hX:n<2 ^ (k+1):=by rw[hk,Nat.sub_add_cancel hh];exact hw.2.2
 obtain⟨P,hF⟩:∃P:Nat,P=2 ^ (k+1):=⟨_,rfl⟩
 have H3:(2:Int)*(2:Int) ^ k=(P:Int):=by rw[hF,Nat.pow_succ];push_cast;omega
 have HF:k≤8:=by
  rcases Nat.lt_or_ge k 9 with h | h
  ·omega
  ·have:=Nat.pow_le_pow_right (show 0<2 by decide) h
   omega
 have HB:P≤512:=by
  rw[hF]
  have:2 ^ (k+1)≤2 ^ 9:=Nat.pow_le_pow_right (by decide) (by omega)
  exact this
 obtain⟨C,hC⟩:∃C,C=P - n:=⟨_,rfl⟩
 have H2:(P:Int) - (n:Int)=(C:Int):=by omega
 have hu:=aa fun w1:World=>Any.bits_Len Tryz.laysBits (n:Int) w1 (by omega) (by omega)
 rw[Int.toNat_natCast]at hu
 obtain⟨b,hb⟩:∃b,b=Lib.bitLen n:=⟨_,rfl⟩
 rw[← hb]at hu hk hh
 have hY:(b:Int) - 1=(k:Int):=by omega
 have HK:=aa (show 2 ^ k≤n∧n<2 ^ (k+1)∧C=2 ^ (k+1) - n from⟨hm,hX,by omega⟩)
 have HW:=aa hS
 clear hL ht hM hf hS hk hw hh hm hX hF hC hb
 go_enter Tryz.func117,Tryz.ntmps117
 go_wp2_with fail
 refine HM.out.mono ?_
 rintro e w ⟨rfl,rfl⟩
 clear HM
 go_wp2_with fail
 refine HC.out.mono ?_
 rintro e w1 ⟨gA,cA,rfl,hW,hU⟩
 have hJ:=aa (HA.out w1 w.heap.size gA cA hW)
 have hA:=aa hU
 clear hW hU HC HA
 go_wp2_with fail
 refine hJ.out.mono ?_
 rintro e w2 ⟨rfl,hI,hV⟩
 obtain⟨T,hT⟩:∃T,T=(List.range n).map fun i=>(f i,i):=⟨_,rfl⟩
 rw[← hT]at hI
 have hQ:T.length=n:=by rw[hT];simp
 have hR:(T.map Prod.snd).Nodup:=by
  rw[hT,List.map_map]
  have:(Prod.snd ∘ fun i=>(f i,i))=id:=rfl
  rw[this,List.map_id]
  exact List.nodup_range
 have HT:=aa hT
 have zg:w.heap.size≤w1.heap.size:=hA.out.size
 have hl:=uM w2 w.heap.size w1.heap.size n T hI.row zg (by omega) hR
 rw[hQ]at hl
 have hr:=aa hl
 have hN:=aa (hA.out.trans (hV.mono zg))
 clear hI hV hT hQ hR hl hJ hA
 go_wp2_with fail
 refine hr.out.mono ?_
 rintro e w3 ⟨rfl,LS,hc,he,h0,H0⟩
 have h8:=aa hc
 have h9:=aa he
 have hq:=aa h0
 have hB:=aa (hN.out.trans H0.below)
 have zg3:w1.heap.size<w3.heap.size:=h0.lt
 have hp:=aa (hu.out w3)
 clear hc he h0 H0 hr hu hN
 go_wp2_with fail
 refine hp.out.mono ?_
 rintro e w4 ⟨rfl,rfl⟩
 have H5:=bq w4 n (by omega)
 have hO:=aa (a9 w4 w.heap.size n hB.out.size (by omega))
 have hK:Hid (Below w4.heap.size w4 (w4.alloc (.cells (madeCells #[.int .i64 0] n) 3))):=aa ((Below.refl w4.heap.size w4).alloc (ah _) (.cells (madeCells #[.int .i64 0] n) 3))
 go_wp2_with fail
 clear H5 H3 H2 hY hp
 have hg:Hid (W.length=n):=aa (by rw[HW.out];simp)
 have hE:Hid (LS.length=n∧∀i x,LS[i]? =some x→x.2<n∧dQ W x.2=i):=aa (by
  have hZ:LS.Perm ((List.range W.length).map fun i=>(W.getD i 0,i)):=by
   rw[hg.out]
   refine h8.out.trans ?_
   rw[HT.out]
   have:((List.range n).map fun i=>(f i,i))=(List.range n).map fun i=>(W.getD i 0,i):=List.map_congr_left fun i hi=>by rw[HW.out,cI n f i (List.mem_range.1 hi)]
   rw[this]
  refine⟨by rw[hZ.length_eq];simp[hg.out],fun i x hx=> ?_⟩
  have h3:=xW W LS hZ h9.out i x hx
  rw[hg.out]at h3
  exact h3)
 clear h8 h9 HT
 go_loopw [8,9,33] (fun s8 s9 x wx=>∃i:Nat,i≤n∧x=.int .i64 i∧aB wx w.heap.size w4.heap.size n n (fun j=>if dQ W j<i then bE k C W j else 0)∧Below w4.heap.size w4 wx) (fun _ _ x _=>n - (intOf x).toNat)
 case atStart=>
  refine⟨0,Nat.zero_le _,rfl,?_,hK.out⟩
  have e0:(fun j=>if dQ W j<0 then bE k C W j else 0)=fun _=>0:=by
   funext j
   rw[if_neg (by omega)]
  rw[e0]
  exact hO.out
 case round=>
  clear hO hK
  obtain⟨i,hi,rfl,hf,hj⟩:=hrel
  by_cases e:i<n
  ·have di:decide ((i:Int)<(n:Int))=true:=aC (by omega)
   have HD:(0:Int)≤(i:Int):=by omega
   have hG:i<LS.length:=by rw[hE.out.1];exact e
   have hx:=hE.out.2 i (LS.getD i (0,0)) (by rw[List.getD_eq_getElem?_getD,List.getElem?_eq_getElem hG];rfl)
   have h0:=hq.out.low hj zg3
   have l0:=h0.cell0 hG
   have l1:=h0.cell1 hG
   generalize LS.getD i (0,0)=t at*
   obtain⟨t0,j⟩:=t
   dsimp only at l0 l1 hx
   have hH:=hx.1
   have hy:=hx.2
   have HE:(0:Int)≤(j:Int):=by omega
   have H4:(j:Int)<(n:Int):=by omega
   have H7:w4.heap.size≤wr.heap.size:=hj.size
   have HG:w.heap.size≤w4.heap.size:=hB.out.size
   have hs:aB (wr.alloc (.cells #[.int .i64 t0,.int .i64 j] 222)) w.heap.size w4.heap.size n n _:=hf.alloc _
   have b1:=(ac (ag wr 222 #[.int .i64 t0,.int .i64 j]) 1).trans (rfl:_=some (Value.int .i64 j))
   have c1:=hs.cell j hH
   have g1:=hs.frozen j
   have ho:=hs.set j k
   have c2:=ho.cell j hH
   rw[if_pos rfl]at c2
   have g2:=ho.frozen j
   have H6:wr.heap.size≠w4.heap.size:=by have:=hf.lt.2;omega
   have b2:=(ac (ko (b:=w4.heap.size) (o:=j) (ag wr 222 #[.int .i64 t0,.int .i64 j]) H6 (.int .i64 (k:Nat))) 1).trans (rfl:_=some (Value.int .i64 j))
   obtain⟨k1,hm⟩:∃k1,k1=k+1:=⟨_,rfl⟩
   have hY:(k:Int)+1=(k1:Int):=by omega
   have hz:=ho.set j k1
   have h7:=((hj.alloc H7 (.cells #[.int .i64 t0,.int .i64 j] 222)).setCell (p:=⟨w4.heap.size,j,none⟩) (ah _) (.int .i64 (k:Nat)))
   have h6:∀v:Nat,v=bE k C W j→∀w':World,aB w' w.heap.size w4.heap.size n n (fun a=>if a=j then v else if dQ W a<i then bE k C W a else 0)→aB w' w.heap.size w4.heap.size n n (fun a=>if dQ W a<i+1 then bE k C W a else 0):=by
    intro v hv w' h
    have h3:w'.ownsRow w.heap.size 3 1 (.slice (some ⟨w4.heap.size,0,none⟩) n n) n (bW n (fun a=>if a=j then v else if dQ W a<i then bE k C W a else 0)):=h
    rw[bJ n _ (fun a=>if dQ W a<i+1 then bE k C W a else 0) fun a ha=>by
     by_cases ea:a=j
     ·rw[if_pos ea,if_pos (by rw[ea];omega),hv,ea]
     ·rw[if_neg ea]
      have:=Fb W a j (by rw[hg.out];exact ha) (by rw[hg.out];exact hH) ea
      by_cases e2:dQ W a<i
      ·rw[if_pos e2,if_pos (by omega)]
      ·rw[if_neg e2,if_neg (by omega)]]at h3
    exact h3
   by_cases c:C≤i
   ·have d1:decide ((C:Int)≤(i:Int))=true:=aC (by omega)
    have hv:k1=bE k C W j:=by unfold bE;rw[hy,if_pos c];exact hm
    have e2:(fun a=>if a=j then k1 else if a=j then k else if dQ W a<i then bE k C W a else 0)=fun a=>if a=j then k1 else if dQ W a<i then bE k C W a else 0:=by
     funext a
     by_cases ea:a=j
     ·rw[if_pos ea,if_pos ea]
     ·rw[if_neg ea,if_neg ea,if_neg ea]
    rw[e2]at hz
    have HS:=aa (h6 k1 hv _ hz)
    have hD:=aa (h7.setCell (p:=⟨w4.heap.size,j,none⟩) (ah _) (.int .i64 (k1:Nat)))
    clear hf hj hx h0 hs ho hz h7 h6 hv e2 hm hy
    go_wp2_with fail
    go_roundw
    case rel=>exact⟨i+1,by omega,by go_num,HS.out,hD.out⟩
    case measure=>simp[intOf];omega
   ·have d1:decide ((C:Int)≤(i:Int))=false:=au (by omega)
    have hv:k=bE k C W j:=by unfold bE;rw[hy,if_neg c]
    have HS:=aa (h6 k hv _ ho)
    have hD:=aa h7
    clear hf hj hx h0 hs ho hz h7 h6 hv hm hy
    go_wp2_with fail
    go_roundw
    case rel=>exact⟨i+1,by omega,by go_num,HS.out,hD.out⟩
    case measure=>simp[intOf];omega
  ·obtain rfl:i=n:=by omega
   have di:decide ((i:Int)<(i:Int))=false:=au (by omega)
   have h3:wr.ownsRow w.heap.size 3 1 (.slice (some ⟨w4.heap.size,0,none⟩) i i) i (bW i fun a=>if dQ W a<i then bE k C W a else 0):=hf
   rw[bJ i _ (bE k C W) fun a ha=>by
    have:dQ W a<i:=by
     have h5:=(qg W).mem_iff.1 (List.mem_map.2 ⟨a,List.mem_range.2 (by rw[hg.out];exact ha),rfl⟩)
     rw[hg.out]at h5
     exact List.mem_range.1 h5
    rw[if_pos this]]at h3
   rw[HK.out.2.2]at h3
   have H1:=aa (hP.out _ k wr HK.out.1 HK.out.2.1 h3 (ao hB.out hj))
   clear hf hj h3 hP hE hq
   go_wp2_with fail
   exact H1.out
end Go.Proofs.YthakcjehhlpjnaaGreat
