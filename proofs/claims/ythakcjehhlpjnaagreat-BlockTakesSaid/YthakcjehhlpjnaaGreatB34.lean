import Derived.Test.YthakcjehhlpjnaaGreatB33
import Derived.Test.YthakcjehhlpjnaaGreatB30
import Derived.Test.YthakcjehhlpjnaaGreatB32
import Derived.Test.YthakcjehhlpjnaaGreatB16
set_option maxHeartbeats 6400000
set_option maxRecDepth 100000
namespace Go.Proofs.YthakcjehhlpjnaaGreat
open Go.RowKit
theorem nr:∀(o r:List Nat) (x:Nat),x∈o→aP (o++r) x=aP o x
 | [],_,_,h=>by cases h
 | y :: o,r,x,h=>by
   rw[List.cons_append,aP,aP]
   by_cases e:y=x
   ·rw[if_pos e,if_pos e]
   ·rw[if_neg e,if_neg e,nr o r x (by
     rcases List.mem_cons.1 h with rfl | h
     ·exact absurd rfl e
     ·exact h)]
theorem m9(o r:List Nat)(k:Nat)(hk:k<o.length):dJ (o++r) k=dJ o k++r:=by
 unfold dJ
 rw[List.take_append_of_le_length (by omega),List.drop_append_of_le_length (by omega),List.getD_eq_getElem?_getD,List.getElem?_append_left hk,←List.getD_eq_getElem?_getD]
 simp
theorem nZ{o:List Nat}{k x:Nat}(hk:k<o.length)(hx:x∈o):x∈dJ o k:=by
 unfold dJ
 obtain⟨i,hi,rfl⟩:=List.getElem_of_mem hx
 rcases Nat.lt_trichotomy i k with h | h | h
 ·refine List.mem_cons_of_mem _ (List.mem_append_left _ ?_)
  exact List.mem_take_iff_getElem.2 ⟨i,by omega,rfl⟩
 ·subst h
  rw[List.getD_eq_getElem?_getD,List.getElem?_eq_getElem hk]
  exact List.mem_cons_self ..
 ·refine List.mem_cons_of_mem _ (List.mem_append_right _ ?_)
  exact List.mem_drop_iff_getElem.2 ⟨i - (k+1),by omega,by simp only[show k+1+(i - (k+1))=i by omega]⟩
theorem kW:∀(P o r:List Nat),(∀ x∈P,x∈o)→aG (o++r) P=aG o P
 | [],_,_,_=>rfl
 | x :: P,o,r,h=>by
   have hx:=h x (List.mem_cons_self ..)
   have hp:=eX o x hx
   rw[aG,aG,nr o r x hx,m9 o r _ hp.1,kW P (dJ o (aP o x)) r (fun y hy=>nZ hp.1 (h y (List.mem_cons_of_mem _ hy)))]
theorem ut{T:Nat}(h:T≤6):∃r, [0,1,2,3,4,5]=List.range T++r:=by
 refine⟨[0,1,2,3,4,5].drop T,?_⟩
 have:T=0∨T=1∨T=2∨T=3∨T=4∨T=5∨T=6:=by omega
 rcases this with rfl | rfl | rfl | rfl | rfl | rfl | rfl <;>rfl
theorem sq{T:Nat}(h:T≤6)(P:List Nat)(hP:∀x∈P,x<T):aG [0,1,2,3,4,5] P=aG (List.range T) P:=by
 obtain⟨r,hr⟩:=ut h
 rw[hr]
 exact kW P _ r fun x hx=>List.mem_range.2 (hP x hx)
theorem kX:∀(P o:List Nat) (T:Nat),o.length=T→(∀ x∈P,x∈o)→(aG o P).length≤T*P.length
 | [],_,_,_,_=>by simp[aG]
 | x :: P,o,T,hT,h=>by
   have hx:=h x (List.mem_cons_self ..)
   have hp:=eX o x hx
   have ih:=kX P (dJ o (aP o x)) T (by rw[fT hp.1,hT]) (fun y hy=>nZ hp.1 (h y (List.mem_cons_of_mem _ hy)))
   rw[aG,List.length_append,List.length_replicate,List.length_cons,List.length_cons,Nat.mul_succ]
   omega
theorem mW(f:Nat→Nat)(n p:Nat)(h:p<n):(List.range n).map (lH f p)=dJ ((List.range n).map f) p:=by
 have hl:((List.range n).map f).length=n:=by simp
 apply List.ext_getElem?
 intro j
 by_cases hj:j<n
 ·rw[List.getElem?_map,List.getElem?_range hj]
  unfold dJ lH
  match j with
  | 0=>
    rw[List.getElem?_cons_zero,cH n f p h]
    rfl
  | j+1=>
    rw[List.getElem?_cons_succ]
    by_cases e:j<p
    ·rw[List.getElem?_append_left (by simp;omega),List.getElem?_take,if_pos e,List.getElem?_map,List.getElem?_range (by omega)]
     show some (if j+1=0 then f p else if j+1≤p then f (j+1 - 1)else f (j+1))=_
     rw[if_neg (by omega),if_pos (by omega)]
     rfl
    ·rw[List.getElem?_append_right (by simp;omega),List.getElem?_drop,List.length_take,hl,Nat.min_eq_left (by omega),show p+1+(j - p)=j+1 by omega,List.getElem?_map,List.getElem?_range (by omega)]
     show some (if j+1=0 then f p else if j+1≤p then f (j+1 - 1)else f (j+1))=_
     rw[if_neg (by omega),if_neg (by omega)]
     rfl
 ·rw[List.getElem?_eq_none (by simp;omega),List.getElem?_eq_none (by rw[fT (by rw[hl];exact h),hl];omega)]
theorem AW(k:Nat)(h:k≤5):ai (2 ^ (k+1) - 2) (k+1)=List.replicate k 1++ [0]:=by
 have:k=0∨k=1∨k=2∨k=3∨k=4∨k=5:=by omega
 rcases this with rfl | rfl | rfl | rfl | rfl | rfl <;>decide
theorem Cx(k:Nat)(hk:k≤5)(B:Nat)(w:World)(p:Nat)(v:Value)(L:List Nat)(hW:IsW B w p v L)(hL:L.length≤1000000000000)(x n:Int)(hx:x=((2 ^ (k+1) - 2:Nat):Int))(hn:n=((k+1:Nat):Int)):
 Calls Tryz.prog 61 #[.pointer (some ⟨p,0,none⟩),.int .u64 x,.int .i64 n] w fun e w'=>e=.returned (.int .i64 0)∧∃v',IsW B w' p v' (L++(List.replicate k 1++ [0]))∧ak B [p] [5] w w':=by
 rw[← AW k hk,hx,hn]
 refine fC B w p v L (2 ^ (k+1) - 2) (k+1) hW hL (by omega) ?_
 have:=Nat.two_pow_pos (k+1)
 omega
def sP(B:Nat)(w:World)(p:Nat)(L:List Nat)(e:Ending)(w':World):Prop:=e=.returned (.tuple #[])∧(∃ v',IsW B w' p v' L)∧ak B [p] [5] w w'
theorem th(B:Nat)(w:World)(p:Nat)(v:Value)(L:List Nat)(hW:IsW B w p v L)(hL:L.length≤1000000)(A:Option Addr)(T c:Nat)(Bp:Option Addr)(G d:Nat)(P:List Nat)(hP:aw w Bp G P)
 (H2:∀a,Bp=some a→a.block<B) (HZ:2≤T) (p0:T≤6) (HT:1≤G) (hG:G≤32767) (H1:∀x∈P,x<T):
 Calls Tryz.prog 66 #[.pointer (some ⟨p,0,none⟩),.agg #[.slice A T c,.slice Bp G d]] w (sP B w p (L++(ai T 3++ai G 15++aG (List.range T) P))):=by
 have hB:B≤w.heap.size:=Nat.le_trans hW.lo (Nat.le_of_lt (ay hW.blk))
 have p3:=ay hW.blk
 have HJ:=hP.1
 obtain⟨b,off,rfl,HL⟩:=hP.2 HT
 have HU:b<B:=H2 _ rfl
 have HR:=aa HL
 have hc:ak B [p] [5] w (w.alloc (.cells #[.slice A T c,.slice (some ⟨b,off,none⟩) G d] 52)):=(ak.refl _ _ _ _).alloc hB _
 have H5:=hW.alloc (.cells #[.slice A T c,.slice (some ⟨b,off,none⟩) G d] 52)
 have HH:=ag w 52 #[.slice A T c,.slice (some ⟨b,off,none⟩) G d]
 obtain⟨F,hF⟩:∃F,F=L++(ai T 3++ai G 15++aG (List.range T) P):=⟨_,rfl⟩
 have HQ:=aa hF
 have hR:Hid (∀ w' v',IsW B w' p v' F→ak B [p] [5] w w'→sP B w p F (.returned (.tuple #[])) w'):=aa fun w' v' h1 h2=>⟨rfl,⟨v',h1⟩,h2⟩
 rw[← hF]
 generalize sP B w p F=PO at*
 have hX:=aa H5
 have hS:=aa hc
 have he:=aa HH
 have HS:=aa H1
 have hf:=aa HJ
 clear hW hP H2 HL hF hc H5 HH H1 HJ
 go_enter Tryz.func66,Tryz.ntmps66
 go_upto_region 1 with fail
 have HP:(w.alloc (.cells #[.slice A T c,.slice (some ⟨b,off,none⟩) G d] 52)).heap.size=w.heap.size+1:=by simp
 have HY:=aa HP
 clear HP
 generalize w.alloc (.cells #[.slice A T c,.slice (some ⟨b,off,none⟩) G d] 52)=w1 at*
 have q0:w1.cell? ⟨w.heap.size,0,none⟩=some (.slice A T c):=(ac he.out 0).trans rfl
 have q1:w1.cell? ⟨w.heap.size,1,none⟩=some (.slice (some ⟨b,off,none⟩) G d):=(ac he.out 1).trans rfl
 have hO:Hid (Calls Tryz.prog 61 #[.pointer (some ⟨p,0,none⟩),.int .u64 T,.int .i64 3] w1 fun e w'=>e=.returned (.int .i64 0)∧∃v',IsW B w' p v' (L++ai T 3)∧ak B [p] [5] w1 w'):=aa (fC B w1 p v L T 3 hX.out (by omega) (by omega) (by omega))
 go_wp2_with fail
 refine hO.out.mono ?_
 rintro e w2 ⟨rfl,v2,H8,hs⟩
 have HK:w.heap.size∉ [p]:=by simp;omega
 have hh:=hs.blk he.out HK (by decide)
 have q0:w2.cell? ⟨w.heap.size,0,none⟩=some (.slice A T c):=(ac hh 0).trans rfl
 have q1:w2.cell? ⟨w.heap.size,1,none⟩=some (.slice (some ⟨b,off,none⟩) G d):=(ac hh 1).trans rfl
 have hQ:Hid (Calls Tryz.prog 61 #[.pointer (some ⟨p,0,none⟩),.int .u64 G,.int .i64 15] w2 fun e w'=>e=.returned (.int .i64 0)∧∃v',IsW B w' p v' (L++ai T 3++ai G 15)∧ak B [p] [5] w2 w'):=aa (fC B w2 p v2 (L++ai T 3) G 15 H8 (by rw[List.length_append,af];omega) (by omega) (by omega))
 have hH:=aa hh
 have HS2:=aa (hS.out.trans hs)
 clear H8 hs hh hX hS he hO
 go_wp2_with fail
 refine hQ.out.mono ?_
 rintro e w3 ⟨rfl,v3,HA,ht⟩
 have hv:=ht.blk hH.out HK (by decide)
 have q0:w3.cell? ⟨w.heap.size,0,none⟩=some (.slice A T c):=(ac hv 0).trans rfl
 have hJ:=aa hv
 have hq:=aa (HS2.out.trans ht)
 have hY:=aa HA
 have hE:=aa (nI w3 T (by omega))
 clear HA ht hv HS2 hH hQ q1
 go_wp2_with fail
 refine hE.out.mono ?_
 rintro e w4 ⟨rfl,hu,HD⟩
 have h0:=am HD
 have HI:=h0.blk hJ.out aq aq
 have q1:w4.cell? ⟨w.heap.size,1,none⟩=some (.slice (some ⟨b,off,none⟩) G d):=(ac HI 1).trans rfl
 have HX:w.heap.size≤w3.heap.size:=hq.out.size
 have hT:=aa (hq.out.trans (h0.mono (Nat.le_trans hB HX) (by simp) (by simp)))
 have hZ:=aa (hY.out.step h0 aq (fun _ _=>aq) aq aq)
 have hC:=aa hu
 have hg:=aa hu.lt
 clear hu HD h0 HI hE hJ hq hY
 generalize w3.heap.size=g at*
 go_wp2_with fail
 go_loopw [6,7,27] (fun s6 s7 iv' wx=>∃(i:Nat) (f:Nat→Nat) (v':Value) (K:List Nat),i≤G∧iv'=.int .i64 i∧IsW B wx p v' K∧aB wx g g T T f∧Hid (K++aG ((List.range T).map f) (P.drop i)=F∧K.length≤2000000+6*i∧∀x,x<T→x∈(List.range T).map f)∧ak B [p] [5] w wx) (fun _ _ iv' _=>G - (intOf iv').toNat)
 case atStart=>
  refine⟨0,fun j=>j,v3,_,Nat.zero_le _,rfl,hZ.out,hC.out,⟨?_,?_,fun x hx=> ?_⟩,hT.out⟩
  ·rw[HQ.out,List.map_id',List.drop_zero]
   simp only[List.append_assoc]
  ·rw[List.length_append,List.length_append,af,af]
   omega
  ·rw[List.map_id']
   exact List.mem_range.2 hx
 case round=>
  clear hZ hC hT
  rename World=>w5
  obtain⟨i,f,v5,K,hi,rfl,h7,ha,hI,h6⟩:=hrel
  by_cases e:i<G
  ·have di:decide ((i:Int)<(G:Int))=true:=ar (by omega)
   have p2:(0:Int)≤(i:Int):=by omega
   have p1:(i:Int)<(G:Int):=by omega
   have h9:w5.cell? ⟨b,off+i,none⟩=some (.int .i64 (P.getD i 0:Nat)):=(h6.below.cell (p:=⟨b,off+i,none⟩) HU).trans (HR.out i e)
   obtain⟨x,hx⟩:∃x,x=P.getD i 0:=⟨_,rfl⟩
   have HO:x∈P:=by
    rw[hx,List.getD_eq_getElem?_getD,List.getElem?_eq_getElem (by rw[hf.out];exact e)]
    exact List.getElem_mem _
   have HM:=HS.out x HO
   have hA:=hI.out.2.2 x HM
   have HF:P.drop i=x :: P.drop (i+1):=by
    rw[List.drop_eq_getElem_cons (by rw[hf.out];exact e),hx,List.getD_eq_getElem?_getD,List.getElem?_eq_getElem (by rw[hf.out];exact e)]
    rfl
   rw[← hx]at h9
   have ho:=aa (zd w5 (some ⟨g,0,none⟩) T T _ x ha.ints hA (by omega))
   have hm:=eX _ x hA
   have hw:((List.range T).map f).length=T:=by simp
   obtain⟨k,hk⟩:∃k,k=aP ((List.range T).map f) x:=⟨_,rfl⟩
   rw[← hk]at ho hm
   rw[hw]at hm
   have hl:=hm.1
   have hM:=aa (yQ g w5 g T T f k ha hl (by omega))
   have hN:Hid ((K++(List.replicate k 1++ [0]))++aG ((List.range T).map (lH f k)) (P.drop (i+1))=F):=aa (by
    rw[← hI.out.1,HF,aG,←hk,mW f T k hl]
    simp)
   have hK:Hid (∀ y,y<T→y∈(List.range T).map (lH f k)):=aa fun y hy=>by
    rw[mW f T k hl]
    exact nZ (by rw[hw];exact hl) (hI.out.2.2 y hy)
   have H0:=hI.out.2.1
   have hp:=aa H0
   have hr:=aa h7
   have hV:=aa h6
   have hD:=aa ha
   clear hm hI h7 h6 ha hx HO hA HF hk hw H0 HM
   go_wp2_with fail
   refine ho.out.mono ?_
   rintro e w6 ⟨rfl,rfl⟩
   clear ho
   go_wp2_with fail
   refine hM.out.mono ?_
   rintro e w7 ⟨rfl,HG,hz⟩
   have HV:p∉ [g]:=by
    have:=hg.out
    simp
    omega
   have HB:=hr.out.step hz HV (fun k hk=>by
    rw[List.mem_singleton]
    intro e
    obtain⟨c1,f1,e1⟩:=Lib.ownsRow_kind hr.out.row g (by rw[hk,e])
    obtain⟨c2,f2,e2⟩:=Lib.ownsRow_kind hD.out g rfl
    rw[e1]at e2
    simp at e2) aq aq
   have H3:ak B [p] [5] w w7:=hV.out.after hz (by have:=hg.out;omega) (fun j hj=>.inr (by rw[List.mem_singleton.1 hj];have:=hg.out;omega)) (by simp)
   have hb:K.length≤1000000000000:=by have:=hp.out;omega
   have HW:k≤5:=by omega
   have h5:=aa fun(x n:Int) (hx:x=((2 ^ (k+1) - 2:Nat):Int)) (hn:n=((k+1:Nat):Int))=>Cx k HW B w7 p v5 K HB hb x n hx hn
   have h4:Hid (∀ w8 v8,IsW B w8 p v8 (K++(List.replicate k 1++ [0]))→ak B [p] [5] w7 w8→∃(i':Nat) (f':Nat→Nat) (v':Value) (K':List Nat),i'≤G∧(.int .i64 (i+1:Nat):Value)=.int .i64 i'∧IsW B w8 p v' K'∧aB w8 g g T T f'∧Hid (K'++aG ((List.range T).map f') (P.drop i')=F∧K'.length≤2000000+6*i'∧∀x,x<T→x∈(List.range T).map f')∧ak B [p] [5] w w8):=aa fun w8 v8 h1 h2=>
    ⟨i+1,lH f k,v8,_,by omega,rfl,h1,h2.row HG (fun j hj=>by
      simp[Value.ownBlock]at hj
      have:=hg.out
      simp
      omega) (by decide),⟨hN.out,by
       rw[List.length_append,List.length_append,List.length_replicate,List.length_singleton]
       have:=hp.out
       omega,hK.out⟩,H3.trans h2⟩
   clear HG hz HB H3 hb hM hN hK hp hr hV hD
   have h8:k=0∨k=1∨k=2∨k=3∨k=4∨k=5:=by omega
   rcases h8 with rfl | rfl | rfl | rfl | rfl | rfl <;>
   ·go_wp2_with fail
    refine(h5.out _ _ (by rfl) (by rfl)).mono ?_
    rintro e w8 ⟨rfl,v8,HC,H4⟩
    have HN:=aa (h4.out w8 v8 HC H4)
    clear HC H4 h4 h5
    go_wp2_with fail
    go_roundw
    case rel=>exact HN.out
    case measure=>simp[intOf];omega
  ·obtain rfl:i=G:=by omega
   have di:decide ((i:Int)<(i:Int))=false:=ao (by omega)
   have h3:=hI.out.1
   rw[List.drop_of_length_le (by rw[hf.out];exact Nat.le_refl _),aG,List.append_nil]at h3
   rw[h3]at h7
   have HE:=aa (hR.out w5 v5 h7 h6)
   clear h7 ha hI h6 h3 hR
   go_wp2_with fail
   (try simp only[Exit.inBlock,Exit.then])
   refine bodyPost_ret (results_none rfl _ _ _) rfl ?_
   exact HE.out
def dK(bits:List Nat)(a:Nat):Nat×Nat×Nat:=
 if bits.length<a+3 then(0,0,10)
 else if val ((bits.drop a).take 3)<2∨6<val ((bits.drop a).take 3)then(0,0,110)
 else if bits.length<a+18 then(0,0,10)
 else if val ((bits.drop (a+3)).take 15)=0 then(0,0,110)
 else(val ((bits.drop a).take 3),val ((bits.drop (a+3)).take 15),0)
def vF(B:Nat)(w:World)(p:Nat)(s:ByteArray)(a:Nat)(ans:Nat×Nat×Nat)(e:Ending)(w':World):Prop:=
 e=.returned (.tuple #[.int .i64 ans.1,.int .i64 ans.2.1,.int .i64 ans.2.2])∧(ans.2.2=0→IsR B w' p s (a+18))∧ak B [p] [] w w'
theorem yT(B:Nat)(w:World)(p:Nat)(s:ByteArray)(a:Nat)(hR:IsR B w p s a)(hs:s.size≤2000000)(ha:a≤8*s.size):
 Calls Tryz.prog 145 #[.pointer (some ⟨p,0,none⟩)] w (vF B w p s a (dK (al s.data.toList) a)):=by
 have hh:(al s.data.toList).length=8*s.size:=by rw[aA];rfl
 obtain⟨bits,h4⟩:∃bits,bits=al s.data.toList:=⟨_,rfl⟩
 have hj:an bits:=by rw[h4];exact aM _
 have hg:dK bits a=if 8*s.size<a+3 then(0,0,10)
  else if val ((bits.drop a).take 3)<2∨6<val ((bits.drop a).take 3)then(0,0,110)
  else if 8*s.size<a+18 then(0,0,10)
  else if val ((bits.drop (a+3)).take 15)=0 then(0,0,110)
  else(val ((bits.drop a).take 3),val ((bits.drop (a+3)).take 15),0):=by
  unfold dK
  rw[h4,hh]
 rw[← h4]
 rw[← h4]at hh
 have h9:Hid (∀ w' x y z,dK bits a=(x,y,z)→(z=0→IsR B w' p s (a+18))→ak B [p] [] w w'→vF B w p s a (dK bits a) (.returned (.tuple #[.int .i64 x,.int .i64 y,.int .i64 z])) w'):=aa fun w' x y z h1 h2 h3=>by
  rw[h1]
  exact⟨rfl,h2,h3⟩
 generalize vF B w p s a (dK bits a)=PO at*
 generalize dK bits a=ans at*
 have hc:=aa hg
 by_cases e1:8*s.size<a+3
 ·have HT:Hid (Calls Tryz.prog 84 #[.pointer (some ⟨p,0,none⟩),.int .i64 3] w (i7 B w p s a 0 0 10)):=aa (eF B w p s a 3 hR (by omega) (by omega) ha e1)
  have h0:=hc.out
  rw[if_pos e1]at h0
  have HA:=aa (h9.out · 0 0 10 h0 (fun h=>absurd h (by omega)))
  clear hg h0 hc h9 hh hj h4 hR
  go_enter Tryz.func145,Tryz.ntmps145
  go_wp2_with fail
  refine HT.out.mono ?_
  rintro e w2 ⟨rfl,_,h5⟩
  have HE:=aa (HA.out w2 h5)
  clear h5 HA HT
  go_wp2_with fail
  go_ret3
  exact HE.out
 ·have hT:=gz B w p s a 3 hR (by omega) (by omega) (by omega)
  rw[← h4]at hT
  have hr:val ((bits.drop a).take 3)<2 ^ 3:=by
   have h:=eD _ ((hj.drop a).take 3)
   rw[List.length_take,List.length_drop,hh,Nat.min_eq_left (by omega)]at h
   exact h
  have h0:=hc.out
  rw[if_neg e1]at h0
  obtain⟨T,hn⟩:∃T,T=val ((bits.drop a).take 3):=⟨_,rfl⟩
  rw[← hn]at hT hr h0
  have h6:=aa h0
  have HT:Hid (Calls Tryz.prog 84 #[.pointer (some ⟨p,0,none⟩),.int .i64 3] w (i7 B w p s a 3 T 0)):=aa hT
  have ho:=aa hj
  have hq:=aa hh
  have hp:=aa h4
  clear hg h0 hc hh hj h4 hR hT hn
  by_cases e2:T<2∨6<T
  ·have h0:=h6.out
   rw[if_pos e2]at h0
   have HA:=aa (h9.out · 0 0 110 h0 (fun h=>absurd h (by omega)))
   clear h0 h6 h9
   by_cases e3:T<2
   ·have d5:decide ((T:Int)<2)=true:=ar (by omega)
    clear e2
    go_enter Tryz.func145,Tryz.ntmps145
    go_wp2_with fail
    refine HT.out.mono ?_
    rintro e w2 ⟨rfl,_,h5⟩
    have HE:=aa (HA.out w2 h5)
    clear h5 HA HT
    go_wp2_with fail
    go_ret3
    exact HE.out
   ·have d5:decide ((T:Int)<2)=false:=ao (by omega)
    have d6:decide ((6:Int)<(T:Int))=true:=ar (by omega)
    clear e2
    go_enter Tryz.func145,Tryz.ntmps145
    go_wp2_with fail
    refine HT.out.mono ?_
    rintro e w2 ⟨rfl,_,h5⟩
    have HE:=aa (HA.out w2 h5)
    clear h5 HA HT
    go_wp2_with fail
    go_ret3
    exact HE.out
  ·have h0:=h6.out
   rw[if_neg e2]at h0
   have h7:=aa h0
   have d5:decide ((T:Int)<2)=false:=ao (by omega)
   have d6:decide ((6:Int)<(T:Int))=false:=ao (by omega)
   clear h0 h6 e2
   by_cases e4:8*s.size<a+18
   ·have h0:=h7.out
    rw[if_pos e4]at h0
    have HA:=aa (h9.out · 0 0 10 h0 (fun h=>absurd h (by omega)))
    clear h0 h7 h9
    go_enter Tryz.func145,Tryz.ntmps145
    go_wp2_with fail
    refine HT.out.mono ?_
    rintro e w2 ⟨rfl,hb,h5⟩
    have he:Hid (Calls Tryz.prog 84 #[.pointer (some ⟨p,0,none⟩),.int .i64 15] w2 (i7 B w2 p s (a+3) 0 0 10)):=aa (eF B w2 p s (a+3) 15 hb (by omega) (by omega) (by omega) (by omega))
    have HS2:=aa h5
    clear hb h5 HT
    go_wp2_with fail
    refine he.out.mono ?_
    rintro e w3 ⟨rfl,_,hf⟩
    have HE:=aa (HA.out w3 (HS2.out.trans hf))
    clear hf HA he
    go_wp2_with fail
    go_ret3
    exact HE.out
   ·have hk:val ((bits.drop (a+3)).take 15)<2 ^ 15:=by
     have h:=eD _ ((ho.out.drop (a+3)).take 15)
     rw[List.length_take,List.length_drop,hq.out,Nat.min_eq_left (by omega)]at h
     exact h
    have h0:=h7.out
    rw[if_neg e4]at h0
    have he:Hid (∀ w2,IsR B w2 p s (a+3)→Calls Tryz.prog 84 #[.pointer (some ⟨p,0,none⟩),.int .i64 15] w2 (i7 B w2 p s (a+3) 15 (val ((bits.drop (a+3)).take 15)) 0)):=aa fun w2 hb=>by
     have h:=gz B w2 p s (a+3) 15 hb (by omega) (by omega) (by omega)
     rw[← hp.out]at h
     exact h
    obtain⟨K,hl⟩:∃K,K=val ((bits.drop (a+3)).take 15):=⟨_,rfl⟩
    rw[← hl]at he hk h0
    have h8:=aa h0
    clear h0 h7 hl
    by_cases e5:K=0
    ·have h0:=h8.out
     rw[if_pos e5]at h0
     have HA:=aa (h9.out · 0 0 110 h0 (fun h=>absurd h (by omega)))
     subst e5
     clear h0 h8 h9
     go_enter Tryz.func145,Tryz.ntmps145
     go_wp2_with fail
     refine HT.out.mono ?_
     rintro e w2 ⟨rfl,hb,h5⟩
     have hi:=aa (he.out w2 hb)
     have HS2:=aa h5
     clear hb h5 HT he
     go_wp2_with fail
     refine hi.out.mono ?_
     rintro e w3 ⟨rfl,_,hf⟩
     have HE:=aa (HA.out w3 (HS2.out.trans hf))
     clear hf HA hi
     go_wp2_with fail
     go_ret3
     exact HE.out
    ·have h0:=h8.out
     rw[if_neg e5]at h0
     have HA:=aa (h9.out · T K 0 h0)
     have d7:((K:Int)==0)=false:=by rw[beq_eq_false_iff_ne];omega
     clear h0 h8 h9
     go_enter Tryz.func145,Tryz.ntmps145
     go_wp2_with fail
     refine HT.out.mono ?_
     rintro e w2 ⟨rfl,hb,h5⟩
     have hi:=aa (he.out w2 hb)
     have HS2:=aa h5
     clear hb h5 HT he
     go_wp2_with fail
     refine hi.out.mono ?_
     rintro e w3 ⟨rfl,hm,hf⟩
     have HE:=aa (HA.out w3 (fun _=>hm) (HS2.out.trans hf))
     clear hm hf HA hi
     go_wp2_with fail
     go_ret3
     exact HE.out
theorem pA:∀(c n T:Nat),n+c<T→bW (List.replicate c 1) n T=.short
 | 0,_,_,_=>rfl
 | c+1,n,T,h=>by
   rw[List.replicate_succ,bW,if_neg (by omega),if_neg (by omega)]
   exact pA c (n+1) T (by omega)
theorem pT:∀(c n T:Nat) (r:List Nat),n+c=T→0<c→bW (List.replicate c 1++r) n T=.bad
 | c+1,n,T,r,h,_=>by
   rw[List.replicate_succ,List.cons_append,bW,if_neg (by omega)]
   by_cases e:n+1=T
   ·rw[if_pos e]
   ·rw[if_neg e]
    exact pT c (n+1) T r (by omega) (by omega)
theorem jU(bits:List Nat)(T:Nat)(hT:0<T):∀(k:Nat) (o r:List Nat) (p:Nat) (out:List Nat),o.length=T→aD bits T k (o++r) p out=aD bits T k o p out
 | 0,_,_,_,_,_=>rfl
 | k+1,o,r,p,out,ho=>by
   cases hp:bW (bits.drop p) 0 T with
   | hit n=>
     have hn:=(vD _ _ _ _ hp hT).2.2
     rw[fe hp,fe hp,m9 o r n (by omega),jU bits T hT k (dJ o n) r _ _ (by rw[fT (by omega),ho])]
     congr 2
     rw[List.getD_eq_getElem?_getD,List.getD_eq_getElem?_getD,List.getElem?_append_left (by omega)]
   | short=>rw[dW hp,dW hp]
   | bad=>rw[fb hp,fb hp]
theorem sU(bits:List Nat)(T:Nat)(hT:0<T)(h6:T≤6)(k p:Nat)(out:List Nat):aD bits T k [0,1,2,3,4,5] p out=aD bits T k (List.range T) p out:=by
 obtain⟨r,hr⟩:=ut h6
 rw[hr]
 exact jU bits T hT k _ r p out (by simp)
structure kI (w0 w:World) (v:Value) (X:List Nat) (g T:Nat) (f:Nat→Nat):Prop where
 out:w.ownsRow w0.heap.size 3 1 v X.length (X.map iv)
 ord:aB w w0.heap.size g T T f
 ne:v.ownBlock≠some g
theorem kI.step{w0 w w':World}{v:Value}{X:List Nat}{g T p B:Nat}{f:Nat→Nat}(h:kI w0 w v X g T f){u:TypeId}{ds:Array Value}(hk:Blk w p u ds)(h0:(3:TypeId)≠u)(hs:ak B [p] [] w w'):kI w0 w' v X g T f:=
 ⟨hs.row h.out (fun k hk2=>by rw[List.mem_singleton];exact cI h.out hk h0 k hk2) aq,hs.row h.ord (fun k hk2=>by rw[List.mem_singleton];exact cI h.ord hk h0 k hk2) aq,h.ne⟩
theorem kI.push{w0 w:World}{A:Option Addr}{N cap:Nat}{X:List Nat}{g T:Nat}{f:Nat→Nat}(h:kI w0 w (.slice A N cap) X g T f)(x:Nat)(hN:X.length=N)(hX:N≤1000000)(h1:w0.heap.size≤w.heap.size):
 ∃A2 cap2 w2,(Builtin.append_ #[36,36] 36 #[.slice A N cap,.slice (some ⟨w.heap.size,0,none⟩) 1 1]).run Tryz.prog (w.alloc (.cells #[.int .i64 x] 3))=.ok (.slice A2 (N+1) cap2) w2∧
  kI w0 w2 (.slice A2 (N+1) cap2) (X++ [x]) g T f∧Below w0.heap.size w w2:=by
 obtain⟨i3,h3,h4,h5,h6⟩:=info_parts Tryz.info3
 subst hN
 obtain⟨v2,w2,hr,ho,hg,_,h0⟩:=run_append_own_at (P:=Tryz.prog) (w.alloc (.cells #[.int .i64 x] 3)) w0.heap.size 36 36 3 i3 (.int .i64 0) 1 8 Tryz.underlying36 h3 h4 h5 h6 rfl (by decide) _ _ _ (h.out.alloc _) ⟨w.heap.size,0,none⟩ 1 1 [iv x] rfl (bi w (iv x) 3)
  (fun u hu=>by rw[List.mem_singleton.1 hu];rfl) (by unfold maxLen;omega) (by omega) (by simp;omega)
 obtain⟨A2,cap2,rfl,_,_,_⟩:=aj ho
 have h7:=World.ownsRow.lt h.ord g rfl
 refine⟨A2,cap2,w2,hr,⟨?_,World.ownsRow.kept (World.ownsRow.alloc h.ord _) hg (.inr fun e=>h.ne e.symm),?_⟩,?_⟩
 ·have h2:=ho
  rw[show X.map iv++ [iv x]=(X++ [x]).map iv by simp]at h2
  rw[List.length_append]
  exact h2
 ·rcases h0 with e | e
  ·rw[e]
   exact h.ne
  ·rw[e]
   intro e2
   have:=Option.some.inj e2
   simp at this
   omega
 ·exact((Below.refl _ _).alloc h1 _).grown hg (by simp;omega) (fun k hk=>(h.out.lt k hk).1)
theorem G1{B:Nat}{ps:List Nat}{ts:List TypeId}{w wx w2:World}(h:ak B ps ts w wx)(hb:Below w.heap.size wx w2)(hB:B≤w.heap.size):ak B ps ts w w2:=
 ⟨h.below.trans (hb.mono hB),fun k cs t fr hk hp ht=>(hb.block k (Array.getElem?_eq_some_iff.1 hk).1).trans (h.keep k cs t fr hk hp ht)⟩
def l6(B:Nat)(w:World)(p:Nat)(s:ByteArray)(ans:List Nat×Nat×Nat)(e:Ending)(w':World):Prop:=
 ∃v,e=.returned (.tuple #[v,.int .i64 ans.2.2])∧w'.ownsRow w.heap.size 3 1 v ans.1.length (ans.1.map iv)∧(ans.2.2=0→IsR B w' p s ans.2.1)∧ak B [p] [] w w'
theorem sL(B:Nat)(w:World)(p:Nat)(s:ByteArray)(a T K:Nat)(hR:IsR B w p s a)(hs:s.size≤2000000)(ha:a≤8*s.size)(HN:2≤T)(HJ:T≤6)(hK:K≤40000):
 Calls Tryz.prog 146 #[.pointer (some ⟨p,0,none⟩),.int .i64 T,.int .i64 K] w (l6 B w p s (aD (al s.data.toList) T K [0,1,2,3,4,5] a [])):=by
 rw[sU _ T (by omega) HJ]
 have hB:B≤w.heap.size:=Nat.le_trans hR.lo (Nat.le_of_lt (ay hR.blk))
 have HL:=ay hR.blk
 have H3:(al s.data.toList).length=8*s.size:=by rw[aA];rfl
 have hV:an (al s.data.toList):=aM _
 have hq:=aa fun(wx:World) (n:Nat) (h9:IsR B wx p s n) (hn:n≤8*s.size)=>show Calls Tryz.prog 190 #[.pointer (some ⟨p,0,none⟩),.int .i64 (T - 1:Nat)] wx fun e w'=>
  (∃ c,bW ((al s.data.toList).drop n) 0 T=.hit c∧c<T∧e=.returned (.tuple #[.int .i64 c,.int .i64 0])∧IsR B w' p s (n+(c+1))∧n+(c+1)≤8*s.size∧ak B [p] [] wx w')∨
  (bW ((al s.data.toList).drop n) 0 T=.short∧e=.returned (.tuple #[.int .i64 0,.int .i64 10])∧ak B [p] [] wx w')∨
  (bW ((al s.data.toList).drop n) 0 T=.bad∧e=.returned (.tuple #[.int .i64 0,.int .i64 3])∧ak B [p] [] wx w')from by
  rcases xE (T - 1) ((al s.data.toList).drop n) (hV.drop n)with⟨c,r,hc,hd⟩ | ⟨c,hc,hd⟩ | ⟨r,hd⟩
  ·refine(Hh B wx p s n c (T - 1) r h9 (by omega) (by omega) hc hd).mono ?_
   rintro e w' ⟨rfl,hy,h7⟩
   have hJ:=(yF hd).2
   rw[H3]at hJ
   refine .inl ⟨c,?_,by omega,rfl,hy,by omega,h7⟩
   rw[hd,mT c 0 T r (by omega),Nat.zero_add]
  ·refine(xK B wx p s n c (T - 1) h9 hn (by omega) (by omega) hc hd).mono ?_
   rintro e w' ⟨rfl,_,h7⟩
   refine .inr (.inl ⟨?_,rfl,h7⟩)
   rw[hd]
   exact pA c 0 T (by omega)
  ·refine(Dm B wx p s n (T - 1) r h9 (by omega) (by omega) hd).mono ?_
   rintro e w' ⟨rfl,_,h7⟩
   refine .inr (.inr ⟨?_,rfl,h7⟩)
   rw[hd]
   exact pT (T - 1+1) 0 T r (by omega) (by omega)
 obtain⟨bits,he⟩:∃bits,bits=al s.data.toList:=⟨_,rfl⟩
 rw[← he]at hq ⊢
 obtain⟨ANS,hh⟩:∃ANS,ANS=aD bits T K (List.range T) a []:=⟨_,rfl⟩
 rw[← hh]
 have h8:=aa hh
 have hu:Hid (∀ w' v (X:List Nat) (n:Nat),ANS=(X,n,0)→w'.ownsRow w.heap.size 3 1 v X.length (X.map iv)→IsR B w' p s n→ak B [p] [] w w'→l6 B w p s ANS (.returned (.tuple #[v,.int .i64 0])) w'):=aa fun w' v X n h1 h2 h3 h4=>by
  rw[h1]
  exact⟨v,rfl,h2,fun _=>h3,h4⟩
 have hr:Hid (∀ w' (z:Nat),z≠0→ANS=([],0,z)→ak B [p] [] w w'→l6 B w p s ANS (.returned (.tuple #[.slice none 0 0,.int .i64 z])) w'):=aa fun w' z h0 h1 h4=>by
  rw[h1]
  exact⟨_,rfl,World.ownsRow_nil _ _ _ _,fun h=>absurd h h0,h4⟩
 generalize l6 B w p s ANS=PO at*
 have hM:=aa (nI w T (by omega))
 have HR:=aa hR
 obtain⟨tm,HB⟩:∃tm,tm=T - 1:=⟨_,rfl⟩
 rw[← HB]at hq
 have HM:(T:Int) - 1=(tm:Int):=by omega
 clear hR H3 hV he hh HB
 go_enter Tryz.func146,Tryz.ntmps146
 go_wp2_with fail
 refine hM.out.mono ?_
 rintro e w1 ⟨rfl,H4,hF⟩
 have hY:=HR.out.step (am hF) aq aq
 have H0:ak B [p] [] w w1:=(am hF).mono hB (by simp) (by simp)
 have hP:Hid (kI w w1 (.slice none 0 0) [] w.heap.size T (fun j=>j)):=aa ⟨World.ownsRow_nil _ _ _ _,H4,by simp[Value.ownBlock]⟩
 have hQ:=aa hY
 have hS:=aa H0
 clear H4 hF hY H0 hM HR
 go_wp2_with fail
 go_loopw [9,10,11,15] (fun pv s10 s11 iv' wx=>∃(i:Nat) (f:Nat→Nat) (A9:Option Addr) (c9:Nat) (X:List Nat) (n:Nat),i≤K∧iv'=.int .i64 i∧pv=.slice A9 i c9∧kI w wx (.slice A9 i c9) X w.heap.size T f∧IsR B wx p s n∧Hid (X.length=i∧n≤8*s.size∧aD bits T (K - i) ((List.range T).map f) n X=ANS)∧ak B [p] [] w wx) (fun _ _ _ iv' _=>K - (intOf iv').toNat)
 case atStart=>
  refine⟨0,_,none,0, [],a,Nat.zero_le _,rfl,rfl,hP.out,hQ.out,⟨rfl,ha,?_⟩,hS.out⟩
  rw[h8.out,List.map_id',Nat.sub_zero]
 case round=>
  clear hP hQ hS
  rename World=>wx
  obtain⟨i,f,A9,c9,X,n,hi,rfl,rfl,hO,h9,hI,hz⟩:=hrel
  by_cases e:i<K
  ·have di:decide ((i:Int)<(K:Int))=true:=ar (by omega)
   have HU:=aa (hq.out wx n h9 hI.out.2.1)
   have hf:aD bits T (K - (i+1)+1) ((List.range T).map f) n X=ANS:=by rw[show K - (i+1)+1=K - i by omega];exact hI.out.2.2
   have ho:=aa hf
   have hT:=aa hI.out.1
   have HO:=aa hO
   have hv:=aa h9
   have hp:=aa hz
   clear hf hI hO h9 hz
   go_wp2_with fail
   refine HU.out.mono ?_
   intro e w2 hl
   rcases hl with⟨c,h6,hG,rfl,hy,H5,h7⟩ | ⟨h6,rfl,h7⟩ | ⟨h6,rfl,h7⟩
   ·have hw:=HO.out.step hv.out.blk (by decide) h7
    have ht:=hp.out.trans h7
    have hN:=aa (yQ w.heap.size w2 w.heap.size T T f c hw.ord hG (by omega))
    have hb:=aa hw.out
    have hC:=aa hw.ne
    have HD:Hid (aD bits T (K - (i+1)) ((List.range T).map (lH f c)) (n+(c+1)) (X++ [f c])=ANS):=aa (by
     rw[← ho.out,fe h6,mW f T c hG,cH T f c hG]
     rfl)
    have hD:=aa hy
    have hg:=aa ht
    clear h6 hy h7 hw ht HU ho HO hv hp
    go_wp2_with fail
    refine hN.out.mono ?_
    rintro e w3 ⟨rfl,hH,hA⟩
    have H8:=hA.row hb.out (fun k hk=>by
     rw[List.mem_singleton]
     intro e
     exact hC.out (by rw[hk,e])) aq
    have hW:kI w w3 (.slice A9 i c9) X w.heap.size T (lH f c):=⟨H8,hH,hC.out⟩
    have hL:w.heap.size≤w3.heap.size:=Nat.le_trans hg.out.size hA.size
    have HK:w3.cell? ⟨w.heap.size,0,none⟩=some (.int .i64 (f c:Nat)):=by
     have:=hH.cell 0 (by omega)
     rw[this]
     unfold lH
     rw[if_pos rfl]
    obtain⟨x,hx⟩:∃x,x=f c:=⟨_,rfl⟩
    rw[← hx]at HK
    obtain⟨A4,c4,w4,HA,hX,H2⟩:=hW.push x hT.out (by omega) hL
    have hj:Below w.heap.size w2 w4:=hA.below.trans H2
    have hZ:IsR B w4 p s (n+(c+1)):=⟨hD.out.lo,(hj.block p HL).trans hD.out.blk⟩
    have H1:=G1 hg.out hj hB
    have HG:=aa HA
    have HF:=aa hX
    have hE:=aa hZ
    have HH:=aa H1
    have HI:=aa hx
    have HP:(0:Int)<(T:Int):=by omega
    have HC:=aa H5
    clear H8 hW hH hA hx HA hX H2 hj hZ H1 H5 hN hb hC hD hg
    go_wp2_with (at_builtin;refine Lib.wpList_append_run _ rfl (.tmp 32) (.tmp 36) 36 36 rfl (.slice A9 i c9) (.slice (some ⟨w3.heap.size,0,none⟩) 1 1) rfl rfl _ w4 HG.out ?_)
    go_roundw
    case rel=>exact⟨i+1,_,A4,c4,_,_,by omega,by go_num,rfl,HF.out,hE.out,⟨by rw[List.length_append,hT.out];rfl,HC.out,by rw[HI.out];exact HD.out⟩,HH.out⟩
    case measure=>simp[intOf];omega
   ·have h5:ANS=([],0,10):=by rw[← ho.out,dW h6]
    have HE:=aa (hr.out w2 10 (by omega) h5 (hp.out.trans h7))
    clear h6 h7 h5 HU ho HO hv hp hq hu hr h8
    go_wp2_with fail
    first | go_ret2 | skip
    exact HE.out
   ·have h5:ANS=([],0,110):=by rw[← ho.out,fb h6]
    have HE:=aa (hr.out w2 110 (by omega) h5 (hp.out.trans h7))
    clear h6 h7 h5 HU ho HO hv hp hq hu hr h8
    go_wp2_with fail
    first | go_ret2 | skip
    exact HE.out
  ·obtain rfl:i=K:=by omega
   have di:decide ((i:Int)<(i:Int))=false:=ao (by omega)
   have h5:ANS=(X,n,0):=by rw[← hI.out.2.2,Nat.sub_self];rfl
   have hm:=hO.out
   rw[hI.out.1]at hm
   have HE:=aa (hu.out wx (.slice A9 i c9) X n h5 (by rw[hI.out.1];exact hm) h9 hz)
   clear h5 hm hO h9 hI hz hq hu hr h8
   go_wp2_with fail
   first | go_ret2 | skip
   exact HE.out
def nH(w:World)(T:Nat)(ans:List (List Nat)×Nat×Nat)(e:Ending)(w':World):Prop:=
 (ans.2.2=0∧∃A c F C,e=.returned (.tuple #[.slice A T c,.int .i64 ans.2.1,.int .i64 0])∧jW w w' (.slice A T c) T F C∧(List.range T).map C=ans.1∧∀t,t<T→(C t).length≤258)∨
 (ans.2.2≠0∧e=.returned (.tuple #[.slice none 0 0,.int .i64 0,.int .i64 ans.2.2])∧Below w.heap.size w w')
theorem td(w:World)(s:ByteArray)(p n T:Nat)(hs:s.size≤2000000)(hp:p≤8*s.size)(_:n≤258)(hM:T≤6):
 Calls Tryz.prog 147 #[.string s,.int .i64 p,.int .i64 n,.int .i64 T] w (nH w T (eU (al s.data.toList) n T p [])):=by
 have hG:(al s.data.toList).length=8*s.size:=by rw[aA];rfl
 have hk:=aa fun(wx:World) (q:Nat)=>S10.oO wx s (q:Int) (n:Int) hs
 have hf:=aa fun(q:Nat)=>jx (al s.data.toList) (q:Int) (n:Int)
 rw[hG]at hf
 obtain⟨bits,h8⟩:∃bits,bits=al s.data.toList:=⟨_,rfl⟩
 rw[← h8]at hk hf ⊢
 obtain⟨ANS,h9⟩:∃ANS,ANS=eU bits n T p []:=⟨_,rfl⟩
 rw[← h9]
 have h7:=aa h9
 have hu:Hid (∀ w' A c F C (q:Nat),ANS=((List.range T).map C,q,0)→jW w w' (.slice A T c) T F C→(∀ t,t<T→(C t).length≤258)→nH w T ANS (.returned (.tuple #[.slice A T c,.int .i64 q,.int .i64 0])) w'):=aa fun w' A c F C q h1 h2 h3=>by
  rw[h1]
  exact .inl ⟨rfl,A,c,F,C,rfl,h2,rfl,h3⟩
 have hg:Hid (∀ w' (z:Nat),z≠0→ANS=([],0,z)→Below w.heap.size w w'→nH w T ANS (.returned (.tuple #[.slice none 0 0,.int .i64 0,.int .i64 z])) w'):=aa fun w' z h0 h1 h4=>by
  rw[h1]
  exact .inr ⟨h0,rfl,h4⟩
 generalize nH w T ANS=PO at*
 clear hG h8 h9
 go_enter Tryz.func147,Tryz.ntmps147
 go_wp2_with fail
 go_loopw [1,11,12,13,14,16] (fun av tv s12 s13 s14 iv' wx=>∃(i q c:Nat) (A:Option Addr) (F:Nat→Value) (C:Nat→List Nat),i≤T∧iv'=.int .i64 i∧av=.int .i64 q∧tv=.slice A i c∧jW w wx (.slice A i c) i F C∧Hid (q≤8*s.size∧eU bits n (T - i) q ((List.range i).map C)=ANS∧∀t,t<i→(C t).length≤258)) (fun _ _ _ _ _ iv' _=>T - (intOf iv').toNat)
 case atStart=>
  refine⟨0,p,0,none,fun _=>.slice none 0 0,fun _=> [],Nat.zero_le _,rfl,rfl,rfl,jW.nil _ _ _ _ (Below.refl _ _),⟨hp,?_,fun t ht=>absurd ht (Nat.not_lt_zero _)⟩⟩
  rw[h7.out,Nat.sub_zero]
  rfl
 case round=>
  rename World=>wx
  obtain⟨i,q,c,A,F,C,hi,rfl,rfl,rfl,hL,hI⟩:=hrel
  by_cases e:i<T
  ·have di:decide ((i:Int)<(T:Int))=true:=ar (by omega)
   have HT:=aa (hk.out wx q)
   have hy:=hf.out q
   have h5:eU bits n (T - (i+1)+1) q ((List.range i).map C)=ANS:=by rw[show T - (i+1)+1=T - i by omega];exact hI.out.2.1
   rw[kF]at h5
   obtain⟨⟨X,q2,z⟩,ha⟩:∃ans,ans=ax bits (q:Int) (n:Int):=⟨_,rfl⟩
   rw[← ha]at HT hy h5
   dsimp only at hy h5
   have hj:=aa h5
   have hv:=aa hy
   have hr:=aa hI.out.2.2
   have hh:=aa hL
   clear hL hI hy h5 ha
   go_wp2_with fail
   refine HT.out.mono ?_
   rintro e w2 ⟨v2,rfl,hb,hn⟩
   dsimp only at hb ⊢
   obtain⟨A2,c2,rfl,hw,hx,_⟩:=aj hb
   have ho:=ap hh.out.below hn
   by_cases ez:z=0
   ·subst ez
    have h6:=hj.out
    rw[if_pos rfl]at h6
    have hz:X.length≤maxLen:=Nat.le_trans hw hx
    have hc:ZIn w2 A2 X.length (zL X):=cR (aJ hb)
    have he:=aa (kN w2 A2 X.length c2 (zL X) hc hz)
    by_cases eo:aY (zL X)
    ·rw[if_pos eo]at h6 he
     have hF:X.length≤258:=by
      have:=eo.2.1
      unfold zL at this
      rw[List.length_map]at this
      exact this
     obtain⟨D,hD⟩:∃D:Nat→List Nat,D=fun t=>if t=i then X else C t:=⟨_,rfl⟩
     have hl:D i=X:=by rw[hD];exact if_pos rfl
     have hB:(List.range i).map C++ [X]=(List.range (i+1)).map D:=by
      rw[List.range_succ,List.map_append,List.map_singleton,hl]
      congr 1
      apply List.map_congr_left
      intro t ht
      have:=List.mem_range.1 ht
      rw[hD]
      show C t=if t=i then X else C t
      rw[if_neg (by omega)]
     have hE:=hh.out.same (D:=D) fun t ht=>by
      rw[hD]
      show C t=if t=i then X else C t
      rw[if_neg (by omega)]
     obtain⟨A3,c3,w3,hH,hC,_⟩:=hE.push (A1:=A2) (k1:=c2) (n:=X.length) (by rw[hl];exact hb) hn (by omega) (by rw[hl])
     have hJ:Hid (q2≤8*s.size∧eU bits n (T - (i+1)) q2 ((List.range (i+1)).map D)=ANS∧∀t,t<i+1→(D t).length≤258):=aa ⟨hv.out.1,by rw[← hB];exact h6,fun t ht=>by
      by_cases et:t=i
      ·rw[et,hl];exact hF
      ·rw[hD]
       show(if t=i then X else C t).length≤258
       rw[if_neg et]
       exact hr.out t (by omega)⟩
     have hA:=aa hH
     have hK:=aa hC
     obtain⟨xl,hq⟩:∃xl,xl=X.length:=⟨_,rfl⟩
     rw[← hq]at he hA ⊢
     clear h6 hc hz eo hF hD hl hB hE hH hC hb hn ho hw hx HT hj hr hh hv hq
     go_wp2_with fail
     refine he.out.mono ?_
     rintro e w2 ⟨rfl,rfl⟩
     go_wp2_with (at_builtin;refine Lib.wpList_append_run _ rfl (.tmp 33) (.tmp 35) 50 50 rfl (.slice A i c) (.slice (some ⟨w2.heap.size,0,none⟩) 1 1) rfl rfl _ w3 hA.out ?_)
     go_roundw
     case rel=>exact⟨i+1,q2,c3,A3,_,D,by omega,by go_num,rfl,rfl,hK.out,hJ⟩
     case measure=>simp[intOf];omega
    ·rw[if_neg eo]at h6 he
     have HE:=aa (hg.out w2 80 (by omega) h6.symm ho)
     obtain⟨xl,hq⟩:∃xl,xl=X.length:=⟨_,rfl⟩
     rw[← hq]at he ⊢
     clear h6 hc hz eo hb hn ho hw hx HT hj hr hh hv hq hu hg h7 hk hf
     go_wp2_with fail
     refine he.out.mono ?_
     rintro e w2 ⟨rfl,rfl⟩
     go_wp2_with fail
     first | go_ret3 | skip
     exact HE.out
   ·have h6:=hj.out
    rw[if_neg ez]at h6
    have HE:=aa (hg.out w2 z ez h6.symm ho)
    have dz:((z:Int)==0)=false:=by rw[beq_eq_false_iff_ne];omega
    have dz2:((z:Int) != 0)=true:=by rw[bne_iff_ne];omega
    have dz3:¬(z:Int)=0:=by omega
    have dz4:(z==0)=false:=by rw[beq_eq_false_iff_ne];exact ez
    clear h6 hb hn ho hw hx HT hj hr hh hv hu hg h7 hk hf
    go_wp2_with fail
    first | go_ret3 | skip
    exact HE.out
  ·obtain rfl:i=T:=by omega
   have di:decide ((i:Int)<(i:Int))=false:=ao (by omega)
   have hm:ANS=((List.range i).map C,q,0):=by rw[← hI.out.2.1,Nat.sub_self];rfl
   have HE:=aa (hu.out wx A c F C q hm hL hI.out.2.2)
   clear hm hL hI hu hg h7 hk hf
   go_wp2_with fail
   first | go_ret3 | skip
   exact HE.out
theorem CU(bits:List Nat)(n a:Nat):jl bits n a=if(dK bits a).2.2=0 then rc bits n a (dK bits a).1 (dK bits a).2.1 else([], [],0,(dK bits a).2.2):=by
 unfold jl dK
 by_cases h1:bits.length<a+3
 ·rw[if_pos h1,if_pos h1,if_neg (by simp)]
 ·rw[if_neg h1,if_neg h1]
  by_cases h2:val ((bits.drop a).take 3)<2∨6<val ((bits.drop a).take 3)
  ·rw[if_pos h2,if_pos h2,if_neg (by simp)]
  ·rw[if_neg h2,if_neg h2]
   by_cases h3:bits.length<a+18
   ·rw[if_pos h3,if_pos h3,if_neg (by simp)]
   ·rw[if_neg h3,if_neg h3]
    by_cases h4:val ((bits.drop (a+3)).take 15)=0
    ·rw[if_pos h4,if_pos h4,if_neg (by simp)]
    ·rw[if_neg h4,if_neg h4,if_pos rfl]
theorem Jk(bits:List Nat)(a:Nat)(hb:an bits)(h:(dK bits a).2.2=0):2≤(dK bits a).1∧(dK bits a).1≤6∧(dK bits a).2.1≤32767∧a+18≤bits.length:=by
 unfold dK at h ⊢
 by_cases h1:bits.length<a+3
 ·rw[if_pos h1]at h
  cases h
 ·rw[if_neg h1]at h ⊢
  by_cases h2:val ((bits.drop a).take 3)<2∨6<val ((bits.drop a).take 3)
  ·rw[if_pos h2]at h
   cases h
  ·rw[if_neg h2]at h ⊢
   by_cases h3:bits.length<a+18
   ·rw[if_pos h3]at h
    cases h
   ·rw[if_neg h3]at h ⊢
    by_cases h4:val ((bits.drop (a+3)).take 15)=0
    ·rw[if_pos h4]at h
     cases h
    ·rw[if_neg h4]
     have h5:=eD _ ((hb.drop (a+3)).take 15)
     rw[List.length_take,List.length_drop,Nat.min_eq_left (by omega)]at h5
     exact⟨by dsimp only;omega,by dsimp only;omega,by dsimp only;omega,by omega⟩
theorem FE(bits:List Nat)(a:Nat):(dK bits a).2.2≤110:=by
 unfold dK
 (repeat' split) <;>simp
theorem zT(w:World)(s:ByteArray)(at' n:Int)(hs:s.size≤2000000):
 Calls Tryz.prog 86 #[.string s,.int .i64 at',.int .i64 n] w (kT w (eJ (al s.data.toList) at' n)):=by
 have hE:(al s.data.toList).length=8*s.size:=by rw[aA];rfl
 obtain⟨w1,hI⟩:∃w1,w1=w.alloc (.cells #[.slice none 0 0,.slice none 0 0] 52):=⟨_,rfl⟩
 have HO:Below w.heap.size w w1:=bR hI
 have HP:Blk w1 w.heap.size 52 #[.slice none 0 0,.slice none 0 0]:=ee hI
 have hG:eJ (al s.data.toList) at' n=if at'<0∨((8*s.size:Nat):Int)<at'∨n<3∨258<n then([], [],0,2)else jl (al s.data.toList) n.toNat at'.toNat:=by
  unfold eJ
  rw[hE]
 have h4:Hid (∀ (wx:World) (k:Nat),eJ (al s.data.toList) at' n=([], [],0,k)→Below w.heap.size w wx→kT w (eJ (al s.data.toList) at' n) (.returned (.tuple #[.agg #[.slice none 0 0,.slice none 0 0],.int .i64 0,.int .i64 k])) ((wx.setCell ⟨w.heap.size,0,none⟩ (.slice none 0 0)).setCell ⟨w.heap.size,1,none⟩ (.slice none 0 0))):=aa fun wx k h1 h3=>by
  rw[h1]
  exact⟨_,rfl,o9 _,(h3.setCell (p:=⟨w.heap.size,0,none⟩) (ah _) _).setCell (p:=⟨w.heap.size,1,none⟩) (ah _) _⟩
 have ho:Hid (∀ (wx:World) (v:Value) (T:List (List Int)) (P:List Int) (pl:Nat),eJ (al s.data.toList) at' n=(T,P,pl,0)→aN wx v T P→Below w.heap.size w wx→kT w (eJ (al s.data.toList) at' n) (.returned (.tuple #[v,.int .i64 pl,.int .i64 0])) wx):=aa fun wx v T P pl h1 h2 h3=>⟨v,by rw[h1];rfl,by rw[h1];exact h2,h3⟩
 generalize kT w (eJ (al s.data.toList) at' n)=PO at*
 generalize eJ (al s.data.toList) at' n=ans at*
 have h7:=aa hG
 have hn:=aa HP
 have hM:=aa HO
 have HV:w1.heap.size=w.heap.size+1:=by rw[hI];simp
 have HY:=aa HV
 have hB:=aa hI.symm
 clear hG HP HO HV hI
 have q0:=(ac hn.out 0).trans rfl
 have q1:=(ac hn.out 1).trans rfl
 have f0:=ae hn.out 0
 have f1:=ae hn.out 1
 by_cases h1:at'<0∨8*(s.size:Int)<at'
 ·have h0:=h7.out
  rw[if_pos (by omega)]at h0
  have hz:=aa (j8 w1 s at' (by omega) h1)
  have HE:=aa (h4.out w1 2 h0 hM.out)
  have de:Value.pointer none=Value.pointer none:=rfl
  clear h0 h1 h4 ho h7 hE de
  go_enter Tryz.func86,Tryz.ntmps86
  go_upto_region 1 with fail
  rw[hB.out]
  clear hB
  go_wp2_with fail
  refine hz.out.mono ?_
  rintro e w1 ⟨rfl,rfl⟩
  go_wp2_with fail
  refine bodyPost_ret (v:=.tuple #[.agg #[.slice none 0 0,.slice none 0 0],.int .i64 0,.int .i64 2]) ?_ rfl HE.out
  simp[results,Tryz.results86,go_sem,q0,q1]
 ·obtain⟨a,rfl⟩:=Int.eq_ofNat_of_zero_le (show 0≤at' by omega)
  have ha:a≤8*s.size:=by omega
  have hz:=aa (fR w1 s (a:Int) (by omega) (by omega) (by omega))
  have HM:=kp w1 w1.heap.size (ah _) s a
  have H3:Below w1.heap.size w1 (w1.alloc (.cells #[.bool true,.string s,.int .i64 a] 126)):=(Below.refl _ _).alloc (ah _) _
  have HQ:=aL H3 hn.out
  have hA:=aa HM
  have hc:=aa HQ
  have hl:=aa (ap hM.out H3)
  have hy:=aa fun(wx:World)=>li wx n
  clear HM H3 HQ h1 q0 q1 f0 f1
  by_cases h2:3≤n∧n≤258
  ·rw[decide_eq_true h2]at hy
   obtain⟨m,rfl⟩:=Int.eq_ofNat_of_zero_le (show 0≤n by omega)
   have h0:=h7.out
   rw[if_neg (by omega),Int.toNat_natCast,Int.toNat_natCast,CU]at h0
   have he:=aa h0
   have hv:=Jk (al s.data.toList) a (aM _)
   rw[hE]at hv
   have hi:=aa hv
   have hh:=aa fun(wx:World) (hR:IsR w1.heap.size wx w1.heap.size s a)=>yT w1.heap.size wx w1.heap.size s a hR hs ha
   obtain⟨⟨T,K,z⟩,H5⟩:∃c,c=dK (al s.data.toList) a:=⟨_,rfl⟩
   rw[← H5]at he hi hh
   have HW:z≤110:=by
    have:=FE (al s.data.toList) a
    rw[← H5]at this
    exact this
   have p5:=aa HW
   obtain⟨bits,h9⟩:∃bits,bits=al s.data.toList:=⟨_,rfl⟩
   have h5:=aa h9
   have HG:=aa hE
   rw[← h9]at he
   clear h0 hv H5 h7 HW hE h9
   go_enter Tryz.func86,Tryz.ntmps86
   go_upto_region 1 with fail
   rw[hB.out]
   clear hB
   go_wp2_with fail
   refine hz.out.mono ?_
   rintro e w2 ⟨rfl,hJ⟩
   rw[← hJ]at hA hc hl
   clear hJ hz hn hM
   generalize w1.heap.size=p at*
   go_wp2_with fail
   refine(hy.out w2).mono ?_
   rintro e w2 ⟨rfl,rfl⟩
   clear hy
   go_wp2_with fail
   refine(hh.out w2 hA.out).mono ?_
   rintro e w3 ⟨rfl,hD,hP⟩
   dsimp only at hD ⊢
   have hW:w.heap.size<p:=by rw[HY.out];exact Nat.lt_succ_self _
   have hw:Blk w3 w.heap.size 52 #[.slice none 0 0,.slice none 0 0]:=(hP.below.block w.heap.size hW).trans hc.out
   have hT:=hl.out.trans (hP.below.mono (Nat.le_of_lt hW))
   have HH:=aa hw
   have hY:=aa hT
   by_cases ez:z=0
   ·subst ez
    have hD:=hD rfl
    obtain⟨p0,H2,hK,hr⟩:=hi.out rfl
    have h0:=he.out
    rw[if_pos rfl]at h0
    unfold rc at h0
    have hO:=sL p w3 p s (a+18) T K hD hs hr p0 H2 (by omega)
    have hb:=fm bits T (by omega) K [0,1,2,3,4,5] (a+18) [] (by rw[h5.out,HG.out];exact hr)
    rw[← h5.out]at hO
    obtain⟨⟨X,q,y⟩,HR⟩:∃c,c=aD bits T K [0,1,2,3,4,5] (a+18) []:=⟨_,rfl⟩
    rw[← HR]at hO h0 hb
    dsimp only at h0 hb
    rw[h5.out,HG.out]at hb
    have hZ:=aa hO
    have hf:=aa h0
    have hp:=aa hb
    have p1:=H2
    clear hw hT hD hP hr h0 hO hb HR he hi hh hA hc hl
    go_wp2_with fail
    refine hZ.out.mono ?_
    rintro e w4 ⟨v4,rfl,hH,hq,hQ⟩
    dsimp only at hH hq ⊢
    have hx:Blk w4 w.heap.size 52 #[.slice none 0 0,.slice none 0 0]:=(hQ.below.block w.heap.size hW).trans HH.out
    have hV:=hY.out.trans (hQ.below.mono (Nat.le_of_lt hW))
    have p4:=hY.out.size
    have hF:=aa hx
    have hm:=aa hV
    by_cases ey:y=0
    ·subst ey
     have hq:=hq rfl
     have h0:=hf.out
     rw[if_pos rfl]at h0
     have hS:=td w4 s q m T hs hp.out.1 (by omega) H2
     rw[← h5.out]at hS
     obtain⟨⟨TS,q5,z5⟩,HT⟩:∃c,c=eU bits m T q []:=⟨_,rfl⟩
     rw[← HT]at hS h0
     dsimp only at h0
     have H0:=aa hS
     have hg:=aa h0
     have hX:=aa (lT w4 p (q:Nat) (by have:=ac hq.blk 0;simpa using this) (by have:=ac hq.blk 2;simpa using this))
     obtain⟨A4,c4,rfl,H4,p3,HZ⟩:=aj hH
     have hN:=aa hH
     clear hx hV hq hQ h0 hS HT hH HZ hZ hf hp HH hY
     obtain⟨xl,HF⟩:∃xl,xl=X.length:=⟨_,rfl⟩
     rw[← HF]at hN H4 ⊢
     have HX:=aa HF
     clear HF
     go_wp2_with fail
     refine hX.out.mono ?_
     rintro e w4 ⟨rfl,rfl⟩
     go_wp2_with fail
     refine H0.out.mono ?_
     intro e w5 hu
     rcases hu with⟨hL,A5,c5,F,C,rfl,hC,H1,HI⟩ | ⟨hL,rfl,hj⟩
     ·dsimp only at hL H1 ⊢
      subst hL
      have hj:=hC.below
      have h6:=aL hj hF.out
      have h8:=ap hm.out hj
      have HJ:jW w w5 (.slice A5 T c5) T F C:=⟨World.ownsRow.mono hC.row hm.out.size,fun t ht=>⟨(hC.each t ht).1,World.ownsRow.mono (hC.each t ht).2 hm.out.size⟩,h8⟩
      have HB:=jh hN.out hj
      have HK:=HJ.store h6 (by decide) (by decide) (ah _) 0 (.slice A5 T c5)
      have H8:=au h6 0 (.slice A5 T c5)
      have HL:=HK.store H8 (by decide) (by decide) (ah _) 1 (.slice A4 xl c4)
      have HD:ak w.heap.size [w.heap.size] [] w5 ((w5.setCell ⟨w.heap.size,0,none⟩ (.slice A5 T c5)).setCell ⟨w.heap.size,1,none⟩ (.slice A4 xl c4)):=
       ((ak.refl _ _ _ _).set (p:=⟨w.heap.size,0,none⟩) (ah _) (by simp) _).set (p:=⟨w.heap.size,1,none⟩) (ah _) (by simp) _
      have HC:=HD.row HB (fun k hk=>by rw[List.mem_singleton];exact cI HB h6 (by decide) k hk) aq
      have HA:=au H8 1 (.slice A4 xl c4)
      obtain⟨_,_,HU,p2,_,_⟩:=aj hC.row
      simp only[Value.slice.injEq]at HU
      obtain⟨rfl,_,rfl⟩:=HU
      have h0:=hg.out
      rw[if_pos rfl]at h0
      have HN:TS.map zL=(List.range T).map fun t=>zL (C t):=by rw[← H1,List.map_map];rfl
      rw[HN]at h0
      have HS:aN _ (.agg #[.slice A5 T c5,.slice A4 xl c4]) ((List.range T).map fun t=>zL (C t)) (zL X):=
       ⟨_,T,c5,_,xl,c4,rfl,HL.tabZ (fun t ht=>by have:=HI t ht;omega),p2,by unfold maxLen;omega,by rw[HX.out]at HC ⊢;exact cR (aJ HC),H4,Nat.le_trans H4 p3⟩
      have HE:=aa (ho.out _ _ _ _ q5 h0 HS (h8.trans HD.below))
      have g0:=(ac h6 0).trans (rfl:_=some (Value.slice none 0 0))
      have g1:=(ac h6 1).trans (rfl:_=some (Value.slice none 0 0))
      have f0:=ae h6 0
      have f1:=ae h6 1
      have r0:=(ac HA 0).trans (rfl:_=some (Value.slice A5 T c5))
      have r1:=(ac HA 1).trans (rfl:_=some (Value.slice A4 xl c4))
      clear hj h6 h8 HJ HB HK H8 HL HD HC HA h0 HN HS hC H1 HI ho h4 hg H0 hX hN hF hm
      go_wp2_with fail
      refine bodyPost_ret (v:=.tuple #[.agg #[.slice A5 T c5,.slice A4 xl c4],.int .i64 q5,.int .i64 0]) ?_ rfl HE.out
      simp[results,Tryz.results86,go_sem,g0,g1]
     ·dsimp only at hL ⊢
      have h6:=aL hj hF.out
      have h8:=ap hm.out hj
      have h0:=hg.out
      rw[if_neg hL]at h0
      have HE:=aa (h4.out w5 z5 h0 h8)
      have g0:=(ac h6 0).trans (rfl:_=some (Value.slice none 0 0))
      have g1:=(ac h6 1).trans (rfl:_=some (Value.slice none 0 0))
      have f0:=ae h6 0
      have f1:=ae h6 1
      have dz2:((z5:Int) != 0)=true:=by rw[bne_iff_ne];omega
      have dz3:¬(z5:Int)=0:=by omega
      clear h6 h8 h0 hj ho h4 hg H0 hX hN hF hm
      go_wp2_with fail
      refine bodyPost_ret (v:=.tuple #[.agg #[.slice none 0 0,.slice none 0 0],.int .i64 0,.int .i64 z5]) ?_ rfl HE.out
      simp[results,Tryz.results86,go_sem,g0,g1]
    ·have h0:=hf.out
     rw[if_neg ey]at h0
     have HE:=aa (h4.out w4 y h0 hV)
     have g0:=(ac hx 0).trans (rfl:_=some (Value.slice none 0 0))
     have g1:=(ac hx 1).trans (rfl:_=some (Value.slice none 0 0))
     have f0:=ae hx 0
     have f1:=ae hx 1
     have dz2:((y:Int) != 0)=true:=by rw[bne_iff_ne];omega
     have dz3:¬(y:Int)=0:=by omega
     clear h0 hx hV hH hq hQ hZ hf hp ho h4 hF hm
     go_wp2_with fail
     refine bodyPost_ret (v:=.tuple #[.agg #[.slice none 0 0,.slice none 0 0],.int .i64 0,.int .i64 y]) ?_ rfl HE.out
     simp[results,Tryz.results86,go_sem,g0,g1]
   ·have h0:=he.out
    rw[if_neg ez]at h0
    have HE:=aa (h4.out w3 z h0 hT)
    have g0:=(ac hw 0).trans (rfl:_=some (Value.slice none 0 0))
    have g1:=(ac hw 1).trans (rfl:_=some (Value.slice none 0 0))
    have f0:=ae hw 0
    have f1:=ae hw 1
    have dz2:((z:Int) != 0)=true:=by rw[bne_iff_ne];omega
    have dz3:¬(z:Int)=0:=by omega
    clear h0 hw hT hD hP he hi hh ho h4 hA hc hl
    go_wp2_with fail
    refine bodyPost_ret (v:=.tuple #[.agg #[.slice none 0 0,.slice none 0 0],.int .i64 0,.int .i64 z]) ?_ rfl HE.out
    simp[results,Tryz.results86,go_sem,g0,g1]
  ·rw[decide_eq_false h2]at hy
   have h0:=h7.out
   rw[if_pos (by omega)]at h0
   have he:=aa h0
   clear h0 h7 hE h2
   go_enter Tryz.func86,Tryz.ntmps86
   go_upto_region 1 with fail
   rw[hB.out]
   clear hB
   go_wp2_with fail
   refine hz.out.mono ?_
   rintro e w2 ⟨rfl,hJ⟩
   rw[← hJ]at hA hc hl
   clear hJ hz hn hM hA
   go_wp2_with fail
   refine(hy.out w2).mono ?_
   rintro e w2 ⟨rfl,rfl⟩
   have HE:=aa (h4.out w2 2 he.out hl.out)
   have g0:=(ac hc.out 0).trans (rfl:_=some (Value.slice none 0 0))
   have g1:=(ac hc.out 1).trans (rfl:_=some (Value.slice none 0 0))
   have f0:=ae hc.out 0
   have f1:=ae hc.out 1
   clear hy h4 ho he hc hl
   go_wp2_with fail
   refine bodyPost_ret (v:=.tuple #[.agg #[.slice none 0 0,.slice none 0 0],.int .i64 0,.int .i64 2]) ?_ rfl HE.out
   simp[results,Tryz.results86,go_sem,g0,g1]
theorem mE(l bs:List Nat)(en:Int)(h:eu l):∀(k a:Nat) (o:List Nat),o.length≤a→a≤bs.length→(fQ l bs en k a o).1.length≤bs.length∧(fQ l bs en k a o).2.1≤bs.length∧(fQ l bs en k a o).2.2≤90
 | 0,a,o,h1,h2=>⟨Nat.le_trans h1 h2,h2,Nat.zero_le _⟩
 | k+1,a,o,h1,h2=>by
   rw[oj]
   cases hx:fg l (bs.drop a)with
   | hit i=>
     have h0:=nF 20 1 (show fG l (bs.drop a) 20 1=.hit i from hx)
     have h3:=(h.one h0.2.1).1
     have h4:=h0.1
     rw[List.length_drop]at h4
     have h5:(o++ [i]).length≤a+l.getD i 0:=by rw[List.length_append];show o.length+1≤_;omega
     show(if(i:Int)=en then(o++ [i],a+l.getD i 0,0)else fQ l bs en k (a+l.getD i 0) (o++ [i])).1.length≤_∧(if(i:Int)=en then(o++ [i],a+l.getD i 0,0)else fQ l bs en k (a+l.getD i 0) (o++ [i])).2.1≤_∧(if(i:Int)=en then(o++ [i],a+l.getD i 0,0)else fQ l bs en k (a+l.getD i 0) (o++ [i])).2.2≤_
     by_cases e:(i:Int)=en
     ·rw[if_pos e]
      exact⟨by show(o++ [i]).length≤_;omega,by show a+l.getD i 0≤_;omega,Nat.zero_le _⟩
     ·rw[if_neg e]
      exact mE l bs en h k _ _ h5 (by omega)
   | short=>exact⟨Nat.zero_le _,Nat.zero_le _,by show 10≤90;omega⟩
   | code=>exact⟨Nat.zero_le _,Nat.zero_le _,Nat.le_refl _⟩
theorem qS(T:List (List Nat))(P bits:List Nat)(n0 g r:Nat)(pre:List Nat)(h0:1≤n0):∀(k a:Nat) (out:List Nat),k≤50→(∀ x∈out,x+1≠n0)→
 ((fQ (T.getD (P.getD g 0) []) bits (n0 - 1:Nat) k a out).2.2≠0∧kA T P bits n0 (k+r) (50*g+(50 - k)) a (pre++out)=([],0,(fQ (T.getD (P.getD g 0) []) bits (n0 - 1:Nat) k a out).2.2))∨
 ((fQ (T.getD (P.getD g 0) []) bits (n0 - 1:Nat) k a out).2.2=0∧(∃ o,(fQ (T.getD (P.getD g 0) []) bits (n0 - 1:Nat) k a out).1=o++ [n0 - 1])∧kA T P bits n0 (k+r) (50*g+(50 - k)) a (pre++out)=(pre++(fQ (T.getD (P.getD g 0) []) bits (n0 - 1:Nat) k a out).1,(fQ (T.getD (P.getD g 0) []) bits (n0 - 1:Nat) k a out).2.1,0))∨
 ((fQ (T.getD (P.getD g 0) []) bits (n0 - 1:Nat) k a out).2.2=0∧(∀ x∈(fQ (T.getD (P.getD g 0) []) bits (n0 - 1:Nat) k a out).1,x+1≠n0)∧(fQ (T.getD (P.getD g 0) []) bits (n0 - 1:Nat) k a out).1.length=out.length+k∧kA T P bits n0 (k+r) (50*g+(50 - k)) a (pre++out)=kA T P bits n0 r (50*g+50) (fQ (T.getD (P.getD g 0) []) bits (n0 - 1:Nat) k a out).2.1 (pre++(fQ (T.getD (P.getD g 0) []) bits (n0 - 1:Nat) k a out).1))
 | 0,a,out,_,ho=>.inr (.inr ⟨rfl,ho,rfl,by rw[Nat.zero_add,Nat.sub_zero];rfl⟩)
 | k+1,a,out,hk,ho=>by
   have hi:(50*g+(50 - (k+1))) / 50=g:=by omega
   rw[oj,show k+1+r=(k+r)+1 by omega,lV,hi]
   cases hx:fg (T.getD (P.getD g 0) []) (bits.drop a)with
   | hit x=>
     dsimp only
     by_cases e:x+1=n0
     ·have e1:((x:Int)=((n0 - 1:Nat):Int)):=by omega
      rw[if_pos e1,if_pos e]
      refine .inr (.inl ⟨rfl,⟨out,?_⟩,?_⟩)
      ·rw[show n0 - 1=x by omega]
      ·simp
     ·have e1:¬((x:Int)=((n0 - 1:Nat):Int)):=by omega
      rw[if_neg e1,if_neg e]
      have ih:=qS T P bits n0 g r pre h0 k (a+(T.getD (P.getD g 0) []).getD x 0) (out++ [x]) (by omega) (fun y hy=>by
       rcases List.mem_append.1 hy with hy | hy
       ·exact ho y hy
       ·rw[List.mem_singleton.1 hy]
        exact e)
      rw[show 50*g+(50 - (k+1))+1=50*g+(50 - k) by omega,List.append_assoc]
      rcases ih with⟨h1,h2⟩ | ⟨h1,h2,h3⟩ | ⟨h1,h2,h3,h4⟩
      ·exact .inl ⟨h1,h2⟩
      ·exact .inr (.inl ⟨h1,h2,h3⟩)
      ·exact .inr (.inr ⟨h1,h2,by rw[h3,List.length_append,List.length_singleton];omega,h4⟩)
   | short=>exact .inl ⟨by show(10:Nat)≠0;omega,rfl⟩
   | code=>exact .inl ⟨by show(90:Nat)≠0;omega,rfl⟩
theorem Hu(w:World)(v:Value)(T:List (List Int))(P:List Int)(h:aN w v T P)(s:ByteArray)(at':Int)(hM:¬aR T P):
 Calls Tryz.prog 87 #[v,.string s,.int .i64 at'] w (aH w (eK T P (al s.data.toList) at')):=by
 rw[show eK T P (al s.data.toList) at'=([],0,110)from if_neg hM]
 obtain⟨A,q,c,B,m,d,rfl,_⟩:=id h
 have h1:Below w.heap.size w (w.alloc (.cells #[.slice A q c,.slice B m d] 52)):=(Below.refl _ _).alloc (ah _) _
 have h5:=ag w 52 #[.slice A q c,.slice B m d]
 have HM:=aa (cK _ _ T P (h.below h1))
 rw[decide_eq_false hM]at HM
 have h2:=aa h1
 have h0:=aa h5
 have h3:Hid (∀ w',Below w.heap.size w w'→aH w ([],0,110) (.returned (.tuple #[.slice none 0 0,.int .i64 0,.int .i64 110])) w'):=aa fun w' hb=>⟨_,rfl,World.ownsRow_nil _ _ _ _,hb⟩
 generalize aH w ([],0,110)=PO at*
 clear h hM h1 h5
 go_enter Tryz.func87,Tryz.ntmps87
 go_upto_region 1 with fail
 generalize w.alloc (.cells #[.slice A q c,.slice B m d] 52)=w1 at*
 have p0:w1.cell? ⟨w.heap.size,0,none⟩=some (.slice A q c):=(ac h0.out 0).trans rfl
 have p1:w1.cell? ⟨w.heap.size,1,none⟩=some (.slice B m d):=(ac h0.out 1).trans rfl
 go_wp2_with fail
 refine HM.out.mono ?_
 rintro e w2 ⟨rfl,h4⟩
 have HE:=aa (h3.out w2 (ap h2.out h4))
 clear h4 h3 h2 h0 HM
 go_wp2_with fail
 first | go_ret3 | skip
 exact HE.out
end Go.Proofs.YthakcjehhlpjnaaGreat
