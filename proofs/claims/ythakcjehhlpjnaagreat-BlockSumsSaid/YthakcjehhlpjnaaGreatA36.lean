import Derived.Test.YthakcjehhlpjnaaGreatA35
import Derived.Test.YthakcjehhlpjnaaGreatA32
set_option maxHeartbeats 6400000
set_option maxRecDepth 100000
namespace Go.Proofs.YthakcjehhlpjnaaGreat
open Go.RowKit
theorem mI:∀(o r:List Nat) (x:Nat),x∈o→aQ (o++r) x=aQ o x
 | [],_,_,h=>by cases h
 | y :: o,r,x,h=>by
   rw[List.cons_append,aQ,aQ]
   by_cases e:y=x
   ·rw[if_pos e,if_pos e]
   ·rw[if_neg e,if_neg e,mI o r x (by
     rcases List.mem_cons.1 h with rfl | h
     ·exact absurd rfl e
     ·exact h)]
theorem nd(o r:List Nat)(k:Nat)(hk:k<o.length):d9 (o++r) k=d9 o k++r:=by
 unfold d9
 rw[List.take_append_of_le_length (by omega),List.drop_append_of_le_length (by omega),List.getD_eq_getElem?_getD,List.getElem?_append_left hk,←List.getD_eq_getElem?_getD]
 simp
theorem oc{o:List Nat}{k x:Nat}(hk:k<o.length)(hx:x∈o):x∈d9 o k:=by
 unfold d9
 obtain⟨i,hi,rfl⟩:=List.getElem_of_mem hx
 rcases Nat.lt_trichotomy i k with h | h | h
 ·refine List.mem_cons_of_mem _ (List.mem_append_left _ ?_)
  exact List.mem_take_iff_getElem.2 ⟨i,by omega,rfl⟩
 ·subst h
  rw[List.getD_eq_getElem?_getD,List.getElem?_eq_getElem hk]
  exact List.mem_cons_self ..
 ·refine List.mem_cons_of_mem _ (List.mem_append_right _ ?_)
  exact List.mem_drop_iff_getElem.2 ⟨i - (k+1),by omega,by simp only[show k+1+(i - (k+1))=i by omega]⟩
theorem kD:∀(P o r:List Nat),(∀ x∈P,x∈o)→aH (o++r) P=aH o P
 | [],_,_,_=>rfl
 | x :: P,o,r,h=>by
   have hx:=h x (List.mem_cons_self ..)
   have hp:=eF o x hx
   rw[aH,aH,mI o r x hx,nd o r _ hp.1,kD P (d9 o (aQ o x)) r (fun y hy=>oc hp.1 (h y (List.mem_cons_of_mem _ hy)))]
theorem tJ{T:Nat}(h:T≤6):∃r, [0,1,2,3,4,5]=List.range T++r:=by
 refine⟨[0,1,2,3,4,5].drop T,?_⟩
 have:T=0∨T=1∨T=2∨T=3∨T=4∨T=5∨T=6:=by omega
 rcases this with rfl | rfl | rfl | rfl | rfl | rfl | rfl <;>rfl
theorem rY{T:Nat}(h:T≤6)(P:List Nat)(hP:∀x∈P,x<T):aH [0,1,2,3,4,5] P=aH (List.range T) P:=by
 obtain⟨r,hr⟩:=tJ h
 rw[hr]
 exact kD P _ r fun x hx=>List.mem_range.2 (hP x hx)
theorem kB:∀(P o:List Nat) (T:Nat),o.length=T→(∀ x∈P,x∈o)→(aH o P).length≤T*P.length
 | [],_,_,_,_=>by simp[aH]
 | x :: P,o,T,hT,h=>by
   have hx:=h x (List.mem_cons_self ..)
   have hp:=eF o x hx
   have ih:=kB P (d9 o (aQ o x)) T (by rw[gK hp.1,hT]) (fun y hy=>oc hp.1 (h y (List.mem_cons_of_mem _ hy)))
   rw[aH,List.length_append,List.length_replicate,List.length_cons,List.length_cons,Nat.mul_succ]
   omega
theorem mf(f:Nat→Nat)(n p:Nat)(h:p<n):(List.range n).map (lw f p)=d9 ((List.range n).map f) p:=by
 have hl:((List.range n).map f).length=n:=by simp
 apply List.ext_getElem?
 intro j
 by_cases hj:j<n
 ·rw[List.getElem?_map,List.getElem?_range hj]
  unfold d9 lw
  match j with
  | 0=>
    rw[List.getElem?_cons_zero,cI n f p h]
    rfl
  | j+1=>
    rw[List.getElem?_cons_succ]
    by_cases e:j<p
    ·rw[List.getElem?_append_left (by simp;omega),List.getElem?_take,if_pos e,List.getElem?_map,List.getElem?_range (by omega)]
     show some (if j+1=0 then f p else if j+1≤p then f (j+1 - 1)else f (j+1))=_
     rw[if_neg (by omega),if_pos (by omega)]
     rfl
    ·rw[List.getElem?_append_right (by simp;omega),List.getElem?_drop,List.length_take,hl,Nat.min_eq_left (by omega),show p+1+(j - p)=j+1 by omega,List.getElem?_map,List.getElem?_range (by omega)]
     show some (if j+1=0 then f p else if j+1≤p then f (j+1 - 1)else f (j+1))=_
     rw[if_neg (by omega),if_neg (by omega)]
     rfl
 ·rw[List.getElem?_eq_none (by simp;omega),List.getElem?_eq_none (by rw[gK (by rw[hl];exact h),hl];omega)]
theorem y9(k:Nat)(h:k≤5):aj (2 ^ (k+1) - 2) (k+1)=List.replicate k 1++ [0]:=by
 have:k=0∨k=1∨k=2∨k=3∨k=4∨k=5:=by omega
 rcases this with rfl | rfl | rfl | rfl | rfl | rfl <;>decide
theorem Cd(k:Nat)(hk:k≤5)(B:Nat)(w:World)(p:Nat)(v:Value)(L:List Nat)(hW:IsW B w p v L)(hL:L.length≤1000000000000)(x n:Int)(hx:x=((2 ^ (k+1) - 2:Nat):Int))(hn:n=((k+1:Nat):Int)):
 Calls Tryz.prog 61 #[.pointer (some ⟨p,0,none⟩),.int .u64 x,.int .i64 n] w fun e w'=>e=.returned (.int .i64 0)∧∃v',IsW B w' p v' (L++(List.replicate k 1++ [0]))∧ai B [p] [5] w w':=by
 rw[← y9 k hk,hx,hn]
 refine eS B w p v L (2 ^ (k+1) - 2) (k+1) hW hL (by omega) ?_
 have:=Nat.two_pow_pos (k+1)
 omega
def q6(B:Nat)(w:World)(p:Nat)(L:List Nat)(e:Ending)(w':World):Prop:=e=.returned (.tuple #[])∧(∃ v',IsW B w' p v' L)∧ai B [p] [5] w w'
theorem si(B:Nat)(w:World)(p:Nat)(v:Value)(L:List Nat)(hW:IsW B w p v L)(hL:L.length≤1000000)(A:Option Addr)(T c:Nat)(Bp:Option Addr)(G d:Nat)(P:List Nat)(hP:aT w Bp G P)
 (H1:∀a,Bp=some a→a.block<B) (HW:2≤T) (HX:T≤6) (HQ:1≤G) (hG:G≤32767) (H0:∀x∈P,x<T):
 Calls Tryz.prog 66 #[.pointer (some ⟨p,0,none⟩),.agg #[.slice A T c,.slice Bp G d]] w (q6 B w p (L++(aj T 3++aj G 15++aH (List.range T) P))):=by
 have hB:B≤w.heap.size:=Nat.le_trans hW.lo (Nat.le_of_lt (aA hW.blk))
 have p0:=aA hW.blk
 have HG:=hP.1
 obtain⟨b,off,rfl,HI⟩:=hP.2 HQ
 have HR:b<B:=H1 _ rfl
 have HO:=aa HI
 have hc:ai B [p] [5] w (w.alloc (.cells #[.slice A T c,.slice (some ⟨b,off,none⟩) G d] 52)):=(ai.refl _ _ _ _).alloc hB _
 have H4:=hW.alloc (.cells #[.slice A T c,.slice (some ⟨b,off,none⟩) G d] 52)
 have HD:=ag w 52 #[.slice A T c,.slice (some ⟨b,off,none⟩) G d]
 obtain⟨F,hF⟩:∃F,F=L++(aj T 3++aj G 15++aH (List.range T) P):=⟨_,rfl⟩
 have HM:=aa hF
 have hR:Hid (∀ w' v',IsW B w' p v' F→ai B [p] [5] w w'→q6 B w p F (.returned (.tuple #[])) w'):=aa fun w' v' h1 h2=>⟨rfl,⟨v',h1⟩,h2⟩
 rw[← hF]
 generalize q6 B w p F=PO at*
 have hV:=aa H4
 have hS:=aa hc
 have he:=aa HD
 have HP:=aa H0
 have hf:=aa HG
 clear hW hP H1 HI hF hc H4 HD H0 HG
 go_enter Tryz.func66,Tryz.ntmps66
 go_upto_region 1 with fail
 have HL:(w.alloc (.cells #[.slice A T c,.slice (some ⟨b,off,none⟩) G d] 52)).heap.size=w.heap.size+1:=by simp
 have HV:=aa HL
 clear HL
 generalize w.alloc (.cells #[.slice A T c,.slice (some ⟨b,off,none⟩) G d] 52)=w1 at*
 have q0:w1.cell? ⟨w.heap.size,0,none⟩=some (.slice A T c):=(ac he.out 0).trans rfl
 have q1:w1.cell? ⟨w.heap.size,1,none⟩=some (.slice (some ⟨b,off,none⟩) G d):=(ac he.out 1).trans rfl
 have hO:Hid (Calls Tryz.prog 61 #[.pointer (some ⟨p,0,none⟩),.int .u64 T,.int .i64 3] w1 fun e w'=>e=.returned (.int .i64 0)∧∃v',IsW B w' p v' (L++aj T 3)∧ai B [p] [5] w1 w'):=aa (eS B w1 p v L T 3 hV.out (by omega) (by omega) (by omega))
 go_wp2_with fail
 refine hO.out.mono ?_
 rintro e w2 ⟨rfl,v2,H5,hs⟩
 have HH:w.heap.size∉ [p]:=by simp;omega
 have hh:=hs.blk he.out HH (by decide)
 have q0:w2.cell? ⟨w.heap.size,0,none⟩=some (.slice A T c):=(ac hh 0).trans rfl
 have q1:w2.cell? ⟨w.heap.size,1,none⟩=some (.slice (some ⟨b,off,none⟩) G d):=(ac hh 1).trans rfl
 have hQ:Hid (Calls Tryz.prog 61 #[.pointer (some ⟨p,0,none⟩),.int .u64 G,.int .i64 15] w2 fun e w'=>e=.returned (.int .i64 0)∧∃v',IsW B w' p v' (L++aj T 3++aj G 15)∧ai B [p] [5] w2 w'):=aa (eS B w2 p v2 (L++aj T 3) G 15 H5 (by rw[List.length_append,af];omega) (by omega) (by omega))
 have hH:=aa hh
 have HS2:=aa (hS.out.trans hs)
 clear H5 hs hh hV hS he hO
 go_wp2_with fail
 refine hQ.out.mono ?_
 rintro e w3 ⟨rfl,v3,H6,ht⟩
 have hv:=ht.blk hH.out HH (by decide)
 have q0:w3.cell? ⟨w.heap.size,0,none⟩=some (.slice A T c):=(ac hv 0).trans rfl
 have hJ:=aa hv
 have hq:=aa (HS2.out.trans ht)
 have hX:=aa H6
 have hE:=aa (mG w3 T (by omega))
 clear H6 ht hv HS2 hH hQ q1
 go_wp2_with fail
 refine hE.out.mono ?_
 rintro e w4 ⟨rfl,hu,HA⟩
 have h0:=an HA
 have HF:=h0.blk hJ.out az az
 have q1:w4.cell? ⟨w.heap.size,1,none⟩=some (.slice (some ⟨b,off,none⟩) G d):=(ac HF 1).trans rfl
 have HU:w.heap.size≤w3.heap.size:=hq.out.size
 have hT:=aa (hq.out.trans (h0.mono (Nat.le_trans hB HU) (by simp) (by simp)))
 have hY:=aa (hX.out.step h0 az (fun _ _=>az) az az)
 have hC:=aa hu
 have hg:=aa hu.lt
 clear hu HA h0 HF hE hJ hq hX
 generalize w3.heap.size=g at*
 go_wp2_with fail
 go_loopw [6,7,27] (fun s6 s7 iv' wx=>∃(i:Nat) (f:Nat→Nat) (v':Value) (K:List Nat),i≤G∧iv'=.int .i64 i∧IsW B wx p v' K∧aB wx g g T T f∧Hid (K++aH ((List.range T).map f) (P.drop i)=F∧K.length≤2000000+6*i∧∀x,x<T→x∈(List.range T).map f)∧ai B [p] [5] w wx) (fun _ _ iv' _=>G - (intOf iv').toNat)
 case atStart=>
  refine⟨0,fun j=>j,v3,_,Nat.zero_le _,rfl,hY.out,hC.out,⟨?_,?_,fun x hx=> ?_⟩,hT.out⟩
  ·rw[HM.out,List.map_id',List.drop_zero]
   simp only[List.append_assoc]
  ·rw[List.length_append,List.length_append,af,af]
   omega
  ·rw[List.map_id']
   exact List.mem_range.2 hx
 case round=>
  clear hY hC hT
  rename World=>w5
  obtain⟨i,f,v5,K,hi,rfl,h7,ha,hI,h6⟩:=hrel
  by_cases e:i<G
  ·have di:decide ((i:Int)<(G:Int))=true:=aC (by omega)
   have HZ:(0:Int)≤(i:Int):=by omega
   have HY:(i:Int)<(G:Int):=by omega
   have h9:w5.cell? ⟨b,off+i,none⟩=some (.int .i64 (P.getD i 0:Nat)):=(h6.below.cell (p:=⟨b,off+i,none⟩) HR).trans (HO.out i e)
   obtain⟨x,hx⟩:∃x,x=P.getD i 0:=⟨_,rfl⟩
   have HK:x∈P:=by
    rw[hx,List.getD_eq_getElem?_getD,List.getElem?_eq_getElem (by rw[hf.out];exact e)]
    exact List.getElem_mem _
   have HJ:=HP.out x HK
   have hA:=hI.out.2.2 x HJ
   have HB:P.drop i=x :: P.drop (i+1):=by
    rw[List.drop_eq_getElem_cons (by rw[hf.out];exact e),hx,List.getD_eq_getElem?_getD,List.getElem?_eq_getElem (by rw[hf.out];exact e)]
    rfl
   rw[← hx]at h9
   have ho:=aa (zJ w5 (some ⟨g,0,none⟩) T T _ x ha.ints hA (by omega))
   have hm:=eF _ x hA
   have hw:((List.range T).map f).length=T:=by simp
   obtain⟨k,hk⟩:∃k,k=aQ ((List.range T).map f) x:=⟨_,rfl⟩
   rw[← hk]at ho hm
   rw[hw]at hm
   have hl:=hm.1
   have hM:=aa (xx g w5 g T T f k ha hl (by omega))
   have hN:Hid ((K++(List.replicate k 1++ [0]))++aH ((List.range T).map (lw f k)) (P.drop (i+1))=F):=aa (by
    rw[← hI.out.1,HB,aH,←hk,mf f T k hl]
    simp)
   have hK:Hid (∀ y,y<T→y∈(List.range T).map (lw f k)):=aa fun y hy=>by
    rw[mf f T k hl]
    exact oc (by rw[hw];exact hl) (hI.out.2.2 y hy)
   have hZ:=hI.out.2.1
   have hp:=aa hZ
   have hr:=aa h7
   have hU:=aa h6
   have hD:=aa ha
   clear hm hI h7 h6 ha hx HK hA HB hk hw hZ HJ
   go_wp2_with fail
   refine ho.out.mono ?_
   rintro e w6 ⟨rfl,rfl⟩
   clear ho
   go_wp2_with fail
   refine hM.out.mono ?_
   rintro e w7 ⟨rfl,HC,hz⟩
   have HS:p∉ [g]:=by
    have:=hg.out
    simp
    omega
   have H7:=hr.out.step hz HS (fun k hk=>by
    rw[List.mem_singleton]
    intro e
    obtain⟨c1,f1,e1⟩:=Lib.ownsRow_kind hr.out.row g (by rw[hk,e])
    obtain⟨c2,f2,e2⟩:=Lib.ownsRow_kind hD.out g rfl
    rw[e1]at e2
    simp at e2) az az
   have H2:ai B [p] [5] w w7:=hU.out.after hz (by have:=hg.out;omega) (fun j hj=>.inr (by rw[List.mem_singleton.1 hj];have:=hg.out;omega)) (by simp)
   have hb:K.length≤1000000000000:=by have:=hp.out;omega
   have HT:k≤5:=by omega
   have h5:=aa fun(x n:Int) (hx:x=((2 ^ (k+1) - 2:Nat):Int)) (hn:n=((k+1:Nat):Int))=>Cd k HT B w7 p v5 K H7 hb x n hx hn
   have h4:Hid (∀ w8 v8,IsW B w8 p v8 (K++(List.replicate k 1++ [0]))→ai B [p] [5] w7 w8→∃(i':Nat) (f':Nat→Nat) (v':Value) (K':List Nat),i'≤G∧(.int .i64 (i+1:Nat):Value)=.int .i64 i'∧IsW B w8 p v' K'∧aB w8 g g T T f'∧Hid (K'++aH ((List.range T).map f') (P.drop i')=F∧K'.length≤2000000+6*i'∧∀x,x<T→x∈(List.range T).map f')∧ai B [p] [5] w w8):=aa fun w8 v8 h1 h2=>
    ⟨i+1,lw f k,v8,_,by omega,rfl,h1,h2.row HC (fun j hj=>by
      simp[Value.ownBlock]at hj
      have:=hg.out
      simp
      omega) (by decide),⟨hN.out,by
       rw[List.length_append,List.length_append,List.length_replicate,List.length_singleton]
       have:=hp.out
       omega,hK.out⟩,H2.trans h2⟩
   clear HC hz H7 H2 hb hM hN hK hp hr hU hD
   have h8:k=0∨k=1∨k=2∨k=3∨k=4∨k=5:=by omega
   rcases h8 with rfl | rfl | rfl | rfl | rfl | rfl <;>
   ·go_wp2_with fail
    refine(h5.out _ _ (by rfl) (by rfl)).mono ?_
    rintro e w8 ⟨rfl,v8,H8,H3⟩
    have HN:=aa (h4.out w8 v8 H8 H3)
    clear H8 H3 h4 h5
    go_wp2_with fail
    go_roundw
    case rel=>exact HN.out
    case measure=>simp[intOf];omega
  ·obtain rfl:i=G:=by omega
   have di:decide ((i:Int)<(i:Int))=false:=au (by omega)
   have h3:=hI.out.1
   rw[List.drop_of_length_le (by rw[hf.out];exact Nat.le_refl _),aH,List.append_nil]at h3
   rw[h3]at h7
   have HE:=aa (hR.out w5 v5 h7 h6)
   clear h7 ha hI h6 h3 hR
   go_wp2_with fail
   (try simp only[Exit.inBlock,Exit.then])
   refine bodyPost_ret (results_none rfl _ _ _) rfl ?_
   exact HE.out
def dC(bits:List Nat)(a:Nat):Nat×Nat×Nat:=
 if bits.length<a+3 then(0,0,10)
 else if val ((bits.drop a).take 3)<2∨6<val ((bits.drop a).take 3)then(0,0,110)
 else if bits.length<a+18 then(0,0,10)
 else if val ((bits.drop (a+3)).take 15)=0 then(0,0,110)
 else(val ((bits.drop a).take 3),val ((bits.drop (a+3)).take 15),0)
def un(B:Nat)(w:World)(p:Nat)(s:ByteArray)(a:Nat)(ans:Nat×Nat×Nat)(e:Ending)(w':World):Prop:=
 e=.returned (.tuple #[.int .i64 ans.1,.int .i64 ans.2.1,.int .i64 ans.2.2])∧(ans.2.2=0→IsR B w' p s (a+18))∧ai B [p] [] w w'
theorem yb(B:Nat)(w:World)(p:Nat)(s:ByteArray)(a:Nat)(hR:IsR B w p s a)(hs:s.size≤2000000)(ha:a≤8*s.size):
 Calls Tryz.prog 145 #[.pointer (some ⟨p,0,none⟩)] w (un B w p s a (dC (ak s.data.toList) a)):=by
 have hh:(ak s.data.toList).length=8*s.size:=by rw[ax];rfl
 obtain⟨bits,h4⟩:∃bits,bits=ak s.data.toList:=⟨_,rfl⟩
 have hj:aw bits:=by rw[h4];exact aS _
 have hg:dC bits a=if 8*s.size<a+3 then(0,0,10)
  else if val ((bits.drop a).take 3)<2∨6<val ((bits.drop a).take 3)then(0,0,110)
  else if 8*s.size<a+18 then(0,0,10)
  else if val ((bits.drop (a+3)).take 15)=0 then(0,0,110)
  else(val ((bits.drop a).take 3),val ((bits.drop (a+3)).take 15),0):=by
  unfold dC
  rw[h4,hh]
 rw[← h4]
 rw[← h4]at hh
 have h9:Hid (∀ w' x y z,dC bits a=(x,y,z)→(z=0→IsR B w' p s (a+18))→ai B [p] [] w w'→un B w p s a (dC bits a) (.returned (.tuple #[.int .i64 x,.int .i64 y,.int .i64 z])) w'):=aa fun w' x y z h1 h2 h3=>by
  rw[h1]
  exact⟨rfl,h2,h3⟩
 generalize un B w p s a (dC bits a)=PO at*
 generalize dC bits a=ans at*
 have hc:=aa hg
 by_cases e1:8*s.size<a+3
 ·have HT:Hid (Calls Tryz.prog 84 #[.pointer (some ⟨p,0,none⟩),.int .i64 3] w (iR B w p s a 0 0 10)):=aa (dY B w p s a 3 hR (by omega) (by omega) ha e1)
  have h0:=hc.out
  rw[if_pos e1]at h0
  have HA:=aa (h9.out · 0 0 10 h0 (fun h=>absurd h (by omega)))
  clear hg h0 hc h9 hh hj h4 hR
  go_enter Tryz.func145,Tryz.ntmps145
  go_wp2_with fail
  refine HT.out.mono ?_
  rintro e w2 ⟨rfl,_,h5⟩
  have HE:=aa (HA.out w2 h5)
  clear h5 HA HT
  go_wp2_with fail
  go_ret3
  exact HE.out
 ·have hT:=fV B w p s a 3 hR (by omega) (by omega) (by omega)
  rw[← h4]at hT
  have hr:val ((bits.drop a).take 3)<2 ^ 3:=by
   have h:=iA _ ((hj.drop a).take 3)
   rw[List.length_take,List.length_drop,hh,Nat.min_eq_left (by omega)]at h
   exact h
  have h0:=hc.out
  rw[if_neg e1]at h0
  obtain⟨T,hn⟩:∃T,T=val ((bits.drop a).take 3):=⟨_,rfl⟩
  rw[← hn]at hT hr h0
  have h6:=aa h0
  have HT:Hid (Calls Tryz.prog 84 #[.pointer (some ⟨p,0,none⟩),.int .i64 3] w (iR B w p s a 3 T 0)):=aa hT
  have ho:=aa hj
  have hq:=aa hh
  have hp:=aa h4
  clear hg h0 hc hh hj h4 hR hT hn
  by_cases e2:T<2∨6<T
  ·have h0:=h6.out
   rw[if_pos e2]at h0
   have HA:=aa (h9.out · 0 0 110 h0 (fun h=>absurd h (by omega)))
   clear h0 h6 h9
   by_cases e3:T<2
   ·have d5:decide ((T:Int)<2)=true:=aC (by omega)
    clear e2
    go_enter Tryz.func145,Tryz.ntmps145
    go_wp2_with fail
    refine HT.out.mono ?_
    rintro e w2 ⟨rfl,_,h5⟩
    have HE:=aa (HA.out w2 h5)
    clear h5 HA HT
    go_wp2_with fail
    go_ret3
    exact HE.out
   ·have d5:decide ((T:Int)<2)=false:=au (by omega)
    have d6:decide ((6:Int)<(T:Int))=true:=aC (by omega)
    clear e2
    go_enter Tryz.func145,Tryz.ntmps145
    go_wp2_with fail
    refine HT.out.mono ?_
    rintro e w2 ⟨rfl,_,h5⟩
    have HE:=aa (HA.out w2 h5)
    clear h5 HA HT
    go_wp2_with fail
    go_ret3
    exact HE.out
  ·have h0:=h6.out
   rw[if_neg e2]at h0
   have h7:=aa h0
   have d5:decide ((T:Int)<2)=false:=au (by omega)
   have d6:decide ((6:Int)<(T:Int))=false:=au (by omega)
   clear h0 h6 e2
   by_cases e4:8*s.size<a+18
   ·have h0:=h7.out
    rw[if_pos e4]at h0
    have HA:=aa (h9.out · 0 0 10 h0 (fun h=>absurd h (by omega)))
    clear h0 h7 h9
    go_enter Tryz.func145,Tryz.ntmps145
    go_wp2_with fail
    refine HT.out.mono ?_
    rintro e w2 ⟨rfl,hb,h5⟩
    have he:Hid (Calls Tryz.prog 84 #[.pointer (some ⟨p,0,none⟩),.int .i64 15] w2 (iR B w2 p s (a+3) 0 0 10)):=aa (dY B w2 p s (a+3) 15 hb (by omega) (by omega) (by omega) (by omega))
    have HS2:=aa h5
    clear hb h5 HT
    go_wp2_with fail
    refine he.out.mono ?_
    rintro e w3 ⟨rfl,_,hf⟩
    have HE:=aa (HA.out w3 (HS2.out.trans hf))
    clear hf HA he
    go_wp2_with fail
    go_ret3
    exact HE.out
   ·have hk:val ((bits.drop (a+3)).take 15)<2 ^ 15:=by
     have h:=iA _ ((ho.out.drop (a+3)).take 15)
     rw[List.length_take,List.length_drop,hq.out,Nat.min_eq_left (by omega)]at h
     exact h
    have h0:=h7.out
    rw[if_neg e4]at h0
    have he:Hid (∀ w2,IsR B w2 p s (a+3)→Calls Tryz.prog 84 #[.pointer (some ⟨p,0,none⟩),.int .i64 15] w2 (iR B w2 p s (a+3) 15 (val ((bits.drop (a+3)).take 15)) 0)):=aa fun w2 hb=>by
     have h:=fV B w2 p s (a+3) 15 hb (by omega) (by omega) (by omega)
     rw[← hp.out]at h
     exact h
    obtain⟨K,hl⟩:∃K,K=val ((bits.drop (a+3)).take 15):=⟨_,rfl⟩
    rw[← hl]at he hk h0
    have h8:=aa h0
    clear h0 h7 hl
    by_cases e5:K=0
    ·have h0:=h8.out
     rw[if_pos e5]at h0
     have HA:=aa (h9.out · 0 0 110 h0 (fun h=>absurd h (by omega)))
     subst e5
     clear h0 h8 h9
     go_enter Tryz.func145,Tryz.ntmps145
     go_wp2_with fail
     refine HT.out.mono ?_
     rintro e w2 ⟨rfl,hb,h5⟩
     have hi:=aa (he.out w2 hb)
     have HS2:=aa h5
     clear hb h5 HT he
     go_wp2_with fail
     refine hi.out.mono ?_
     rintro e w3 ⟨rfl,_,hf⟩
     have HE:=aa (HA.out w3 (HS2.out.trans hf))
     clear hf HA hi
     go_wp2_with fail
     go_ret3
     exact HE.out
    ·have h0:=h8.out
     rw[if_neg e5]at h0
     have HA:=aa (h9.out · T K 0 h0)
     have d7:((K:Int)==0)=false:=by rw[beq_eq_false_iff_ne];omega
     clear h0 h8 h9
     go_enter Tryz.func145,Tryz.ntmps145
     go_wp2_with fail
     refine HT.out.mono ?_
     rintro e w2 ⟨rfl,hb,h5⟩
     have hi:=aa (he.out w2 hb)
     have HS2:=aa h5
     clear hb h5 HT he
     go_wp2_with fail
     refine hi.out.mono ?_
     rintro e w3 ⟨rfl,hm,hf⟩
     have HE:=aa (HA.out w3 (fun _=>hm) (HS2.out.trans hf))
     clear hm hf HA hi
     go_wp2_with fail
     go_ret3
     exact HE.out
theorem oX:∀(c n T:Nat),n+c<T→dE (List.replicate c 1) n T=.short
 | 0,_,_,_=>rfl
 | c+1,n,T,h=>by
   rw[List.replicate_succ,dE,if_neg (by omega),if_neg (by omega)]
   exact oX c (n+1) T (by omega)
theorem py:∀(c n T:Nat) (r:List Nat),n+c=T→0<c→dE (List.replicate c 1++r) n T=.bad
 | c+1,n,T,r,h,_=>by
   rw[List.replicate_succ,List.cons_append,dE,if_neg (by omega)]
   by_cases e:n+1=T
   ·rw[if_pos e]
   ·rw[if_neg e]
    exact py c (n+1) T r (by omega) (by omega)
theorem jC(bits:List Nat)(T:Nat)(hT:0<T):∀(k:Nat) (o r:List Nat) (p:Nat) (out:List Nat),o.length=T→aF bits T k (o++r) p out=aF bits T k o p out
 | 0,_,_,_,_,_=>rfl
 | k+1,o,r,p,out,ho=>by
   cases hp:dE (bits.drop p) 0 T with
   | hit n=>
     have hn:=(zy _ _ _ _ hp hT).2.2
     rw[fY hp,fY hp,nd o r n (by omega),jC bits T hT k (d9 o n) r _ _ (by rw[gK (by omega),ho])]
     congr 2
     rw[List.getD_eq_getElem?_getD,List.getD_eq_getElem?_getD,List.getElem?_append_left (by omega)]
   | short=>rw[eO hp,eO hp]
   | bad=>rw[fT hp,fT hp]
theorem sB(bits:List Nat)(T:Nat)(hT:0<T)(h6:T≤6)(k p:Nat)(out:List Nat):aF bits T k [0,1,2,3,4,5] p out=aF bits T k (List.range T) p out:=by
 obtain⟨r,hr⟩:=tJ h6
 rw[hr]
 exact jC bits T hT k _ r p out (by simp)
structure kr (w0 w:World) (v:Value) (X:List Nat) (g T:Nat) (f:Nat→Nat):Prop where
 out:w.ownsRow w0.heap.size 3 1 v X.length (X.map iv)
 ord:aB w w0.heap.size g T T f
 ne:v.ownBlock≠some g
theorem kr.step{w0 w w':World}{v:Value}{X:List Nat}{g T p B:Nat}{f:Nat→Nat}(h:kr w0 w v X g T f){u:TypeId}{ds:Array Value}(hk:Blk w p u ds)(h0:(3:TypeId)≠u)(hs:ai B [p] [] w w'):kr w0 w' v X g T f:=
 ⟨hs.row h.out (fun k hk2=>by rw[List.mem_singleton];exact cJ h.out hk h0 k hk2) az,hs.row h.ord (fun k hk2=>by rw[List.mem_singleton];exact cJ h.ord hk h0 k hk2) az,h.ne⟩
theorem kr.push{w0 w:World}{A:Option Addr}{N cap:Nat}{X:List Nat}{g T:Nat}{f:Nat→Nat}(h:kr w0 w (.slice A N cap) X g T f)(x:Nat)(hN:X.length=N)(hX:N≤1000000)(h1:w0.heap.size≤w.heap.size):
 ∃A2 cap2 w2,(Builtin.append_ #[36,36] 36 #[.slice A N cap,.slice (some ⟨w.heap.size,0,none⟩) 1 1]).run Tryz.prog (w.alloc (.cells #[.int .i64 x] 3))=.ok (.slice A2 (N+1) cap2) w2∧
  kr w0 w2 (.slice A2 (N+1) cap2) (X++ [x]) g T f∧Below w0.heap.size w w2:=by
 obtain⟨i3,h3,h4,h5,h6⟩:=info_parts Tryz.info3
 subst hN
 obtain⟨v2,w2,hr,ho,hg,_,h0⟩:=run_append_own_at (P:=Tryz.prog) (w.alloc (.cells #[.int .i64 x] 3)) w0.heap.size 36 36 3 i3 (.int .i64 0) 1 8 Tryz.underlying36 h3 h4 h5 h6 rfl (by decide) _ _ _ (h.out.alloc _) ⟨w.heap.size,0,none⟩ 1 1 [iv x] rfl (cH w (iv x) 3)
  (fun u hu=>by rw[List.mem_singleton.1 hu];rfl) (by unfold maxLen;omega) (by omega) (by simp;omega)
 obtain⟨A2,cap2,rfl,_,_,_⟩:=aq ho
 have h7:=World.ownsRow.lt h.ord g rfl
 refine⟨A2,cap2,w2,hr,⟨?_,World.ownsRow.kept (World.ownsRow.alloc h.ord _) hg (.inr fun e=>h.ne e.symm),?_⟩,?_⟩
 ·have h2:=ho
  rw[show X.map iv++ [iv x]=(X++ [x]).map iv by simp]at h2
  rw[List.length_append]
  exact h2
 ·rcases h0 with e | e
  ·rw[e]
   exact h.ne
  ·rw[e]
   intro e2
   have:=Option.some.inj e2
   simp at this
   omega
 ·exact((Below.refl _ _).alloc h1 _).grown hg (by simp;omega) (fun k hk=>(h.out.lt k hk).1)
theorem FK{B:Nat}{ps:List Nat}{ts:List TypeId}{w wx w2:World}(h:ai B ps ts w wx)(hb:Below w.heap.size wx w2)(hB:B≤w.heap.size):ai B ps ts w w2:=
 ⟨h.below.trans (hb.mono hB),fun k cs t fr hk hp ht=>(hb.block k (Array.getElem?_eq_some_iff.1 hk).1).trans (h.keep k cs t fr hk hp ht)⟩
def lz(B:Nat)(w:World)(p:Nat)(s:ByteArray)(ans:List Nat×Nat×Nat)(e:Ending)(w':World):Prop:=
 ∃v,e=.returned (.tuple #[v,.int .i64 ans.2.2])∧w'.ownsRow w.heap.size 3 1 v ans.1.length (ans.1.map iv)∧(ans.2.2=0→IsR B w' p s ans.2.1)∧ai B [p] [] w w'
theorem qv(B:Nat)(w:World)(p:Nat)(s:ByteArray)(a T K:Nat)(hR:IsR B w p s a)(hs:s.size≤2000000)(ha:a≤8*s.size)(HK:2≤T)(HG:T≤6)(hK:K≤40000):
 Calls Tryz.prog 146 #[.pointer (some ⟨p,0,none⟩),.int .i64 T,.int .i64 K] w (lz B w p s (aF (ak s.data.toList) T K [0,1,2,3,4,5] a [])):=by
 rw[sB _ T (by omega) HG]
 have hB:B≤w.heap.size:=Nat.le_trans hR.lo (Nat.le_of_lt (aA hR.blk))
 have HI:=aA hR.blk
 have H2:(ak s.data.toList).length=8*s.size:=by rw[ax];rfl
 have hU:aw (ak s.data.toList):=aS _
 have hq:=aa fun(wx:World) (n:Nat) (h9:IsR B wx p s n) (hn:n≤8*s.size)=>show Calls Tryz.prog 190 #[.pointer (some ⟨p,0,none⟩),.int .i64 (T - 1:Nat)] wx fun e w'=>
  (∃ c,dE ((ak s.data.toList).drop n) 0 T=.hit c∧c<T∧e=.returned (.tuple #[.int .i64 c,.int .i64 0])∧IsR B w' p s (n+(c+1))∧n+(c+1)≤8*s.size∧ai B [p] [] wx w')∨
  (dE ((ak s.data.toList).drop n) 0 T=.short∧e=.returned (.tuple #[.int .i64 0,.int .i64 10])∧ai B [p] [] wx w')∨
  (dE ((ak s.data.toList).drop n) 0 T=.bad∧e=.returned (.tuple #[.int .i64 0,.int .i64 3])∧ai B [p] [] wx w')from by
  rcases ww (T - 1) ((ak s.data.toList).drop n) (hU.drop n)with⟨c,r,hc,hd⟩ | ⟨c,hc,hd⟩ | ⟨r,hd⟩
  ·refine(Gj B wx p s n c (T - 1) r h9 (by omega) (by omega) hc hd).mono ?_
   rintro e w' ⟨rfl,hy,h7⟩
   have hJ:=(xI hd).2
   rw[H2]at hJ
   refine .inl ⟨c,?_,by omega,rfl,hy,by omega,h7⟩
   rw[hd,mh c 0 T r (by omega),Nat.zero_add]
  ·refine(xA B wx p s n c (T - 1) h9 hn (by omega) (by omega) hc hd).mono ?_
   rintro e w' ⟨rfl,_,h7⟩
   refine .inr (.inl ⟨?_,rfl,h7⟩)
   rw[hd]
   exact oX c 0 T (by omega)
  ·refine(CZ B wx p s n (T - 1) r h9 (by omega) (by omega) hd).mono ?_
   rintro e w' ⟨rfl,_,h7⟩
   refine .inr (.inr ⟨?_,rfl,h7⟩)
   rw[hd]
   exact py (T - 1+1) 0 T r (by omega) (by omega)
 obtain⟨bits,he⟩:∃bits,bits=ak s.data.toList:=⟨_,rfl⟩
 rw[← he]at hq ⊢
 obtain⟨ANS,hh⟩:∃ANS,ANS=aF bits T K (List.range T) a []:=⟨_,rfl⟩
 rw[← hh]
 have h8:=aa hh
 have hu:Hid (∀ w' v (X:List Nat) (n:Nat),ANS=(X,n,0)→w'.ownsRow w.heap.size 3 1 v X.length (X.map iv)→IsR B w' p s n→ai B [p] [] w w'→lz B w p s ANS (.returned (.tuple #[v,.int .i64 0])) w'):=aa fun w' v X n h1 h2 h3 h4=>by
  rw[h1]
  exact⟨v,rfl,h2,fun _=>h3,h4⟩
 have hr:Hid (∀ w' (z:Nat),z≠0→ANS=([],0,z)→ai B [p] [] w w'→lz B w p s ANS (.returned (.tuple #[.slice none 0 0,.int .i64 z])) w'):=aa fun w' z h0 h1 h4=>by
  rw[h1]
  exact⟨_,rfl,World.ownsRow_nil _ _ _ _,fun h=>absurd h h0,h4⟩
 generalize lz B w p s ANS=PO at*
 have hM:=aa (mG w T (by omega))
 have HR:=aa hR
 obtain⟨tm,H7⟩:∃tm,tm=T - 1:=⟨_,rfl⟩
 rw[← H7]at hq
 have HJ:(T:Int) - 1=(tm:Int):=by omega
 clear hR H2 hU he hh H7
 go_enter Tryz.func146,Tryz.ntmps146
 go_wp2_with fail
 refine hM.out.mono ?_
 rintro e w1 ⟨rfl,H3,hF⟩
 have hX:=HR.out.step (an hF) az az
 have hZ:ai B [p] [] w w1:=(an hF).mono hB (by simp) (by simp)
 have hP:Hid (kr w w1 (.slice none 0 0) [] w.heap.size T (fun j=>j)):=aa ⟨World.ownsRow_nil _ _ _ _,H3,by simp[Value.ownBlock]⟩
 have hQ:=aa hX
 have hS:=aa hZ
 clear H3 hF hX hZ hM HR
 go_wp2_with fail
 go_loopw [9,10,11,15] (fun pv s10 s11 iv' wx=>∃(i:Nat) (f:Nat→Nat) (A9:Option Addr) (c9:Nat) (X:List Nat) (n:Nat),i≤K∧iv'=.int .i64 i∧pv=.slice A9 i c9∧kr w wx (.slice A9 i c9) X w.heap.size T f∧IsR B wx p s n∧Hid (X.length=i∧n≤8*s.size∧aF bits T (K - i) ((List.range T).map f) n X=ANS)∧ai B [p] [] w wx) (fun _ _ _ iv' _=>K - (intOf iv').toNat)
 case atStart=>
  refine⟨0,_,none,0, [],a,Nat.zero_le _,rfl,rfl,hP.out,hQ.out,⟨rfl,ha,?_⟩,hS.out⟩
  rw[h8.out,List.map_id',Nat.sub_zero]
 case round=>
  clear hP hQ hS
  rename World=>wx
  obtain⟨i,f,A9,c9,X,n,hi,rfl,rfl,hO,h9,hI,hz⟩:=hrel
  by_cases e:i<K
  ·have di:decide ((i:Int)<(K:Int))=true:=aC (by omega)
   have HU:=aa (hq.out wx n h9 hI.out.2.1)
   have hf:aF bits T (K - (i+1)+1) ((List.range T).map f) n X=ANS:=by rw[show K - (i+1)+1=K - i by omega];exact hI.out.2.2
   have ho:=aa hf
   have hT:=aa hI.out.1
   have HO:=aa hO
   have hv:=aa h9
   have hp:=aa hz
   clear hf hI hO h9 hz
   go_wp2_with fail
   refine HU.out.mono ?_
   intro e w2 hl
   rcases hl with⟨c,h6,hG,rfl,hy,H4,h7⟩ | ⟨h6,rfl,h7⟩ | ⟨h6,rfl,h7⟩
   ·have hw:=HO.out.step hv.out.blk (by decide) h7
    have ht:=hp.out.trans h7
    have hN:=aa (xx w.heap.size w2 w.heap.size T T f c hw.ord hG (by omega))
    have hb:=aa hw.out
    have hC:=aa hw.ne
    have HA:Hid (aF bits T (K - (i+1)) ((List.range T).map (lw f c)) (n+(c+1)) (X++ [f c])=ANS):=aa (by
     rw[← ho.out,fY h6,mf f T c hG,cI T f c hG]
     rfl)
    have hD:=aa hy
    have hg:=aa ht
    clear h6 hy h7 hw ht HU ho HO hv hp
    go_wp2_with fail
    refine hN.out.mono ?_
    rintro e w3 ⟨rfl,hH,hA⟩
    have H5:=hA.row hb.out (fun k hk=>by
     rw[List.mem_singleton]
     intro e
     exact hC.out (by rw[hk,e])) az
    have hV:kr w w3 (.slice A9 i c9) X w.heap.size T (lw f c):=⟨H5,hH,hC.out⟩
    have hL:w.heap.size≤w3.heap.size:=Nat.le_trans hg.out.size hA.size
    have HH:w3.cell? ⟨w.heap.size,0,none⟩=some (.int .i64 (f c:Nat)):=by
     have:=hH.cell 0 (by omega)
     rw[this]
     unfold lw
     rw[if_pos rfl]
    obtain⟨x,hx⟩:∃x,x=f c:=⟨_,rfl⟩
    rw[← hx]at HH
    obtain⟨A4,c4,w4,H6,hW,H1⟩:=hV.push x hT.out (by omega) hL
    have hj:Below w.heap.size w2 w4:=hA.below.trans H1
    have hY:IsR B w4 p s (n+(c+1)):=⟨hD.out.lo,(hj.block p HI).trans hD.out.blk⟩
    have H0:=FK hg.out hj hB
    have HC:=aa H6
    have HB:=aa hW
    have hE:=aa hY
    have HD:=aa H0
    have HF:=aa hx
    have HL:(0:Int)<(T:Int):=by omega
    have H8:=aa H4
    clear H5 hV hH hA hx H6 hW H1 hj hY H0 H4 hN hb hC hD hg
    go_wp2_with (at_builtin;refine Lib.wpList_append_run _ rfl (.tmp 32) (.tmp 36) 36 36 rfl (.slice A9 i c9) (.slice (some ⟨w3.heap.size,0,none⟩) 1 1) rfl rfl _ w4 HC.out ?_)
    go_roundw
    case rel=>exact⟨i+1,_,A4,c4,_,_,by omega,by go_num,rfl,HB.out,hE.out,⟨by rw[List.length_append,hT.out];rfl,H8.out,by rw[HF.out];exact HA.out⟩,HD.out⟩
    case measure=>simp[intOf];omega
   ·have h5:ANS=([],0,10):=by rw[← ho.out,eO h6]
    have HE:=aa (hr.out w2 10 (by omega) h5 (hp.out.trans h7))
    clear h6 h7 h5 HU ho HO hv hp hq hu hr h8
    go_wp2_with fail
    first | go_ret2 | skip
    exact HE.out
   ·have h5:ANS=([],0,110):=by rw[← ho.out,fT h6]
    have HE:=aa (hr.out w2 110 (by omega) h5 (hp.out.trans h7))
    clear h6 h7 h5 HU ho HO hv hp hq hu hr h8
    go_wp2_with fail
    first | go_ret2 | skip
    exact HE.out
  ·obtain rfl:i=K:=by omega
   have di:decide ((i:Int)<(i:Int))=false:=au (by omega)
   have h5:ANS=(X,n,0):=by rw[← hI.out.2.2,Nat.sub_self];rfl
   have hm:=hO.out
   rw[hI.out.1]at hm
   have HE:=aa (hu.out wx (.slice A9 i c9) X n h5 (by rw[hI.out.1];exact hm) h9 hz)
   clear h5 hm hO h9 hI hz hq hu hr h8
   go_wp2_with fail
   first | go_ret2 | skip
   exact HE.out
def nv(w:World)(T:Nat)(ans:List (List Nat)×Nat×Nat)(e:Ending)(w':World):Prop:=
 (ans.2.2=0∧∃A c F C,e=.returned (.tuple #[.slice A T c,.int .i64 ans.2.1,.int .i64 0])∧kJ w w' (.slice A T c) T F C∧(List.range T).map C=ans.1∧∀t,t<T→(C t).length≤258)∨
 (ans.2.2≠0∧e=.returned (.tuple #[.slice none 0 0,.int .i64 0,.int .i64 ans.2.2])∧Below w.heap.size w w')
theorem sq(w:World)(s:ByteArray)(p n T:Nat)(hs:s.size≤2000000)(hp:p≤8*s.size)(_:n≤258)(hM:T≤6):
 Calls Tryz.prog 147 #[.string s,.int .i64 p,.int .i64 n,.int .i64 T] w (nv w T (fo (ak s.data.toList) n T p [])):=by
 have hG:(ak s.data.toList).length=8*s.size:=by rw[ax];rfl
 have hk:=aa fun(wx:World) (q:Nat)=>S10.nF wx s (q:Int) (n:Int) hs
 have hf:=aa fun(q:Nat)=>l7 (ak s.data.toList) (q:Int) (n:Int)
 rw[hG]at hf
 obtain⟨bits,h8⟩:∃bits,bits=ak s.data.toList:=⟨_,rfl⟩
 rw[← h8]at hk hf ⊢
 obtain⟨ANS,h9⟩:∃ANS,ANS=fo bits n T p []:=⟨_,rfl⟩
 rw[← h9]
 have h7:=aa h9
 have hu:Hid (∀ w' A c F C (q:Nat),ANS=((List.range T).map C,q,0)→kJ w w' (.slice A T c) T F C→(∀ t,t<T→(C t).length≤258)→nv w T ANS (.returned (.tuple #[.slice A T c,.int .i64 q,.int .i64 0])) w'):=aa fun w' A c F C q h1 h2 h3=>by
  rw[h1]
  exact .inl ⟨rfl,A,c,F,C,rfl,h2,rfl,h3⟩
 have hg:Hid (∀ w' (z:Nat),z≠0→ANS=([],0,z)→Below w.heap.size w w'→nv w T ANS (.returned (.tuple #[.slice none 0 0,.int .i64 0,.int .i64 z])) w'):=aa fun w' z h0 h1 h4=>by
  rw[h1]
  exact .inr ⟨h0,rfl,h4⟩
 generalize nv w T ANS=PO at*
 clear hG h8 h9
 go_enter Tryz.func147,Tryz.ntmps147
 go_wp2_with fail
 go_loopw [1,11,12,13,14,16] (fun av tv s12 s13 s14 iv' wx=>∃(i q c:Nat) (A:Option Addr) (F:Nat→Value) (C:Nat→List Nat),i≤T∧iv'=.int .i64 i∧av=.int .i64 q∧tv=.slice A i c∧kJ w wx (.slice A i c) i F C∧Hid (q≤8*s.size∧fo bits n (T - i) q ((List.range i).map C)=ANS∧∀t,t<i→(C t).length≤258)) (fun _ _ _ _ _ iv' _=>T - (intOf iv').toNat)
 case atStart=>
  refine⟨0,p,0,none,fun _=>.slice none 0 0,fun _=> [],Nat.zero_le _,rfl,rfl,rfl,kJ.nil _ _ _ _ (Below.refl _ _),⟨hp,?_,fun t ht=>absurd ht (Nat.not_lt_zero _)⟩⟩
  rw[h7.out,Nat.sub_zero]
  rfl
 case round=>
  rename World=>wx
  obtain⟨i,q,c,A,F,C,hi,rfl,rfl,rfl,hL,hI⟩:=hrel
  by_cases e:i<T
  ·have di:decide ((i:Int)<(T:Int))=true:=aC (by omega)
   have HT:=aa (hk.out wx q)
   have hy:=hf.out q
   have h5:fo bits n (T - (i+1)+1) q ((List.range i).map C)=ANS:=by rw[show T - (i+1)+1=T - i by omega];exact hI.out.2.1
   rw[mj]at h5
   obtain⟨⟨X,q2,z⟩,ha⟩:∃ans,ans=aE bits (q:Int) (n:Int):=⟨_,rfl⟩
   rw[← ha]at HT hy h5
   dsimp only at hy h5
   have hj:=aa h5
   have hv:=aa hy
   have hr:=aa hI.out.2.2
   have hh:=aa hL
   clear hL hI hy h5 ha
   go_wp2_with fail
   refine HT.out.mono ?_
   rintro e w2 ⟨v2,rfl,hb,hn⟩
   dsimp only at hb ⊢
   obtain⟨A2,c2,rfl,hw,hx,_⟩:=aq hb
   have ho:=ao hh.out.below hn
   by_cases ez:z=0
   ·subst ez
    have h6:=hj.out
    rw[if_pos rfl]at h6
    have hz:X.length≤maxLen:=Nat.le_trans hw hx
    have hc:ZIn w2 A2 X.length (zL X):=dP (bR hb)
    have he:=aa (kd w2 A2 X.length c2 (zL X) hc hz)
    by_cases eo:bL (zL X)
    ·rw[if_pos eo]at h6 he
     have hF:X.length≤258:=by
      have:=eo.2.1
      unfold zL at this
      rw[List.length_map]at this
      exact this
     obtain⟨D,hD⟩:∃D:Nat→List Nat,D=fun t=>if t=i then X else C t:=⟨_,rfl⟩
     have hl:D i=X:=by rw[hD];exact if_pos rfl
     have hB:(List.range i).map C++ [X]=(List.range (i+1)).map D:=by
      rw[List.range_succ,List.map_append,List.map_singleton,hl]
      congr 1
      apply List.map_congr_left
      intro t ht
      have:=List.mem_range.1 ht
      rw[hD]
      show C t=if t=i then X else C t
      rw[if_neg (by omega)]
     have hE:=hh.out.same (D:=D) fun t ht=>by
      rw[hD]
      show C t=if t=i then X else C t
      rw[if_neg (by omega)]
     obtain⟨A3,c3,w3,hH,hC,_⟩:=hE.push (A1:=A2) (k1:=c2) (n:=X.length) (by rw[hl];exact hb) hn (by omega) (by rw[hl])
     have hJ:Hid (q2≤8*s.size∧fo bits n (T - (i+1)) q2 ((List.range (i+1)).map D)=ANS∧∀t,t<i+1→(D t).length≤258):=aa ⟨hv.out.1,by rw[← hB];exact h6,fun t ht=>by
      by_cases et:t=i
      ·rw[et,hl];exact hF
      ·rw[hD]
       show(if t=i then X else C t).length≤258
       rw[if_neg et]
       exact hr.out t (by omega)⟩
     have hA:=aa hH
     have hK:=aa hC
     obtain⟨xl,hq⟩:∃xl,xl=X.length:=⟨_,rfl⟩
     rw[← hq]at he hA ⊢
     clear h6 hc hz eo hF hD hl hB hE hH hC hb hn ho hw hx HT hj hr hh hv hq
     go_wp2_with fail
     refine he.out.mono ?_
     rintro e w2 ⟨rfl,rfl⟩
     go_wp2_with (at_builtin;refine Lib.wpList_append_run _ rfl (.tmp 33) (.tmp 35) 50 50 rfl (.slice A i c) (.slice (some ⟨w2.heap.size,0,none⟩) 1 1) rfl rfl _ w3 hA.out ?_)
     go_roundw
     case rel=>exact⟨i+1,q2,c3,A3,_,D,by omega,by go_num,rfl,rfl,hK.out,hJ⟩
     case measure=>simp[intOf];omega
    ·rw[if_neg eo]at h6 he
     have HE:=aa (hg.out w2 80 (by omega) h6.symm ho)
     obtain⟨xl,hq⟩:∃xl,xl=X.length:=⟨_,rfl⟩
     rw[← hq]at he ⊢
     clear h6 hc hz eo hb hn ho hw hx HT hj hr hh hv hq hu hg h7 hk hf
     go_wp2_with fail
     refine he.out.mono ?_
     rintro e w2 ⟨rfl,rfl⟩
     go_wp2_with fail
     first | go_ret3 | skip
     exact HE.out
   ·have h6:=hj.out
    rw[if_neg ez]at h6
    have HE:=aa (hg.out w2 z ez h6.symm ho)
    have dz:((z:Int)==0)=false:=by rw[beq_eq_false_iff_ne];omega
    have dz2:((z:Int) != 0)=true:=by rw[bne_iff_ne];omega
    have dz3:¬(z:Int)=0:=by omega
    have dz4:(z==0)=false:=by rw[beq_eq_false_iff_ne];exact ez
    clear h6 hb hn ho hw hx HT hj hr hh hv hu hg h7 hk hf
    go_wp2_with fail
    first | go_ret3 | skip
    exact HE.out
  ·obtain rfl:i=T:=by omega
   have di:decide ((i:Int)<(i:Int))=false:=au (by omega)
   have hm:ANS=((List.range i).map C,q,0):=by rw[← hI.out.2.1,Nat.sub_self];rfl
   have HE:=aa (hu.out wx A c F C q hm hL hI.out.2.2)
   clear hm hL hI hu hg h7 hk hf
   go_wp2_with fail
   first | go_ret3 | skip
   exact HE.out
end Go.Proofs.YthakcjehhlpjnaaGreat
