import Derived.Test.YthakcjehhlpjnaaGreatA36
import Derived.Test.YthakcjehhlpjnaaGreatA34
import Derived.Test.YthakcjehhlpjnaaGreatA17
import Derived.Test.YthakcjehhlpjnaaGreatA12
set_option maxHeartbeats 6400000
set_option maxRecDepth 100000
namespace Go.Proofs.YthakcjehhlpjnaaGreat
open Go.RowKit
theorem CC(bits:List Nat)(n a:Nat):tx bits n a=if(dC bits a).2.2=0 then xS bits n a (dC bits a).1 (dC bits a).2.1 else([], [],0,(dC bits a).2.2):=by
 unfold tx dC
 by_cases h1:bits.length<a+3
 ·rw[if_pos h1,if_pos h1,if_neg (by simp)]
 ·rw[if_neg h1,if_neg h1]
  by_cases h2:val ((bits.drop a).take 3)<2∨6<val ((bits.drop a).take 3)
  ·rw[if_pos h2,if_pos h2,if_neg (by simp)]
  ·rw[if_neg h2,if_neg h2]
   by_cases h3:bits.length<a+18
   ·rw[if_pos h3,if_pos h3,if_neg (by simp)]
   ·rw[if_neg h3,if_neg h3]
    by_cases h4:val ((bits.drop (a+3)).take 15)=0
    ·rw[if_pos h4,if_pos h4,if_neg (by simp)]
    ·rw[if_neg h4,if_neg h4,if_pos rfl]
theorem Iw(bits:List Nat)(a:Nat)(hb:aw bits)(h:(dC bits a).2.2=0):2≤(dC bits a).1∧(dC bits a).1≤6∧(dC bits a).2.1≤32767∧a+18≤bits.length:=by
 unfold dC at h ⊢
 by_cases h1:bits.length<a+3
 ·rw[if_pos h1]at h
  cases h
 ·rw[if_neg h1]at h ⊢
  by_cases h2:val ((bits.drop a).take 3)<2∨6<val ((bits.drop a).take 3)
  ·rw[if_pos h2]at h
   cases h
  ·rw[if_neg h2]at h ⊢
   by_cases h3:bits.length<a+18
   ·rw[if_pos h3]at h
    cases h
   ·rw[if_neg h3]at h ⊢
    by_cases h4:val ((bits.drop (a+3)).take 15)=0
    ·rw[if_pos h4]at h
     cases h
    ·rw[if_neg h4]
     have h5:=iA _ ((hb.drop (a+3)).take 15)
     rw[List.length_take,List.length_drop,Nat.min_eq_left (by omega)]at h5
     exact⟨by dsimp only;omega,by dsimp only;omega,by dsimp only;omega,by omega⟩
theorem Gs(bits:List Nat)(a:Nat):(dC bits a).2.2≤110:=by
 unfold dC
 (repeat' split) <;>simp
theorem yM(w:World)(s:ByteArray)(at' n:Int)(hs:s.size≤2000000):
 Calls Tryz.prog 86 #[.string s,.int .i64 at',.int .i64 n] w (AL w (fp (ak s.data.toList) at' n)):=by
 have hE:(ak s.data.toList).length=8*s.size:=by rw[ax];rfl
 obtain⟨w1,hI⟩:∃w1,w1=w.alloc (.cells #[.slice none 0 0,.slice none 0 0] 52):=⟨_,rfl⟩
 have HL:Below w.heap.size w w1:=cn hI
 have HM:Blk w1 w.heap.size 52 #[.slice none 0 0,.slice none 0 0]:=fh hI
 have hG:fp (ak s.data.toList) at' n=if at'<0∨((8*s.size:Nat):Int)<at'∨n<3∨258<n then([], [],0,2)else tx (ak s.data.toList) n.toNat at'.toNat:=by
  unfold fp
  rw[hE]
 have h4:Hid (∀ (wx:World) (k:Nat),fp (ak s.data.toList) at' n=([], [],0,k)→Below w.heap.size w wx→AL w (fp (ak s.data.toList) at' n) (.returned (.tuple #[.agg #[.slice none 0 0,.slice none 0 0],.int .i64 0,.int .i64 k])) ((wx.setCell ⟨w.heap.size,0,none⟩ (.slice none 0 0)).setCell ⟨w.heap.size,1,none⟩ (.slice none 0 0))):=aa fun wx k h1 h3=>by
  rw[h1]
  exact⟨_,rfl,CB _,(h3.setCell (p:=⟨w.heap.size,0,none⟩) (ah _) _).setCell (p:=⟨w.heap.size,1,none⟩) (ah _) _⟩
 have ho:Hid (∀ (wx:World) (v:Value) (T:List (List Int)) (P:List Int) (pl:Nat),fp (ak s.data.toList) at' n=(T,P,pl,0)→aZ wx v T P→Below w.heap.size w wx→AL w (fp (ak s.data.toList) at' n) (.returned (.tuple #[v,.int .i64 pl,.int .i64 0])) wx):=aa fun wx v T P pl h1 h2 h3=>⟨v,by rw[h1];rfl,by rw[h1];exact h2,h3⟩
 generalize AL w (fp (ak s.data.toList) at' n)=PO at*
 generalize fp (ak s.data.toList) at' n=ans at*
 have h7:=aa hG
 have hn:=aa HM
 have hM:=aa HL
 have HS:w1.heap.size=w.heap.size+1:=by rw[hI];simp
 have HV:=aa HS
 have hB:=aa hI.symm
 clear hG HM HL HS hI
 have q0:=(ac hn.out 0).trans rfl
 have q1:=(ac hn.out 1).trans rfl
 have f0:=ae hn.out 0
 have f1:=ae hn.out 1
 by_cases h1:at'<0∨8*(s.size:Int)<at'
 ·have h0:=h7.out
  rw[if_pos (by omega)]at h0
  have hz:=aa (jG w1 s at' (by omega) h1)
  have HE:=aa (h4.out w1 2 h0 hM.out)
  have de:Value.pointer none=Value.pointer none:=rfl
  clear h0 h1 h4 ho h7 hE de
  go_enter Tryz.func86,Tryz.ntmps86
  go_upto_region 1 with fail
  rw[hB.out]
  clear hB
  go_wp2_with fail
  refine hz.out.mono ?_
  rintro e w1 ⟨rfl,rfl⟩
  go_wp2_with fail
  refine bodyPost_ret (v:=.tuple #[.agg #[.slice none 0 0,.slice none 0 0],.int .i64 0,.int .i64 2]) ?_ rfl HE.out
  simp[results,Tryz.results86,go_sem,q0,q1]
 ·obtain⟨a,rfl⟩:=Int.eq_ofNat_of_zero_le (show 0≤at' by omega)
  have ha:a≤8*s.size:=by omega
  have hz:=aa (ft w1 s (a:Int) (by omega) (by omega) (by omega))
  have HJ:=j5 w1 w1.heap.size (ah _) s a
  have H2:Below w1.heap.size w1 (w1.alloc (.cells #[.bool true,.string s,.int .i64 a] 126)):=(Below.refl _ _).alloc (ah _) _
  have HN:=aM H2 hn.out
  have hA:=aa HJ
  have hc:=aa HN
  have hl:=aa (ao hM.out H2)
  have hy:=aa fun(wx:World)=>kU wx n
  clear HJ H2 HN h1 q0 q1 f0 f1
  by_cases h2:3≤n∧n≤258
  ·rw[decide_eq_true h2]at hy
   obtain⟨m,rfl⟩:=Int.eq_ofNat_of_zero_le (show 0≤n by omega)
   have h0:=h7.out
   rw[if_neg (by omega),Int.toNat_natCast,Int.toNat_natCast,CC]at h0
   have he:=aa h0
   have hv:=Iw (ak s.data.toList) a (aS _)
   rw[hE]at hv
   have hi:=aa hv
   have hh:=aa fun(wx:World) (hR:IsR w1.heap.size wx w1.heap.size s a)=>yb w1.heap.size wx w1.heap.size s a hR hs ha
   obtain⟨⟨T,K,z⟩,H4⟩:∃c,c=dC (ak s.data.toList) a:=⟨_,rfl⟩
   rw[← H4]at he hi hh
   have HT:z≤110:=by
    have:=Gs (ak s.data.toList) a
    rw[← H4]at this
    exact this
   have p2:=aa HT
   obtain⟨bits,h9⟩:∃bits,bits=ak s.data.toList:=⟨_,rfl⟩
   have h5:=aa h9
   have HC:=aa hE
   rw[← h9]at he
   clear h0 hv H4 h7 HT hE h9
   go_enter Tryz.func86,Tryz.ntmps86
   go_upto_region 1 with fail
   rw[hB.out]
   clear hB
   go_wp2_with fail
   refine hz.out.mono ?_
   rintro e w2 ⟨rfl,hJ⟩
   rw[← hJ]at hA hc hl
   clear hJ hz hn hM
   generalize w1.heap.size=p at*
   go_wp2_with fail
   refine(hy.out w2).mono ?_
   rintro e w2 ⟨rfl,rfl⟩
   clear hy
   go_wp2_with fail
   refine(hh.out w2 hA.out).mono ?_
   rintro e w3 ⟨rfl,hD,hP⟩
   dsimp only at hD ⊢
   have hV:w.heap.size<p:=by rw[HV.out];exact Nat.lt_succ_self _
   have hw:Blk w3 w.heap.size 52 #[.slice none 0 0,.slice none 0 0]:=(hP.below.block w.heap.size hV).trans hc.out
   have hT:=hl.out.trans (hP.below.mono (Nat.le_of_lt hV))
   have HD:=aa hw
   have hX:=aa hT
   by_cases ez:z=0
   ·subst ez
    have hD:=hD rfl
    obtain⟨HX,H1,hK,hr⟩:=hi.out rfl
    have h0:=he.out
    rw[if_pos rfl]at h0
    unfold xS at h0
    have hO:=qv p w3 p s (a+18) T K hD hs hr HX H1 (by omega)
    have hb:=gu bits T (by omega) K [0,1,2,3,4,5] (a+18) [] (by rw[h5.out,HC.out];exact hr)
    rw[← h5.out]at hO
    obtain⟨⟨X,q,y⟩,HO⟩:∃c,c=aF bits T K [0,1,2,3,4,5] (a+18) []:=⟨_,rfl⟩
    rw[← HO]at hO h0 hb
    dsimp only at h0 hb
    rw[h5.out,HC.out]at hb
    have hY:=aa hO
    have hf:=aa h0
    have hp:=aa hb
    have HY:=H1
    clear hw hT hD hP hr h0 hO hb HO he hi hh hA hc hl
    go_wp2_with fail
    refine hY.out.mono ?_
    rintro e w4 ⟨v4,rfl,hH,hq,hQ⟩
    dsimp only at hH hq ⊢
    have hx:Blk w4 w.heap.size 52 #[.slice none 0 0,.slice none 0 0]:=(hQ.below.block w.heap.size hV).trans HD.out
    have hU:=hX.out.trans (hQ.below.mono (Nat.le_of_lt hV))
    have p1:=hX.out.size
    have hF:=aa hx
    have hm:=aa hU
    by_cases ey:y=0
    ·subst ey
     have hq:=hq rfl
     have h0:=hf.out
     rw[if_pos rfl]at h0
     have hS:=sq w4 s q m T hs hp.out.1 (by omega) H1
     rw[← h5.out]at hS
     obtain⟨⟨TS,q5,z5⟩,HQ⟩:∃c,c=fo bits m T q []:=⟨_,rfl⟩
     rw[← HQ]at hS h0
     dsimp only at h0
     have hZ:=aa hS
     have hg:=aa h0
     have hW:=aa (lK w4 p (q:Nat) (by have:=ac hq.blk 0;simpa using this) (by have:=ac hq.blk 2;simpa using this))
     obtain⟨A4,c4,rfl,H3,p0,HW⟩:=aq hH
     have hN:=aa hH
     clear hx hU hq hQ h0 hS HQ hH HW hY hf hp HD hX
     obtain⟨xl,HB⟩:∃xl,xl=X.length:=⟨_,rfl⟩
     rw[← HB]at hN H3 ⊢
     have HU:=aa HB
     clear HB
     go_wp2_with fail
     refine hW.out.mono ?_
     rintro e w4 ⟨rfl,rfl⟩
     go_wp2_with fail
     refine hZ.out.mono ?_
     intro e w5 hu
     rcases hu with⟨hL,A5,c5,F,C,rfl,hC,H0,HF⟩ | ⟨hL,rfl,hj⟩
     ·dsimp only at hL H0 ⊢
      subst hL
      have hj:=hC.below
      have h6:=aM hj hF.out
      have h8:=ao hm.out hj
      have HG:kJ w w5 (.slice A5 T c5) T F C:=⟨World.ownsRow.mono hC.row hm.out.size,fun t ht=>⟨(hC.each t ht).1,World.ownsRow.mono (hC.each t ht).2 hm.out.size⟩,h8⟩
      have H7:=pV hN.out hj
      have HH:=HG.store h6 (by decide) (by decide) (ah _) 0 (.slice A5 T c5)
      have H5:=ay h6 0 (.slice A5 T c5)
      have HI:=HH.store H5 (by decide) (by decide) (ah _) 1 (.slice A4 xl c4)
      have HA:ai w.heap.size [w.heap.size] [] w5 ((w5.setCell ⟨w.heap.size,0,none⟩ (.slice A5 T c5)).setCell ⟨w.heap.size,1,none⟩ (.slice A4 xl c4)):=
       ((ai.refl _ _ _ _).set (p:=⟨w.heap.size,0,none⟩) (ah _) (by simp) _).set (p:=⟨w.heap.size,1,none⟩) (ah _) (by simp) _
      have H8:=HA.row H7 (fun k hk=>by rw[List.mem_singleton];exact cJ H7 h6 (by decide) k hk) az
      have H6:=ay H5 1 (.slice A4 xl c4)
      obtain⟨_,_,HR,HZ,_,_⟩:=aq hC.row
      simp only[Value.slice.injEq]at HR
      obtain⟨rfl,_,rfl⟩:=HR
      have h0:=hg.out
      rw[if_pos rfl]at h0
      have HK:TS.map zL=(List.range T).map fun t=>zL (C t):=by rw[← H0,List.map_map];rfl
      rw[HK]at h0
      have HP:aZ _ (.agg #[.slice A5 T c5,.slice A4 xl c4]) ((List.range T).map fun t=>zL (C t)) (zL X):=
       ⟨_,T,c5,_,xl,c4,rfl,HI.tabZ (fun t ht=>by have:=HF t ht;omega),HZ,by unfold maxLen;omega,by rw[HU.out]at H8 ⊢;exact dP (bR H8),H3,Nat.le_trans H3 p0⟩
      have HE:=aa (ho.out _ _ _ _ q5 h0 HP (h8.trans HA.below))
      have g0:=(ac h6 0).trans (rfl:_=some (Value.slice none 0 0))
      have g1:=(ac h6 1).trans (rfl:_=some (Value.slice none 0 0))
      have f0:=ae h6 0
      have f1:=ae h6 1
      have r0:=(ac H6 0).trans (rfl:_=some (Value.slice A5 T c5))
      have r1:=(ac H6 1).trans (rfl:_=some (Value.slice A4 xl c4))
      clear hj h6 h8 HG H7 HH H5 HI HA H8 H6 h0 HK HP hC H0 HF ho h4 hg hZ hW hN hF hm
      go_wp2_with fail
      refine bodyPost_ret (v:=.tuple #[.agg #[.slice A5 T c5,.slice A4 xl c4],.int .i64 q5,.int .i64 0]) ?_ rfl HE.out
      simp[results,Tryz.results86,go_sem,g0,g1]
     ·dsimp only at hL ⊢
      have h6:=aM hj hF.out
      have h8:=ao hm.out hj
      have h0:=hg.out
      rw[if_neg hL]at h0
      have HE:=aa (h4.out w5 z5 h0 h8)
      have g0:=(ac h6 0).trans (rfl:_=some (Value.slice none 0 0))
      have g1:=(ac h6 1).trans (rfl:_=some (Value.slice none 0 0))
      have f0:=ae h6 0
      have f1:=ae h6 1
      have dz2:((z5:Int) != 0)=true:=by rw[bne_iff_ne];omega
      have dz3:¬(z5:Int)=0:=by omega
      clear h6 h8 h0 hj ho h4 hg hZ hW hN hF hm
      go_wp2_with fail
      refine bodyPost_ret (v:=.tuple #[.agg #[.slice none 0 0,.slice none 0 0],.int .i64 0,.int .i64 z5]) ?_ rfl HE.out
      simp[results,Tryz.results86,go_sem,g0,g1]
    ·have h0:=hf.out
     rw[if_neg ey]at h0
     have HE:=aa (h4.out w4 y h0 hU)
     have g0:=(ac hx 0).trans (rfl:_=some (Value.slice none 0 0))
     have g1:=(ac hx 1).trans (rfl:_=some (Value.slice none 0 0))
     have f0:=ae hx 0
     have f1:=ae hx 1
     have dz2:((y:Int) != 0)=true:=by rw[bne_iff_ne];omega
     have dz3:¬(y:Int)=0:=by omega
     clear h0 hx hU hH hq hQ hY hf hp ho h4 hF hm
     go_wp2_with fail
     refine bodyPost_ret (v:=.tuple #[.agg #[.slice none 0 0,.slice none 0 0],.int .i64 0,.int .i64 y]) ?_ rfl HE.out
     simp[results,Tryz.results86,go_sem,g0,g1]
   ·have h0:=he.out
    rw[if_neg ez]at h0
    have HE:=aa (h4.out w3 z h0 hT)
    have g0:=(ac hw 0).trans (rfl:_=some (Value.slice none 0 0))
    have g1:=(ac hw 1).trans (rfl:_=some (Value.slice none 0 0))
    have f0:=ae hw 0
    have f1:=ae hw 1
    have dz2:((z:Int) != 0)=true:=by rw[bne_iff_ne];omega
    have dz3:¬(z:Int)=0:=by omega
    clear h0 hw hT hD hP he hi hh ho h4 hA hc hl
    go_wp2_with fail
    refine bodyPost_ret (v:=.tuple #[.agg #[.slice none 0 0,.slice none 0 0],.int .i64 0,.int .i64 z]) ?_ rfl HE.out
    simp[results,Tryz.results86,go_sem,g0,g1]
  ·rw[decide_eq_false h2]at hy
   have h0:=h7.out
   rw[if_pos (by omega)]at h0
   have he:=aa h0
   clear h0 h7 hE h2
   go_enter Tryz.func86,Tryz.ntmps86
   go_upto_region 1 with fail
   rw[hB.out]
   clear hB
   go_wp2_with fail
   refine hz.out.mono ?_
   rintro e w2 ⟨rfl,hJ⟩
   rw[← hJ]at hA hc hl
   clear hJ hz hn hM hA
   go_wp2_with fail
   refine(hy.out w2).mono ?_
   rintro e w2 ⟨rfl,rfl⟩
   have HE:=aa (h4.out w2 2 he.out hl.out)
   have g0:=(ac hc.out 0).trans (rfl:_=some (Value.slice none 0 0))
   have g1:=(ac hc.out 1).trans (rfl:_=some (Value.slice none 0 0))
   have f0:=ae hc.out 0
   have f1:=ae hc.out 1
   clear hy h4 ho he hc hl
   go_wp2_with fail
   refine bodyPost_ret (v:=.tuple #[.agg #[.slice none 0 0,.slice none 0 0],.int .i64 0,.int .i64 2]) ?_ rfl HE.out
   simp[results,Tryz.results86,go_sem,g0,g1]
theorem my(l bs:List Nat)(en:Int)(h:fd l):∀(k a:Nat) (o:List Nat),o.length≤a→a≤bs.length→(fk l bs en k a o).1.length≤bs.length∧(fk l bs en k a o).2.1≤bs.length∧(fk l bs en k a o).2.2≤90
 | 0,a,o,h1,h2=>⟨Nat.le_trans h1 h2,h2,Nat.zero_le _⟩
 | k+1,a,o,h1,h2=>by
   rw[oE]
   cases hx:i1 l (bs.drop a)with
   | hit i=>
     have h0:=rG 20 1 (show fz l (bs.drop a) 20 1=.hit i from hx)
     have h3:=(h.one h0.2.1).1
     have h4:=h0.1
     rw[List.length_drop]at h4
     have h5:(o++ [i]).length≤a+l.getD i 0:=by rw[List.length_append];show o.length+1≤_;omega
     show(if(i:Int)=en then(o++ [i],a+l.getD i 0,0)else fk l bs en k (a+l.getD i 0) (o++ [i])).1.length≤_∧(if(i:Int)=en then(o++ [i],a+l.getD i 0,0)else fk l bs en k (a+l.getD i 0) (o++ [i])).2.1≤_∧(if(i:Int)=en then(o++ [i],a+l.getD i 0,0)else fk l bs en k (a+l.getD i 0) (o++ [i])).2.2≤_
     by_cases e:(i:Int)=en
     ·rw[if_pos e]
      exact⟨by show(o++ [i]).length≤_;omega,by show a+l.getD i 0≤_;omega,Nat.zero_le _⟩
     ·rw[if_neg e]
      exact my l bs en h k _ _ h5 (by omega)
   | short=>exact⟨Nat.zero_le _,Nat.zero_le _,by show 10≤90;omega⟩
   | code=>exact⟨Nat.zero_le _,Nat.zero_le _,Nat.le_refl _⟩
theorem rL(T:List (List Nat))(P bits:List Nat)(n0 g r:Nat)(pre:List Nat)(h0:1≤n0):∀(k a:Nat) (out:List Nat),k≤50→(∀ x∈out,x+1≠n0)→
 ((fk (T.getD (P.getD g 0) []) bits (n0 - 1:Nat) k a out).2.2≠0∧lX T P bits n0 (k+r) (50*g+(50 - k)) a (pre++out)=([],0,(fk (T.getD (P.getD g 0) []) bits (n0 - 1:Nat) k a out).2.2))∨
 ((fk (T.getD (P.getD g 0) []) bits (n0 - 1:Nat) k a out).2.2=0∧(∃ o,(fk (T.getD (P.getD g 0) []) bits (n0 - 1:Nat) k a out).1=o++ [n0 - 1])∧lX T P bits n0 (k+r) (50*g+(50 - k)) a (pre++out)=(pre++(fk (T.getD (P.getD g 0) []) bits (n0 - 1:Nat) k a out).1,(fk (T.getD (P.getD g 0) []) bits (n0 - 1:Nat) k a out).2.1,0))∨
 ((fk (T.getD (P.getD g 0) []) bits (n0 - 1:Nat) k a out).2.2=0∧(∀ x∈(fk (T.getD (P.getD g 0) []) bits (n0 - 1:Nat) k a out).1,x+1≠n0)∧(fk (T.getD (P.getD g 0) []) bits (n0 - 1:Nat) k a out).1.length=out.length+k∧lX T P bits n0 (k+r) (50*g+(50 - k)) a (pre++out)=lX T P bits n0 r (50*g+50) (fk (T.getD (P.getD g 0) []) bits (n0 - 1:Nat) k a out).2.1 (pre++(fk (T.getD (P.getD g 0) []) bits (n0 - 1:Nat) k a out).1))
 | 0,a,out,_,ho=>.inr (.inr ⟨rfl,ho,rfl,by rw[Nat.zero_add,Nat.sub_zero];rfl⟩)
 | k+1,a,out,hk,ho=>by
   have hi:(50*g+(50 - (k+1))) / 50=g:=by omega
   rw[oE,show k+1+r=(k+r)+1 by omega,nT,hi]
   cases hx:i1 (T.getD (P.getD g 0) []) (bits.drop a)with
   | hit x=>
     dsimp only
     by_cases e:x+1=n0
     ·have e1:((x:Int)=((n0 - 1:Nat):Int)):=by omega
      rw[if_pos e1,if_pos e]
      refine .inr (.inl ⟨rfl,⟨out,?_⟩,?_⟩)
      ·rw[show n0 - 1=x by omega]
      ·simp
     ·have e1:¬((x:Int)=((n0 - 1:Nat):Int)):=by omega
      rw[if_neg e1,if_neg e]
      have ih:=rL T P bits n0 g r pre h0 k (a+(T.getD (P.getD g 0) []).getD x 0) (out++ [x]) (by omega) (fun y hy=>by
       rcases List.mem_append.1 hy with hy | hy
       ·exact ho y hy
       ·rw[List.mem_singleton.1 hy]
        exact e)
      rw[show 50*g+(50 - (k+1))+1=50*g+(50 - k) by omega,List.append_assoc]
      rcases ih with⟨h1,h2⟩ | ⟨h1,h2,h3⟩ | ⟨h1,h2,h3,h4⟩
      ·exact .inl ⟨h1,h2⟩
      ·exact .inr (.inl ⟨h1,h2,h3⟩)
      ·exact .inr (.inr ⟨h1,h2,by rw[h3,List.length_append,List.length_singleton];omega,h4⟩)
   | short=>exact .inl ⟨by show(10:Nat)≠0;omega,rfl⟩
   | code=>exact .inl ⟨by show(90:Nat)≠0;omega,rfl⟩
theorem Ei(w:World)(v:Value)(T:List (List Int))(P:List Int)(h:aZ w v T P)(s:ByteArray)(at':Int)(hM:¬cB T P):
 Calls Tryz.prog 87 #[v,.string s,.int .i64 at'] w (bu w (kK T P (ak s.data.toList) at')):=by
 rw[show kK T P (ak s.data.toList) at'=([],0,110)from if_neg hM]
 obtain⟨A,q,c,B,m,d,rfl,_⟩:=id h
 have h1:Below w.heap.size w (w.alloc (.cells #[.slice A q c,.slice B m d] 52)):=(Below.refl _ _).alloc (ah _) _
 have h5:=ag w 52 #[.slice A q c,.slice B m d]
 have HM:=aa (cG _ _ T P (h.below h1))
 rw[decide_eq_false hM]at HM
 have h2:=aa h1
 have h0:=aa h5
 have h3:Hid (∀ w',Below w.heap.size w w'→bu w ([],0,110) (.returned (.tuple #[.slice none 0 0,.int .i64 0,.int .i64 110])) w'):=aa fun w' hb=>⟨_,rfl,World.ownsRow_nil _ _ _ _,hb⟩
 generalize bu w ([],0,110)=PO at*
 clear h hM h1 h5
 go_enter Tryz.func87,Tryz.ntmps87
 go_upto_region 1 with fail
 generalize w.alloc (.cells #[.slice A q c,.slice B m d] 52)=w1 at*
 have p0:w1.cell? ⟨w.heap.size,0,none⟩=some (.slice A q c):=(ac h0.out 0).trans rfl
 have p1:w1.cell? ⟨w.heap.size,1,none⟩=some (.slice B m d):=(ac h0.out 1).trans rfl
 go_wp2_with fail
 refine HM.out.mono ?_
 rintro e w2 ⟨rfl,h4⟩
 have HE:=aa (h3.out w2 (ao h2.out h4))
 clear h4 h3 h2 h0 HM
 go_wp2_with fail
 first | go_ret3 | skip
 exact HE.out
theorem Ga(w:World)(v:Value)(T:List (List Int))(P:List Int)(h:aZ w v T P)(s:ByteArray)(at':Int)(hs:s.size≤2000000)(hl: -9223372036854775808≤at')(hh:at'≤9223372036854775807)(hP:cB T P)(hG:at'<0∨8*(s.size:Int)<at'):
 Calls Tryz.prog 87 #[v,.string s,.int .i64 at'] w (bu w (kK T P (ak s.data.toList) at')):=by
 have hn:(ak s.data.toList).length=8*s.size:=by rw[ax];rfl
 rw[show kK T P (ak s.data.toList) at'=([],0,2) by rw[kK,if_pos hP,if_pos (by rw[hn];omega)]]
 obtain⟨A,q,c,B,m,d,rfl,hT,hR,hq,hj,hN,hO⟩:=id h
 have hA:=hT.1
 have hH:=hj.1
 have hJ:2≤q∧q≤6:=by have h1:=hP.1;have h2:=hP.2.1;omega
 have hL:1≤m∧m≤32767:=by have h1:=hP.2.2.1;have h2:=hP.2.2.2.1;omega
 obtain⟨tb,tq,rfl,hp⟩:=hT.2 (by omega)
 obtain⟨b,off,rfl,hC⟩:=hj.2 (by omega)
 have hF:0≤P.getD 0 0∧(P.getD 0 0).toNat<q:=by
  have:=hP.2.2.2.2.2.1 (P.getD 0 0) (by
   rw[List.getD_eq_getElem?_getD,List.getElem?_eq_getElem (by omega)]
   exact List.getElem_mem _)
  rw[hA]at this
  omega
 have h3:∀i,i<q→(T.getD i []).length=(T.getD 0 []).length∧bL (T.getD i []):=fun i hi=>hP.2.2.2.2.1 _ (lT T i (by omega))
 obtain⟨m0,h9⟩:∃m0,m0=(T.getD 0 []).length:=⟨_,rfl⟩
 rw[← h9]at h3
 have hM:3≤m0∧m0≤258:=by
  have h1:=hP.2.2.2.2.2.2
  have h2:=(h3 0 (by omega)).2.2.1
  rw[← h9]at h1
  rw[(h3 0 (by omega)).1]at h2
  omega
 have hk:Below w.heap.size w (w.alloc (.cells #[.slice (some ⟨tb,tq,none⟩) q c,.slice (some ⟨b,off,none⟩) m d] 52)):=(Below.refl _ _).alloc (ah _) _
 have hx:=ag w 52 #[.slice (some ⟨tb,tq,none⟩) q c,.slice (some ⟨b,off,none⟩) m d]
 have HM:=aa (cG _ _ T P (h.below hk))
 rw[decide_eq_true hP]at HM
 obtain⟨y,hy⟩:∃y,y=(P.getD 0 0).toNat:=⟨_,rfl⟩
 have hD:P.getD 0 0=(y:Int):=by omega
 have hE:y<q:=by omega
 obtain⟨A2,c2,h1,h2,_,h4⟩:=hp y hE
 obtain⟨A0,c0,hg,_,_,_⟩:=hp 0 (by omega)
 rw[Nat.add_zero,←h9]at hg
 obtain⟨htl,hB⟩:=h3 y hE
 have hv:w.cell? ⟨tb,tq+y,none⟩=some (.slice A2 m0 c2):=by rw[← htl];exact h1
 have h7:w.cell? ⟨b,off,none⟩=some (.int .i64 (y:Int)):=by rw[← hD];have:=hC 0 (by omega);rw[Nat.add_zero]at this;exact this
 have h5:=aa fun(W:World) (hb:Below w.heap.size w W)=>show Calls Tryz.prog 148 #[.slice A2 m0 c2,.string s,.int .i64 at',.int .i64 50,.int .i64 ((m0:Int) - 1)] W (bu W ([],0,2))from by
  have hz:ZIn W A2 m0 (T.getD y []):=by rw[← htl];exact h2.below hb
  have hc:=vO W A2 m0 c2 (T.getD y []) s at' 50 ((m0:Int) - 1) hz (by unfold maxLen;omega) hs hl hh (by omega) (by omega) (by omega) (by omega)
  rw[show eV (T.getD y []) (ak s.data.toList) at' 50 ((m0:Int) - 1)=([],0,2) by
   unfold eV
   rw[if_pos hB,if_pos (by rw[hn];omega)]]at hc
  exact hc
 have hu:Hid (∀ w',Below w.heap.size w w'→bu w ([],0,2) (.returned (.tuple #[.slice none 0 0,.int .i64 0,.int .i64 2])) w'):=aa fun w' hb=>⟨_,rfl,World.ownsRow_nil _ _ _ _,hb⟩
 generalize bu w ([],0,2)=PO at*
 have ht:=aa hk
 have h8:=aa hx
 have he:=aa hv
 have ha:=aa hg
 have hf:=aa h7
 have hQ:(0:Int)<(q:Int):=by omega
 have hS:(0:Int)≤(y:Int):=by omega
 have hK:(y:Int)<(q:Int):=by omega
 have hI:(0:Int)<(m:Int):=by omega
 clear h hk hx hP hT hj hp hC hF h3 h9 hA hH hy hD h1 h2 h4 hg htl hB hv h7 hn hG
 go_enter Tryz.func87,Tryz.ntmps87
 go_upto_region 1 with fail
 generalize w.alloc (.cells #[.slice (some ⟨tb,tq,none⟩) q c,.slice (some ⟨b,off,none⟩) m d] 52)=w1 at*
 have p0:w1.cell? ⟨w.heap.size,0,none⟩=some (.slice (some ⟨tb,tq,none⟩) q c):=(ac h8.out 0).trans rfl
 have p1:w1.cell? ⟨w.heap.size,1,none⟩=some (.slice (some ⟨b,off,none⟩) m d):=(ac h8.out 1).trans rfl
 go_wp2_with fail
 refine HM.out.mono ?_
 rintro e w2 ⟨rfl,hm⟩
 have ho:=aM hm h8.out
 have h0:=ao ht.out hm
 have p0:w2.cell? ⟨w.heap.size,0,none⟩=some (.slice (some ⟨tb,tq,none⟩) q c):=(ac ho 0).trans rfl
 have p1:w2.cell? ⟨w.heap.size,1,none⟩=some (.slice (some ⟨b,off,none⟩) m d):=(ac ho 1).trans rfl
 have k0:w2.cell? ⟨tb,tq,none⟩=some (.slice A0 m0 c0):=(h0.cell (p:=⟨tb,tq,none⟩) (World.block_lt_of_cell? w _ ha.out)).trans ha.out
 have k1:w2.cell? ⟨tb,tq+y,none⟩=some (.slice A2 m0 c2):=(h0.cell (p:=⟨tb,tq+y,none⟩) (World.block_lt_of_cell? w _ he.out)).trans he.out
 have k2:w2.cell? ⟨b,off,none⟩=some (.int .i64 (y:Int)):=(h0.cell (p:=⟨b,off,none⟩) (World.block_lt_of_cell? w _ hf.out)).trans hf.out
 have hr:=aa (h5.out w2 h0)
 have h6:=aa h0
 clear hm ho h0 HM ht h8 he ha hf h5
 go_wp2_with fail
 go_loopw [2,9,12,13,14,15,28] (fun av lv s12 s13 s14 s15 iv' wx=>av=.int .i64 at'∧lv=.slice none 0 0∧iv'=.int .i64 0∧wx=w2) (fun _ _ _ _ _ _ iv' _=>m - (intOf iv').toNat)
 case atStart=>exact⟨rfl,rfl,rfl,rfl⟩
 case round=>
  obtain⟨rfl,rfl,rfl,rfl⟩:=hrel
  have dm:decide ((0:Int)<(m:Int))=true:=decide_eq_true hI
  go_wp2_with fail
  refine hr.out.mono ?_
  rintro e w3 ⟨v3,rfl,_,hw⟩
  have HE:=aa (hu.out w3 (ao h6.out hw))
  clear hw hu h6 hr
  go_wp2_with fail
  first | go_ret3 | skip
  exact HE.out
theorem Er(w:World)(v:Value)(T:List (List Int))(P:List Int)(h:aZ w v T P)(s:ByteArray)(at':Int)(hs:s.size≤2000000)(hP:cB T P)(H7:0≤at')(pj:at'≤8*(s.size:Int)):
 Calls Tryz.prog 87 #[v,.string s,.int .i64 at'] w (bu w (kK T P (ak s.data.toList) at')):=by
 have hE:(ak s.data.toList).length=8*s.size:=by rw[ax];rfl
 obtain⟨a0,rfl⟩:=Int.eq_ofNat_of_zero_le H7
 have pg:a0≤8*s.size:=by omega
 obtain⟨bits,h0⟩:∃bits,bits=ak s.data.toList:=⟨_,rfl⟩
 obtain⟨A,q,c,B,m,d,rfl,hT,ql,hq,HB,q9,qa⟩:=id h
 have p2:=hT.1
 have HZ:=HB.1
 have pr:2≤q∧q≤6:=by have h1:=hP.1;have h2:=hP.2.1;omega
 have q4:1≤m∧m≤32767:=by have h1:=hP.2.2.1;have h2:=hP.2.2.2.1;omega
 obtain⟨tb,tq,rfl,HR⟩:=hT.2 (by omega)
 obtain⟨b,off,rfl,p4⟩:=HB.2 (by omega)
 have HV:∀i,i<m→0≤P.getD i 0∧(P.getD i 0).toNat<q:=fun i hi=>by
  have:=hP.2.2.2.2.2.1 (P.getD i 0) (by
   rw[List.getD_eq_getElem?_getD,List.getElem?_eq_getElem (by omega)]
   exact List.getElem_mem _)
  rw[p2]at this
  omega
 have h7:∀i,i<q→(T.getD i []).length=(T.getD 0 []).length∧bL (T.getD i []):=fun i hi=>hP.2.2.2.2.1 _ (lT T i (by omega))
 obtain⟨m0,hR⟩:∃m0,m0=(T.getD 0 []).length:=⟨_,rfl⟩
 rw[← hR]at h7
 have q8:3≤m0∧m0≤258:=by
  have h1:=hP.2.2.2.2.2.2
  have h2:=(h7 0 (by omega)).2.2.1
  rw[← hR]at h1
  rw[(h7 0 (by omega)).1]at h2
  omega
 have HD:Below w.heap.size w (w.alloc (.cells #[.slice (some ⟨tb,tq,none⟩) q c,.slice (some ⟨b,off,none⟩) m d] 52)):=(Below.refl _ _).alloc (ah _) _
 have HY:=ag w 52 #[.slice (some ⟨tb,tq,none⟩) q c,.slice (some ⟨b,off,none⟩) m d]
 have HM:=aa (cG _ _ T P (h.below HD))
 rw[decide_eq_true hP]at HM
 obtain⟨A0,c0,H8,_,_,_⟩:=HR 0 (by omega)
 rw[Nat.add_zero,←hR]at H8
 obtain⟨n1,HL⟩:∃n1,n1=m0 - 1:=⟨_,rfl⟩
 have pl:(m0:Int) - 1=(n1:Int):=by omega
 have hA:=aa fun(W:World) (hb:Below w.heap.size w W) (y:Nat) (hl:y<q) (A2:Option Addr) (c2:Nat) (h2:ZIn w A2 m0 (T.getD y [])) (a:Nat) (ha:a≤8*s.size)=>show Calls Tryz.prog 148 #[.slice A2 m0 c2,.string s,.int .i64 a,.int .i64 50,.int .i64 (n1:Nat)] W (bu W (fk (nl (T.getD y [])) bits (m0 - 1:Nat) 50 a []))from by
  have hc:=vO W A2 m0 c2 (T.getD y []) s (a:Int) 50 ((n1:Nat):Int) (h2.below hb) (by unfold maxLen;omega) hs (by omega) (by omega) (by omega) (by omega) (by omega) (by omega)
  rw[show eV (T.getD y []) (ak s.data.toList) (a:Int) 50 ((n1:Nat):Int)=fk (nl (T.getD y [])) bits (m0 - 1:Nat) 50 a [] by
   unfold eV
   rw[if_pos (h7 y hl).2,if_neg (by rw[hE];omega),h0,HL]
   rfl]at hc
  exact hc
 have H5:=aa fun(y:Nat) (hl:y<q) (a:Nat) (ha:a≤8*s.size)=>show(fk (nl (T.getD y [])) bits (m0 - 1:Nat) 50 a []).2.1≤8*s.size from by
  have h:=(my (nl (T.getD y [])) bits (m0 - 1:Nat) (fU (h7 y hl).2) 50 a [] (Nat.zero_le _) (by rw[h0,hE];exact ha)).2.1
  rw[h0,hE]at h
  rw[h0]
  exact h
 have hh:=aa fun(y:Nat) (hl:y<q) (a:Nat) (ha:a≤8*s.size)=>show(fk (nl (T.getD y [])) bits (m0 - 1:Nat) 50 a []).1.length≤8*s.size from by
  have h:=(my (nl (T.getD y [])) bits (m0 - 1:Nat) (fU (h7 y hl).2) 50 a [] (Nat.zero_le _) (by rw[h0,hE];exact ha)).1
  rw[h0,hE]at h
  rw[h0]
  exact h
 have hC:=aa fun(i r:Nat) (pre:List Nat) (a:Nat)=>rL (T.map nl) (nl P) bits m0 i r pre (by omega) 50 a [] (ah _) (fun x hx=>by cases hx)
 have h5:kK T P (ak s.data.toList) (a0:Int)=lX (T.map nl) (nl P) bits m0 (50*m) 0 a0 []:=by
  rw[kK,if_pos hP,if_neg (by rw[hE];omega),HZ,←hR,Int.toNat_natCast,h0]
 rw[h5]
 obtain⟨ANS,hD⟩:∃ANS,ANS=lX (T.map nl) (nl P) bits m0 (50*m) 0 a0 []:=⟨_,rfl⟩
 rw[← hD]
 have hB:=aa hD
 have hU:Hid (∀ w' v (X:List Nat) (n:Nat),ANS=(X,n,0)→w'.ownsRow w.heap.size 3 1 v X.length (X.map iv)→Below w.heap.size w w'→bu w ANS (.returned (.tuple #[v,.int .i64 n,.int .i64 0])) w'):=aa fun w' v X n h1 h2 h4=>by
  rw[h1]
  exact⟨v,rfl,h2,h4⟩
 have hN:Hid (∀ w' (z:Nat),ANS=([],0,z)→Below w.heap.size w w'→bu w ANS (.returned (.tuple #[.slice none 0 0,.int .i64 0,.int .i64 z])) w'):=aa fun w' z h1 h4=>by
  rw[h1]
  exact⟨_,rfl,World.ownsRow_nil _ _ _ _,h4⟩
 generalize bu w ANS=PO at*
 have H6:Hid (∀ y,y<q→∃A2 c2,w.cell? ⟨tb,tq+y,none⟩=some (.slice A2 m0 c2)∧ZIn w A2 m0 (T.getD y [])):=aa fun y hy=>by
  obtain⟨A2,c2,h1,h2,_,_⟩:=HR y hy
  rw[(h7 y hy).1]at h1 h2
  exact⟨A2,c2,h1,h2⟩
 have H4:Hid (∀ i,i<m→∃y:Nat,y<q∧w.cell? ⟨b,off+i,none⟩=some (.int .i64 (y:Int))∧(nl P).getD i 0=y):=aa fun i hi=>by
  obtain⟨h1,h2⟩:=HV i hi
  refine⟨(P.getD i 0).toNat,h2,?_,?_⟩
  ·rw[p4 i hi]
   congr 2
   omega
  ·unfold nl
   rw[List.getD_eq_getElem?_getD,List.getD_eq_getElem?_getD,List.getElem?_map]
   cases P[i]? <;>rfl
 have H3:Hid (∀ y,(T.map nl).getD y []=nl (T.getD y [])):=aa fun y=>by
  rw[List.getD_eq_getElem?_getD,List.getD_eq_getElem?_getD,List.getElem?_map]
  cases T[y]? <;>rfl
 have HS:=aa HD
 have hS:=aa HY
 have H2:=aa H8
 have p5:=aa HL
 have qb:(0:Int)<(q:Int):=by omega
 clear h HD HY hP hT HB HR p4 HV h7 hR p2 HZ H8 hE pj h5 hD h0 HL
 go_enter Tryz.func87,Tryz.ntmps87
 go_upto_region 1 with fail
 generalize w.alloc (.cells #[.slice (some ⟨tb,tq,none⟩) q c,.slice (some ⟨b,off,none⟩) m d] 52)=w1 at*
 have p0:w1.cell? ⟨w.heap.size,0,none⟩=some (.slice (some ⟨tb,tq,none⟩) q c):=(ac hS.out 0).trans rfl
 have p1:w1.cell? ⟨w.heap.size,1,none⟩=some (.slice (some ⟨b,off,none⟩) m d):=(ac hS.out 1).trans rfl
 go_wp2_with fail
 refine HM.out.mono ?_
 rintro e w2 ⟨rfl,HF⟩
 have HK:=aM HF hS.out
 have hp:=ao HS.out HF
 have p0:w2.cell? ⟨w.heap.size,0,none⟩=some (.slice (some ⟨tb,tq,none⟩) q c):=(ac HK 0).trans rfl
 have p1:w2.cell? ⟨w.heap.size,1,none⟩=some (.slice (some ⟨b,off,none⟩) m d):=(ac HK 1).trans rfl
 have k0:w2.cell? ⟨tb,tq,none⟩=some (.slice A0 m0 c0):=(hp.cell (p:=⟨tb,tq,none⟩) (World.block_lt_of_cell? w _ H2.out)).trans H2.out
 have hm:=aa hp
 have hj:=hp.size
 clear HF HK hp HM HS hS H2
 go_wp2_with fail
 go_loopw [2,9,12,13,14,15,28] (fun av lv s12 s13 s14 s15 iv' wx=>∃(i a N c9:Nat) (A9:Option Addr) (out:List Nat),i≤m∧iv'=.int .i64 i∧av=.int .i64 a∧lv=.slice A9 N c9∧wx.ownsRow w2.heap.size 3 1 (.slice A9 N c9) N (out.map iv)∧Below w2.heap.size w2 wx∧Hid (out.length=N∧N≤50*i∧a≤8*s.size∧lX (T.map nl) (nl P) bits m0 (50*(m - i)) (50*i) a out=ANS)) (fun _ _ _ _ _ _ iv' _=>m - (intOf iv').toNat)
 case atStart=>exact⟨0,a0,0,0,none, [],Nat.zero_le _,rfl,rfl,rfl,World.ownsRow_nil _ _ _ _,Below.refl _ _,⟨rfl,Nat.le_refl _,pg,hB.out.symm⟩⟩
 case round=>
  rename World=>wx
  obtain⟨i,a,N,c9,A9,out,hi,rfl,rfl,rfl,ho,hL,hI⟩:=hrel
  by_cases e:i<m
  ·have di:decide ((i:Int)<(m:Int))=true:=aC (by omega)
   have q2:(0:Int)≤(i:Int):=by omega
   have q3:(i:Int)<(m:Int):=by omega
   obtain⟨y,hl,HQ,p3⟩:=H4.out i e
   obtain⟨A2,c2,h1,h2⟩:=H6.out y hl
   have hu:Below w.heap.size w wx:=hm.out.trans (hL.mono hj)
   have p0x:wx.cell? ⟨w.heap.size,0,none⟩=some (.slice (some ⟨tb,tq,none⟩) q c):=(hL.cell (p:=⟨w.heap.size,0,none⟩) (World.block_lt_of_cell? w2 _ p0)).trans p0
   have k1:wx.cell? ⟨tb,tq+y,none⟩=some (.slice A2 m0 c2):=(hu.cell (p:=⟨tb,tq+y,none⟩) (World.block_lt_of_cell? w _ h1)).trans h1
   have k2:wx.cell? ⟨b,off+i,none⟩=some (.int .i64 (y:Int)):=(hu.cell (p:=⟨b,off+i,none⟩) (World.block_lt_of_cell? w _ HQ)).trans HQ
   have HA:=aa (hA.out wx hu y hl A2 c2 h2 a hI.out.2.2.1)
   have hZ:=H5.out y hl a hI.out.2.2.1
   have hv:=hh.out y hl a hI.out.2.2.1
   have hg:=hC.out i (50*(m - (i+1))) out a
   rw[p3,H3.out y,show 50+50*(m - (i+1))=50*(m - i) by omega,Nat.sub_self,Nat.add_zero,List.append_nil,hI.out.2.2.2]at hg
   obtain⟨⟨X,q5,z5⟩,hr⟩:∃r,r=fk (nl (T.getD y [])) bits (m0 - 1:Nat) 50 a []:=⟨_,rfl⟩
   rw[← hr]at HA hg hZ hv
   dsimp only at hg hZ hv
   have HG:=aa hg
   have hO:=aa hZ
   have HT:=aa hv
   have HO:=aa ho
   have H1:=aa hL
   have HI:=aa hI.out
   have qo:(0:Int)≤(y:Int):=by omega
   have pv:(y:Int)<(q:Int):=by omega
   clear HQ p3 h1 h2 hu hZ hv hg hr ho hL hI
   go_wp2_with fail
   refine HA.out.mono ?_
   rintro e w5 ⟨v5,rfl,hw,hK⟩
   dsimp only at hw ⊢
   have he:=ao H1.out hK
   have ht:=hm.out.trans (he.mono hj)
   by_cases ez:z5=0
   ·subst ez
    obtain⟨A5,c5,rfl,HH,_,hV⟩:=aq hw
    obtain⟨xl,hG⟩:∃xl,xl=X.length:=⟨_,rfl⟩
    have qm:xl≤16000000:=by have:=HT.out;omega
    have HJ:aT w5 A5 xl X:=by rw[hG];exact bR hw
    rw[← hG]at hw HH hV ⊢
    have hQ:∃o x,X=o++ [x]∧((x+1=m0∧ANS=(out++X,q5,0))∨(x+1≠m0∧X.length=50∧lX (T.map nl) (nl P) bits m0 (50*(m - (i+1))) (50*i+50) q5 (out++X)=ANS)):=by
     rcases HG.out with⟨h1,_⟩ | ⟨_,⟨o,h2⟩,h3⟩ | ⟨_,h2,h3,h4⟩
     ·exact absurd rfl h1
     ·exact⟨o,m0 - 1,h2,.inl ⟨by omega,h3⟩⟩
     ·rw[List.length_nil,Nat.zero_add]at h3
      have HN:X≠ []:=fun h=>by rw[h]at h3;cases h3
      refine⟨X.dropLast,X.getLast HN,(List.dropLast_concat_getLast HN).symm,.inr ⟨h2 _ (List.getLast_mem HN),h3,h4.symm⟩⟩
    obtain⟨o,x,hW,h6⟩:=hQ
    have hH:xl=o.length+1:=by rw[hG,hW,List.length_append];rfl
    obtain⟨g5,rfl⟩:=hV (by omega)
    have h9:=pV HO.out hK
    obtain⟨v6,w6,hY,hM,hX⟩:=iW w5 w2.heap.size (.slice A9 N c9) N _ h9 (some ⟨g5,0,none⟩) xl c5 X HJ (by have:=HI.out.2.1;omega) (Nat.le_trans H1.out.size hK.size)
    have hn:Below w2.heap.size w2 w6:=he.grown hX he.size (fun k hk=>(World.ownsRow.lt h9 k hk).1)
    have HW:=(World.ownsRow.lt hw g5 rfl).1
    have hF:=World.ownsRow.kept hw hX (.inr fun e=>by
     have:=(World.ownsRow.lt HO.out g5 e.symm).2
     omega)
    have pk:w6.cell? ⟨g5,o.length,none⟩=some (.int .i64 (x:Nat)):=by
     rw[World.ownsRow.cellAt hF o.length (by omega),List.getElem?_map,hW,List.getElem?_append_right (ah _),Nat.sub_self]
     rfl
    obtain⟨ol,HP⟩:∃ol,ol=o.length:=⟨_,rfl⟩
    rw[← HP]at pk hH
    have ps:(xl:Int) - 1=(ol:Int):=by omega
    have pm:(0:Int)≤(ol:Int):=by omega
    have po:(ol:Int)<(xl:Int):=by omega
    have hf:x+1=m0↔x=n1:=by have:=p5.out;omega
    obtain⟨A6,c6,rfl,_,_,_⟩:=aq hM
    obtain⟨N6,hJ⟩:∃N6,N6=N+xl:=⟨_,rfl⟩
    rw[← hJ,←List.map_append]at hM
    rw[← hJ]at hY
    have h8:(out++X).length=N6:=by rw[List.length_append,HI.out.1,←hG,hJ]
    have HU:=aa hY
    have pf:=aa hM
    have H0:=aa hn
    have HX:=aa hG
    have q0:=aa h8
    have q1:=aa hJ
    by_cases ex:x+1=m0
    ·have h5:ANS=(out++X,q5,0):=(h6.resolve_right fun h=>h.1 ex).2
     have dx:((x:Int)==(n1:Int))=true:=by rw[hf.1 ex];exact beq_self_eq_true _
     have dx2:(x==n1)=true:=by rw[hf.1 ex];exact beq_self_eq_true _
     have HE:=aa (hU.out w6 (.slice A6 N6 c6) (out++X) q5 h5 (by rw[h8];exact World.ownsRow.mono hM hj) (hm.out.trans (hn.mono hj)))
     clear h5 h6 hW hG hH hw HH hV HJ h9 hY hM hX hn HW hF HP hJ h8 he ht hK HG hU hN ex hf
     go_wp2_with (at_builtin;refine Lib.wpList_append_run _ rfl (.tmp 48) (.tmp 49) 36 36 rfl (.slice A9 N c9) (.slice (some ⟨g5,0,none⟩) xl c5) rfl rfl _ w6 HU.out ?_)
     first | go_ret3 | skip
     exact HE.out
    ·obtain⟨_,HC,hz⟩:=h6.resolve_left fun h=>ex h.1
     have dx:((x:Int)==(n1:Int))=false:=by rw[beq_eq_false_iff_ne];intro h;exact ex (hf.2 (by omega))
     have dx2:(x==n1)=false:=by rw[beq_eq_false_iff_ne];intro h;exact ex (hf.2 h)
     have pb:Hid ((out++X).length=N6∧N6≤50*(i+1)∧q5≤8*s.size∧lX (T.map nl) (nl P) bits m0 (50*(m - (i+1))) (50*(i+1)) q5 (out++X)=ANS):=aa ⟨h8,by have:=HI.out.2.1;omega,hO.out,by rw[show 50*(i+1)=50*i+50 by omega];exact hz⟩
     clear hz HC h6 hW hG hH hw HH hV HJ h9 hY hM hX hn HW hF HP hJ h8 he ht hK HG ex hf
     go_wp2_with (at_builtin;refine Lib.wpList_append_run _ rfl (.tmp 48) (.tmp 49) 36 36 rfl (.slice A9 N c9) (.slice (some ⟨g5,0,none⟩) xl c5) rfl rfl _ w6 HU.out ?_)
     go_roundw
     case rel=>exact⟨i+1,q5,N6,c6,A6,out++X,by omega,by go_num,rfl,rfl,pf.out,H0.out,pb⟩
     case measure=>simp[intOf];omega
   ·have h5:ANS=([],0,z5):=by
     rcases HG.out with⟨_,h2⟩ | ⟨h1,_⟩ | ⟨h1,_⟩
     ·exact h2
     ·exact absurd h1 ez
     ·exact absurd h1 ez
    have HE:=aa (hN.out w5 z5 h5 ht)
    have dz2:((z5:Int) != 0)=true:=by rw[bne_iff_ne];omega
    have dz3:¬(z5:Int)=0:=by omega
    clear h5 hw hK he ht HA HG hO HT HO H1 HI hU hN hB hA H5 hh hC H6 H4 H3
    go_wp2_with fail
    first | go_ret3 | skip
    exact HE.out
  ·obtain rfl:i=m:=by omega
   have di:decide ((i:Int)<(i:Int))=false:=au (by omega)
   have h5:ANS=([],0,110):=by
    rw[← hI.out.2.2.2,Nat.sub_self]
    rfl
   have HE:=aa (hN.out wx 110 h5 (hm.out.trans (hL.mono hj)))
   clear h5 ho hL hI hU hN hB hA H5 hh hC H6 H4 H3
   go_wp2_with fail
   first | go_ret3 | skip
   exact HE.out
theorem Gm(w:World)(v:Value)(T:List (List Int))(P:List Int)(h:aZ w v T P)(s:ByteArray)(at':Int)(hs:s.size≤2000000)(hl: -9223372036854775808≤at')(hh:at'≤9223372036854775807):
 Calls Tryz.prog 87 #[v,.string s,.int .i64 at'] w (bu w (kK T P (ak s.data.toList) at')):=by
 by_cases hP:cB T P
 ·by_cases h0:at'<0∨8*(s.size:Int)<at'
  ·exact Ga w v T P h s at' hs hl hh hP h0
  ·exact Er w v T P h s at' hs hP (by omega) (by omega)
 ·exact Ei w v T P h s at' hP
def da(ls:List (List Nat)):List Value:=ls.flatMap fun l=> [.string ⟨(aG l).toArray⟩,.int .i64 l.length]
theorem sI(ls:List (List Nat))(l:List Nat):da (ls++ [l])=da ls++ [.string ⟨(aG l).toArray⟩,.int .i64 l.length]:=by simp[da]
theorem nk:∀(ls:List (List Nat)) (j:Nat),j<ls.length→(da ls)[j*2]? =some (.string ⟨(aG (ls.getD j [])).toArray⟩)∧(da ls)[j*2+1]? =some (.int .i64 (ls.getD j []).length)
 | [],_,h=>absurd h (Nat.not_lt_zero _)
 | l :: ls,0,_=>⟨rfl,rfl⟩
 | l :: ls,j+1,h=>by
   have ih:=nk ls j (by simpa using h)
   have e:da (l :: ls)= [.string ⟨(aG l).toArray⟩,.int .i64 l.length]++da ls:=rfl
   rw[e,show(j+1)*2=2+j*2 by omega,show 2+j*2+1=2+(j*2+1) by omega,List.getElem?_append_right (by simp),List.getElem?_append_right (by simp)]
   simpa using ih
structure Pcs (w:World) (B:Nat) (v:Value) (ls:List (List Nat)):Prop where
 own:w.ownsRow B 24 2 v ls.length (da ls)
 bit:∀l∈ls,aw l
theorem Tryz.infoBits:(Tryz.prog.info? 24).map (fun i=>(i.zero,i.size,i.bytes))=some (some (.agg #[.string ⟨#[]⟩,.int .i64 0]),2,24):=by kernel_rfl
theorem He(w:World)(B:Nat)(hB:B≤w.heap.size)(l:List Nat)(hl:aw l):Pcs (w.alloc (.cells #[.string ⟨(aG l).toArray⟩,.int .i64 l.length] 24)) B (.slice (some ⟨w.heap.size,0,none⟩) 1 1) [l]:=
 ⟨⟨rfl,.inr ⟨w.heap.size,1,_,rfl,hB,heap_alloc_new w _,Nat.le_refl _,by unfold maxLen;omega,rfl,rfl⟩⟩,fun x hx=>by rw[List.mem_singleton.1 hx];exact hl⟩
theorem F8(w:World)(B:Nat):Pcs w B (.slice none 0 0) []:=⟨World.ownsRow_nil _ _ _ _,fun _ h=>by cases h⟩
theorem Pcs.below{w w':World}{B:Nat}{v:Value}{ls:List (List Nat)}(h:Pcs w B v ls)(hb:Below w.heap.size w w'):Pcs w' B v ls:=
 ⟨(an hb).row h.own (fun _ _=>az) az,h.bit⟩
theorem rS(w:World)(B:Nat)(v:Value)(ls:List (List Nat))(l:List Nat)(h:Pcs w B v ls)(hB:B≤w.heap.size)(hn:ls.length≤1000000)(hl:aw l):
 ∃v' w',(Builtin.append_ #[111,111] 111 #[v,.slice (some ⟨w.heap.size,0,none⟩) 1 1]).run Tryz.prog (w.alloc (.cells #[.string ⟨(aG l).toArray⟩,.int .i64 l.length] 24))=.ok v' w'∧Pcs w' B v' (ls++ [l])∧Below B w w':=by
 obtain⟨i3,h3,h0,h5,h6⟩:=info_parts Tryz.infoBits
 obtain⟨v',w',h1,h2,h4,_⟩:=run_append_own (P:=Tryz.prog) (w.alloc (.cells #[.string ⟨(aG l).toArray⟩,.int .i64 l.length] 24)) B 111 111 24 i3 _ 2 24 Tryz.underlying111 h3 h0 h5 h6 rfl (by decide) v ls.length (da ls) (h.own.alloc _)
  ⟨w.heap.size,0,none⟩ 1 1 [.string ⟨(aG l).toArray⟩,.int .i64 l.length] rfl (uE w _ _ _)
  (fun u hu=>by
    simp at hu
    rcases hu with rfl | rfl <;>rfl) (by unfold maxLen;omega) (by omega) (by simp;omega)
 refine⟨v',w',h1,⟨?_,fun x hx=> ?_⟩,((Below.refl B w).alloc hB _).grown h4 (by simp;omega) (fun k hk=>(World.ownsRow.lt h.own k hk).1)⟩
 ·rw[sI,List.length_append,List.length_singleton]
  exact h2
 ·rcases List.mem_append.1 hx with hx | hx
  ·exact h.bit x hx
  ·rw[List.mem_singleton.1 hx]
   exact hl
theorem BB(l:List Nat)(hb:aw l):nj ⟨(aG l).toArray⟩ l.length=true:=by
 rw[lU,show(ByteArray.mk (aG l).toArray).size=(l.length+7) / 8 by rw[← dG];rfl,show(ByteArray.mk (aG l).toArray).data.toList=aG l from rfl,j4 l hb,List.drop_left]
 exact⟨by omega,by omega,by simp⟩
theorem xz(ls:List (List Nat))(hb:∀l∈ls,aw l):∀i,i≤ls.length→fZ (fun i=>⟨(aG (ls.getD i [])).toArray⟩) (fun i=>((ls.getD i []).length:Int)) i=(ls.take i).flatten∧sy (fun i=>⟨(aG (ls.getD i [])).toArray⟩) i≤(ls.take i).flatten.length+i
 | 0,_=>by simp[fZ,sy]
 | i+1,h=>by
   obtain⟨h1,h2⟩:=xz ls hb i (by omega)
   have hg:ls.getD i []=ls[i]:=by rw[List.getD_eq_getElem?_getD,List.getElem?_eq_getElem (by omega)];rfl
   have e:ls.take (i+1)=ls.take i++ [ls.getD i []]:=by
    rw[List.take_succ_eq_append_getElem (by omega),hg]
   have h0:aw (ls.getD i []):=by rw[hg];exact hb _ (List.getElem_mem _)
   have h3:(ByteArray.mk (aG (ls.getD i [])).toArray).size=((ls.getD i []).length+7) / 8:=by rw[← dG];rfl
   rw[e,List.flatten_append]
   refine⟨?_,?_⟩
   ·rw[fZ,h1]
    congr 1
    rw[Int.toNat_natCast,show(ByteArray.mk (aG (ls.getD i [])).toArray).data.toList=aG (ls.getD i [])from rfl,j4 _ h0,List.take_left]
    simp
   ·rw[sy,h3,List.length_append]
    simp only[List.flatten_cons,List.flatten_nil,List.append_nil]
    omega
theorem ET(ls:List (List Nat))(i:Nat)(h:i<ls.length):(ls.getD i []).length≤ls.flatten.length:=by
 rw[List.getD_eq_getElem?_getD,List.getElem?_eq_getElem h]
 exact List.Sublist.length_le (List.sublist_flatten_of_mem (List.getElem_mem h))
theorem rz(w:World)(B:Nat)(v:Value)(ls:List (List Nat))(h:Pcs w B v ls)(hn:ls.length≤1000000)(hl:ls.flatten.length≤100000000):
 Calls Tryz.prog 24 #[v] w (nG w (aG ls.flatten) ls.flatten.length 0):=by
 obtain⟨A,c,rfl,hc,_,hA⟩:=aq h.own
 obtain⟨hj,ht⟩:=xz ls h.bit ls.length (ah _)
 rw[List.take_length]at hj ht
 have hk:=GG w A ls.length c (fun i=>⟨(aG (ls.getD i [])).toArray⟩) (fun i=>((ls.getD i []).length:Int)) (fun h0=>by
  obtain⟨g,rfl⟩:=hA h0
  refine⟨g,0,rfl,(World.ownsRow.lt h.own g rfl).2,fun i hi=> ?_⟩
  have hg:=nk ls i hi
  rw[Nat.zero_add,World.ownsRow.cellAt h.own (i*2) (by omega),World.ownsRow.cellAt h.own (i*2+1) (by omega)]
  exact hg) (by unfold maxLen;omega) (by omega)
  (fun i hi=>by
    have:=ET ls i hi
    rw[show (ByteArray.mk (aG (ls.getD i [])).toArray).size=((ls.getD i []).length+7) / 8 by rw[← dG];rfl]
    omega)
  (fun i hi=>by
    have:=ET ls i hi
    omega) (fun i hi=>BB _ (by
     rw[List.getD_eq_getElem?_getD,List.getElem?_eq_getElem hi]
     exact h.bit _ (List.getElem_mem _)))
 rw[hj]at hk
 exact hk
end Go.Proofs.YthakcjehhlpjnaaGreat
