import Derived.Test.YthakcjehhlpjnaaGreatB31
import Derived.Test.YthakcjehhlpjnaaGreatB08
set_option maxHeartbeats 3200000
set_option maxRecDepth 100000
namespace Go.Proofs.YthakcjehhlpjnaaGreat
open Go.RowKit
theorem IS(x b:Nat)(hx:x<1073741824)(hb:b<2):bits BinOp.or IntKind.i64 ((x:Int)*2) (b:Int)=((2*x+b:Nat):Int):=by
 have e:(x:Int)*2=((2*x:Nat):Int):=by omega
 rw[e]
 show IntKind.i64.wrap ((BitVec.ofInt 64 ((2*x:Nat):Int) ||| BitVec.ofInt 64 (b:Int)).toNat:Int)=_
 have h:2*x ||| b=2*x+b:=by
  have h:=nat_join 1 (2*x) b (by omega) (by omega)
  exact h
 rw[BitVec.toNat_or,BitVec.ofInt_natCast,BitVec.ofInt_natCast,BitVec.toNat_ofNat,BitVec.toNat_ofNat,Nat.mod_eq_of_lt (show 2*x<2 ^ 64 by omega),Nat.mod_eq_of_lt (show b<2 ^ 64 by omega),h,IntKind.wrap_i64]
 omega
def nxV:Nx→Nat×Nat
 | .hit i=>(i,0)
 | .short=>(0,10)
 | .code=>(0,90)
def Az(w:World)(p:Nat)(s:ByteArray)(at':Nat)(l:List Nat)(x:Nx)(e:Ending)(w':World):Prop:=
 e=.returned (.tuple #[.int .i64 (nxV x).1,.int .i64 (nxV x).2])∧(∀ i,x=.hit i→IsR p w' p s (at'+l.getD i 0))∧ak p [p] [] w w'
theorem p9{w:World}{g p:Nat}{t u:TypeId}{cs ds:Array Value}(h:Blk w g t cs)(k:Blk w p u ds)(h0:t≠u):g≠p:=by
 rintro rfl
 unfold Blk at h k
 rw[h]at k
 simp only[Option.some.injEq,Obj.cells.injEq]at k
 exact h0 k.2.1
theorem EI{w:World}{B g c n p:Nat}{f:Nat→Nat}{u:TypeId}{ds:Array Value}(h:aB w B g c n f)(k:Blk w p u ds)(h0:(3:TypeId)≠u):g≠p:=by
 rintro rfl
 rcases h.2 with⟨h1,h2⟩ | ⟨g',cap,cur,hv,hB,hh,r⟩
 ·cases h1
 ·simp only[Value.slice.injEq,Option.some.injEq,Addr.mk.injEq]at hv
  have hg:g'=g:=hv.1.1.symm
  rw[hg]at hh
  unfold Blk at k
  rw[hh]at k
  simp only[Option.some.injEq,Obj.cells.injEq]at k
  exact h0 k.2.1
theorem aB.step{w w':World}{B gs C p k:Nat}{n:Nat}{F:Nat→Nat}{ts:List TypeId}{u:TypeId}{ds:Array Value}(h:aB w B gs k n F)(hs:ak C [p] ts w w')(hp:Blk w p u ds)(h3:(3:TypeId)≠u)(t3:(3:TypeId)∉ts):aB w' B gs k n F:=by
 have n2:=EI h hp h3
 exact hs.row h (fun k hk=>by
  have e:k=gs:=by simpa [Value.ownBlock]using hk.symm
  rw[e]
  simpa using n2) t3
theorem fM.steps{w w':World}{g p C:Nat}{A:Option Addr}{n c:Nat}{l:List Nat}{ts:List TypeId}{u:TypeId}{ds:Array Value}(h:fM w g A n c l)(hs:ak C [p] ts w w')(hp:Blk w p u ds)(h3:(3:TypeId)≠u)(h0:(178:TypeId)≠u)(t3:(3:TypeId)∉ts)(t57:(178:TypeId)∉ts):fM w' g A n c l:=by
 obtain⟨gs,F,B,h1,h2,h4⟩:=h
 have n1:=p9 h1 hp h0
 exact⟨gs,F,B,hs.blk h1 (by simpa using n1) t57,h2.step hs hp h3 t3,h4⟩
theorem fM.step{w w':World}{g p C:Nat}{A:Option Addr}{n c:Nat}{l:List Nat}{ds:Array Value}(h:fM w g A n c l)(hs:ak C [p] [] w w')(hp:Blk w p 126 ds):fM w' g A n c l:=
 h.steps hs hp (by decide) (by decide) aq aq
theorem fM.drewN{w:World}{g:Nat}{A:Option Addr}{n c:Nat}{l:List Nat}(h:fM w g A n c l)(d:Nat):fM (w.drewN d) g A n c l:=h
theorem IsR.drewN{B:Nat}{w:World}{p:Nat}{s:ByteArray}{n:Nat}(h:IsR B w p s n)(d:Nat):IsR B (w.drewN d) p s n:=⟨h.lo,h.blk⟩
theorem Cg(w:World)(g p:Nat)(A:Option Addr)(n c:Nat)(L:List Int)(s:ByteArray)(at':Nat)(hT:fM w g A n c (nl L))(HC:L.length=n)(hX:aY L)(hR:IsR p w p s at')(hs:s.size≤281474976710656)(h7:at'≤8*s.size):
 Calls Tryz.prog 192 #[.pointer (some ⟨g,0,none⟩),.pointer (some ⟨p,0,none⟩)] w (Az w p s at' (nl L) (fg (nl L) ((al s.data.toList).drop at'))):=by
 have HY:n≤258:=by have:=hX.2.1;omega
 have hg:=fq hX
 obtain⟨l,hl⟩:∃l,l=nl L:=⟨_,rfl⟩
 have HB:l.length=n:=by rw[hl,bz,HC]
 rw[← hl]at hg hT ⊢
 obtain⟨Bs,hu⟩:∃Bs,Bs=al s.data.toList:=⟨_,rfl⟩
 obtain⟨bs,hG⟩:∃bs,bs=Bs.drop at':=⟨_,rfl⟩
 rw[← hu,←hG]
 have hP:Bs.length=8*s.size:=by rw[hu,aA];rfl
 have HA:bs.length=8*s.size - at':=by rw[hG,List.length_drop,hP]
 have hF:an bs:=by rw[hG,hu];exact(aM _).drop _
 have hE:an Bs:=by rw[hu];exact aM _
 have HF:=aa hg
 have hM:=aa HB
 have hB:=aa HA
 have HG:=aa hG
 have hL:=aa hu
 have he:=aa hF
 have HE:=aa hE
 have hC:=aa hP
 have HR:=aa hR
 have HT:=aa hT
 have HP:Hid (∀ (x:Nx) (w':World),fg l bs=x→(∀ i,x=.hit i→IsR p w' p s (at'+l.getD i 0))→ak p [p] [] w w'→Az w p s at' l (fg l bs) (.returned (.tuple #[.int .i64 (nxV x).1,.int .i64 (nxV x).2])) w'):=aa fun x w' h h2 h3=>⟨by rw[h],by rw[h];exact h2,h3⟩
 generalize Az w p s at' l (fg l bs)=PO at*
 clear hT hR hX HC hl hg HB hu hG hP HA hF hE
 go_enter Tryz.func192,Tryz.ntmps192
 go_wp2_with fail
 go_loopw [6,7] (fun cv kv wx=>∃k x:Nat,1≤k∧k≤20∧kv=.int .i64 k∧cv=.int .i64 x∧Hid (k - 1≤bs.length∧x=val (bs.take (k - 1)))∧Hid (sj l bs k)∧Hid (fg l bs=fG l bs (21 - k) k)∧IsR p wx p s (at'+(k - 1))∧fM wx g A n c l∧ak p [p] [] w wx) (fun _ kv _=>22 - (intOf kv).toNat)
 case atStart=>exact⟨1,0,Nat.le_refl _,by omega,rfl,rfl,aa ⟨Nat.zero_le _,by simp[val]⟩,aa (fun k h1 h2=>by omega),aa rfl,HR.out,HT.out,ak.refl _ _ _ _⟩
 case round=>
  obtain⟨k,x,HX,ha,rfl,rfl,hx,h0,hW,hR,hT,hS⟩:=hrel
  have hZ:=aa hR
  have H3:=aa hT
  have hN:=aa hS
  have h8:=hW.out
  rw[show 21 - k=(20 - k)+1 by omega]at h8
  by_cases es:bs.length<k
  ·rw[ph es]at h8
   have hD:=aa (eF p wr p s (at'+(k - 1)) 1 hR hs (by omega) (by have:=hx.out.1;have:=hB.out;omega) (by have:=hx.out.1;have:=hB.out;omega))
   have hr:=aa h8
   clear h8 hW h0 hR hT hS
   go_wp2_with fail
   refine hD.out.mono ?_
   rintro e w3 ⟨rfl,hK,hw⟩
   have hc:=aa (HP.out _ w3 hr.out (fun i h=>by cases h) (hN.out.trans hw))
   clear hK hw
   go_wp2_with fail
   first | exact hc.out | (go_ret2;exact hc.out)
  ·have hD:=aa (gz p wr p s (at'+(k - 1)) 1 hR hs (by omega) (by have:=hB.out;omega))
   obtain⟨b,hb⟩:∃b,b=Bs.getD (at'+(k - 1)) 0:=⟨_,rfl⟩
   have HL:b<2:=by rw[hb];exact oV _ _ HE.out
   have HD:val (((al s.data.toList).drop (at'+(k - 1))).take 1)=b:=by
    have h:=lu Bs (at'+(k - 1)) 0 (by rw[hC.out];have:=hB.out;omega)
    rw[← hL.out]
    rw[Nat.zero_add]at h
    rw[h,hb,Nat.add_zero]
    simp[val]
   rw[HD]at hD
   obtain⟨v,hv⟩:∃v,v=2*x+b:=⟨_,rfl⟩
   have hY:v=val (bs.take k):=by
    have h:=lu Bs at' (k - 1) (by rw[hC.out];have:=hB.out;omega)
    rw[← HG.out,show k - 1+1=k by omega]at h
    rw[h,←hx.out.2,hv,hb]
   have htl:(bs.take k).length=k:=by rw[List.length_take];omega
   have hI:v<2 ^ k:=by
    have h:=eD _ (he.out.take k)
    rw[htl]at h
    rw[hY]
    exact h
   have HZ:v<2097152:=by
    have h3:2 ^ k≤2 ^ 20:=Nat.pow_le_pow_right (by decide) ha
    have h4:(2:Nat) ^ 20=1048576:=by decide
    omega
   have HS:=IS x b (by omega) HL
   rw[← hv]at HS
   have p0:x<2097152:=by omega
   have ht:=aa hY
   have HK:=aa hI
   have hp:=aa es
   have hr:=aa h8
   clear h8 hW HD hv hY htl hI es hb hT hS hR
   go_wp2_with fail
   refine hD.out.mono ?_
   rintro e w3 ⟨rfl,hK,hw⟩
   have H8:=hN.out.trans hw
   have hQ:=H3.out.step hw hZ.out.blk
   have H0:=aa hK
   have hO:=aa H8
   have H4:=aa hQ
   have hA:=aa (yJ w3 g A n c l hQ HF.out v k ha HK.out)
   clear hK hw H8 hQ hD hZ H3 hN
   by_cases eb:v*pw k<jD l
   ·rw[decide_eq_true eb]at hA
    have HH:=aa eb
    clear eb
    go_wp2_with fail
    refine hA.out.mono ?_
    rintro e w5 ⟨rfl,d,rfl⟩
    have H1:Hid (IsR p (w3.drewN d) p s (at'+(k - 1)+1)):=aa (H0.out.drewN d)
    have H5:=aa (H4.out.drewN d)
    have H2:=aa (hO.out.drewN d)
    generalize w3.drewN d=w5 at*
    clear H0 H4 hO hA
    obtain⟨gs,F,B,hz,hk,ho⟩:=H5.out
    have hJ:val (bs.take k)*pw k<jD l:=by rw[← ht.out];exact HH.out
    have hH:=nB HF.out he.out (n:=k) (by have:=hp.out;omega) ha h0.out hJ
    rw[← ht.out]at hH
    obtain⟨f,hf⟩:∃f,f=cd l k 0:=⟨_,rfl⟩
    obtain⟨m,hm⟩:∃m,m=bu l k:=⟨_,rfl⟩
    have q1:=(ac hz (22+k)).trans (lq _ _ _ _ _ k (by omega))
    have q2:=(ac hz (1+k)).trans (uV _ _ _ _ _ k (by omega))
    rw[← hf]at q1 hH
    rw[← hm]at q2
    obtain⟨j,hj⟩:∃j,j=v - f:=⟨_,rfl⟩
    have HW:(v:Int) - (f:Int)=(j:Int):=by omega
    have hV:=rW l k
    rw[hM.out,←hm]at hV
    have HQ:(k:Int)<21:=by omega
    have HN:=aa hr.out
    by_cases ej:j<m
    ·have dj:decide ((j:Int)<(m:Int))=true:=ar (by omega)
     have h7:=JI HF.out (F:=F) (by rw[hM.out];exact ho) (n:=k) (v:=v) (by rw[← hf];exact hH) (by rw[← hf,←hm,←hj];exact ej)
     rw[← hf,←hj,hM.out]at h7
     have q3:=(ac hz (43+k)).trans (lz _ _ _ _ _ k (by omega))
     have q4:=(ac hz 64).trans (vu _ _ _ _ _)
     obtain⟨q,hq⟩:∃q,q=cn l k:=⟨_,rfl⟩
     rw[← hq]at h7 q3
     obtain⟨i,hi⟩:∃i,i=q+j:=⟨_,rfl⟩
     rw[← hi]at h7
     have HM:=h7.1
     have HV:(q:Int)+(j:Int)=(i:Int):=by omega
     have q5:=hk.cell i HM
     obtain⟨y,hy⟩:∃y,y=F i:=⟨_,rfl⟩
     rw[← hy]at q5 h7
     have hh:=HN.out
     have h2:=h7.2
     rw[ht.out]at h2
     rw[wX hp.out h2]at hh
     have h9:=(jb h2).2.1
     have hc:=aa fun d=>HP.out _ (w5.drewN d) hh (fun i' h'=>by
      have e:y=i':=by injection h'
      rw[← e,h9,show at'+k=at'+(k - 1)+1 by omega]
      exact H1.out.drewN d) (H2.out.drewN d)
     have w1':IntKind.i64.wrap (i:Int)=(i:Int):=by rw[IntKind.wrap_i64];omega
     have HU:=aa h9
     clear hz hk ho hJ hH hf hm hj hV h7 hq hi hy hh h2 h9 HP HN hr h0
     go_upto_region 12 with fail
     go_quiet (fail)
     go_wp2_with fail
     first | exact hc.out _ | (go_ret2;exact hc.out _)
    ·have dj:decide ((j:Int)<(m:Int))=false:=ao (by omega)
     have h7:kZ l k v=none:=IB (by rw[← hm,←hf,←hj];omega)
     rw[ht.out]at h7
     have hn:=HN.out
     rw[mD hp.out h7,if_pos hJ]at hn
     have HO:k<20:=by
      rcases Nat.lt_or_ge k 20 with h | h
      ·exact h
      ·exfalso
       obtain⟨i,hi⟩:=(lj HF.out he.out (n:=k) (by have:=hp.out;omega) ha h0.out).2 hJ
       have h5:=(HF.out.one hi.1).2
       have h6:=hi.2.1
       exact ot h7 i (hi.is (by omega))
     have HJ:=aa (h0.out.up h7)
     have HI:=aa hn
     clear hz hk ho hJ hH hf hm hj hV h7 hn HP HN hr h0
     go_wp2_with fail
     go_roundw
     case rel=>
      refine⟨k+1,v,by omega,by omega,by go_num,rfl,aa ⟨by have:=hp.out;omega,by rw[ht.out];rfl⟩,HJ,aa (by rw[HI.out,show 21 - (k+1)=20 - k by omega]),?_,H5.out,H2.out⟩
      rw[show at'+(k+1 - 1)=at'+(k - 1)+1 by omega]
      exact H1.out
     case measure=>simp[intOf];omega
   ·rw[decide_eq_false eb]at hA
    have hn:=hr.out
    have h7:=CH HF.out eb
    rw[ht.out]at h7 eb
    rw[mD hp.out h7,if_neg eb]at hn
    have HN:=aa hn
    clear hn h7 eb
    go_wp2_with fail
    refine hA.out.mono ?_
    rintro e w5 ⟨rfl,d,rfl⟩
    have hc:=aa (HP.out _ (w3.drewN d) HN.out (fun i h=>by cases h) (hO.out.drewN d))
    go_wp2_with fail
    first | exact hc.out | (go_ret2;exact hc.out)
theorem rj(w:World)(T:Array Value)(hs:T.size=65)(h1:T.all (·.oneCell')=true):(storeCells ⟨w.heap.size,0,none⟩ T.toList 0).run Tryz.prog (w.alloc (.cells tb0 178))=.ok () ((w.alloc (.cells tb0 178)).setRow w.heap.size T)∧
 Blk ((w.alloc (.cells tb0 178)).setRow w.heap.size T) w.heap.size 178 T∧Below w.heap.size w ((w.alloc (.cells tb0 178)).setRow w.heap.size T):=by
 refine⟨bV (ag w 178 tb0) (by rw[hs];exact mH.2) (by rw[iJ,hs]) h1,setRow_heap _ _ _ _ _ _ (ag w 178 tb0),?_⟩
 exact below_setRow ((Below.refl _ _).alloc (ah _) _) (ah _) _
theorem Hb(w w2:World)(A:Option Addr)(n c g B:Nat)(l:List Nat)(F:Nat→Nat)(T:Array Value)(hT:T=tb (.slice A n c) (bu l) (fun k=>cd l k 0) (cn l) (.slice (some ⟨g,0,none⟩) n n))(hk:Blk w2 w.heap.size 178 T)(hb:Below w.heap.size w w2)(hr:aB w B g n n F)(hs:dB l F n):fM w2 w.heap.size A n c l:=by
 subst hT
 exact⟨g,F,B,hk,hr.below hb hr.lt.2,hs⟩
theorem Il(s:ByteArray):(al s.data.toList).length=8*s.size:=by
 rw[aA]
 rfl
theorem CP{w:World}{B e n p:Nat}{v:Value}{xs:List Value}{u:TypeId}{ds:Array Value}(h:w.ownsRow B e 1 v n xs)(k:Blk w p u ds)(h0:e≠u):∀j,v.ownBlock=some j→j∉ [p]:=by
 intro j hj hm
 rw[List.mem_singleton]at hm
 subst hm
 obtain⟨c1,f1,e1⟩:=Lib.ownsRow_kind h j hj
 unfold Blk at k
 rw[e1]at k
 simp only[Option.some.injEq,Obj.cells.injEq]at k
 exact h0 k.2.1
theorem wC(w:World)(A:Option Addr)(n c:Nat)(L:List Int)(s:ByteArray)(at' k en:Int)(hL:ZIn w A n L)(hn:n≤maxLen)(hs:s.size≤2000000)(_: -9223372036854775808≤at')(_:at'≤9223372036854775807)(_: -9223372036854775808≤k)(_:k≤9223372036854775807)(_: -9223372036854775808≤en)(_:en≤9223372036854775807):
 Calls Tryz.prog 148 #[.slice A n c,.string s,.int .i64 at',.int .i64 k,.int .i64 en] w (aH w (fz L (al s.data.toList) at' k en)):=by
 have hz:=mH.1
 rw[show tb (.slice none 0 0) (fun _=>0) (fun _=>0) (fun _=>0) (.slice none 0 0)=tb0 from rfl]at hz
 have HC:=aa rj
 have H4:=aa (Il s)
 have HP:Hid (∀ (v:Value) (a:List Nat×Nat×Nat) (w':World),fz L (al s.data.toList) at' k en=a→w'.ownsRow w.heap.size 3 1 v a.1.length (a.1.map iv)→Below w.heap.size w w'→aH w (fz L (al s.data.toList) at' k en) (.returned (.tuple #[v,.int .i64 a.2.1,.int .i64 a.2.2])) w'):=aa fun v a w' h1 h2 h3=>⟨v,by rw[h1],by rw[h1];exact h2,h3⟩
 by_cases h:aY L
 ·have HT:=aa (pp w A n c L hL hn h)
  have hf:fz L (al s.data.toList) at' k en=(if at'<0∨(8*(s.size:Int))<at'∨k<0 then([],0,2)else fQ (nl L) (al s.data.toList) en k.toNat at'.toNat []):=by
   rw[fz,if_pos h,H4.out]
   rfl
  generalize aH w (fz L (al s.data.toList) at' k en)=PO at*
  generalize fz L (al s.data.toList) at' k en=ans at*
  have HO:=aa iJ
  have HZ:=aa hL.1
  have HK:=aa h
  have p3:=aa fun(K F P:Nat→Nat) (s4:Value)=>dQ (.slice A n c) K F P s4
  have HY:=aa Hb
  have hc:=aa hf
  obtain⟨i3,h3,po,ps,pv⟩:=info_parts Tryz.info3
  clear hL h hf
  go_enter Tryz.func148,Tryz.ntmps148
  generalize tb0=Z at*
  go_wp2_with fail
  refine HT.out.mono ?_
  rintro e w2 ⟨g,F,rfl,hE,hG,hb⟩
  obtain⟨T9,hB⟩:∃T9,T9=tb (.slice A n c) (bu (nl L)) (fun k=>cd (nl L) k 0) (cn (nl L)) (.slice (some ⟨g,0,none⟩) n n):=⟨_,rfl⟩
  have H1:T9.size=65:=by rw[hB,p3.out]
  have HJ:T9.all (·.oneCell')=true:=by rw[hB];exact rn _ _ _ _ _ rfl rfl
  obtain⟨HM,hM,hw⟩:=HC.out w2 T9 H1 HJ
  have HF:=HY.out w2 _ A n c g _ _ F T9 hB hM hw hE hG
  have hh:=aa (ap hb hw)
  have p2:=aa HF
  rw[← hB]
  clear hB HJ hM hw HF hE hG hb HT
  go_upto_region 2 with fail
  generalize (w2.alloc (.cells Z 178)).setRow w2.heap.size T9=w3 at*
  generalize w2.heap.size=g2 at*
  clear HM hz
  by_cases hj:at'<0∨(8*(s.size:Int))<at'
  ·have hA:=aa (j8 w3 s at' (by omega) hj)
   have ha:=hc.out
   rw[if_pos (by omega)]at ha
   have h6:=aa (HP.out (.slice none 0 0) _ w3 ha (World.ownsRow_nil _ _ _ _) hh.out)
   clear ha hj
   go_wp2_with fail
   refine hA.out.mono ?_
   rintro e w4 ⟨rfl,rfl⟩
   go_wp2_with fail
   first | exact h6.out | (go_ret3;exact h6.out)
  ·obtain⟨a0,rfl⟩:∃a0:Nat,at'=a0:=⟨at'.toNat,by omega⟩
   have p5:a0≤8*s.size:=by omega
   have hA:=aa (fR w3 s a0 (by omega) (by omega) (by omega))
   by_cases hY:k<0
   ·have dk:decide (k<0)=true:=decide_eq_true hY
    have ha:=hc.out
    rw[if_pos (by omega)]at ha
    have HA:=aa ha
    clear ha hj hc
    go_wp2_with fail
    refine hA.out.mono ?_
    rintro e w4 ⟨rfl,ht⟩
    have hC:Below w3.heap.size w3 w4:=bR ht
    have h6:=aa (HP.out (.slice none 0 0) _ w4 HA.out (World.ownsRow_nil _ _ _ _) (ap hh.out hC))
    clear ht hC
    go_wp2_with fail
    first | exact h6.out | (go_ret3;exact h6.out)
   ·obtain⟨k0,rfl⟩:∃k0:Nat,k=k0:=⟨k.toNat,by omega⟩
    have dk:decide ((k0:Int)<0)=false:=decide_eq_false hY
    have ha:=hc.out
    rw[if_neg (by omega),Int.toNat_natCast,Int.toNat_natCast]at ha
    have HA:=aa ha
    have pf:k0≤9223372036854775807:=by omega
    clear ha hj hc hY
    go_wp2_with fail
    refine hA.out.mono ?_
    rintro e w4 ⟨rfl,ht⟩
    have hC:Below w3.heap.size w3 w4:=bR ht
    have HD:IsR w3.heap.size w4 w3.heap.size s a0:=by rw[ht];exact kp w3 _ (ah _) s a0
    have hD:w3.heap.size<w4.heap.size:=by rw[ht];simp
    have HU:=aa hC
    have H8:=aa HD
    have p0:=aa Cg
    clear ht hC HD hA
    obtain⟨l,hl⟩:∃l,l=nl L:=⟨_,rfl⟩
    rw[← hl]at HA
    have HL:=aa hl
    have hP:Hid (eu l):=aa (by rw[hl];exact fq HK.out)
    obtain⟨bs,hK⟩:∃bs,bs=al s.data.toList:=⟨_,rfl⟩
    rw[← hK]at HA
    have HW:=aa hK
    have HV:Hid (bs.length=8*s.size):=aa (by rw[hK];exact H4.out)
    clear hl hK
    obtain⟨p,hp⟩:∃p,p=w3.heap.size:=⟨_,rfl⟩
    rw[← hp]at H8 hD ⊢
    have ho:=aa hp
    clear hp
    go_wp2_with fail
    go_loopw [16,17,18] (fun lv sv ev wx=>∃(a:Nat) (o:List Nat),a≤8*s.size∧o.length≤k0∧o.length≤a∧Hid (ans=fQ l bs en (k0 - o.length) a o)∧wx.ownsRow p 3 1 lv o.length (o.map iv)∧IsR p wx p s a∧Below w3.heap.size w3 wx∧p<wx.heap.size) (fun lv _ _ wx=>k0 - (match lv with | .slice _ n _=>n | _=>0))
    case atStart=>exact⟨a0, [],p5,Nat.zero_le _,Nat.zero_le _,HA,World.ownsRow_nil _ _ _ _,H8.out,HU.out,hD⟩
    case round=>
     obtain⟨a,o,ha,pn,pl,h7,he,hR,hb,pg⟩:=hrel
     obtain⟨A0,c5,rfl,pk,pj,p4⟩:=aj he
     clear p4
     unfold maxLen at pj
     have hI:=aa he
     have HR:=aa hR
     have HB:=aa hb
     have h5:=aa (p0.out wr g2 p A n c L s a (p2.out.below hb) HZ.out HK.out hR (by omega) ha)
     rw[← HL.out,←HW.out]at h5
     obtain⟨N,hN⟩:∃N,N=o.length:=⟨_,rfl⟩
     have HN:=aa hN
     rw[← hN]at pn pl pk ⊢
     by_cases e:N<k0
     ·have d3:decide ((N:Int)<(k0:Int))=true:=ar (by omega)
      have h0:=h7.out
      rw[← hN,show k0 - N=(k0 - N - 1)+1 by omega,oj]at h0
      cases hx:fg l (bs.drop a)with
      | hit i=>
        rw[hx]at h0 h5
        have hW:=nF 20 1 (show fG l (bs.drop a) 20 1=.hit i from hx)
        have HH:=hW.2.1
        have H0:=hP.out.one HH
        have pb:l.length≤258:=by
         have:=HK.out.2.1
         rw[HL.out,bz]
         exact this
        have HI:a+l.getD i 0≤8*s.size:=by
         have:=hW.1
         rw[List.length_drop,HV.out]at this
         omega
        obtain⟨a2,hJ⟩:∃a2,a2=a+l.getD i 0:=⟨_,rfl⟩
        have hF:ans=if(i:Int)=en then(o++ [i],a2,0)else fQ l bs en (k0 - N - 1) a2 (o++ [i]):=by rw[h0,hJ]
        have h9:=aa hF
        rw[← hJ]at HI
        have pM:a<a2:=by omega
        have q0:i<258:=by omega
        have HQ:=aa hJ
        obtain⟨X,hX⟩:∃X,X=o.map iv:=⟨_,rfl⟩
        rw[← hX,←hN]at hI
        have HX:=aa hX
        clear h0 hF hW HH H0 pb h7 he hb hX hN hJ
        go_wp2_with fail
        refine h5.out.mono ?_
        rintro e w5 ⟨rfl,hv,hi⟩
        have hq:=hv i rfl
        rw[← HQ.out]at hq
        have p1:=aa hq
        have H2:=aa (HB.out.trans (by rw[← ho.out];exact hi.below))
        have hQ:Hid (w5.ownsRow p 3 1 (.slice A0 N c5) N X):=aa (hi.row hI.out (CP hI.out HR.out.blk (by decide)) aq)
        have hZ:p<w5.heap.size:=Nat.lt_of_lt_of_le pg hi.size
        clear hv hq hi hR hx h5
        simp only[nxV]
        go_wp2_with (at_builtin;refine wpList_append_own _ rfl _ _ 36 rfl p 3 i3 (.int .i64 0) 1 8 Tryz.underlying36 h3 po ps pv rfl (by decide) _ _ _ rfl (hQ.out.alloc _) ⟨w5.heap.size,0,none⟩ 1 1 [.int .i64 i] rfl rfl ?c1 ?c2 ?c3 ?c4 ?c5 ?_)
        case c1=>exact bi _ _ _
        case c2=>intro u hu;simp at hu;subst hu;rfl
        case c3=>unfold maxLen;omega
        case c4=>omega
        case c5=>simp;omega
        intro v6 w6 hg h8 _
        have HG:Below w3.heap.size w3 w6:=(H2.out.alloc (by have:=H2.out.size;exact this) _).grown h8 (by simp;have:=ho.out;omega) (fun k hk=>by have:=(hQ.out.lt k hk).1;have:=ho.out;omega)
        have HE:IsR p w6 p s a2:=⟨Nat.le_refl _,og p1.out.blk hQ.out (by decide) h8⟩
        have hH:p<w6.heap.size:=Nat.lt_of_lt_of_le hZ (by have:=h8.size;simp at this;omega)
        obtain⟨A6,c6,rfl,q2,q1,_⟩:=aj hg
        have H5:=aa hg
        have H3:=aa HG
        have hT:=aa HE
        have hV:=aa hH
        clear hg h8 HG HE hH
        by_cases een:(i:Int)=en
        ·have d4:((i:Int)==en)=true:=by rw[een];exact beq_self_eq_true _
         have h4:=h9.out
         rw[if_pos een]at h4
         have c0:w6.cell? ⟨p,0,none⟩=some (.bool true):=ac hT.out.blk 0
         have c2:w6.cell? ⟨p,2,none⟩=some (.int .i64 (a2:Nat)):=ac hT.out.blk 2
         have hO:=aa (lT w6 p (a2:Nat) c0 c2)
         have hy:=HP.out (.slice A6 (N+1) c6) (o++ [i],a2,0) w6 h4 (by
          rw[List.length_append,←HN.out,List.map_append,←HX.out]
          exact World.ownsRow.mono H5.out (by rw[ho.out];exact hh.out.size)) (ap hh.out H3.out)
         have h6:=aa hy
         subst een
         clear h4 c0 c2 hy h9 HP HA
         go_wp2_with fail
         refine hO.out.mono ?_
         rintro e w7 ⟨rfl,rfl⟩
         go_wp2_with fail
         first | exact h6.out | (go_ret3;exact h6.out)
        ·have d4:((i:Int)==en)=false:=by
          rw[beq_eq_false_iff_ne]
          exact een
         have h4:=h9.out
         rw[if_neg een]at h4
         have HS:=aa h4
         clear h4 h9 een
         go_wp2_with fail
         go_roundw
         case rel=>
          refine⟨a2,o++ [i],HI,by rw[List.length_append,←HN.out];show N+1≤k0;omega,by rw[List.length_append,←HN.out];show N+1≤a2;omega,aa ?_,?_,hT.out,H3.out,hV.out⟩
          ·rw[List.length_append,←HN.out,show k0 - (N+ [i].length)=k0 - N - 1 by simp;omega]
           exact HS.out
          ·rw[List.length_append,←HN.out,List.map_append,←HX.out]
           exact H5.out
         case measure=>simp;omega
      | short=>
        rw[hx]at h0 h5
        have h9:=aa h0
        clear h0 hx h7 he hb hR hN
        go_wp2_with fail
        refine h5.out.mono ?_
        rintro e w5 ⟨rfl,hv,hi⟩
        have h6:=aa (HP.out (.slice none 0 0) _ w5 h9.out (World.ownsRow_nil _ _ _ _) (hh.out.trans ((HB.out.trans (by rw[← ho.out];exact hi.below)).mono hh.out.size)))
        clear hv hi h5
        simp only[nxV]
        go_wp2_with fail
        first | exact h6.out | (go_ret3;exact h6.out)
      | code=>
        rw[hx]at h0 h5
        have h9:=aa h0
        clear h0 hx h7 he hb hR hN
        go_wp2_with fail
        refine h5.out.mono ?_
        rintro e w5 ⟨rfl,hv,hi⟩
        have h6:=aa (HP.out (.slice none 0 0) _ w5 h9.out (World.ownsRow_nil _ _ _ _) (hh.out.trans ((HB.out.trans (by rw[← ho.out];exact hi.below)).mono hh.out.size)))
        clear hv hi h5
        simp only[nxV]
        go_wp2_with fail
        first | exact h6.out | (go_ret3;exact h6.out)
     ·have d3:decide ((N:Int)<(k0:Int))=false:=ao (by omega)
      have hr:=h7.out
      rw[← hN,show k0 - N=0 by omega]at hr
      have hm:ans=(o,a,0):=hr
      have hy:=HP.out (.slice A0 o.length c5) (o,a,0) wr hm (World.ownsRow.mono hI.out (by rw[ho.out];exact hh.out.size)) (ap hh.out HB.out)
      rw[← hN]at hy
      have h6:=aa hy
      have c0:wr.cell? ⟨p,0,none⟩=some (.bool true):=ac HR.out.blk 0
      have c2:wr.cell? ⟨p,2,none⟩=some (.int .i64 (a:Nat)):=ac HR.out.blk 2
      have hO:=aa (lT wr p (a:Nat) c0 c2)
      clear hr hm hy h7 he hb hR hN c0 c2
      go_wp2_with fail
      refine hO.out.mono ?_
      rintro e w7 ⟨rfl,rfl⟩
      go_wp2_with fail
      first | exact h6.out | (go_ret3;exact h6.out)
 ·have HT:=aa (rE w A n c L hL hn h)
  have hf:fz L (al s.data.toList) at' k en=([],0,80):=by rw[fz,if_neg h]
  generalize aH w (fz L (al s.data.toList) at' k en)=PO at*
  generalize fz L (al s.data.toList) at' k en=ans at*
  have HO:=aa iJ
  have hS:=aa qy
  have hc:=aa hf
  clear hL h hf
  go_enter Tryz.func148,Tryz.ntmps148
  generalize tb0=Z at*
  go_wp2_with fail
  refine HT.out.mono ?_
  rintro e w2 ⟨rfl,hb⟩
  have H1:Z.size=65:=HO.out
  obtain⟨HM,hM,hw⟩:=HC.out w2 Z H1 hS.out
  have h6:=aa (HP.out (.slice none 0 0) _ _ hc.out (World.ownsRow_nil _ _ _ _) (ap hb hw))
  clear hM hw hb HT
  go_wp2_with fail
  first | exact h6.out | (go_ret3;exact h6.out)
theorem wW(w:World)(b off n c s x:Nat)(hs:s<n)(hx:w.cell? ⟨b,off+s,none⟩=some (.int .i64 (x:Nat))):Calls Tryz.prog 132 #[.slice (some ⟨b,off,none⟩) n c,.int .i64 s] w fun e w'=>e=.returned (.int .i64 (x:Nat))∧w'=w:=
 (rU w b off n c s x hs hx).mono fun _ _ h=>⟨h.1,h.2.symm⟩
def G6(w wx:World)(g gc p:Nat)(A:Option Addr)(n c:Nat)(l:List Nat)(v:Value)(o:List Nat):Prop:=
 fM wx g A n c l∧aB wx w.heap.size gc n n (cP l)∧IsW w.heap.size wx p v o∧Blk wx w.heap.size 24 #[.string ⟨#[]⟩,.int .i64 0]∧Below w.heap.size w wx
theorem gK(w:World)(A B:Option Addr)(n c m d:Nat)(L list:List Int)(hL:ZIn w A n L)(hn:n≤maxLen)(hB:ZIn w B m list)(qb:m≤d)(hm:m≤2000):Calls Tryz.prog 69 #[.slice A n c,.slice B m d] w (aV w (ly L list)):=by
 have hz:=mH.1
 rw[show tb (.slice none 0 0) (fun _=>0) (fun _=>0) (fun _=>0) (.slice none 0 0)=tb0 from rfl]at hz
 have HZ:=aa rj
 have hw:Below w.heap.size w (w.alloc (.cells #[.string ⟨#[]⟩,.int .i64 0] 24)):=(Below.refl _ _).alloc (ah _) _
 have H8:Blk (w.alloc (.cells #[.string ⟨#[]⟩,.int .i64 0] 24)) w.heap.size 24 #[.string ⟨#[]⟩,.int .i64 0]:=ag w 24 _
 have hY:=aa H8
 have hV:=aa hw
 have HL:=aa hL
 have q4:=aa hB
 by_cases h:aY L
 ·have HT:=aa (pp (w.alloc (.cells #[.string ⟨#[]⟩,.int .i64 0] 24)) A n c L (hL.below hw) hn h)
  have HA:=hL.1
  have hC:=fq h
  have pl:(nl L).length=n:=by rw[bz,HA]
  have HF:=aa hC
  have H0:=aa pl
  have h3:ly L list=(if ∀x∈list,0≤x∧x<(n:Int)then(k7 (nl L) list,0)else([],60)):=by rw[ly,if_pos h,HA]
  have h2:=aa h3
  have HU:=aa hB.1
  have HO:=aa iJ
  have HK:=aa h
  have q7:=aa fun(K F P:Nat→Nat) (s4:Value)=>dQ (.slice A n c) K F P s4
  have q3:=aa Hb
  have HS:=aa AQ
  have h4:(w.alloc (.cells #[.string ⟨#[]⟩,.int .i64 0] 24)).heap.size=w.heap.size+1:=by simp
  have h9:=aa h4
  have q2:=aa (l4 hL h)
  clear hL hB h hw H8 hC pl h3 HA h4
  go_enter Tryz.func69,Tryz.ntmps69
  generalize tb0=Z at*
  go_wp2_with fail
  refine HT.out.mono ?_
  rintro e w2 ⟨g,F,rfl,hG,hH,hb⟩
  have hF:=aL hb hY.out
  have hy:=hV.out.trans (hb.mono (by have:=h9.out;omega))
  generalize w.alloc (.cells #[.string ⟨#[]⟩,.int .i64 0] 24)=w1 at*
  obtain⟨T9,hu⟩:∃T9,T9=tb (.slice A n c) (bu (nl L)) (fun k=>cd (nl L) k 0) (cn (nl L)) (.slice (some ⟨g,0,none⟩) n n):=⟨_,rfl⟩
  have HG:T9.size=65:=by rw[hu,q7.out]
  have ps:T9.all (·.oneCell')=true:=by rw[hu];exact rn _ _ _ _ _ rfl rfl
  obtain⟨HI,hQ,h7⟩:=HZ.out w2 T9 HG ps
  have H4:=q3.out w2 _ A n c g _ _ F T9 hu hQ h7 hG hH
  have h0:=aL h7 hF
  have H3:=ap hy h7
  have HC:=aa (HS.out _ w2.heap.size A n c L H4 (HL.out.below H3) HK.out)
  have hh:=aa H3
  have p0:=aa H4
  have hj:=aa h0
  rw[← hu]
  clear hu ps hQ h7 H4 H3 hG hH hb HT hF hy h0 hY hV
  go_upto_region 4 with fail
  generalize (w2.alloc (.cells Z 178)).setRow w2.heap.size T9=w3 at*
  generalize w2.heap.size=g2 at*
  clear HI hz
  go_wp2_with fail
  refine HC.out.mono ?_
  rintro e w4 ⟨gc,rfl,h8,hI⟩
  have p1:=aa (p0.out.below hI)
  have hl:=aa (aL hI hj.out)
  have HX:=aa (World.ownsRow.mono h8 hh.out.size)
  have hX:=aa (ap hh.out hI)
  clear h8 hI p0 hj hh HC HS
  go_wp2_with fail
  refine(Ca w4).mono ?_
  rintro e w5 ⟨rfl,HM⟩
  have hJ:Below w4.heap.size w4 w5:=bR HM
  have pb:IsW w.heap.size w5 w4.heap.size (.slice none 0 0) []:=by rw[HM];exact l7 w4 _ hX.out.size
  have he:=am hJ
  have pM:Hid (G6 w w5 g2 gc w4.heap.size A n c (nl L) (.slice none 0 0) []):=aa ⟨p1.out.below hJ,he.row HX.out (fun _ _=>aq) aq,pb,he.blk hl.out aq aq,ap hX.out hJ⟩
  generalize nl L=l at*
  generalize ly L list=ans at*
  clear HM hJ pb he p1 hl HX hX
  generalize w4.heap.size=p at*
  go_wp2_with fail
  go_loopw [11,25] (fun s11 x wx=>∃(q:Nat) (v:Value) (o:List Nat),q≤m∧x=.int .i64 q∧Hid (o=k7 l (list.take q))∧Hid (o.length≤20*q)∧Hid (∀ x∈list.take q,0≤x∧x<(n:Int))∧Hid (G6 w wx g2 gc p A n c l v o)) (fun _ x _=>m - (intOf x).toNat)
  case atStart=>exact⟨0,_, [],Nat.zero_le _,rfl,aa rfl,aa (Nat.zero_le _),aa (by simp),pM⟩
  case round=>
   obtain⟨q,v,o,hq,rfl,ho,HE,hf,pg⟩:=hrel
   obtain⟨hT,hR,hW,hK,hB⟩:=pg.out
   have HT:=aa hT
   have HR:=aa hR
   have HW:=aa hW
   have h5:=aa hK
   have HB:=aa hB
   clear pg hT hR hW hK hB
   by_cases e:q<m
   ·have d0:decide ((q:Int)<(m:Int))=true:=ar (by omega)
    obtain⟨b,off,rfl,hc⟩:=q4.out.2 (by omega)
    have hO:=hc q e
    have HJ:=dD list q (by rw[HU.out];exact e)
    obtain⟨x,hx⟩:∃x,x=list.getD q 0:=⟨_,rfl⟩
    rw[← hx]at hO HJ
    have q9:=(HB.out.cell (p:=⟨b,off+q,none⟩) (World.block_lt_of_cell? w _ hO)).trans hO
    have H2:=aa HJ
    obtain⟨gs,F,B2,pj,_,_⟩:=HT.out
    have q0:=(ac pj 0).trans (qk _ _ _ _ _)
    have HH:=aa (IA wr A n c x)
    clear hc hx hO HJ pj
    by_cases e1:0≤x∧x<n
    ·rw[decide_eq_true e1]at HH
     obtain⟨y,rfl⟩:∃y:Nat,x=y:=⟨x.toNat,by omega⟩
     have hg:y<n:=by omega
     obtain⟨ba,oa,hA,hE⟩:=q2.out
     have hP:=hE y hg
     have ha:=HF.out.one (i:=y) (by rw[H0.out];exact hg)
     have hM:=nM HF.out (i:=y) (by rw[H0.out];exact hg)
     have pk:=sI HF.out (i:=y) (by rw[H0.out];exact hg)
     obtain⟨k,hk⟩:∃k,k=l.getD y 0:=⟨_,rfl⟩
     obtain⟨x1,HP⟩:∃x1,x1=cP l y:=⟨_,rfl⟩
     have q1:=(HR.out).cell y hg
     rw[← hk]at ha hM hP
     rw[← HP]at hM pk q1
     have hD:=(HB.out.cell (p:=⟨ba,oa+y,none⟩) (World.block_lt_of_cell? w _ hP)).trans hP
     have wu:IntKind.u64.wrap (x1:Int)=(x1:Int):=by rw[IntKind.wrap_u64];omega
     subst hA
     have hi:Hid (ai x1 k=bf l y):=aa (by rw[hk,HP];rfl)
     have hs:Hid (IsW w.heap.size wr.drew p v o):=aa ⟨HW.out.lo,HW.out.blk,HW.out.row,HW.out.bit⟩
     have qa:k≤20:=ha.2
     have hr:=aa (fC w.heap.size wr.drew p v o x1 k hs.out (by have:=HE.out;omega) (by omega) hM)
     have hp:=aa (wW wr.drew ba oa n c y k hg hD)
     have q0d:wr.drew.cell? ⟨g2,0,none⟩=some (.slice (some ⟨ba,oa,none⟩) n c):=q0
     have q1d:wr.drew.cell? ⟨gc,y,none⟩=some (.int .i64 (x1:Nat)):=q1
     have q0e:({ heap:=wr.heap,tape:=wr.tape,drawn:=wr.drawn+1,os:=wr.os,output:=wr.output }:World).cell? ⟨g2,0,none⟩=some (.slice (some ⟨ba,oa,none⟩) n c):=q0
     have q1e:({ heap:=wr.heap,tape:=wr.tape,drawn:=wr.drawn+1,os:=wr.os,output:=wr.output }:World).cell? ⟨gc,y,none⟩=some (.int .i64 (x1:Nat)):=q1
     have p2:Hid (fM wr.drew g2 (some ⟨ba,oa,none⟩) n c l):=HT
     have HY:Hid (aB wr.drew w.heap.size gc n n (cP l)):=HR
     have hZ:Hid (Blk wr.drew w.heap.size 24 #[.string ⟨#[]⟩,.int .i64 0]):=h5
     have HQ:=aa HB.out.drew
     clear hP hD ha hM hk HP hE pk
     go_upto_region 10 with(go_at_call 131;refine HH.out.mono ?_;rintro e w9 ⟨rfl,rfl⟩)
     go_still_tail 10,(by kernel_rfl)
     still_call (hp.out)
     refine wpStill_nil ?_
     change wpList _ _ _ _ _ wr.drew
     generalize wr.drew=wd at*
     clear q0d q1d q0e q1e q0 q1 HT HR h5 HB HH hp q9 HW
     go_wp2_with fail
     refine hr.out.mono ?_
     rintro e w6 ⟨rfl,v6,pf,ht⟩
     have p5:=p2.out.steps ht hs.out.blk (by decide) (by decide) (by decide) (by decide)
     have p4:=HY.out.step ht hs.out.blk (by decide) (by decide)
     have pn:=p9 hZ.out hs.out.blk (by decide)
     have p3:=ht.blk hZ.out (by simpa using pn) (by decide)
     have hS:Hid (G6 w w6 g2 gc p (some ⟨ba,oa,none⟩) n c l v6 (o++ai x1 k)):=aa ⟨p5,p4,pf,p3,HQ.out.trans ht.below⟩
     clear p5 p4 pn p3 pf ht hr hs p2 HY hZ HQ
     go_wp2_with fail
     go_roundw
     case rel=>
      refine⟨q+1,v6,o++ai x1 k,by omega,by go_num,aa ?_,aa ?_,aa ?_,hS⟩
      ·rw[H2.out,DO,←ho.out,Int.toNat_natCast,hi.out]
      ·have:=HE.out
       rw[List.length_append,af]
       omega
      ·rw[H2.out]
       intro x hx
       rcases List.mem_append.1 hx with hx | hx
       ·exact hf.out x hx
       ·rw[List.mem_singleton.1 hx]
        exact e1
     case measure=>simp[intOf];omega
    ·rw[decide_eq_false e1]at HH
     have po:ans=([],60):=by
      rw[h2.out,if_neg]
      intro H5
      have:x∈list:=by
       have h1:x∈list.take (q+1):=by rw[H2.out];exact List.mem_append_right _ (List.mem_singleton.2 rfl)
       exact List.mem_of_mem_take h1
      exact e1 (H5 x this)
     have q5:=aa po
     have k0:wr.cell? ⟨w.heap.size,0,none⟩=some (.string ⟨#[]⟩):=ac h5.out 0
     have k1:wr.cell? ⟨w.heap.size,1,none⟩=some (.int .i64 0):=ac h5.out 1
     have f0:=ae h5.out 0
     have f1:=ae h5.out 1
     clear po e1 h2
     go_wp2_with fail
     refine HH.out.mono ?_
     rintro e w9 ⟨rfl,rfl⟩
     go_wp2_with fail
     refine bodyPost_ret (v:=.tuple #[.agg #[.string ⟨#[]⟩,.int .i64 0],.int .i64 60]) ?_ rfl ?_
     ·simp[results,Tryz.results69,go_sem,k0,k1]
     ·rw[q5.out]
      exact⟨rfl,(HB.out.setCell (p:=⟨w.heap.size,0,none⟩) (ah _) _).setCell (p:=⟨w.heap.size,1,none⟩) (ah _) _⟩
   ·obtain rfl:q=m:=by omega
    have d0:decide ((q:Int)<(q:Int))=false:=ao (by omega)
    have htl:list.take q=list:=List.take_of_length_le (Nat.le_of_eq HU.out)
    have hv:=hf.out
    have HD:=ho.out
    rw[htl]at hv HD
    have h6:ans=(o,0):=by rw[h2.out,if_pos hv,HD]
    have pv:=aa h6
    have k0:wr.cell? ⟨w.heap.size,0,none⟩=some (.string ⟨#[]⟩):=ac h5.out 0
    have k1:wr.cell? ⟨w.heap.size,1,none⟩=some (.int .i64 0):=ac h5.out 1
    have f0:=ae h5.out 0
    have f1:=ae h5.out 1
    have c0:wr.cell? ⟨p,0,none⟩=some (.bool true):=ac HW.out.blk 0
    have c2:wr.cell? ⟨p,2,none⟩=some (.int .i64 (o.length:Nat)):=ac HW.out.blk 2
    have q8:=aa (iz w.heap.size wr p v o HW.out)
    have HV:=aa (jR wr p (o.length:Nat) c0 c2)
    obtain⟨N,hN⟩:∃N,N=o.length:=⟨_,rfl⟩
    rw[← hN]at HV
    have HN:=aa hN
    clear htl hv HD h6 hN c0 c2 h2 ho hf HE HT HR HW
    go_wp2_with fail
    refine q8.out.mono ?_
    rintro e w6 ⟨rfl,rfl⟩
    go_wp2_with fail
    refine HV.out.mono ?_
    rintro e w6 ⟨rfl,rfl⟩
    go_wp2_with fail
    refine bodyPost_ret (v:=.tuple #[.agg #[.string ⟨(aK o).toArray⟩,.int .i64 N],.int .i64 0]) ?_ rfl ?_
    ·simp[results,Tryz.results69,go_sem,k0,k1]
    ·rw[pv.out,HN.out]
     exact⟨rfl,(HB.out.setCell (p:=⟨w.heap.size,0,none⟩) (ah _) _).setCell (p:=⟨w.heap.size,1,none⟩) (ah _) _⟩
 ·have HT:=aa (rE (w.alloc (.cells #[.string ⟨#[]⟩,.int .i64 0] 24)) A n c L (hL.below hw) hn h)
  have h3:ly L list=([],80):=by rw[ly,if_neg h]
  have h2:=aa h3
  have HO:=aa iJ
  have H1:=aa qy
  have h4:(w.alloc (.cells #[.string ⟨#[]⟩,.int .i64 0] 24)).heap.size=w.heap.size+1:=by simp
  have h9:=aa h4
  clear hL hB h hw H8 h3 h4
  go_enter Tryz.func69,Tryz.ntmps69
  generalize tb0=Z at*
  go_wp2_with fail
  refine HT.out.mono ?_
  rintro e w2 ⟨rfl,hb⟩
  have hF:=aL hb hY.out
  have hy:=hV.out.trans (hb.mono (by have:=h9.out;omega))
  generalize w.alloc (.cells #[.string ⟨#[]⟩,.int .i64 0] 24)=w1 at*
  have HG:Z.size=65:=HO.out
  obtain⟨HI,hQ,h7⟩:=HZ.out w2 Z HG H1.out
  have h0:=aL h7 hF
  have hh:=aa (ap hy h7)
  have k0:=ac h0 0
  have k1:=ac h0 1
  have f0:=ae h0 0
  have f1:=ae h0 1
  simp only[List.getElem?_toArray,List.getElem?_cons_zero,List.getElem?_cons_succ]at k0 k1
  clear hQ h7 hb HT hF hy h0
  go_upto_region 2 with fail
  generalize (w2.alloc (.cells Z 178)).setRow w2.heap.size Z=w3 at*
  clear HI hz
  go_wp2_with fail
  refine bodyPost_ret (v:=.tuple #[.agg #[.string ⟨#[]⟩,.int .i64 0],.int .i64 80]) ?_ rfl ?_
  ·simp[results,Tryz.results69,go_sem,k0,k1]
  ·rw[h2.out]
   exact⟨rfl,(hh.out.setCell (p:=⟨w.heap.size,0,none⟩) (ah _) _).setCell (p:=⟨w.heap.size,1,none⟩) (ah _) _⟩
end Go.Proofs.YthakcjehhlpjnaaGreat
