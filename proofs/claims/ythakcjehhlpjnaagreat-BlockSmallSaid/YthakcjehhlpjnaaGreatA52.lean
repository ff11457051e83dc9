import Derived.Test.YthakcjehhlpjnaaGreatA51
import Derived.Test.YthakcjehhlpjnaaGreatA47
import Derived.Test.YthakcjehhlpjnaaGreatA41
set_option maxHeartbeats 6400000
set_option maxRecDepth 100000
namespace Go.Proofs.YthakcjehhlpjnaaGreat
open Go.RowKit
theorem n3(a:Nat)(x k:Int)(older:List PanicEntry)(w:World)(ha:w.cell? ⟨a,0,none⟩=some (.int .i64 x))(fa:w.frozen? ⟨a,0,none⟩=false):
 CallsD Tryz.prog 29 #[.pointer (some ⟨a,0,none⟩)] (.panicking ({ v:=.iface 25 (.int .i64 k),recovered:=false } :: older)) w fun e u' w'=>
  e=.returned (.tuple #[])∧u'=.panicking ({ v:=.iface 25 (.int .i64 k),recovered:=true } :: older)∧w'=w.setCell ⟨a,0,none⟩ (.int .i64 k):=by
 have h0:(Instr.typeAssert (Value.iface 25 (.int .i64 k)) 20 25 true).run Tryz.prog w=.ok (.tuple #[.int .i64 k,.bool true]) w:=rfl
 refine callsD_of_wpS Tryz.func29 rfl fun c₀ cs hu=> ?_
 apply wpS_seq
 apply wpS_region
 simp[wpOpsS,go_sem,recoverD,hu,Tryz.ntmps29,Exit.thenS,h0]
 apply wpS_seq
 apply wpS_region
 simp[wpOpsS,go_sem,Exit.thenS]
 refine wpS_cond (t:=true) (by simp[Act.eval,Array.replicate]) ?_
 simp only[if_true]
 refine wpS_of_wp ?_
 rw[show #[Value.pointer (some { block:=a,off:=0 })]++(((((((((Array.replicate 9 undef).setIfInBounds 3 (Value.iface 25 (Value.int IntKind.i64 k))).setIfInBounds 4 (Value.tuple #[Value.int IntKind.i64 k,Value.bool true])).setIfInBounds 2 (Value.tuple #[Value.int IntKind.i64 k,Value.bool true])).setIfInBounds 5 (Value.int IntKind.i64 k)).setIfInBounds 6 (Value.bool true)).setIfInBounds 0 (Value.int IntKind.i64 k)).setIfInBounds 1 (Value.bool true)).setIfInBounds 7 (Value.bool true))=#[Value.pointer (some { block:=a,off:=0 }),Value.int IntKind.i64 k,Value.bool true,Value.tuple #[Value.int IntKind.i64 k,Value.bool true],Value.iface 25 (Value.int IntKind.i64 k),Value.tuple #[Value.int IntKind.i64 k,Value.bool true],Value.int IntKind.i64 k,Value.bool true,Value.bool true,undef]from by simp[Array.replicate]]
 go_wp2_with fail
 simp[bodyPostS,results,Tryz.results29]
theorem vM(a:Nat)(w:World):
 CallsD Tryz.prog 29 #[.pointer (some ⟨a,0,none⟩)] .returning w fun e u' w'=>
  e=.returned (.tuple #[])∧u'=.returning∧w'=w:=by
 have h0:∀wx,(Instr.typeAssert Value.nilIface 20 25 true).run Tryz.prog wx=.ok (.tuple #[.int .i64 0,.bool false]) wx:=fun _=>rfl
 refine callsD_of_wpS Tryz.func29 rfl fun c₀ cs hu=> ?_
 apply wpS_seq
 apply wpS_region
 simp[wpOpsS,go_sem,recoverD,hu,Tryz.ntmps29,Exit.thenS,h0]
 apply wpS_seq
 apply wpS_region
 simp[wpOpsS,go_sem,Exit.thenS]
 refine wpS_cond (t:=false) (by simp[Act.eval,Array.replicate]) ?_
 simp only[Bool.false_eq_true,if_false]
 refine wpS_of_wp (wp_skip ?_)
 cases c₀
 simp_all [bodyPostS,results,Tryz.results29]
theorem y8{w:World}{g b:Nat}{t:TypeId}{cs:Array Value}{x:Value}(h:Blk w g t cs)(h0:g≠b):Blk (w.setCell ⟨b,0,none⟩ x) g t cs:=
 (ai.set (ps:= [b]) (ai.refl 0 [b] [] w) (p:=⟨b,0,none⟩) (Nat.zero_le _) (List.mem_singleton.2 rfl) x).blk h (by simpa using h0) az
theorem IG{w:World}{B b n:Nat}{t:TypeId}{v:Value}{xs:List Value}{x:Value}(h:w.ownsRow B t 1 v n xs)(hb:b<B):(w.setCell ⟨b,0,none⟩ x).ownsRow B t 1 v n xs:=
 (ai.set (ps:= [b]) (ai.refl 0 [b] [] w) (p:=⟨b,0,none⟩) (Nat.zero_le _) (List.mem_singleton.2 rfl) x).row h (fun k hk hm=>by
   have h1:=(World.ownsRow.lt h k hk).1
   have h2:=List.mem_singleton.1 hm
   omega) az
theorem fW{w w':World}{g:Nat}{t:TypeId}{cs:Array Value}(hb:Below w.heap.size w w')(h:Blk w g t cs):Blk w' g t cs:=aM hb h
theorem uj(fn:Fn)(first cap:Array Value)(w:World):(Instr.makeFunc fn first cap).run Tryz.prog w=.ok (.func fn first cap) w:=rfl
theorem Eh(l:List Nat)(q:Int):(bZ l q).1.length≤256∧(bZ l q).2.1.length≤2000000:=by
 unfold bZ
 dsimp only
 split
 ·exact⟨Nat.zero_le _,Nat.zero_le _⟩
 split
 ·exact⟨Nat.zero_le _,Nat.zero_le _⟩
 split
 ·exact⟨Nat.zero_le _,Nat.zero_le _⟩
 ·exact⟨tf _ _,Nat.le_trans (Fg _ _ _ _) (by omega)⟩
theorem Am{l:List Nat}{p:Nat}(h:(b6 l p).2.2=0):p+105≤l.length:=by
 unfold b6 at h
 split at h
 ·cases h
 split at h
 ·cases h
 split at h
 ·cases h
 split at h
 ·cases h
 split at h
 ·cases h
 split at h
 ·cases h
 ·omega
theorem sb{P:Program}{fn:Func}{R:Ending→World→Prop}{tmps:Array Value}{w:World}{v:Value}(h:(results fn tmps).run P w=.ok v w)(hr:R (.returned v) w):bodyPostD P fn R .ret { tmps:=tmps,defers:= [] } w:=⟨v,h,hr⟩
theorem vY{R:Ending→World→Prop}{tmps:Array Value}{w:World}{v:Value}{g:Nat}{x k:Int}(ha:Blk w g 25 #[.int .i64 x])
 (h:(results Tryz.f11 tmps).run Tryz.prog (w.setCell ⟨g,0,none⟩ (.int .i64 k))=.ok v (w.setCell ⟨g,0,none⟩ (.int .i64 k))) (hr:R (.returned v) (w.setCell ⟨g,0,none⟩ (.int .i64 k))):
 bodyPostD Tryz.prog Tryz.f11 R (.panic [{ v:=.iface 25 (.int .i64 k),recovered:=false }]) { tmps:=tmps,defers:= [{ target:=.fn (.func 29) #[.pointer (some ⟨g,0,none⟩)],args:=#[] }] } w:=by
 refine leaves_cons (f:=29) (args:=#[.pointer (some ⟨g,0,none⟩)]) (by simp) (by simp[go_sem]) ?_
 refine(n3 g x k [] w ((ac ha 0).trans rfl) (ae ha 0)).mono ?_
 rintro e u' w' ⟨rfl,rfl,rfl⟩
 exact⟨v,h,hr⟩
theorem lD{R:Ending→World→Prop}{tmps:Array Value}{w:World}{v:Value}{g:Nat}(h:(results Tryz.f11 tmps).run Tryz.prog w=.ok v w)(hr:R (.returned v) w):
 bodyPostD Tryz.prog Tryz.f11 R .ret { tmps:=tmps,defers:= [{ target:=.fn (.func 29) #[.pointer (some ⟨g,0,none⟩)],args:=#[] }] } w:=by
 refine leaves_cons (f:=29) (args:=#[.pointer (some ⟨g,0,none⟩)]) (by simp) (by simp[go_sem]) ?_
 refine(vM g w).mono ?_
 rintro e u' w' ⟨rfl,rfl,rfl⟩
 exact⟨v,h,hr⟩
theorem yY(w:World)(s:ByteArray)(at' most:Int)(hs:s.size≤2000000)(h:at'<0∨8*(s.size:Int)<at'∨most<1∨262144<most):
 Calls Tryz.prog 11 #[.string s,.int .i64 at',.int .i64 most] w fun e w'=>e=.returned (.tuple #[.string ⟨#[]⟩,.int .u32 0,.int .i64 0,.int .i64 2])∧Below w.heap.size w w':=by
 obtain⟨w1,h5⟩:∃w1,w1=w.alloc (.cells #[.int .i64 0] 25):=⟨_,rfl⟩
 have ha:Below w.heap.size w w1:=cn h5
 have hb:Blk w1 w.heap.size 25 #[.int .i64 0]:=fh h5
 have h0:=aa h5
 have h6:=aa ha
 have h3:=aa hb
 clear h5 ha hb
 by_cases h1:at'<0∨8*(s.size:Int)<at'
 ·have HN:=aa (jG w1 s at' (by omega) h1)
  have q1:=(ac h3.out 0).trans (rfl:_=some (Value.int .i64 0))
  have f1:=ae h3.out 0
  have c1:=(ac (ay h3.out 0 (.int .i64 2)) 0).trans (rfl:_=some (Value.int .i64 2))
  clear h
  go_enter_defers Tryz.func11,Tryz.ntmps11
  go_wp2_with fail
  rw[← h0.out]
  clear h0
  refine HN.out.mono ?_
  rintro e w2 ⟨rfl,rfl⟩
  go_wp2_with fail
  refine sb (v:=.tuple #[.string ⟨#[]⟩,.int .u32 0,.int .i64 0,.int .i64 2]) ?_ ⟨rfl,h6.out.setCell (p:=⟨w.heap.size,0,none⟩) (ah _) _⟩
  simp[results,Tryz.results11,go_sem,c1]
 ·have HN:=aa (ft w1 s at' (by omega) (by omega) (by omega))
  obtain⟨w2,h8⟩:∃w2,w2=w1.alloc (.cells #[.bool true,.string s,.int .i64 at'] 126):=⟨_,rfl⟩
  have h7:Below w1.heap.size w1 w2:=cn h8
  have h4:=fW h7 h3.out
  have h9:=aa (ao h6.out h7)
  have q1:=(ac h4 0).trans (rfl:_=some (Value.int .i64 0))
  have f1:=ae h4 0
  have c1:=(ac (ay h4 0 (.int .i64 2)) 0).trans (rfl:_=some (Value.int .i64 2))
  rw[← h8]at HN
  clear h7 h4 h6 h3 h8
  by_cases h2:most<1
  ·have d0:decide (most<1)=true:=decide_eq_true h2
   clear h
   go_enter_defers Tryz.func11,Tryz.ntmps11
   go_wp2_with fail
   rw[← h0.out]
   clear h0
   refine HN.out.mono ?_
   rintro e w2 ⟨rfl,rfl⟩
   go_wp2_with fail
   refine sb (v:=.tuple #[.string ⟨#[]⟩,.int .u32 0,.int .i64 0,.int .i64 2]) ?_ ⟨rfl,h9.out.setCell (p:=⟨w.heap.size,0,none⟩) (ah _) _⟩
   simp[results,Tryz.results11,go_sem,c1]
  ·have d0:decide (most<1)=false:=decide_eq_false h2
   have d1:decide (262144<most)=true:=aC (by omega)
   clear h
   go_enter_defers Tryz.func11,Tryz.ntmps11
   go_wp2_with fail
   rw[← h0.out]
   clear h0
   refine HN.out.mono ?_
   rintro e w2 ⟨rfl,rfl⟩
   go_wp2_with fail
   refine sb (v:=.tuple #[.string ⟨#[]⟩,.int .u32 0,.int .i64 0,.int .i64 2]) ?_ ⟨rfl,h9.out.setCell (p:=⟨w.heap.size,0,none⟩) (ah _) _⟩
   simp[results,Tryz.results11,go_sem,c1]
theorem Bh(w:World)(s:ByteArray)(a0 m0:Nat)(hs:s.size≤2000000)(ha:a0≤8*s.size)(ps:1≤m0)(pv:m0≤262144):
 Calls Tryz.prog 11 #[.string s,.int .i64 a0,.int .i64 m0] w (eu w (gm (ak s.data.toList) a0 m0)):=by
 have q0:=uj
 obtain⟨L,hL⟩:∃L,L=ak s.data.toList:=⟨_,rfl⟩
 have pg:L.length=8*s.size:=by rw[hL];exact ax _
 obtain⟨ans,h2⟩:∃ans,ans=gm L a0 m0:=⟨_,rfl⟩
 have h3:ans=if(b6 L a0).2.2≠0 then([],0,0,(b6 L a0).2.2)else tH L (b6 L a0).1 (b6 L a0).2.1 (a0+105) m0:=by
  rw[h2]
  unfold gm
  rw[if_neg (by rw[pg];omega),Int.toNat_natCast]
 have hY:=aa fun(wx:World) (g p:Nat) (hg:Blk wx g 64 #[.pointer (some ⟨p,0,none⟩)]) (hR:IsR p wx p s a0)=>sJ hg hR hs ha (Nat.le_of_lt (aA hR.blk))
 rw[← hL]at hY
 rw[← hL,←h2]
 have h9:=aa (fun(w1:World) (e:Nat) (h:ans=([],0,0,e)) (hb:Below w.heap.size w w1)=>(show eu w ans (.returned (.tuple #[.string ⟨#[]⟩,.int .u32 0,.int .i64 0,.int .i64 e])) w1 from⟨by rw[h];rfl,hb⟩))
 have H5:=aa (fun(w1:World) (t:List UInt8) (x q:Nat) (h:ans=(t,x,q,0)) (hb:Below w.heap.size w w1)=>(show eu w ans (.returned (.tuple #[.string (S06.fm t),.int .u32 x,.int .i64 q,.int .i64 (0:Nat)])) w1 from⟨by rw[h],hb⟩))
 generalize eu w ans=PO at*
 obtain⟨w1,hS⟩:∃w1,w1=w.alloc (.cells #[.int .i64 0] 25):=⟨_,rfl⟩
 have p5:Below w.heap.size w w1:=cn hS
 have HF:Blk w1 w.heap.size 25 #[.int .i64 0]:=fh hS
 obtain⟨p,hp⟩:∃p,p=w1.heap.size:=⟨_,rfl⟩
 have HN:=aa (ft w1 s a0 (by omega) (by omega) (by omega))
 obtain⟨w2,hT⟩:∃w2,w2=w1.alloc (.cells #[.bool true,.string s,.int .i64 a0] 126):=⟨_,rfl⟩
 have p2:IsR p w2 p s a0:=by rw[hT,hp];exact j5 w1 _ (ah _) s a0
 have H6:Below w1.heap.size w1 w2:=cn hT
 have HS:=aa (fW H6 HF)
 have HI:=aa (ao p5 H6)
 have HW:=aa p2
 have pf:w.heap.size<p:=by rw[hp];exact aA HF
 rw[← hT,←hp]at HN
 have HX:=aa hS
 have HO:=aa pf
 have d0:decide ((m0:Int)<1)=false:=au (by omega)
 have d1:decide (262144<(m0:Int))=false:=au (by omega)
 have h4:=aa h3
 clear hS p5 HF p2 H6 hT hp pf h3 h2
 go_enter_defers Tryz.func11,Tryz.ntmps11
 go_wp2_with fail
 rw[← HX.out]
 clear HX
 refine HN.out.mono ?_
 rintro e w3 ⟨rfl,rfl⟩
 clear HN
 go_wp2_with fail
 refine(zT w3 p).mono ?_
 rintro e w4 ⟨rfl,hU⟩
 obtain⟨gk,HD⟩:∃gk,gk=w3.heap.size:=⟨_,rfl⟩
 have H7:Below w3.heap.size w3 w4:=cn hU
 have hG:Blk w4 gk 64 #[.pointer (some ⟨p,0,none⟩)]:=by rw[hU,HD];exact ag _ _ _
 have p3:IsR p w4 p s a0:=by rw[hU];exact HW.out.alloc _
 have HU:=aa (fW H7 HS.out)
 have HJ:=aa (ao HI.out H7)
 have HT:=aa (hY.out w4 gk p hG p3)
 rw[← HD]
 clear hU HD H7 hG p3 HS HI HW hY
 have pm:=aa fun h:(b6 L a0).2.2=0=>Am h
 generalize b6 L a0=hd at*
 obtain⟨z,R,he⟩:=hd
 have h3:=h4.out
 dsimp only at h3
 clear h4
 go_wp2_with fail
 refine HT.out.mono ?_
 rintro e w5 ⟨hA,hB,hP⟩
 have HE:w.heap.size∉ [p]:=by simp;have:=HO.out;omega
 have hr:=aa (hP.blk HU.out HE az)
 have hV:=aa (HJ.out.trans (hP.below.mono (Nat.le_of_lt HO.out)))
 by_cases e1:he≠0
 ·obtain rfl:=hA e1
  rw[if_pos e1]at h3
  have q5:=(ac hr.out 0).trans (rfl:_=some (Value.int .i64 0))
  have HA:=aa (h9.out (w5.setCell ⟨w.heap.size,0,none⟩ (.int .i64 he)) he h3 (hV.out.setCell (p:=⟨w.heap.size,0,none⟩) (ah _) _))
  have c5:=(ac (ay hr.out 0 (.int .i64 he)) 0).trans (rfl:_=some (Value.int .i64 he))
  clear hA hB hP h3
  go_wp2_with fail
  refine vY (v:=.tuple #[.string ⟨#[]⟩,.int .u32 0,.int .i64 0,.int .i64 he]) hr.out ?_ HA.out
  simp[results,Tryz.results11,go_sem,c5]
 have HC:he=0:=Decidable.not_not.1 e1
 obtain⟨rfl,p4⟩:=hB HC
 rw[if_neg e1,zC]at h3
 obtain⟨w6,hI⟩:∃w6,w6=w5.alloc (.cells #[.int .u32 z,.int .i64 R] 59):=⟨_,rfl⟩
 obtain⟨gh,hN⟩:∃gh,gh=w5.heap.size:=⟨_,rfl⟩
 have H8:Below w5.heap.size w5 w6:=cn hI
 have p1:Blk w6 gh 59 #[.int .u32 z,.int .i64 R]:=by rw[hI,hN];exact ag _ _ _
 have hK:IsR p w6 p s (a0+105):=by rw[hI];exact p4.alloc _
 have hZ:=aa (fW H8 hr.out)
 have HK:=aa (ao hV.out H8)
 have HP:=aa p1
 have H1:=aa (show gh≠w.heap.size from by rw[hN];have:=aA hr.out;omega)
 obtain⟨q,hq⟩:∃q,q=a0+105:=⟨_,rfl⟩
 have pj:q≤8*s.size:=by rw[hq,←pg];exact pm.out HC
 rw[← hq]at hK h3
 have r0:=(ac hK.blk 0).trans (rfl:_=some (Value.bool true))
 have r2:=(ac hK.blk 2).trans (rfl:_=some (Value.int .i64 q))
 have HH:=aa (lK w6 p q r0 r2)
 have H3:=aa (BK w6 s q hs pj)
 rw[← hL]at H3
 have hx:=aa (Eh L (q:Nat))
 generalize bZ L (q:Nat)=y at*
 obtain⟨ul,cl,yq,ye⟩:=y
 dsimp only at h3
 have pl:Hid (cl.length≤2000000):=aa hx.out.2
 have po:Hid (∀ us:ByteArray,us=S06.fm ul→us.size≤256):=aa fun us h=>by rw[h];exact hx.out.1
 have h4:=aa h3
 have HY:=aa hI
 have HM:=aa hN
 clear hA hB hP h3 e1 HC p4 hI hN H8 p1 hK hq pj r0 r2 hr hV HU HJ
 go_upto_region 6 with fail
 rw[← HY.out,←HM.out]
 clear HY HM
 go_wp2_with fail
 refine HH.out.mono ?_
 rintro e w7 ⟨rfl,rfl⟩
 go_wp2_with fail
 refine H3.out.mono ?_
 rintro e w8 ⟨v8,B8,p0,rfl,HG,hM⟩
 dsimp only at HG ⊢
 have HQ:=aa (fW hM HP.out)
 have hJ:=aa (fW hM hZ.out)
 have HL:=aa (ao HK.out hM)
 have HV:=aa HG
 have hF:w.heap.size<B8:=Nat.lt_of_lt_of_le (aA hZ.out) p0
 have f8:=ae hJ.out 0
 have k8:=(ac hJ.out 0).trans (rfl:_=some (Value.int .i64 0))
 obtain⟨w9,ht⟩:∃w9,w9=w8.setCell ⟨w.heap.size,0,none⟩ (.int .i64 ye):=⟨_,rfl⟩
 have HR:=aa (show Blk w9 gh _ _ from by rw[ht];exact y8 HQ.out H1.out)
 have hO:Blk w9 w.heap.size 25 #[.int .i64 ye]:=by rw[ht];exact ay hJ.out 0 _
 have hW:=aa (show Below w.heap.size w w9 from by rw[ht];exact HL.out.setCell (p:=⟨w.heap.size,0,none⟩) (ah _) _)
 have H2:=aa (show w9.ownsRow B8 3 1 v8 cl.length (cl.map iv)from by rw[ht];exact IG HV.out hF)
 have H0:=aa hO
 have HZ:=aa ht
 have k9:=(ac hO 0).trans (rfl:_=some (Value.int .i64 ye))
 have f9:=ae hO 0
 clear hM HG p0 hF HP hZ HK H3 HH ht hO
 go_upto_region 7 with fail
 rw[← HZ.out]
 clear HZ k8 f8 HQ hJ HL HV
 by_cases e2:ye≠0
 ·have dd:=g9 e2
  have h2:=h4.out
  rw[if_pos e2]at h2
  have hk:=ay H0.out 0 (.int .i64 ye)
  have ck:=(ac hk 0).trans (rfl:_=some (Value.int .i64 ye))
  have HA:=aa (h9.out ((w9.setCell ⟨w.heap.size,0,none⟩ (.int .i64 ye)).drew) ye h2 (hW.out.setCell (p:=⟨w.heap.size,0,none⟩) (ah _) _).drew)
  clear h2 h4 hk
  go_wp2_with fail
  go_region
  go_wp2_with fail
  refine lD (v:=.tuple #[.string ⟨#[]⟩,.int .u32 0,.int .i64 0,.int .i64 ye]) ?_ HA.out
  simp[results,Tryz.results11,go_sem,ck]
 have dd:=jX e2
 have h2:=h4.out
 rw[if_neg e2]at h2
 obtain⟨us,hQ⟩:∃us,us=S06.fm ul:=⟨_,rfl⟩
 have pk:us.data.toList=ul:=by rw[hQ];rfl
 obtain⟨A9,c9,rfl,pr,_,_⟩:=aq H2.out
 have hX:=aa (Gr w9 us A9 c9 cl m0 (bR H2.out) pr (pl.out) (po.out us hQ))
 rw[pk]at hX
 rw[← hQ]
 generalize iM ul cl m0=cg at*
 obtain⟨bl,be⟩:=cg
 dsimp only at h2
 have h5:=aa h2
 clear h2 h4 hQ pk e2 H2
 go_wp2_with fail
 refine hX.out.mono ?_
 rintro e w10 ⟨rfl,hi⟩
 dsimp only
 have hy:=aa (fW hi HR.out)
 have hf:=aa (fW hi H0.out)
 have hu:=aa (ao hW.out hi)
 have f10:=ae hf.out 0
 have k10:=(ac hf.out 0).trans (rfl:_=some (Value.int .i64 ye))
 obtain⟨w11,h7⟩:∃w11,w11=w10.setCell ⟨w.heap.size,0,none⟩ (.int .i64 be):=⟨_,rfl⟩
 have hc:=aa (show Blk w11 gh _ _ from by rw[h7];exact y8 hy.out H1.out)
 have hl:Blk w11 w.heap.size 25 #[.int .i64 be]:=by rw[h7];exact ay hf.out 0 _
 have hn:=aa (show Below w.heap.size w w11 from by rw[h7];exact hu.out.setCell (p:=⟨w.heap.size,0,none⟩) (ah _) _)
 have ho:=aa hl
 have hD:=aa h7
 have k11:=(ac hl 0).trans (rfl:_=some (Value.int .i64 be))
 have f11:=ae hl 0
 clear hi HR H0 hW hX k9 f9 h7 hl dd
 go_upto_region 10 with fail
 rw[← hD.out]
 clear hD k10 f10 hy hf hu
 by_cases e3:be≠0
 ·have dd:=g9 e3
  have h2:=h5.out
  rw[if_pos e3]at h2
  have hk:=ay ho.out 0 (.int .i64 be)
  have ck:=(ac hk 0).trans (rfl:_=some (Value.int .i64 be))
  have HA:=aa (h9.out ((w11.setCell ⟨w.heap.size,0,none⟩ (.int .i64 be)).drew) be h2 (hn.out.setCell (p:=⟨w.heap.size,0,none⟩) (ah _) _).drew)
  clear h2 h5 hk
  go_wp2_with fail
  go_region
  go_wp2_with fail
  refine lD (v:=.tuple #[.string ⟨#[]⟩,.int .u32 0,.int .i64 0,.int .i64 be]) ?_ HA.out
  simp[results,Tryz.results11,go_sem,ck]
 have dd:=jX e3
 have h2:=h5.out
 rw[if_neg e3]at h2
 clear h5 e3
 obtain⟨bs,HB⟩:∃bs,bs=S06.fm bl:=⟨_,rfl⟩
 have pb:bs.data.toList=bl:=by rw[HB];rfl
 have H4:=aa (BN w11 z R bs)
 rw[pb]at H4
 rw[← HB]
 have h0:=(ac hc.out 0).trans (rfl:_=some (Value.int .u32 z))
 have h1:=(ac hc.out 1).trans (rfl:_=some (Value.int .i64 R))
 generalize jY bl z R=tg at*
 obtain⟨tl,te⟩:=tg
 dsimp only at h2
 have h6:=aa h2
 clear h2 HB pb
 go_wp2_with fail
 refine H4.out.mono ?_
 rintro e w12 ⟨rfl,hj⟩
 dsimp only
 have hz:=aa (fW hj hc.out)
 have hh:=aa (fW hj ho.out)
 have hv:=aa (ao hn.out hj)
 have f12:=ae hh.out 0
 have k12:=(ac hh.out 0).trans (rfl:_=some (Value.int .i64 be))
 obtain⟨w13,h8⟩:∃w13,w13=w12.setCell ⟨w.heap.size,0,none⟩ (.int .i64 te):=⟨_,rfl⟩
 have hH:Blk w13 gh 59 #[.int .u32 z,.int .i64 R]:=by rw[h8];exact y8 hz.out H1.out
 have hm:Blk w13 w.heap.size 25 #[.int .i64 te]:=by rw[h8];exact ay hh.out 0 _
 have hw:=aa (show Below w.heap.size w w13 from by rw[h8];exact hv.out.setCell (p:=⟨w.heap.size,0,none⟩) (ah _) _)
 have hC:=aa hm
 have hE:=aa h8
 have k13:=(ac hm 0).trans (rfl:_=some (Value.int .i64 te))
 have f13:=ae hm 0
 have j0:=(ac hH 0).trans (rfl:_=some (Value.int .u32 z))
 clear hj hc ho hn H4 k11 f11 h8 hm dd h0 h1 hH
 go_upto_region 13 with fail
 rw[← hE.out]
 clear hE k12 f12 hz hh hv
 by_cases e4:te≠0
 ·have dd:=g9 e4
  have h2:=h6.out
  rw[if_pos e4]at h2
  have hk:=ay hC.out 0 (.int .i64 te)
  have ck:=(ac hk 0).trans (rfl:_=some (Value.int .i64 te))
  have HA:=aa (h9.out ((w13.setCell ⟨w.heap.size,0,none⟩ (.int .i64 te)).drew) te h2 (hw.out.setCell (p:=⟨w.heap.size,0,none⟩) (ah _) _).drew)
  clear h2 h6 hk
  go_wp2_with fail
  go_region
  go_wp2_with fail
  refine lD (v:=.tuple #[.string ⟨#[]⟩,.int .u32 0,.int .i64 0,.int .i64 te]) ?_ HA.out
  simp[results,Tryz.results11,go_sem,ck]
 have dd:=jX e4
 have h2:=h6.out
 rw[if_neg e4]at h2
 have hk:=ay hC.out 0 (.int .i64 0)
 have ck:=(ac hk 0).trans (rfl:_=some (Value.int .i64 0))
 have HA:=aa (H5.out ((w13.setCell ⟨w.heap.size,0,none⟩ (.int .i64 0)).drew) tl z yq h2 (hw.out.setCell (p:=⟨w.heap.size,0,none⟩) (ah _) _).drew)
 clear h2 h6 hk
 go_wp2_with fail
 go_region
 go_wp2_with fail
 refine lD (v:=.tuple #[.string (S06.fm tl),.int .u32 z,.int .i64 yq,.int .i64 0]) ?_ HA.out
 simp[results,Tryz.results11,go_sem,ck]
theorem yx(w:World)(s:ByteArray)(at' most:Int)(hs:s.size≤2000000):
 Calls Tryz.prog 11 #[.string s,.int .i64 at',.int .i64 most] w (eu w (gm (ak s.data.toList) at' most)):=by
 by_cases h:at'<0∨8*(s.size:Int)<at'∨most<1∨262144<most
 ·refine(yY w s at' most hs h).mono ?_
  rintro e w' ⟨rfl,hb⟩
  unfold gm
  rw[if_pos (by rw[ax];have:s.data.toList.length=s.size:=rfl;omega)]
  exact⟨rfl,hb⟩
 ·obtain⟨a0,rfl⟩:∃a0:Nat,at'=a0:=⟨at'.toNat,by omega⟩
  obtain⟨m0,rfl⟩:∃m0:Nat,most=m0:=⟨most.toNat,by omega⟩
  exact Bh w s a0 m0 hs (by omega) (by omega) (by omega)
theorem b5{w w':World}{g:Nat}{t:TypeId}{cs:Array Value}(hb:Below w.heap.size w w')(h:Blk w g t cs):Blk w' g t cs:=aM hb h
theorem nN{w:World}{g b:Nat}{t:TypeId}{cs:Array Value}{x y:Value}(h:Blk w g t cs)(h0:g≠b):Blk ((w.setCell ⟨b,0,none⟩ x).setCell ⟨b,1,none⟩ y) g t cs:=
 (ai.set (ps:= [b]) (ai.set (ps:= [b]) (ai.refl 0 [b] [] w) (p:=⟨b,0,none⟩) (Nat.zero_le _) (List.mem_singleton.2 rfl) x) (p:=⟨b,1,none⟩) (Nat.zero_le _) (List.mem_singleton.2 rfl) y).blk h (by simpa using h0) az
theorem Gv{w:World}{B g:Nat}{ls:List (List Nat)}(hg:Blk w g 24 (da ls).toArray)(hB:B≤g)(h0:0<ls.length)(hn:ls.length≤1000000)(hl:∀l∈ls,aw l):Pcs w B (.slice (some ⟨g,0,none⟩) ls.length ls.length) ls:=by
 have h1:(da ls).length=ls.length*2:=by
  unfold da
  clear hg h0 hn hl
  induction ls with
  | nil=>rfl
  | cons x xs ih=>rw[List.flatMap_cons,List.length_append,ih,List.length_cons];simp;omega
 refine⟨⟨by rw[h1],.inr ⟨g,ls.length,_,rfl,hB,hg,Nat.le_refl _,by unfold maxLen;omega,?_,?_⟩⟩,hl⟩
 ·simp[h1]
 ·simp[← h1]
theorem zX(w:World)(s ts cs us ss gs qs:ByteArray)(R z N k2 NG NQ:Nat)(PL LT SH GB CQ:List Nat)(T:List (List Int))(P:List Int)
 (hR:R<16777216) (hz:z<4294967296) (tq:us.size≤256) (tn:(us.size:Int)+2=(k2:Int))
 (tl:aw SH) (pj:aw GB) (pg:aw CQ) (HA:(eG z R++SH++(GB++CQ)).length≤100000000)
 (te:ss=⟨(aG SH).toArray⟩) (hN:N=SH.length) (sx:gs=⟨(aG GB).toArray⟩) (sn:NG=GB.length) (sT:qs=⟨(aG CQ).toArray⟩) (so:NQ=CQ.length)
 (HE:∀wx:World,Calls Tryz.prog 15 #[.string s] wx fun e w'=>e=.returned (.string ts)∧Below wx.heap.size wx w')
 (HF:∀wx:World,Calls Tryz.prog 16 #[.string ts] wx fun e w'=>e=.returned (.tuple #[.string cs,.int .i64 R,.int .i64 0])∧Below wx.heap.size wx w')
 (HU:∀wx:World,Calls Tryz.prog 17 #[.string cs] wx fun e w'=>e=.returned (.string us)∧Below wx.heap.size wx w')
 (HFr:∀wx:World,Calls Tryz.prog 18 #[.string cs,.string us] wx (dB wx (PL,0)))
 (HZ:∀(wx:World) (A:Option Addr) (c:Nat),aT wx A PL.length PL→PL.length≤c→Calls Tryz.prog 19 #[.int .i64 us.size,.slice A PL.length c] wx (dB wx (LT,0)))
 (HBe:∀(wx:World) (A:Option Addr) (c:Nat),aT wx A LT.length LT→LT.length≤c→Calls Tryz.prog 20 #[.slice A LT.length c,.int .i64 k2] wx (dK wx (T,P,0)))
 (HSh:∀wx:World,Calls Tryz.prog 21 #[.string us] wx fun e w'=>e=.returned (.tuple #[.agg #[.string ss,.int .i64 N],.int .i64 0])∧Below wx.heap.size wx w')
 (HB:∀(wx:World) (v:Value),aZ wx v T P→Calls Tryz.prog 22 #[v] wx fun e w'=>e=.returned (.tuple #[.agg #[.string gs,.int .i64 NG],.int .i64 0])∧Below wx.heap.size wx w')
 (HC:∀(wx:World) (v:Value),aZ wx v T P→∀(A:Option Addr) (c:Nat),aT wx A LT.length LT→LT.length≤c→Calls Tryz.prog 23 #[v,.slice A LT.length c] wx fun e w'=>e=.returned (.tuple #[.agg #[.string qs,.int .i64 NQ],.int .i64 0])∧Below wx.heap.size wx w')
 (HS2:∀wx:World,Calls Tryz.prog 14 #[.string s] wx fun e w'=>e=.returned (.int .u32 z)∧Below wx.heap.size wx w'):
 Calls Tryz.prog 9 #[.string s] w (aW w (eG z R++SH++(GB++CQ),0)):=by
 obtain⟨w1,HQ⟩:∃w1,w1=w.alloc (.cells #[.string ⟨#[]⟩,.int .i64 0] 24):=⟨_,rfl⟩
 have ta:Blk w1 w.heap.size 24 #[.string ⟨#[]⟩,.int .i64 0]:=fh HQ
 have st:Below w.heap.size w w1:=cn HQ
 have hu: [eG z R,SH,GB,CQ].flatten=eG z R++SH++(GB++CQ):=by simp
 have hE:∀l∈ [eG z R,SH,GB,CQ],aw l:=by
  intro l hl
  have hh:aw (eG z R):=aw.append (aw.append (aJ _ _) (aJ _ _)) (aJ _ _)
  simp only[List.mem_cons,az,or_false]at hl
  rcases hl with rfl | rfl | rfl | rfl <;>assumption
 obtain⟨hs,q2⟩:∃hs:ByteArray,hs=⟨(aG (eG z R)).toArray⟩:=⟨_,rfl⟩
 have rl:=aa fun wx:World=>yS wx z R hz hR
 rw[← q2]at rl
 have hp:=aa (show(da [eG z R,SH,GB,CQ]).toArray=#[.string hs,.int .i64 105,.string ss,.int .i64 N,.string gs,.int .i64 NG,.string qs,.int .i64 NQ] by
  rw[q2,te,sx,sT,hN,sn,so]
  simp only[da,List.flatMap_cons,List.flatMap_nil,ng]
  rfl)
 have HJ:=aa fun(wx:World) (g:Nat) (hg:Blk wx g 24 #[.string hs,.int .i64 105,.string ss,.int .i64 N,.string gs,.int .i64 NG,.string qs,.int .i64 NQ])=>rz wx 0 _ [eG z R,SH,GB,CQ] (Gv (by rw[hp.out];exact hg) (Nat.zero_le g) (by simp) (by simp) hE) (by simp) (by rw[hu];exact HA)
 rw[hu]at HJ
 obtain⟨M,hM⟩:∃M,M=(eG z R++SH++(GB++CQ)).length:=⟨_,rfl⟩
 obtain⟨J,hJ⟩:∃J:ByteArray,J=⟨(aG (eG z R++SH++(GB++CQ))).toArray⟩:=⟨_,rfl⟩
 have tg:Hid (∀ (wx:World) (g:Nat),Blk wx g 24 #[.string hs,.int .i64 105,.string ss,.int .i64 N,.string gs,.int .i64 NG,.string qs,.int .i64 NQ]→Calls Tryz.prog 24 #[.slice (some ⟨g,0,none⟩) 4 4] wx fun e w'=>e=.returned (.tuple #[.agg #[.string J,.int .i64 M],.int .i64 0])∧Below wx.heap.size wx w'):=aa fun wx g hg=>by
  have h:=HJ.out wx g hg
  unfold nG at h
  rw[← hM,←hJ]at h
  exact h
 have HR:Hid (∀ w',Below w.heap.size w w'→aW w (eG z R++SH++(GB++CQ),0) (.returned (.tuple #[.agg #[.string J,.int .i64 M],.int .i64 0])) w'):=aa fun w' hb=>by
  unfold aW
  rw[← hM,←hJ]
  exact⟨rfl,hb⟩
 generalize aW w (eG z R++SH++(GB++CQ),0)=PO at*
 have r5:=aa HE
 have r6:=aa HF
 have s9:=aa HU
 have hV:=aa HFr
 have sm:=aa HZ
 have hU:=aa HBe
 have pf:=aa HS2
 have H5:=aa HSh
 have q4:=aa HB
 have r3:=aa HC
 have rM:=aa ta
 have q5:=aa st
 have sa:=aa HQ
 clear HE HF HU HFr HZ HBe HS2 HSh HB HC ta st HQ hu hE HJ hM hJ HA q2 te sx sT hN sn so tl pj pg hp
 go_enter Tryz.func9,Tryz.ntmps9
 go_wp2_with fail
 rw[← sa.out]
 clear sa
 refine(r5.out w1).mono ?_
 rintro e w2 ⟨rfl,pk⟩
 have q8:=aa (ao q5.out pk)
 have rO:=aa (b5 pk rM.out)
 clear pk r5 q5 rM
 go_wp2_with fail
 refine(r6.out w2).mono ?_
 rintro e w3 ⟨rfl,pl⟩
 have q9:=aa (ao q8.out pl)
 have rR:=aa (b5 pl rO.out)
 clear pl r6 q8 rO
 go_wp2_with fail
 refine(s9.out w3).mono ?_
 rintro e w4 ⟨rfl,pm⟩
 have ql:=aa (ao q9.out pm)
 have s6:=aa (b5 pm rR.out)
 clear pm s9 q9 rR
 go_wp2_with fail
 refine(hV.out w4).mono ?_
 rintro e w5 ⟨v5,rfl,HO,po⟩
 dsimp only at HO ⊢
 have qm:=aa (ao ql.out po)
 have s7:=aa (b5 po s6.out)
 obtain⟨A5,c5,rfl,tm,_⟩:=aq HO
 have rs:=aa (bR HO)
 clear po hV ql s6 HO
 go_wp2_with fail
 refine(sm.out w5 A5 c5 rs.out tm).mono ?_
 rintro e w6 ⟨v6,rfl,HP,pr⟩
 dsimp only at HP ⊢
 have qo:=aa (ao qm.out pr)
 have s8:=aa (b5 pr s7.out)
 obtain⟨A6,c6,rfl,sv,_⟩:=aq HP
 have HW:=aa (bR HP)
 clear pr sm qm s7 rs HP
 go_wp2_with fail
 refine(hU.out w6 A6 c6 HW.out sv).mono ?_
 rintro e w7 ⟨v7,rfl,HL,HM⟩
 dsimp only at HL ⊢
 obtain⟨A',n',c',B',m',d',rfl,HL⟩:=HL.parts
 obtain⟨w8,q3⟩:∃w8,w8=w7.alloc (.cells #[.slice A' n' c',.slice B' m' d'] 52):=⟨_,rfl⟩
 obtain⟨HN,HK⟩:=wP HL
 rw[← q3]at HN HK
 have r0:=aa (ao qo.out HM)
 have r1:=aa (ao r0.out HK)
 have pb:=aa (b5 HK (b5 HM s8.out))
 have rv:=aa (S05.kp (S05.kp HW.out HM) HK)
 obtain⟨gp,pv⟩:∃gp,gp=w7.heap.size:=⟨_,rfl⟩
 rw[← pv]at HN
 have rb:=aa HN
 have sl:=aa q3
 have r7:=aa pv
 clear HM HK HN HL hU qo r0 s8 HW q3 pv
 go_upto_region 8 with fail
 rw[← sl.out,←r7.out]
 clear sl r7
 go_wp2_with fail
 refine(H5.out w8).mono ?_
 rintro e w9 ⟨rfl,ps⟩
 obtain⟨w10,hx⟩:∃w10,w10=w9.alloc (.cells #[.string ss,.int .i64 N] 24):=⟨_,rfl⟩
 have HD:Below w9.heap.size w9 w10:=cn hx
 have hq:Blk w10 w9.heap.size 24 #[.string ss,.int .i64 N]:=fh hx
 obtain⟨g14,hL⟩:∃g14,g14=w9.heap.size:=⟨_,rfl⟩
 have h5:=ao ps HD
 rw[← hL]at hq
 have hQ:=aa (ao r1.out h5)
 have hG:=aa (b5 h5 pb.out)
 have hZ:=aa (S05.kp rv.out h5)
 have hv:=aa (rb.out.below h5)
 have hB:=aa hq
 have H6:=aa hx
 have hW:=aa hL
 have H1:=aa (show g14≠w.heap.size from by
  have h1:=aA pb.out
  have h2:=ps.size
  omega)
 clear ps HD h5 hq H5 r1 pb rv rb hx hL
 go_upto_region 9 with fail
 rw[← H6.out,←hW.out]
 clear H6 hW
 obtain⟨qa,qb⟩:=hv.out.cells
 have r2:=aa (q4.out w10 _ hv.out.2)
 go_wp2_with fail
 refine r2.out.mono ?_
 rintro e w11 ⟨rfl,hI⟩
 obtain⟨w12,hy⟩:∃w12,w12=w11.alloc (.cells #[.string gs,.int .i64 NG] 24):=⟨_,rfl⟩
 have HG:Below w11.heap.size w11 w12:=cn hy
 have hr:Blk w12 w11.heap.size 24 #[.string gs,.int .i64 NG]:=fh hy
 obtain⟨g16,hO⟩:∃g16,g16=w11.heap.size:=⟨_,rfl⟩
 have h0:=ao hI HG
 rw[← hO]at hr
 have hS:=aa (ao hQ.out h0)
 have hH:=aa (b5 h0 hG.out)
 have H0:=aa (S05.kp hZ.out h0)
 have hF:=aa (hv.out.below h0)
 have hC:=aa (b5 h0 hB.out)
 have hD:=aa hr
 have H7:=aa hy
 have hX:=aa hO
 have H2:=aa (show g16≠w.heap.size from by
  have h1:=aA hG.out
  have h2:=hI.size
  omega)
 clear hI HG h0 hr r2 q4 hQ hG hZ hv hB qa qb hy hO
 go_upto_region 10 with fail
 rw[← H7.out,←hX.out]
 clear H7 hX
 obtain⟨qa,qb⟩:=hF.out.cells
 have r4:=aa (r3.out w12 _ hF.out.2 A6 c6 H0.out sv)
 go_wp2_with fail
 refine r4.out.mono ?_
 rintro e w13 ⟨rfl,hK⟩
 obtain⟨w14,hA⟩:∃w14,w14=w13.alloc (.cells #[.string qs,.int .i64 NQ] 24):=⟨_,rfl⟩
 have HH:Below w13.heap.size w13 w14:=cn hA
 have ht:Blk w14 w13.heap.size 24 #[.string qs,.int .i64 NQ]:=fh hA
 obtain⟨g18,hP⟩:∃g18,g18=w13.heap.size:=⟨_,rfl⟩
 have h4:=ao hK HH
 rw[← hP]at ht
 have hT:=aa (ao hS.out h4)
 have H4:=aa (b5 h4 hH.out)
 have h6:=aa (b5 h4 hC.out)
 have h8:=aa (b5 h4 hD.out)
 have ha:=aa ht
 have H8:=aa hA
 have hY:=aa hP
 have H3:=aa (show g18≠w.heap.size from by
  have h1:=aA hH.out
  have h2:=hK.size
  omega)
 clear hK HH h4 ht r4 r3 hS hH H0 hF hC hD qa qb hA hP
 go_upto_region 11 with fail
 rw[← H8.out,←hY.out]
 clear H8 hY
 have p0:w14.cell? ⟨g14,0,none⟩=some (.string ss):=(ac h6.out 0).trans rfl
 have p1:w14.cell? ⟨g14,1,none⟩=some (.int .i64 N):=(ac h6.out 1).trans rfl
 have p2:w14.cell? ⟨g16,0,none⟩=some (.string gs):=(ac h8.out 0).trans rfl
 have p3:w14.cell? ⟨g16,1,none⟩=some (.int .i64 NG):=(ac h8.out 1).trans rfl
 have p4:w14.cell? ⟨g18,0,none⟩=some (.string qs):=(ac ha.out 0).trans rfl
 have p5:w14.cell? ⟨g18,1,none⟩=some (.int .i64 NQ):=(ac ha.out 1).trans rfl
 have D14:=aa (show Blk w14.drew g14 _ _ from h6.out)
 have D16:=aa (show Blk w14.drew g16 _ _ from h8.out)
 have D18:=aa (show Blk w14.drew g18 _ _ from ha.out)
 have DR:=aa (show Blk w14.drew w.heap.size _ _ from H4.out)
 have DB:=aa hT.out.drew
 clear h6 h8 ha H4 hT
 go_region_held3 (fun w'=>w'.cell? ⟨g14,0,none⟩=some (.string ss)∧w'.cell? ⟨g14,1,none⟩=some (.int .i64 N)∧w'.cell? ⟨g16,0,none⟩=some (.string gs)∧w'.cell? ⟨g16,1,none⟩=some (.int .i64 NG)∧w'.cell? ⟨g18,0,none⟩=some (.string qs)∧w'.cell? ⟨g18,1,none⟩=some (.int .i64 NQ))
  (first | exact⟨p0,p1,p2,p3,p4,p5⟩ | exact⟨s0,s1,s2,s3,s4,s5⟩ | exact⟨t0,t1,t2,t3,t4,t5⟩ | exact⟨u0,u1,u2,u3,u4,u5⟩ | exact⟨(ac (nN h7.out H1.out) 0).trans rfl,(ac (nN h7.out H1.out) 1).trans rfl,(ac (nN h9.out H2.out) 0).trans rfl,(ac (nN h9.out H2.out) 1).trans rfl,(ac (nN hc.out H3.out) 0).trans rfl,(ac (nN hc.out H3.out) 1).trans rfl⟩ | go_keep)
  (first
    | (go_at_call 14;refine(pf.out _).mono ?_;rintro e w15 ⟨rfl,he⟩
       have hi:=aa (b5 he D14.out)
       have hk:=aa (b5 he D16.out)
       have hn:=aa (b5 he D18.out)
       have HX:=aa (b5 he DR.out)
       have HS:=aa (ao DB.out he)
       have s0:w15.cell? ⟨g14,0,none⟩=some (.string ss):=(ac hi.out 0).trans rfl
       have s1:w15.cell? ⟨g14,1,none⟩=some (.int .i64 N):=(ac hi.out 1).trans rfl
       have s2:w15.cell? ⟨g16,0,none⟩=some (.string gs):=(ac hk.out 0).trans rfl
       have s3:w15.cell? ⟨g16,1,none⟩=some (.int .i64 NG):=(ac hk.out 1).trans rfl
       have s4:w15.cell? ⟨g18,0,none⟩=some (.string qs):=(ac hn.out 0).trans rfl
       have s5:w15.cell? ⟨g18,1,none⟩=some (.int .i64 NQ):=(ac hn.out 1).trans rfl
       clear he)
    | (go_at_call 25;refine(rl.out _).mono ?_;rintro e w16 ⟨rfl,hf⟩
       have hj:=aa (b5 hf hi.out)
       have hm:=aa (b5 hf hk.out)
       have ho:=aa (b5 hf hn.out)
       have HY:=aa (b5 hf HX.out)
       have HT:=aa (ao HS.out hf)
       have t0:w16.cell? ⟨g14,0,none⟩=some (.string ss):=(ac hj.out 0).trans rfl
       have t1:w16.cell? ⟨g14,1,none⟩=some (.int .i64 N):=(ac hj.out 1).trans rfl
       have t2:w16.cell? ⟨g16,0,none⟩=some (.string gs):=(ac hm.out 0).trans rfl
       have t3:w16.cell? ⟨g16,1,none⟩=some (.int .i64 NG):=(ac hm.out 1).trans rfl
       have t4:w16.cell? ⟨g18,0,none⟩=some (.string qs):=(ac ho.out 0).trans rfl
       have t5:w16.cell? ⟨g18,1,none⟩=some (.int .i64 NQ):=(ac ho.out 1).trans rfl
       clear hf)
    | (go_at_call 24;refine(tg.out _ w16.heap.size (ag w16 _ _)).mono ?_;rintro e w17 ⟨rfl,HI⟩
       have h3:Below w16.heap.size w16 w17:=((Below.refl _ _).alloc (ah _) _).trans (HI.mono (by simp))
       have h7:=aa (b5 h3 hj.out)
       have h9:=aa (b5 h3 hm.out)
       have hc:=aa (b5 h3 ho.out)
       have hw:=aa (b5 h3 HY.out)
       have HV:=aa (ao HT.out h3)
       have u0:w17.cell? ⟨g14,0,none⟩=some (.string ss):=(ac h7.out 0).trans rfl
       have u1:w17.cell? ⟨g14,1,none⟩=some (.int .i64 N):=(ac h7.out 1).trans rfl
       have u2:w17.cell? ⟨g16,0,none⟩=some (.string gs):=(ac h9.out 0).trans rfl
       have u3:w17.cell? ⟨g16,1,none⟩=some (.int .i64 NG):=(ac h9.out 1).trans rfl
       have u4:w17.cell? ⟨g18,0,none⟩=some (.string qs):=(ac hc.out 0).trans rfl
       have u5:w17.cell? ⟨g18,1,none⟩=some (.int .i64 NQ):=(ac hc.out 1).trans rfl
       have q0:w17.cell? ⟨w.heap.size,0,none⟩=some (.string ⟨#[]⟩):=(ac hw.out 0).trans rfl
       have q1:w17.cell? ⟨w.heap.size,1,none⟩=some (.int .i64 0):=(ac hw.out 1).trans rfl
       have f0:=ae hw.out 0
       have f1:=ae hw.out 1
       clear HI h3))
 go_wp2_with fail
 refine bodyPost_ret (v:=.tuple #[.agg #[.string J,.int .i64 M],.int .i64 0]) ?_ rfl (HR.out _ ((HV.out.setCell (p:=⟨w.heap.size,0,none⟩) (ah _) _).setCell (p:=⟨w.heap.size,1,none⟩) (ah _) _))
 simp[results,Tryz.results9,go_sem,q0,q1]
theorem yF(w:World)(s:ByteArray)(hs:s.size≤9223372036854775807):Calls Tryz.prog 14 #[.string s] w fun e w'=>e=.returned (.int .u32 (S02.cL s.data.toList))∧Below w.heap.size w w':=by
 have h:=S02.tw w s hs
 rw[← S02.qq _ _ (by omega)]at h
 exact h
theorem wT(w:World):Calls Tryz.prog 9 #[.string ⟨#[]⟩] w (aW w ([],2)):=by
 obtain⟨w1,h1⟩:∃w1,w1=w.alloc (.cells #[.string ⟨#[]⟩,.int .i64 0] 24):=⟨_,rfl⟩
 have h7:Blk w1 w.heap.size 24 #[.string ⟨#[]⟩,.int .i64 0]:=fh h1
 have h6:Below w.heap.size w w1:=cn h1
 have HE:Hid (Calls Tryz.prog 15 #[.string ⟨#[]⟩] w1 fun e w'=>e=.returned (.string ⟨#[]⟩)∧Below w1.heap.size w1 w'):=aa (S03.iu w1 ⟨#[]⟩ (by decide))
 have HF:=aa fun wx:World=>S05.DT wx
 have h4:=aa h7
 have h3:=aa h6
 have h5:=aa h1
 clear h7 h6 h1
 go_enter Tryz.func9,Tryz.ntmps9
 go_wp2_with fail
 rw[← h5.out]
 clear h5
 refine HE.out.mono ?_
 rintro e w2 ⟨rfl,h2⟩
 have h0:=b5 h2 h4.out
 have h8:=aa (ao h3.out h2)
 have q0:=(ac h0 0).trans (rfl:_=some (Value.string ⟨#[]⟩))
 have q1:=(ac h0 1).trans (rfl:_=some (Value.int .i64 0))
 have f0:=ae h0 0
 have f1:=ae h0 1
 clear h2 h0 HE h3 h4
 go_wp2_with fail
 refine(HF.out w2).mono ?_
 rintro e w3 ⟨rfl,rfl⟩
 clear HF
 go_wp2_with fail
 refine bodyPost_ret (v:=.tuple #[.agg #[.string ⟨#[]⟩,.int .i64 0],.int .i64 2]) ?_ rfl ⟨rfl,(h8.out.setCell (p:=⟨w.heap.size,0,none⟩) (ah _) _).setCell (p:=⟨w.heap.size,1,none⟩) (ah _) _⟩
 simp[results,Tryz.results9,go_sem,q0,q1]
theorem C5(N:Nat)(S:S05.mq N)(w:World)(s:ByteArray)(h0:0<s.size)(hs:s.size≤200000)(hN:s.size+s.size / 4≤N):Calls Tryz.prog 9 #[.string s] w (aW w (bV s.data.toList)):=by
 have h1:=yZ s.data.toList hs
 obtain⟨sl,h8⟩:∃sl,sl=s.data.toList:=⟨_,rfl⟩
 have h7:sl.length=s.size:=by rw[h8];rfl
 have he:sl≠ []:=by
  intro e
  rw[e]at h7
  simp only[List.length_nil]at h7
  omega
 obtain⟨t,ht⟩:∃t,t=S03.aR sl:=⟨_,rfl⟩
 have htl:t.length≤250000:=by
  have:=S03.fO sl
  rw[ht]
  omega
 have hw:t.length≤N:=by
  have:=S03.fO sl
  rw[ht]
  omega
 have h4:t≠ []:=by rw[ht];exact iU he
 have hx:0<t.length:=List.length_pos_iff.2 h4
 have hO:=ii t h4
 have hu:=rN hO
 have hp:=me hO
 obtain⟨hm,hr,hn⟩:=mp hO
 obtain⟨hM,hE,hq⟩:=ju hO h4 (by omega)
 have hg:=lL hO h4 (by omega) w
 have hf:=nP w hM
 have hj:=u7 h4
 have hl:=yR t
 have h6:=S06.pU t h4
 have ho:aO t=((aO t).1,(aO t).2.1,0):=by
  have h2:(aO t).2.2=0:=hf.2.1
  rw[← h2]
 have h9:bV s.data.toList=(eG (S02.cL sl) (ji t)++S06.cD (S06.ofL t)++((eh (aO t).1 (aO t).2.1).1++(bw (aO t).1 (aO t).2.1 (zL (bH t))).1),0):=by
  rw[← h8]
  unfold bV
  rw[if_neg he,if_neg (by rw[← ht];omega)]
  unfold cw eI eA eG
  rw[← ht]
 have hy:∀(l:List Nat),(zL l).length=l.length:=fun l=>by unfold zL;rw[List.length_map]
 rw[h9]at h1 ⊢
 refine zX w s ⟨t.toArray⟩ ⟨(jg t).toArray⟩ (S06.fm (S06.ofL t)) ⟨(aG (S06.cD (S06.ofL t))).toArray⟩ ⟨(aG (eh (aO t).1 (aO t).2.1).1).toArray⟩ ⟨(aG (bw (aO t).1 (aO t).2.1 (zL (bH t))).1).toArray⟩
  (ji t) (S02.cL sl) (S06.cD (S06.ofL t)).length ((S06.ofL t).length+2) (eh (aO t).1 (aO t).2.1).1.length (bw (aO t).1 (aO t).2.1 (zL (bH t))).1.length
  (db t) (bH t) (S06.cD (S06.ofL t)) (eh (aO t).1 (aO t).2.1).1 (bw (aO t).1 (aO t).2.1 (zL (bH t))).1 (aO t).1 (aO t).2.1
  (by omega) (S02.wa sl) (by show(S06.ofL t).length≤256;omega) (by show((S06.ofL t).length:Int)+2=_;omega) (S06.rP _) (qk _ _) (pn _ _ _) h1 rfl rfl rfl rfl rfl rfl
  ?HE ?HF ?HU ?HFr ?HZ ?HBe ?HSh ?HB ?HC ?HS2
 case HE=>
  intro wx
  have h:=S03.iu wx s (by omega)
  rw[← h8,←ht]at h
  exact h
 case HF=>
  intro wx
  refine(S05.EA N S wx ⟨t.toArray⟩ (by show 0<t.length;omega) (by show t.length≤N;omega) (by show t.length≤262144;omega)).mono ?_
  rintro e w' ⟨L,k,rfl,h3,hk,hh,hb⟩
  have h3:S05.dR t L:=h3
  have e1:=lB h3
  have e2:=ux h3 hk hh
  subst e1
  subst e2
  exact⟨rfl,hb⟩
 case HU=>
  intro wx
  have h:=S06.Ar wx ⟨(jg t).toArray⟩ (by show(jg t).length≤1000000;omega)
  rw[show (⟨(jg t).toArray⟩:ByteArray).data.toList=jg t from rfl,DX]at h
  exact h
 case HFr=>
  intro wx
  refine(S06.yt wx ⟨(jg t).toArray⟩ (S06.fm (S06.ofL t)) (by show(jg t).length≤1000000;omega) (by show(S06.ofL t).length≤1000000;omega)).mono ?_
  rintro e w' ⟨v,L,c,h5,rfl,ha,hb⟩
  have h5:S06.kR (jg t) (S06.ofL t)=(L,c):=h5
  unfold S06.kR at h5
  rw[if_pos h6,hm]at h5
  obtain⟨rfl,rfl⟩:=Prod.mk.inj h5
  exact⟨v,rfl,ha,hb⟩
 case HZ=>
  intro wx A c hi hc
  have h:=S07.Ef wx A (db t).length c (zL (db t)) ((S06.ofL t).length:Nat) (dP hi) hc (by omega)
  rw[Hn hj hl hn]at h
  exact h
 case HBe=>
  intro wx A c hi hc
  have h:=C9 wx A (bH t).length c (zL (bH t)) ((S06.ofL t).length+2) (dP hi) hc (by omega) hM
  rw[show eM (zL (bH t)) (((S06.ofL t).length+2:Nat):Int)=((aO t).1,(aO t).2.1,0)from ho]at h
  exact h
 case HSh=>exact fun wx=>S06.nU wx (S06.fm (S06.ofL t)) (by show(S06.ofL t).length≤1000000;omega) h6
 case HB=>
  intro wx v hv
  have h:=qp wx v _ _ hv
  rw[show eh (aO t).1 (aO t).2.1=((eh (aO t).1 (aO t).2.1).1,0) by rw[oe hg]]at h
  exact h
 case HC=>
  intro wx v hv A c hi hc
  have h:=vF wx v _ _ hv A (bH t).length c (zL (bH t)) (dP hi) hc (by omega)
  rw[show bw (aO t).1 (aO t).2.1 (zL (bH t))=((bw (aO t).1 (aO t).2.1 (zL (bH t))).1,0) by rw[kx hg hM]]at h
  exact h
 case HS2=>
  intro wx
  have h:=yF wx s (by omega)
  rw[← h8]at h
  exact h
theorem vR(N:Nat)(S:S05.mq N)(w:World)(s:ByteArray)(hs:s.size≤200000)(hN:s.size+s.size / 4≤N):Calls Tryz.prog 9 #[.string s] w (aW w (bV s.data.toList)):=by
 by_cases h0:0<s.size
 ·exact C5 N S w s h0 hs hN
 ·have e:s=⟨#[]⟩:=by
   obtain⟨⟨l⟩⟩:=s
   have hl:l= []:=List.eq_nil_of_length_eq_zero (by
    have h1:(⟨⟨l⟩⟩:ByteArray).size=l.length:=rfl
    omega)
   rw[hl]
  rw[e]
  exact wT w
theorem yj(w:World)(s:ByteArray)(hs:s.size≤200000):Calls Tryz.prog 9 #[.string s] w (aW w (bV s.data.toList)):=vR 1000000000 S05.np w s hs (by omega)
end Go.Proofs.YthakcjehhlpjnaaGreat
