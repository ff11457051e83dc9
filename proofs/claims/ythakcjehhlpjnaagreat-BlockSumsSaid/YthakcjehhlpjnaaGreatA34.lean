import Derived.Test.YthakcjehhlpjnaaGreatA33
import Derived.Test.YthakcjehhlpjnaaGreatA11
set_option maxHeartbeats 3200000
set_option maxRecDepth 100000
namespace Go.Proofs.YthakcjehhlpjnaaGreat
open Go.RowKit
def fe(w:World)(g:Nat)(A:Option Addr)(n c:Nat)(l:List Nat):Prop:=∃gs F B,Blk w g 178 (tb (.slice A n c) (bp l) (fun k=>cd l k 0) (b9 l) (.slice (some ⟨gs,0,none⟩) n n))∧aB w B gs n n F∧dh l F n
theorem fe.below{w w':World}{g:Nat}{A:Option Addr}{n c:Nat}{l:List Nat}(h:fe w g A n c l)(hb:Below w.heap.size w w'):fe w' g A n c l:=by
 obtain⟨gs,F,B,h1,h2,h3⟩:=h
 exact⟨gs,F,B,aM hb h1,aB.below h2 hb h2.lt.2,h3⟩
theorem wF(w:World)(g:Nat)(A:Option Addr)(n c:Nat)(l:List Nat)(hT:fe w g A n c l)(h0:fd l)(x k:Nat)(hk:k≤20)(hx:x<2 ^ k):Calls Tryz.prog 220 #[.pointer (some ⟨g,0,none⟩),.int .i64 x,.int .i64 k] w fun e w'=>e=.returned (.bool (decide (x*pw k<jo l)))∧∃d,w'=w.drewN d:=by
 obtain⟨gs,F,B,hb,_,_⟩:=hT
 have q1:=(ac hb (22+20)).trans (lf _ _ _ _ _ 20 (by omega))
 have q2:=(ac hb (1+20)).trans (uO _ _ _ _ _ 20 (by omega))
 have hl:=G6 h0
 have h2:=h0.sum
 obtain⟨a,ha⟩:∃a,a=cd l 20 0:=⟨_,rfl⟩
 obtain⟨b,h4⟩:∃b,b=bp l 20:=⟨_,rfl⟩
 rw[← ha]at q1 hl
 rw[← h4]at q2 hl
 obtain⟨S,hS⟩:∃S,S=jo l:=⟨_,rfl⟩
 rw[← hS]at hl h2 ⊢
 have h8:(a:Int)+(b:Int)=(S:Int):=by omega
 have hw:IntKind.i64.wrap (S:Int)=(S:Int):=by rw[IntKind.wrap_i64];omega
 have h3:x*pw k<1048576:=by
  rw[← x9 hk]
  exact Nat.mul_lt_mul_of_pos_right hx (eU k)
 obtain⟨j,hj⟩:∃j,j=20 - k:=⟨_,rfl⟩
 have h9:(20:Int) - (k:Int)=(j:Int):=by omega
 have h5:pw k=2 ^ j:=by rw[hj];rfl
 rw[h5]at h3 ⊢
 have h6:=aa h3
 clear hb ha h4 hS hl h5 hx h0 h2 hj h3 hk
 go_enter Tryz.func220,Tryz.ntmps220
 go_upto_region 1 with fail
 go_quiet (fail)
 go_wp2_with fail
 have h7:wrap64 ((x:Int)*2 ^ j)=((x*2 ^ j:Nat):Int):=by
  have h1:((x:Int)*2 ^ j)=((x*2 ^ j:Nat):Int):=by
   rw[Int.natCast_mul,Int.natCast_pow]
   rfl
  rw[h1]
  have:=h6.out
  generalize x*2 ^ j=y at*
  unfold wrap64
  omega
 rw[h7]
 have hd:decide (((x*2 ^ j:Nat):Int)<(S:Int))=decide (x*2 ^ j<S):=by
  generalize x*2 ^ j=y
  by_cases h:y<S
  ·rw[decide_eq_true h,aC (by omega)]
  ·rw[decide_eq_false h,au (by omega)]
 rw[hd]
 go_ret
 exact⟨rfl,_,rfl⟩
theorem yh(w:World)(g:Nat)(A:Option Addr)(n c:Nat)(L:List Int)(hT:fe w g A n c (nl L))(hL:ZIn w A n L)(ho:bL L):Calls Tryz.prog 130 #[.pointer (some ⟨g,0,none⟩)] w fun e w'=>∃gc,e=.returned (.slice (some ⟨gc,0,none⟩) n n)∧aB w' w.heap.size gc n n (dw (nl L))∧Below w.heap.size w w':=by
 have hE:=hL.1
 have hO:n≤258:=by have:=ho.2.1;omega
 obtain⟨b,off,rfl,h7⟩:=lJ hL ho
 have h6:=fU ho
 obtain⟨l,hl⟩:∃l,l=nl L:=⟨_,rfl⟩
 have hD:l.length=n:=by rw[hl,bI,hE]
 rw[← hl]at h7 h6 hT ⊢
 obtain⟨gs,F,B,hb,hi,hm⟩:=hT
 have HF:=aa h6
 have h5:=aa hD
 have hv:=aa h7
 have hu:=aa hb
 have hw:=aa hi
 have hc:=aa hm
 have q4:=(ac hb 64).trans (uT _ _ _ _ _)
 have hM:=bq w n (by omega)
 have hI:=aa (a9 w w.heap.size n (ah _) (by omega))
 clear hl ho hL hE h6 hD h7 hb hi hm
 go_enter Tryz.func130,Tryz.ntmps130
 go_upto_region 2 with fail
 have q5:(w.alloc (.cells (madeCells #[.int .i64 0] n) 3)).cell? ⟨g,64,none⟩=some (.slice (some ⟨gs,0,none⟩) n n):=by
  rw[World.cell?_alloc_lt _ _ _ (World.block_lt_of_cell? w _ q4)]
  exact q4
 clear hM
 go_wp2_with fail
 clear q4 q5
 go_loopw [4,5,6,18] (fun s4 s5 s6 x wx=>∃(q:Nat) (G:Nat→Nat),q≤n∧x=.int .i64 q∧Hid (∀ j,j<q→G (F j)=dw l (F j))∧aB wx w.heap.size w.heap.size n n G∧Below w.heap.size w wx) (fun _ _ _ x _=>n - (intOf x).toNat)
 case atStart=>exact⟨0,fun _=>0,Nat.zero_le _,rfl,aa (fun s hs=>by omega),hI.out,(Below.refl _ w).alloc (ah _) _⟩
 case round=>
  obtain⟨q,G,hq,rfl,hG,hr,hz⟩:=hrel
  have HR:=aa hr
  have HB:=aa hz
  by_cases e:q<n
  ·have d0:decide ((q:Int)<(n:Int))=true:=aC (by omega)
   have hB:=hc.out
   rw[← h5.out]at hB
   obtain⟨h4,hF⟩:=hB.get (i:=q) (by rw[h5.out];exact e)
   have h0:=wS h4
   rw[hF]at h0
   have h8:=HF.out.one h4
   have hh:=ra HF.out h4
   have hn:=(hw.out).cell q e
   have hf:=hv.out (F q) (by rw[← h5.out];exact h4)
   rw[h5.out]at h4
   obtain⟨s,hs⟩:∃s,s=F q:=⟨_,rfl⟩
   rw[← hs]at h0 hn hf h4 h8 hh
   obtain⟨k,hk⟩:∃k,k=l.getD s 0:=⟨_,rfl⟩
   rw[← hk]at h0 hf h8
   have q0:=(ac hu.out 0).trans (pR _ _ _ _ _)
   have q1:=(ac hu.out (22+k)).trans (lf _ _ _ _ _ k (by omega))
   have q2:=(ac hu.out (43+k)).trans (lj _ _ _ _ _ k (by omega))
   obtain⟨x1,hC⟩:∃x1,x1=cd l k 0:=⟨_,rfl⟩
   obtain⟨p1,hp⟩:∃p1,p1=b9 l k:=⟨_,rfl⟩
   obtain⟨v1,ht⟩:∃v1,v1=dw l s:=⟨_,rfl⟩
   have hA:=uP l k
   rw[h5.out,←hp]at hA
   rw[← hC]at q1
   rw[← hp]at q2
   rw[← hC,←hp,←ht]at h0
   rw[← ht]at hh
   have qcw:=(HB.out.cell (p:=⟨gs,q,none⟩) (World.block_lt_of_cell? w _ hn)).trans hn
   have qcs:=(HB.out.cell (p:=⟨b,off+s,none⟩) (World.block_lt_of_cell? w _ hf)).trans hf
   have q0':=(HB.out.cell (p:=⟨g,0,none⟩) (World.block_lt_of_cell? w _ q0)).trans q0
   have q1':=(HB.out.cell (p:=⟨g,22+k,none⟩) (World.block_lt_of_cell? w _ q1)).trans q1
   have q2':=(HB.out.cell (p:=⟨g,43+k,none⟩) (World.block_lt_of_cell? w _ q2)).trans q2
   have h9:=aa (rn wr b off n c s k h4 qcs)
   obtain⟨y1,hN⟩:∃y1,y1=x1+q:=⟨_,rfl⟩
   have hQ:(x1:Int)+(q:Int)=(y1:Int):=by omega
   have hP:(y1:Int) - (p1:Int)=(v1:Int):=by omega
   have w1':IntKind.i64.wrap (y1:Int)=(y1:Int):=by rw[IntKind.wrap_i64];omega
   have w2':IntKind.i64.wrap (v1:Int)=(v1:Int):=by rw[IntKind.wrap_i64];omega
   have hK:(k:Int)<21:=by omega
   have HS:=aa hs
   have HV:=aa ht
   have hg:=(HR.out).cell s h4
   have he:=(HR.out).frozen s
   clear hn hf q0 q1 q2 hF hB h0 hC hp hN h8 hk hr hz hs ht qcs
   have t1:({ heap:=wr.heap,tape:=wr.tape,drawn:=wr.drawn+1,os:=wr.os,output:=wr.output }:World).cell? ⟨g,22+k,none⟩=some (.int .i64 (x1:Nat)):=q1'
   have t2:({ heap:=wr.heap,tape:=wr.tape,drawn:=wr.drawn+1,os:=wr.os,output:=wr.output }:World).cell? ⟨g,43+k,none⟩=some (.int .i64 (p1:Nat)):=q2'
   have hx:=aa t1
   have hy:=aa t2
   clear t1 t2 q1' q2'
   go_upto_region 6 with(go_at_call 132;refine h9.out.mono ?_;rintro e w4 ⟨rfl,rfl⟩)
   have t1:=hx.out
   have t2:=hy.out
   have u1:wr.drew.cell? ⟨w.heap.size,s,none⟩=some (.int .i64 (G s:Nat)):=hg
   have u2:wr.drew.frozen? ⟨w.heap.size,s,none⟩=false:=he
   have u3:wr.drew.cell? ⟨g,22+k,none⟩=some (.int .i64 (x1:Nat)):=hx.out
   have u4:wr.drew.cell? ⟨g,43+k,none⟩=some (.int .i64 (p1:Nat)):=hy.out
   have hJ:Hid (aB wr.drew w.heap.size w.heap.size n n G):=HR
   have hH:=aa (HB.out.drew)
   go_still_tail 18,(by kernel_rfl)
   change wpList _ _ _ _ _ wr.drew
   generalize wr.drew=wy at*
   clear t1 t2 u3 u4 hx hy hg he qcw q0' h9
   go_wp2_with fail
   go_roundw
   case rel=>
    refine⟨q+1,fun j=>if j=s then v1 else G j,by omega,by go_num,aa fun j hj=> ?_,hJ.out.set s v1,hH.out.setCell (p:=⟨w.heap.size,s,none⟩) (ah _) _⟩
    show(if F j=s then v1 else G (F j))=dw l (F j)
    by_cases ej:F j=s
    ·rw[if_pos ej,ej,HV.out]
    ·rw[if_neg ej]
     refine hG.out j ?_
     by_cases e2:j=q
     ·exact absurd (by rw[e2,HS.out]) ej
     ·omega
   case measure=>simp[intOf];omega
  ·obtain rfl:q=n:=by omega
   have d0:decide ((q:Int)<(q:Int))=false:=au (by omega)
   have h3:aB wr w.heap.size w.heap.size q q (dw l):=by
    have h:=hr
    unfold aB at h ⊢
    rw[← bJ q G (dw l) fun s hs=>by
     have h1:=hG.out (iP l s) (by rw[← h5.out];exact zR (by rw[h5.out];exact hs))
     have h2:=hc.out s hs
     rw[h2]at h1
     exact h1]
    exact h
   have ha:=aa h3
   clear hr hz h3 hG
   go_wp2_with fail
   go_ret
   exact⟨_,rfl,ha.out,HB.out⟩
theorem Hk(x b:Nat)(hx:x<1073741824)(hb:b<2):bits BinOp.or IntKind.i64 ((x:Int)*2) (b:Int)=((2*x+b:Nat):Int):=by
 have e:(x:Int)*2=((2*x:Nat):Int):=by omega
 rw[e]
 show IntKind.i64.wrap ((BitVec.ofInt 64 ((2*x:Nat):Int) ||| BitVec.ofInt 64 (b:Int)).toNat:Int)=_
 have h:2*x ||| b=2*x+b:=by
  have h:=nat_join 1 (2*x) b (by omega) (by omega)
  exact h
 rw[BitVec.toNat_or,BitVec.ofInt_natCast,BitVec.ofInt_natCast,BitVec.toNat_ofNat,BitVec.toNat_ofNat,Nat.mod_eq_of_lt (show 2*x<2 ^ 64 by omega),Nat.mod_eq_of_lt (show b<2 ^ 64 by omega),h,IntKind.wrap_i64]
 omega
def nxV:Nx→Nat×Nat
 | .hit i=>(i,0)
 | .short=>(0,10)
 | .code=>(0,90)
def yi(w:World)(p:Nat)(s:ByteArray)(at':Nat)(l:List Nat)(x:Nx)(e:Ending)(w':World):Prop:=
 e=.returned (.tuple #[.int .i64 (nxV x).1,.int .i64 (nxV x).2])∧(∀ i,x=.hit i→IsR p w' p s (at'+l.getD i 0))∧ai p [p] [] w w'
theorem oQ{w:World}{g p:Nat}{t u:TypeId}{cs ds:Array Value}(h:Blk w g t cs)(k:Blk w p u ds)(h0:t≠u):g≠p:=by
 rintro rfl
 unfold Blk at h k
 rw[h]at k
 simp only[Option.some.injEq,Obj.cells.injEq]at k
 exact h0 k.2.1
theorem Dk{w:World}{B g c n p:Nat}{f:Nat→Nat}{u:TypeId}{ds:Array Value}(h:aB w B g c n f)(k:Blk w p u ds)(h0:(3:TypeId)≠u):g≠p:=by
 rintro rfl
 rcases h.2 with⟨h1,h2⟩ | ⟨g',cap,cur,hv,hB,hh,r⟩
 ·cases h1
 ·simp only[Value.slice.injEq,Option.some.injEq,Addr.mk.injEq]at hv
  have hg:g'=g:=hv.1.1.symm
  rw[hg]at hh
  unfold Blk at k
  rw[hh]at k
  simp only[Option.some.injEq,Obj.cells.injEq]at k
  exact h0 k.2.1
theorem aB.step{w w':World}{B gs C p k:Nat}{n:Nat}{F:Nat→Nat}{ts:List TypeId}{u:TypeId}{ds:Array Value}(h:aB w B gs k n F)(hs:ai C [p] ts w w')(hp:Blk w p u ds)(h3:(3:TypeId)≠u)(t3:(3:TypeId)∉ts):aB w' B gs k n F:=by
 have n2:=Dk h hp h3
 exact hs.row h (fun k hk=>by
  have e:k=gs:=by simpa [Value.ownBlock]using hk.symm
  rw[e]
  simpa using n2) t3
theorem fe.steps{w w':World}{g p C:Nat}{A:Option Addr}{n c:Nat}{l:List Nat}{ts:List TypeId}{u:TypeId}{ds:Array Value}(h:fe w g A n c l)(hs:ai C [p] ts w w')(hp:Blk w p u ds)(h3:(3:TypeId)≠u)(h0:(178:TypeId)≠u)(t3:(3:TypeId)∉ts)(t57:(178:TypeId)∉ts):fe w' g A n c l:=by
 obtain⟨gs,F,B,h1,h2,h4⟩:=h
 have n1:=oQ h1 hp h0
 exact⟨gs,F,B,hs.blk h1 (by simpa using n1) t57,h2.step hs hp h3 t3,h4⟩
theorem fe.step{w w':World}{g p C:Nat}{A:Option Addr}{n c:Nat}{l:List Nat}{ds:Array Value}(h:fe w g A n c l)(hs:ai C [p] [] w w')(hp:Blk w p 126 ds):fe w' g A n c l:=
 h.steps hs hp (by decide) (by decide) az az
theorem fe.drewN{w:World}{g:Nat}{A:Option Addr}{n c:Nat}{l:List Nat}(h:fe w g A n c l)(d:Nat):fe (w.drewN d) g A n c l:=h
theorem IsR.drewN{B:Nat}{w:World}{p:Nat}{s:ByteArray}{n:Nat}(h:IsR B w p s n)(d:Nat):IsR B (w.drewN d) p s n:=⟨h.lo,h.blk⟩
theorem By(w:World)(g p:Nat)(A:Option Addr)(n c:Nat)(L:List Int)(s:ByteArray)(at':Nat)(hT:fe w g A n c (nl L))(H8:L.length=n)(hW:bL L)(hR:IsR p w p s at')(hs:s.size≤281474976710656)(h7:at'≤8*s.size):
 Calls Tryz.prog 192 #[.pointer (some ⟨g,0,none⟩),.pointer (some ⟨p,0,none⟩)] w (yi w p s at' (nl L) (i1 (nl L) ((ak s.data.toList).drop at'))):=by
 have HV:n≤258:=by have:=hW.2.1;omega
 have hg:=fU hW
 obtain⟨l,hl⟩:∃l,l=nl L:=⟨_,rfl⟩
 have H7:l.length=n:=by rw[hl,bI,H8]
 rw[← hl]at hg hT ⊢
 obtain⟨Bs,hu⟩:∃Bs,Bs=ak s.data.toList:=⟨_,rfl⟩
 obtain⟨bs,hG⟩:∃bs,bs=Bs.drop at':=⟨_,rfl⟩
 rw[← hu,←hG]
 have hP:Bs.length=8*s.size:=by rw[hu,ax];rfl
 have H6:bs.length=8*s.size - at':=by rw[hG,List.length_drop,hP]
 have hF:aw bs:=by rw[hG,hu];exact(aS _).drop _
 have hE:aw Bs:=by rw[hu];exact aS _
 have HF:=aa hg
 have hM:=aa H7
 have hB:=aa H6
 have HC:=aa hG
 have hL:=aa hu
 have he:=aa hF
 have HB:=aa hE
 have hC:=aa hP
 have HR:=aa hR
 have HT:=aa hT
 have HP:Hid (∀ (x:Nx) (w':World),i1 l bs=x→(∀ i,x=.hit i→IsR p w' p s (at'+l.getD i 0))→ai p [p] [] w w'→yi w p s at' l (i1 l bs) (.returned (.tuple #[.int .i64 (nxV x).1,.int .i64 (nxV x).2])) w'):=aa fun x w' h h2 h3=>⟨by rw[h],by rw[h];exact h2,h3⟩
 generalize yi w p s at' l (i1 l bs)=PO at*
 clear hT hR hW H8 hl hg H7 hu hG hP H6 hF hE
 go_enter Tryz.func192,Tryz.ntmps192
 go_wp2_with fail
 go_loopw [6,7] (fun cv kv wx=>∃k x:Nat,1≤k∧k≤20∧kv=.int .i64 k∧cv=.int .i64 x∧Hid (k - 1≤bs.length∧x=val (bs.take (k - 1)))∧Hid (tT l bs k)∧Hid (i1 l bs=fz l bs (21 - k) k)∧IsR p wx p s (at'+(k - 1))∧fe wx g A n c l∧ai p [p] [] w wx) (fun _ kv _=>22 - (intOf kv).toNat)
 case atStart=>exact⟨1,0,Nat.le_refl _,by omega,rfl,rfl,aa ⟨Nat.zero_le _,by simp[val]⟩,aa (fun k h1 h2=>by omega),aa rfl,HR.out,HT.out,ai.refl _ _ _ _⟩
 case round=>
  obtain⟨k,x,HU,ha,rfl,rfl,hx,h0,hV,hR,hT,hS⟩:=hrel
  have hY:=aa hR
  have H2:=aa hT
  have hN:=aa hS
  have h8:=hV.out
  rw[show 21 - k=(20 - k)+1 by omega]at h8
  by_cases es:bs.length<k
  ·rw[xX es]at h8
   have hD:=aa (dY p wr p s (at'+(k - 1)) 1 hR hs (by omega) (by have:=hx.out.1;have:=hB.out;omega) (by have:=hx.out.1;have:=hB.out;omega))
   have hr:=aa h8
   clear h8 hV h0 hR hT hS
   go_wp2_with fail
   refine hD.out.mono ?_
   rintro e w3 ⟨rfl,hK,hw⟩
   have hc:=aa (HP.out _ w3 hr.out (fun i h=>by cases h) (hN.out.trans hw))
   clear hK hw
   go_wp2_with fail
   first | exact hc.out | (go_ret2;exact hc.out)
  ·have hD:=aa (fV p wr p s (at'+(k - 1)) 1 hR hs (by omega) (by have:=hB.out;omega))
   obtain⟨b,hb⟩:∃b,b=Bs.getD (at'+(k - 1)) 0:=⟨_,rfl⟩
   have HI:b<2:=by rw[hb];exact Ia _ _ HB.out
   have HA:val (((ak s.data.toList).drop (at'+(k - 1))).take 1)=b:=by
    have h:=lu Bs (at'+(k - 1)) 0 (by rw[hC.out];have:=hB.out;omega)
    rw[← hL.out]
    rw[Nat.zero_add]at h
    rw[h,hb,Nat.add_zero]
    simp[val]
   rw[HA]at hD
   obtain⟨v,hv⟩:∃v,v=2*x+b:=⟨_,rfl⟩
   have hX:v=val (bs.take k):=by
    have h:=lu Bs at' (k - 1) (by rw[hC.out];have:=hB.out;omega)
    rw[← HC.out,show k - 1+1=k by omega]at h
    rw[h,←hx.out.2,hv,hb]
   have htl:(bs.take k).length=k:=by rw[List.length_take];omega
   have hI:v<2 ^ k:=by
    have h:=iA _ (he.out.take k)
    rw[htl]at h
    rw[hX]
    exact h
   have HW:v<2097152:=by
    have h3:2 ^ k≤2 ^ 20:=Nat.pow_le_pow_right (by decide) ha
    have h4:(2:Nat) ^ 20=1048576:=by decide
    omega
   have HM:=Hk x b (by omega) HI
   rw[← hv]at HM
   have HX:x<2097152:=by omega
   have ht:=aa hX
   have HH:=aa hI
   have hp:=aa es
   have hr:=aa h8
   clear h8 hV HA hv hX htl hI es hb hT hS hR
   go_wp2_with fail
   refine hD.out.mono ?_
   rintro e w3 ⟨rfl,hK,hw⟩
   have H5:=hN.out.trans hw
   have hQ:=H2.out.step hw hY.out.blk
   have hZ:=aa hK
   have hO:=aa H5
   have H3:=aa hQ
   have hA:=aa (wF w3 g A n c l hQ HF.out v k ha HH.out)
   clear hK hw H5 hQ hD hY H2 hN
   by_cases eb:v*pw k<jo l
   ·rw[decide_eq_true eb]at hA
    have HD:=aa eb
    clear eb
    go_wp2_with fail
    refine hA.out.mono ?_
    rintro e w5 ⟨rfl,d,rfl⟩
    have H0:Hid (IsR p (w3.drewN d) p s (at'+(k - 1)+1)):=aa (hZ.out.drewN d)
    have H4:=aa (H3.out.drewN d)
    have H1:=aa (hO.out.drewN d)
    generalize w3.drewN d=w5 at*
    clear hZ H3 hO hA
    obtain⟨gs,F,B,hz,hk,ho⟩:=H4.out
    have hJ:val (bs.take k)*pw k<jo l:=by rw[← ht.out];exact HD.out
    have hH:=rI HF.out he.out (n:=k) (by have:=hp.out;omega) ha h0.out hJ
    rw[← ht.out]at hH
    obtain⟨f,hf⟩:∃f,f=cd l k 0:=⟨_,rfl⟩
    obtain⟨m,hm⟩:∃m,m=bp l k:=⟨_,rfl⟩
    have q1:=(ac hz (22+k)).trans (lf _ _ _ _ _ k (by omega))
    have q2:=(ac hz (1+k)).trans (uO _ _ _ _ _ k (by omega))
    rw[← hf]at q1 hH
    rw[← hm]at q2
    obtain⟨j,hj⟩:∃j,j=v - f:=⟨_,rfl⟩
    have HS:(v:Int) - (f:Int)=(j:Int):=by omega
    have hU:=uF l k
    rw[hM.out,←hm]at hU
    have HL:(k:Int)<21:=by omega
    have HN:=aa hr.out
    by_cases ej:j<m
    ·have dj:decide ((j:Int)<(m:Int))=true:=aC (by omega)
     have h7:=IB HF.out (F:=F) (by rw[hM.out];exact ho) (n:=k) (v:=v) (by rw[← hf];exact hH) (by rw[← hf,←hm,←hj];exact ej)
     rw[← hf,←hj,hM.out]at h7
     have q3:=(ac hz (43+k)).trans (lj _ _ _ _ _ k (by omega))
     have q4:=(ac hz 64).trans (uT _ _ _ _ _)
     obtain⟨q,hq⟩:∃q,q=b9 l k:=⟨_,rfl⟩
     rw[← hq]at h7 q3
     obtain⟨i,hi⟩:∃i,i=q+j:=⟨_,rfl⟩
     rw[← hi]at h7
     have HJ:=h7.1
     have HQ:(q:Int)+(j:Int)=(i:Int):=by omega
     have q5:=hk.cell i HJ
     obtain⟨y,hy⟩:∃y,y=F i:=⟨_,rfl⟩
     rw[← hy]at q5 h7
     have hh:=HN.out
     have h2:=h7.2
     rw[ht.out]at h2
     rw[E7 hp.out h2]at hh
     have h9:=(kh h2).2.1
     have hc:=aa fun d=>HP.out _ (w5.drewN d) hh (fun i' h'=>by
      have e:y=i':=by injection h'
      rw[← e,h9,show at'+k=at'+(k - 1)+1 by omega]
      exact H0.out.drewN d) (H1.out.drewN d)
     have w1':IntKind.i64.wrap (i:Int)=(i:Int):=by rw[IntKind.wrap_i64];omega
     have HO:=aa h9
     clear hz hk ho hJ hH hf hm hj hU h7 hq hi hy hh h2 h9 HP HN hr h0
     go_upto_region 12 with fail
     go_quiet (fail)
     go_wp2_with fail
     first | exact hc.out _ | (go_ret2;exact hc.out _)
    ·have dj:decide ((j:Int)<(m:Int))=false:=au (by omega)
     have h7:lW l k v=none:=Hi (by rw[← hm,←hf,←hj];omega)
     rw[ht.out]at h7
     have hn:=HN.out
     rw[qj hp.out h7,if_pos hJ]at hn
     have HK:k<20:=by
      rcases Nat.lt_or_ge k 20 with h | h
      ·exact h
      ·exfalso
       obtain⟨i,hi⟩:=(o4 HF.out he.out (n:=k) (by have:=hp.out;omega) ha h0.out).2 hJ
       have h5:=(HF.out.one hi.1).2
       have h6:=hi.2.1
       exact om h7 i (hi.is (by omega))
     have HG:=aa (h0.out.up h7)
     have HE:=aa hn
     clear hz hk ho hJ hH hf hm hj hU h7 hn HP HN hr h0
     go_wp2_with fail
     go_roundw
     case rel=>
      refine⟨k+1,v,by omega,by omega,by go_num,rfl,aa ⟨by have:=hp.out;omega,by rw[ht.out];rfl⟩,HG,aa (by rw[HE.out,show 21 - (k+1)=20 - k by omega]),?_,H4.out,H1.out⟩
      rw[show at'+(k+1 - 1)=at'+(k - 1)+1 by omega]
      exact H0.out
     case measure=>simp[intOf];omega
   ·rw[decide_eq_false eb]at hA
    have hn:=hr.out
    have h7:=B9 HF.out eb
    rw[ht.out]at h7 eb
    rw[qj hp.out h7,if_neg eb]at hn
    have HN:=aa hn
    clear hn h7 eb
    go_wp2_with fail
    refine hA.out.mono ?_
    rintro e w5 ⟨rfl,d,rfl⟩
    have hc:=aa (HP.out _ (w3.drewN d) HN.out (fun i h=>by cases h) (hO.out.drewN d))
    go_wp2_with fail
    first | exact hc.out | (go_ret2;exact hc.out)
theorem rj(w:World)(T:Array Value)(hs:T.size=65)(h1:T.all (·.oneCell')=true):(storeCells ⟨w.heap.size,0,none⟩ T.toList 0).run Tryz.prog (w.alloc (.cells tb0 178))=.ok () ((w.alloc (.cells tb0 178)).setRow w.heap.size T)∧
 Blk ((w.alloc (.cells tb0 178)).setRow w.heap.size T) w.heap.size 178 T∧Below w.heap.size w ((w.alloc (.cells tb0 178)).setRow w.heap.size T):=by
 refine⟨bQ (ag w 178 tb0) (by rw[hs];exact mn.2) (by rw[iB,hs]) h1,setRow_heap _ _ _ _ _ _ (ag w 178 tb0),?_⟩
 exact below_setRow ((Below.refl _ _).alloc (ah _) _) (ah _) _
theorem Gq(w w2:World)(A:Option Addr)(n c g B:Nat)(l:List Nat)(F:Nat→Nat)(T:Array Value)(hT:T=tb (.slice A n c) (bp l) (fun k=>cd l k 0) (b9 l) (.slice (some ⟨g,0,none⟩) n n))(hk:Blk w2 w.heap.size 178 T)(hb:Below w.heap.size w w2)(hr:aB w B g n n F)(hs:dh l F n):fe w2 w.heap.size A n c l:=by
 subst hT
 exact⟨g,F,B,hk,hr.below hb hr.lt.2,hs⟩
theorem GV(s:ByteArray):(ak s.data.toList).length=8*s.size:=by
 rw[ax]
 rfl
theorem Ds{w:World}{B e n p:Nat}{v:Value}{xs:List Value}{u:TypeId}{ds:Array Value}(h:w.ownsRow B e 1 v n xs)(k:Blk w p u ds)(h0:e≠u):∀j,v.ownBlock=some j→j∉ [p]:=by
 intro j hj hm
 rw[List.mem_singleton]at hm
 subst hm
 obtain⟨c1,f1,e1⟩:=Lib.ownsRow_kind h j hj
 unfold Blk at k
 rw[e1]at k
 simp only[Option.some.injEq,Obj.cells.injEq]at k
 exact h0 k.2.1
theorem vO(w:World)(A:Option Addr)(n c:Nat)(L:List Int)(s:ByteArray)(at' k en:Int)(hL:ZIn w A n L)(hn:n≤maxLen)(hs:s.size≤2000000)(_: -9223372036854775808≤at')(_:at'≤9223372036854775807)(_: -9223372036854775808≤k)(_:k≤9223372036854775807)(_: -9223372036854775808≤en)(_:en≤9223372036854775807):
 Calls Tryz.prog 148 #[.slice A n c,.string s,.int .i64 at',.int .i64 k,.int .i64 en] w (bu w (eV L (ak s.data.toList) at' k en)):=by
 have hz:=mn.1
 rw[show tb (.slice none 0 0) (fun _=>0) (fun _=>0) (fun _=>0) (.slice none 0 0)=tb0 from rfl]at hz
 have H6:=aa rj
 have H3:=aa (GV s)
 have HP:Hid (∀ (v:Value) (a:List Nat×Nat×Nat) (w':World),eV L (ak s.data.toList) at' k en=a→w'.ownsRow w.heap.size 3 1 v a.1.length (a.1.map iv)→Below w.heap.size w w'→bu w (eV L (ak s.data.toList) at' k en) (.returned (.tuple #[v,.int .i64 a.2.1,.int .i64 a.2.2])) w'):=aa fun v a w' h1 h2 h3=>⟨v,by rw[h1],by rw[h1];exact h2,h3⟩
 by_cases h:bL L
 ·have HT:=aa (pd w A n c L hL hn h)
  have hf:eV L (ak s.data.toList) at' k en=(if at'<0∨(8*(s.size:Int))<at'∨k<0 then([],0,2)else fk (nl L) (ak s.data.toList) en k.toNat at'.toNat []):=by
   rw[eV,if_pos h,H3.out]
   rfl
  generalize bu w (eV L (ak s.data.toList) at' k en)=PO at*
  generalize eV L (ak s.data.toList) at' k en=ans at*
  have HO:=aa iB
  have HV:=aa hL.1
  have HK:=aa h
  have p0:=aa fun(K F P:Nat→Nat) (s4:Value)=>dJ (.slice A n c) K F P s4
  have HU:=aa Gq
  have hc:=aa hf
  obtain⟨i3,h3,pk,pl,pm⟩:=info_parts Tryz.info3
  clear hL h hf
  go_enter Tryz.func148,Tryz.ntmps148
  generalize tb0=Z at*
  go_wp2_with fail
  refine HT.out.mono ?_
  rintro e w2 ⟨g,F,rfl,hE,hG,hb⟩
  obtain⟨T9,hB⟩:∃T9,T9=tb (.slice A n c) (bp (nl L)) (fun k=>cd (nl L) k 0) (b9 (nl L)) (.slice (some ⟨g,0,none⟩) n n):=⟨_,rfl⟩
  have H0:T9.size=65:=by rw[hB,p0.out]
  have HG:T9.all (·.oneCell')=true:=by rw[hB];exact rD _ _ _ _ _ rfl rfl
  obtain⟨HH,hM,hw⟩:=H6.out w2 T9 H0 HG
  have HC:=HU.out w2 _ A n c g _ _ F T9 hB hM hw hE hG
  have hh:=aa (ao hb hw)
  have HZ:=aa HC
  rw[← hB]
  clear hB HG hM hw HC hE hG hb HT
  go_upto_region 2 with fail
  generalize (w2.alloc (.cells Z 178)).setRow w2.heap.size T9=w3 at*
  generalize w2.heap.size=g2 at*
  clear HH hz
  by_cases hj:at'<0∨(8*(s.size:Int))<at'
  ·have hA:=aa (jG w3 s at' (by omega) hj)
   have ha:=hc.out
   rw[if_pos (by omega)]at ha
   have h6:=aa (HP.out (.slice none 0 0) _ w3 ha (World.ownsRow_nil _ _ _ _) hh.out)
   clear ha hj
   go_wp2_with fail
   refine hA.out.mono ?_
   rintro e w4 ⟨rfl,rfl⟩
   go_wp2_with fail
   first | exact h6.out | (go_ret3;exact h6.out)
  ·obtain⟨a0,rfl⟩:∃a0:Nat,at'=a0:=⟨at'.toNat,by omega⟩
   have p2:a0≤8*s.size:=by omega
   have hA:=aa (ft w3 s a0 (by omega) (by omega) (by omega))
   by_cases hW:k<0
   ·have dk:decide (k<0)=true:=decide_eq_true hW
    have ha:=hc.out
    rw[if_pos (by omega)]at ha
    have HA:=aa ha
    clear ha hj hc
    go_wp2_with fail
    refine hA.out.mono ?_
    rintro e w4 ⟨rfl,ht⟩
    have hC:Below w3.heap.size w3 w4:=cn ht
    have h6:=aa (HP.out (.slice none 0 0) _ w4 HA.out (World.ownsRow_nil _ _ _ _) (ao hh.out hC))
    clear ht hC
    go_wp2_with fail
    first | exact h6.out | (go_ret3;exact h6.out)
   ·obtain⟨k0,rfl⟩:∃k0:Nat,k=k0:=⟨k.toNat,by omega⟩
    have dk:decide ((k0:Int)<0)=false:=decide_eq_false hW
    have ha:=hc.out
    rw[if_neg (by omega),Int.toNat_natCast,Int.toNat_natCast]at ha
    have HA:=aa ha
    have p4:k0≤9223372036854775807:=by omega
    clear ha hj hc hW
    go_wp2_with fail
    refine hA.out.mono ?_
    rintro e w4 ⟨rfl,ht⟩
    have hC:Below w3.heap.size w3 w4:=cn ht
    have H7:IsR w3.heap.size w4 w3.heap.size s a0:=by rw[ht];exact j5 w3 _ (ah _) s a0
    have hD:w3.heap.size<w4.heap.size:=by rw[ht];simp
    have HM:=aa hC
    have H5:=aa H7
    have HW:=aa By
    clear ht hC H7 hA
    obtain⟨l,hl⟩:∃l,l=nl L:=⟨_,rfl⟩
    rw[← hl]at HA
    have HL:=aa hl
    have hP:Hid (fd l):=aa (by rw[hl];exact fU HK.out)
    obtain⟨bs,hK⟩:∃bs,bs=ak s.data.toList:=⟨_,rfl⟩
    rw[← hK]at HA
    have HS:=aa hK
    have HQ:Hid (bs.length=8*s.size):=aa (by rw[hK];exact H3.out)
    clear hl hK
    obtain⟨p,hp⟩:∃p,p=w3.heap.size:=⟨_,rfl⟩
    rw[← hp]at H5 hD ⊢
    have ho:=aa hp
    clear hp
    go_wp2_with fail
    go_loopw [16,17,18] (fun lv sv ev wx=>∃(a:Nat) (o:List Nat),a≤8*s.size∧o.length≤k0∧o.length≤a∧Hid (ans=fk l bs en (k0 - o.length) a o)∧wx.ownsRow p 3 1 lv o.length (o.map iv)∧IsR p wx p s a∧Below w3.heap.size w3 wx∧p<wx.heap.size) (fun lv _ _ wx=>k0 - (match lv with | .slice _ n _=>n | _=>0))
    case atStart=>exact⟨a0, [],p2,Nat.zero_le _,Nat.zero_le _,HA,World.ownsRow_nil _ _ _ _,H5.out,HM.out,hD⟩
    case round=>
     obtain⟨a,o,ha,pj,pg,h7,he,hR,hb,p5⟩:=hrel
     obtain⟨A0,c5,rfl,pf,pb,p1⟩:=aq he
     clear p1
     unfold maxLen at pb
     have hI:=aa he
     have HR:=aa hR
     have HB:=aa hb
     have h5:=aa (HW.out wr g2 p A n c L s a (HZ.out.below hb) HV.out HK.out hR (by omega) ha)
     rw[← HL.out,←HS.out]at h5
     obtain⟨N,hN⟩:∃N,N=o.length:=⟨_,rfl⟩
     have HN:=aa hN
     rw[← hN]at pj pg pf ⊢
     by_cases e:N<k0
     ·have d3:decide ((N:Int)<(k0:Int))=true:=aC (by omega)
      have h0:=h7.out
      rw[← hN,show k0 - N=(k0 - N - 1)+1 by omega,oE]at h0
      cases hx:i1 l (bs.drop a)with
      | hit i=>
        rw[hx]at h0 h5
        have hV:=rG 20 1 (show fz l (bs.drop a) 20 1=.hit i from hx)
        have HE:=hV.2.1
        have hZ:=hP.out.one HE
        have p3:l.length≤258:=by
         have:=HK.out.2.1
         rw[HL.out,bI]
         exact this
        have HF:a+l.getD i 0≤8*s.size:=by
         have:=hV.1
         rw[List.length_drop,HQ.out]at this
         omega
        obtain⟨a2,hJ⟩:∃a2,a2=a+l.getD i 0:=⟨_,rfl⟩
        have hF:ans=if(i:Int)=en then(o++ [i],a2,0)else fk l bs en (k0 - N - 1) a2 (o++ [i]):=by rw[h0,hJ]
        have h9:=aa hF
        rw[← hJ]at HF
        have po:a<a2:=by omega
        have pr:i<258:=by omega
        have HI:=aa hJ
        obtain⟨X,hX⟩:∃X,X=o.map iv:=⟨_,rfl⟩
        rw[← hX,←hN]at hI
        have HX:=aa hX
        clear h0 hF hV HE hZ p3 h7 he hb hX hN hJ
        go_wp2_with fail
        refine h5.out.mono ?_
        rintro e w5 ⟨rfl,hv,hi⟩
        have hq:=hv i rfl
        rw[← HI.out]at hq
        have HY:=aa hq
        have H1:=aa (HB.out.trans (by rw[← ho.out];exact hi.below))
        have hQ:Hid (w5.ownsRow p 3 1 (.slice A0 N c5) N X):=aa (hi.row hI.out (Ds hI.out HR.out.blk (by decide)) az)
        have hY:p<w5.heap.size:=Nat.lt_of_lt_of_le p5 hi.size
        clear hv hq hi hR hx h5
        simp only[nxV]
        go_wp2_with (at_builtin;refine wpList_append_own _ rfl _ _ 36 rfl p 3 i3 (.int .i64 0) 1 8 Tryz.underlying36 h3 pk pl pm rfl (by decide) _ _ _ rfl (hQ.out.alloc _) ⟨w5.heap.size,0,none⟩ 1 1 [.int .i64 i] rfl rfl ?c1 ?c2 ?c3 ?c4 ?c5 ?_)
        case c1=>exact cH _ _ _
        case c2=>intro u hu;simp at hu;subst hu;rfl
        case c3=>unfold maxLen;omega
        case c4=>omega
        case c5=>simp;omega
        intro v6 w6 hg h8 _
        have HD:Below w3.heap.size w3 w6:=(H1.out.alloc (by have:=H1.out.size;exact this) _).grown h8 (by simp;have:=ho.out;omega) (fun k hk=>by have:=(hQ.out.lt k hk).1;have:=ho.out;omega)
        have H8:IsR p w6 p s a2:=⟨Nat.le_refl _,nL HY.out.blk hQ.out (by decide) h8⟩
        have hH:p<w6.heap.size:=Nat.lt_of_lt_of_le hY (by have:=h8.size;simp at this;omega)
        obtain⟨A6,c6,rfl,pv,ps,_⟩:=aq hg
        have H4:=aa hg
        have H2:=aa HD
        have hT:=aa H8
        have hU:=aa hH
        clear hg h8 HD H8 hH
        by_cases een:(i:Int)=en
        ·have d4:((i:Int)==en)=true:=by rw[een];exact beq_self_eq_true _
         have h4:=h9.out
         rw[if_pos een]at h4
         have c0:w6.cell? ⟨p,0,none⟩=some (.bool true):=ac hT.out.blk 0
         have c2:w6.cell? ⟨p,2,none⟩=some (.int .i64 (a2:Nat)):=ac hT.out.blk 2
         have hO:=aa (lK w6 p (a2:Nat) c0 c2)
         have hy:=HP.out (.slice A6 (N+1) c6) (o++ [i],a2,0) w6 h4 (by
          rw[List.length_append,←HN.out,List.map_append,←HX.out]
          exact World.ownsRow.mono H4.out (by rw[ho.out];exact hh.out.size)) (ao hh.out H2.out)
         have h6:=aa hy
         subst een
         clear h4 c0 c2 hy h9 HP HA
         go_wp2_with fail
         refine hO.out.mono ?_
         rintro e w7 ⟨rfl,rfl⟩
         go_wp2_with fail
         first | exact h6.out | (go_ret3;exact h6.out)
        ·have d4:((i:Int)==en)=false:=by
          rw[beq_eq_false_iff_ne]
          exact een
         have h4:=h9.out
         rw[if_neg een]at h4
         have HJ:=aa h4
         clear h4 h9 een
         go_wp2_with fail
         go_roundw
         case rel=>
          refine⟨a2,o++ [i],HF,by rw[List.length_append,←HN.out];show N+1≤k0;omega,by rw[List.length_append,←HN.out];show N+1≤a2;omega,aa ?_,?_,hT.out,H2.out,hU.out⟩
          ·rw[List.length_append,←HN.out,show k0 - (N+ [i].length)=k0 - N - 1 by simp;omega]
           exact HJ.out
          ·rw[List.length_append,←HN.out,List.map_append,←HX.out]
           exact H4.out
         case measure=>simp;omega
      | short=>
        rw[hx]at h0 h5
        have h9:=aa h0
        clear h0 hx h7 he hb hR hN
        go_wp2_with fail
        refine h5.out.mono ?_
        rintro e w5 ⟨rfl,hv,hi⟩
        have h6:=aa (HP.out (.slice none 0 0) _ w5 h9.out (World.ownsRow_nil _ _ _ _) (hh.out.trans ((HB.out.trans (by rw[← ho.out];exact hi.below)).mono hh.out.size)))
        clear hv hi h5
        simp only[nxV]
        go_wp2_with fail
        first | exact h6.out | (go_ret3;exact h6.out)
      | code=>
        rw[hx]at h0 h5
        have h9:=aa h0
        clear h0 hx h7 he hb hR hN
        go_wp2_with fail
        refine h5.out.mono ?_
        rintro e w5 ⟨rfl,hv,hi⟩
        have h6:=aa (HP.out (.slice none 0 0) _ w5 h9.out (World.ownsRow_nil _ _ _ _) (hh.out.trans ((HB.out.trans (by rw[← ho.out];exact hi.below)).mono hh.out.size)))
        clear hv hi h5
        simp only[nxV]
        go_wp2_with fail
        first | exact h6.out | (go_ret3;exact h6.out)
     ·have d3:decide ((N:Int)<(k0:Int))=false:=au (by omega)
      have hr:=h7.out
      rw[← hN,show k0 - N=0 by omega]at hr
      have hm:ans=(o,a,0):=hr
      have hy:=HP.out (.slice A0 o.length c5) (o,a,0) wr hm (World.ownsRow.mono hI.out (by rw[ho.out];exact hh.out.size)) (ao hh.out HB.out)
      rw[← hN]at hy
      have h6:=aa hy
      have c0:wr.cell? ⟨p,0,none⟩=some (.bool true):=ac HR.out.blk 0
      have c2:wr.cell? ⟨p,2,none⟩=some (.int .i64 (a:Nat)):=ac HR.out.blk 2
      have hO:=aa (lK wr p (a:Nat) c0 c2)
      clear hr hm hy h7 he hb hR hN c0 c2
      go_wp2_with fail
      refine hO.out.mono ?_
      rintro e w7 ⟨rfl,rfl⟩
      go_wp2_with fail
      first | exact h6.out | (go_ret3;exact h6.out)
 ·have HT:=aa (qc w A n c L hL hn h)
  have hf:eV L (ak s.data.toList) at' k en=([],0,80):=by rw[eV,if_neg h]
  generalize bu w (eV L (ak s.data.toList) at' k en)=PO at*
  generalize eV L (ak s.data.toList) at' k en=ans at*
  have HO:=aa iB
  have hS:=aa pG
  have hc:=aa hf
  clear hL h hf
  go_enter Tryz.func148,Tryz.ntmps148
  generalize tb0=Z at*
  go_wp2_with fail
  refine HT.out.mono ?_
  rintro e w2 ⟨rfl,hb⟩
  have H0:Z.size=65:=HO.out
  obtain⟨HH,hM,hw⟩:=H6.out w2 Z H0 hS.out
  have h6:=aa (HP.out (.slice none 0 0) _ _ hc.out (World.ownsRow_nil _ _ _ _) (ao hb hw))
  clear hM hw hb HT
  go_wp2_with fail
  first | exact h6.out | (go_ret3;exact h6.out)
theorem xK(w:World)(b off n c s x:Nat)(hs:s<n)(hx:w.cell? ⟨b,off+s,none⟩=some (.int .i64 (x:Nat))):Calls Tryz.prog 132 #[.slice (some ⟨b,off,none⟩) n c,.int .i64 s] w fun e w'=>e=.returned (.int .i64 (x:Nat))∧w'=w:=
 (rn w b off n c s x hs hx).mono fun _ _ h=>⟨h.1,h.2.symm⟩
def FR(w wx:World)(g gc p:Nat)(A:Option Addr)(n c:Nat)(l:List Nat)(v:Value)(o:List Nat):Prop:=
 fe wx g A n c l∧aB wx w.heap.size gc n n (dw l)∧IsW w.heap.size wx p v o∧Blk wx w.heap.size 24 #[.string ⟨#[]⟩,.int .i64 0]∧Below w.heap.size w wx
theorem iu(w:World)(A B:Option Addr)(n c m d:Nat)(L list:List Int)(hL:ZIn w A n L)(hn:n≤maxLen)(hB:ZIn w B m list)(q9:m≤d)(hm:m≤2000):Calls Tryz.prog 69 #[.slice A n c,.slice B m d] w (aW w (kX L list)):=by
 have hz:=mn.1
 rw[show tb (.slice none 0 0) (fun _=>0) (fun _=>0) (fun _=>0) (.slice none 0 0)=tb0 from rfl]at hz
 have HV:=aa rj
 have hw:Below w.heap.size w (w.alloc (.cells #[.string ⟨#[]⟩,.int .i64 0] 24)):=(Below.refl _ _).alloc (ah _) _
 have H5:Blk (w.alloc (.cells #[.string ⟨#[]⟩,.int .i64 0] 24)) w.heap.size 24 #[.string ⟨#[]⟩,.int .i64 0]:=ag w 24 _
 have hX:=aa H5
 have hU:=aa hw
 have HL:=aa hL
 have pv:=aa hB
 by_cases h:bL L
 ·have HT:=aa (pd (w.alloc (.cells #[.string ⟨#[]⟩,.int .i64 0] 24)) A n c L (hL.below hw) hn h)
  have H6:=hL.1
  have hC:=fU h
  have pg:(nl L).length=n:=by rw[bI,H6]
  have HF:=aa hC
  have hZ:=aa pg
  have h3:kX L list=(if ∀x∈list,0≤x∧x<(n:Int)then(kH (nl L) list,0)else([],60)):=by rw[kX,if_pos h,H6]
  have h2:=aa h3
  have HP:=aa hB.1
  have HO:=aa iB
  have HK:=aa h
  have q3:=aa fun(K F P:Nat→Nat) (s4:Value)=>dJ (.slice A n c) K F P s4
  have ps:=aa Gq
  have HM:=aa yh
  have h4:(w.alloc (.cells #[.string ⟨#[]⟩,.int .i64 0] 24)).heap.size=w.heap.size+1:=by simp
  have h9:=aa h4
  have pr:=aa (lJ hL h)
  clear hL hB h hw H5 hC pg h3 H6 h4
  go_enter Tryz.func69,Tryz.ntmps69
  generalize tb0=Z at*
  go_wp2_with fail
  refine HT.out.mono ?_
  rintro e w2 ⟨g,F,rfl,hG,hH,hb⟩
  have hF:=aM hb hX.out
  have hy:=hU.out.trans (hb.mono (by have:=h9.out;omega))
  generalize w.alloc (.cells #[.string ⟨#[]⟩,.int .i64 0] 24)=w1 at*
  obtain⟨T9,hu⟩:∃T9,T9=tb (.slice A n c) (bp (nl L)) (fun k=>cd (nl L) k 0) (b9 (nl L)) (.slice (some ⟨g,0,none⟩) n n):=⟨_,rfl⟩
  have HA:T9.size=65:=by rw[hu,q3.out]
  have pl:T9.all (·.oneCell')=true:=by rw[hu];exact rD _ _ _ _ _ rfl rfl
  obtain⟨HD,hQ,h7⟩:=HV.out w2 T9 HA pl
  have H3:=ps.out w2 _ A n c g _ _ F T9 hu hQ h7 hG hH
  have h0:=aM h7 hF
  have H2:=ao hy h7
  have HC:=aa (HM.out _ w2.heap.size A n c L H3 (HL.out.below H2) HK.out)
  have hh:=aa H2
  have HX:=aa H3
  have hj:=aa h0
  rw[← hu]
  clear hu pl hQ h7 H3 H2 hG hH hb HT hF hy h0 hX hU
  go_upto_region 4 with fail
  generalize (w2.alloc (.cells Z 178)).setRow w2.heap.size T9=w3 at*
  generalize w2.heap.size=g2 at*
  clear HD hz
  go_wp2_with fail
  refine HC.out.mono ?_
  rintro e w4 ⟨gc,rfl,h8,hI⟩
  have HY:=aa (HX.out.below hI)
  have hl:=aa (aM hI hj.out)
  have HS:=aa (World.ownsRow.mono h8 hh.out.size)
  have hV:=aa (ao hh.out hI)
  clear h8 hI HX hj hh HC HM
  go_wp2_with fail
  refine(BW w4).mono ?_
  rintro e w5 ⟨rfl,HG⟩
  have hJ:Below w4.heap.size w4 w5:=cn HG
  have p3:IsW w.heap.size w5 w4.heap.size (.slice none 0 0) []:=by rw[HG];exact lC w4 _ hV.out.size
  have he:=an hJ
  have po:Hid (FR w w5 g2 gc w4.heap.size A n c (nl L) (.slice none 0 0) []):=aa ⟨HY.out.below hJ,he.row HS.out (fun _ _=>az) az,p3,he.blk hl.out az az,ao hV.out hJ⟩
  generalize nl L=l at*
  generalize kX L list=ans at*
  clear HG hJ p3 he HY hl HS hV
  generalize w4.heap.size=p at*
  go_wp2_with fail
  go_loopw [11,25] (fun s11 x wx=>∃(q:Nat) (v:Value) (o:List Nat),q≤m∧x=.int .i64 q∧Hid (o=kH l (list.take q))∧Hid (o.length≤20*q)∧Hid (∀ x∈list.take q,0≤x∧x<(n:Int))∧Hid (FR w wx g2 gc p A n c l v o)) (fun _ x _=>m - (intOf x).toNat)
  case atStart=>exact⟨0,_, [],Nat.zero_le _,rfl,aa rfl,aa (Nat.zero_le _),aa (by simp),po⟩
  case round=>
   obtain⟨q,v,o,hq,rfl,ho,H8,hf,p5⟩:=hrel
   obtain⟨hT,hR,hW,hK,hB⟩:=p5.out
   have HT:=aa hT
   have HR:=aa hR
   have HW:=aa hW
   have h5:=aa hK
   have HB:=aa hB
   clear p5 hT hR hW hK hB
   by_cases e:q<m
   ·have d0:decide ((q:Int)<(m:Int))=true:=aC (by omega)
    obtain⟨b,off,rfl,hc⟩:=pv.out.2 (by omega)
    have hO:=hc q e
    have HE:=eH list q (by rw[HP.out];exact e)
    obtain⟨x,hx⟩:∃x,x=list.getD q 0:=⟨_,rfl⟩
    rw[← hx]at hO HE
    have q5:=(HB.out.cell (p:=⟨b,off+q,none⟩) (World.block_lt_of_cell? w _ hO)).trans hO
    have H1:=aa HE
    obtain⟨gs,F,B2,pb,_,_⟩:=HT.out
    have q0:=(ac pb 0).trans (pR _ _ _ _ _)
    have HH:=aa (Hd wr A n c x)
    clear hc hx hO HE pb
    by_cases e1:0≤x∧x<n
    ·rw[decide_eq_true e1]at HH
     obtain⟨y,rfl⟩:∃y:Nat,x=y:=⟨x.toNat,by omega⟩
     have hg:y<n:=by omega
     obtain⟨ba,oa,hA,hE⟩:=pr.out
     have hP:=hE y hg
     have ha:=HF.out.one (i:=y) (by rw[hZ.out];exact hg)
     have hM:=uK HF.out (i:=y) (by rw[hZ.out];exact hg)
     have pf:=ra HF.out (i:=y) (by rw[hZ.out];exact hg)
     obtain⟨k,hk⟩:∃k,k=l.getD y 0:=⟨_,rfl⟩
     obtain⟨x1,HI⟩:∃x1,x1=dw l y:=⟨_,rfl⟩
     have q1:=(HR.out).cell y hg
     rw[← hk]at ha hM hP
     rw[← HI]at hM pf q1
     have hD:=(HB.out.cell (p:=⟨ba,oa+y,none⟩) (World.block_lt_of_cell? w _ hP)).trans hP
     have wu:IntKind.u64.wrap (x1:Int)=(x1:Int):=by rw[IntKind.wrap_u64];omega
     subst hA
     have hi:Hid (aj x1 k=dU l y):=aa (by rw[hk,HI];rfl)
     have hs:Hid (IsW w.heap.size wr.drew p v o):=aa ⟨HW.out.lo,HW.out.blk,HW.out.row,HW.out.bit⟩
     have q8:k≤20:=ha.2
     have hr:=aa (eS w.heap.size wr.drew p v o x1 k hs.out (by have:=H8.out;omega) (by omega) hM)
     have hp:=aa (xK wr.drew ba oa n c y k hg hD)
     have q0d:wr.drew.cell? ⟨g2,0,none⟩=some (.slice (some ⟨ba,oa,none⟩) n c):=q0
     have q1d:wr.drew.cell? ⟨gc,y,none⟩=some (.int .i64 (x1:Nat)):=q1
     have q0e:({ heap:=wr.heap,tape:=wr.tape,drawn:=wr.drawn+1,os:=wr.os,output:=wr.output }:World).cell? ⟨g2,0,none⟩=some (.slice (some ⟨ba,oa,none⟩) n c):=q0
     have q1e:({ heap:=wr.heap,tape:=wr.tape,drawn:=wr.drawn+1,os:=wr.os,output:=wr.output }:World).cell? ⟨gc,y,none⟩=some (.int .i64 (x1:Nat)):=q1
     have HZ:Hid (fe wr.drew g2 (some ⟨ba,oa,none⟩) n c l):=HT
     have HU:Hid (aB wr.drew w.heap.size gc n n (dw l)):=HR
     have hY:Hid (Blk wr.drew w.heap.size 24 #[.string ⟨#[]⟩,.int .i64 0]):=h5
     have HJ:=aa HB.out.drew
     clear hP hD ha hM hk HI hE pf
     go_upto_region 10 with(go_at_call 131;refine HH.out.mono ?_;rintro e w9 ⟨rfl,rfl⟩)
     go_still_tail 10,(by kernel_rfl)
     still_call (hp.out)
     refine wpStill_nil ?_
     change wpList _ _ _ _ _ wr.drew
     generalize wr.drew=wd at*
     clear q0d q1d q0e q1e q0 q1 HT HR h5 HB HH hp q5 HW
     go_wp2_with fail
     refine hr.out.mono ?_
     rintro e w6 ⟨rfl,v6,p4,ht⟩
     have p2:=HZ.out.steps ht hs.out.blk (by decide) (by decide) (by decide) (by decide)
     have p1:=HU.out.step ht hs.out.blk (by decide) (by decide)
     have pj:=oQ hY.out hs.out.blk (by decide)
     have p0:=ht.blk hY.out (by simpa using pj) (by decide)
     have hS:Hid (FR w w6 g2 gc p (some ⟨ba,oa,none⟩) n c l v6 (o++aj x1 k)):=aa ⟨p2,p1,p4,p0,HJ.out.trans ht.below⟩
     clear p2 p1 pj p0 p4 ht hr hs HZ HU hY HJ
     go_wp2_with fail
     go_roundw
     case rel=>
      refine⟨q+1,v6,o++aj x1 k,by omega,by go_num,aa ?_,aa ?_,aa ?_,hS⟩
      ·rw[H1.out,BL,←ho.out,Int.toNat_natCast,hi.out]
      ·have:=H8.out
       rw[List.length_append,af]
       omega
      ·rw[H1.out]
       intro x hx
       rcases List.mem_append.1 hx with hx | hx
       ·exact hf.out x hx
       ·rw[List.mem_singleton.1 hx]
        exact e1
     case measure=>simp[intOf];omega
    ·rw[decide_eq_false e1]at HH
     have pk:ans=([],60):=by
      rw[h2.out,if_neg]
      intro H4
      have:x∈list:=by
       have h1:x∈list.take (q+1):=by rw[H1.out];exact List.mem_append_right _ (List.mem_singleton.2 rfl)
       exact List.mem_of_mem_take h1
      exact e1 (H4 x this)
     have q2:=aa pk
     have k0:wr.cell? ⟨w.heap.size,0,none⟩=some (.string ⟨#[]⟩):=ac h5.out 0
     have k1:wr.cell? ⟨w.heap.size,1,none⟩=some (.int .i64 0):=ac h5.out 1
     have f0:=ae h5.out 0
     have f1:=ae h5.out 1
     clear pk e1 h2
     go_wp2_with fail
     refine HH.out.mono ?_
     rintro e w9 ⟨rfl,rfl⟩
     go_wp2_with fail
     refine bodyPost_ret (v:=.tuple #[.agg #[.string ⟨#[]⟩,.int .i64 0],.int .i64 60]) ?_ rfl ?_
     ·simp[results,Tryz.results69,go_sem,k0,k1]
     ·rw[q2.out]
      exact⟨rfl,(HB.out.setCell (p:=⟨w.heap.size,0,none⟩) (ah _) _).setCell (p:=⟨w.heap.size,1,none⟩) (ah _) _⟩
   ·obtain rfl:q=m:=by omega
    have d0:decide ((q:Int)<(q:Int))=false:=au (by omega)
    have htl:list.take q=list:=List.take_of_length_le (Nat.le_of_eq HP.out)
    have hv:=hf.out
    have H7:=ho.out
    rw[htl]at hv H7
    have h6:ans=(o,0):=by rw[h2.out,if_pos hv,H7]
    have pm:=aa h6
    have k0:wr.cell? ⟨w.heap.size,0,none⟩=some (.string ⟨#[]⟩):=ac h5.out 0
    have k1:wr.cell? ⟨w.heap.size,1,none⟩=some (.int .i64 0):=ac h5.out 1
    have f0:=ae h5.out 0
    have f1:=ae h5.out 1
    have c0:wr.cell? ⟨p,0,none⟩=some (.bool true):=ac HW.out.blk 0
    have c2:wr.cell? ⟨p,2,none⟩=some (.int .i64 (o.length:Nat)):=ac HW.out.blk 2
    have q4:=aa (ig w.heap.size wr p v o HW.out)
    have HQ:=aa (jQ wr p (o.length:Nat) c0 c2)
    obtain⟨N,hN⟩:∃N,N=o.length:=⟨_,rfl⟩
    rw[← hN]at HQ
    have HN:=aa hN
    clear htl hv H7 h6 hN c0 c2 h2 ho hf H8 HT HR HW
    go_wp2_with fail
    refine q4.out.mono ?_
    rintro e w6 ⟨rfl,rfl⟩
    go_wp2_with fail
    refine HQ.out.mono ?_
    rintro e w6 ⟨rfl,rfl⟩
    go_wp2_with fail
    refine bodyPost_ret (v:=.tuple #[.agg #[.string ⟨(aG o).toArray⟩,.int .i64 N],.int .i64 0]) ?_ rfl ?_
    ·simp[results,Tryz.results69,go_sem,k0,k1]
    ·rw[pm.out,HN.out]
     exact⟨rfl,(HB.out.setCell (p:=⟨w.heap.size,0,none⟩) (ah _) _).setCell (p:=⟨w.heap.size,1,none⟩) (ah _) _⟩
 ·have HT:=aa (qc (w.alloc (.cells #[.string ⟨#[]⟩,.int .i64 0] 24)) A n c L (hL.below hw) hn h)
  have h3:kX L list=([],80):=by rw[kX,if_neg h]
  have h2:=aa h3
  have HO:=aa iB
  have H0:=aa pG
  have h4:(w.alloc (.cells #[.string ⟨#[]⟩,.int .i64 0] 24)).heap.size=w.heap.size+1:=by simp
  have h9:=aa h4
  clear hL hB h hw H5 h3 h4
  go_enter Tryz.func69,Tryz.ntmps69
  generalize tb0=Z at*
  go_wp2_with fail
  refine HT.out.mono ?_
  rintro e w2 ⟨rfl,hb⟩
  have hF:=aM hb hX.out
  have hy:=hU.out.trans (hb.mono (by have:=h9.out;omega))
  generalize w.alloc (.cells #[.string ⟨#[]⟩,.int .i64 0] 24)=w1 at*
  have HA:Z.size=65:=HO.out
  obtain⟨HD,hQ,h7⟩:=HV.out w2 Z HA H0.out
  have h0:=aM h7 hF
  have hh:=aa (ao hy h7)
  have k0:=ac h0 0
  have k1:=ac h0 1
  have f0:=ae h0 0
  have f1:=ae h0 1
  simp only[List.getElem?_toArray,List.getElem?_cons_zero,List.getElem?_cons_succ]at k0 k1
  clear hQ h7 hb HT hF hy h0
  go_upto_region 2 with fail
  generalize (w2.alloc (.cells Z 178)).setRow w2.heap.size Z=w3 at*
  clear HD hz
  go_wp2_with fail
  refine bodyPost_ret (v:=.tuple #[.agg #[.string ⟨#[]⟩,.int .i64 0],.int .i64 80]) ?_ rfl ?_
  ·simp[results,Tryz.results69,go_sem,k0,k1]
  ·rw[h2.out]
   exact⟨rfl,(hh.out.setCell (p:=⟨w.heap.size,0,none⟩) (ah _) _).setCell (p:=⟨w.heap.size,1,none⟩) (ah _) _⟩
end Go.Proofs.YthakcjehhlpjnaaGreat
