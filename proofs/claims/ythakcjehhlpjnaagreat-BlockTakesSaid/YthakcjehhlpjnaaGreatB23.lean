import Derived.Test.YthakcjehhlpjnaaGreatB20
import Derived.Test.YthakcjehhlpjnaaGreatB22
import Derived.Laws.Concat
set_option maxHeartbeats 1600000
set_option maxRecDepth 1000000
namespace Go.Proofs.YthakcjehhlpjnaaGreat.S05
open Go.RowKit
theorem cF.apart{w:World}{g k:Nat}{L:List Nat}(h:cF w g L)(h0:g≠k)(i:Nat)(u:Value):cF (w.setCell ⟨k,i,none⟩ u) g L:=by
 obtain⟨cs,hb,hc⟩:=h
 exact⟨cs,aI hb h0 i u,hc⟩
theorem Ba(w:World)(s:ByteArray)(hs:s.size≤1000000):Calls Tryz.prog 193 #[.string s] w fun e w'=>∃g,e=.returned (.slice (some ⟨g,0,none⟩) s.size s.size)∧cF w' g (aF s.data.toList)∧w.heap.size≤g∧Below w.heap.size w w':=by
 obtain⟨i3,h3,hx,hh,hy⟩:=info_parts Tryz.info3
 have hp:∀w1:World,(Instr.makeSlice 36 (.int .i64 s.size) (.int .i64 s.size)).run Tryz.prog w1=.ok (.slice (some ⟨w1.heap.size,0,none⟩) s.size s.size) (w1.alloc (.cells (madeCells #[.int .i64 0] s.size) 3)):=by
  intro w1
  have h:=run_make (P:=Tryz.prog) w1 36 3 i3 (.int .i64 0) Tryz.underlying36 h3 hx .i64 .i64 (s.size:Int) (s.size:Int) (by omega) (by omega) (by rw[hy];omega) (by omega)
  rw[hh,Int.toNat_natCast,Nat.mul_one]at h
  exact h
 obtain⟨hz,hi⟩:=Bw
 have hv:s.data.toList.length=s.size:=rfl
 have h8:=aa hv
 have HI:=aa hi
 have HS:=aa oY
 have hl:=aa yS
 have HO:=aa wD
 have HG:=aa yC
 have hF:=aa (show(fun b=>bw s.data.toList b+bu (s.data.toList.take 0) b)=bw s.data.toList from by funext b;simp[bu])
 have hK:=aa (Am w s hs)
 generalize iK=T at*
 have hE:=aa (wG s.data.toList)
 have hJ:=aa (B5 s.data.toList)
 have hH:=aa (E4 s.data.toList)
 have hG:=aa (qe s.data.toList)
 have hA:=cF.zeros
 have hM:=aa hA
 clear hi hv hA h3 hx hh hy
 go_enter Tryz.func193,Tryz.ntmps193
 go_wp2_with fail
 refine hK.out.mono ?_
 rintro e w1 ⟨rfl,hm⟩
 have hQ:=run_storeCells_new (P:=Tryz.prog) w1 261 (T fun _=>0) (T (bw s.data.toList)) (by rw[HS.out];exact HI.out) (by rw[HS.out,HS.out]) (HO.out _)
 have hR:=HS.out (bw s.data.toList)
 have hr:=hp (w1.alloc (.cells (T (bw s.data.toList)) 261))
 have hh:=hm.size
 have hB:=aa hm
 have hS:=aa hp
 clear hm hp
 go_wp2_with fail
 clear hQ hr
 go_loopw [13] (fun i wx=>∃(q:Nat) (L:List Nat),q≤s.size∧i=.int .i64 q∧Blk wx w1.heap.size 261 (T fun b=>bw s.data.toList b+bu (s.data.toList.take q) b)∧cF wx (w1.heap.size+1) L∧L.length=s.size∧(∀ j,j<q→L[jg s.data.toList j]? =some j)∧Below w.heap.size w wx) (fun i _=>s.size - (intOf i).toNat)
 case atStart=>
  have h0:=hM.out (w1.alloc (.cells (T (bw s.data.toList)) 261)) s.size
  have e1:(w1.alloc (.cells (T (bw s.data.toList)) 261)).heap.size=w1.heap.size+1:=by simp
  rw[e1]at h0
  have hn:Blk ((w1.alloc (.cells (T (bw s.data.toList)) 261)).alloc (.cells (madeCells #[.int .i64 0] s.size) 3)) w1.heap.size 261 (T (bw s.data.toList)):=by
   show(World.alloc _ _).heap[_]? =_
   rw[bn _ _ _ (by simp)]
   exact ag w1 261 _
  exact⟨0,List.replicate s.size 0,Nat.zero_le _,rfl,by rw[hF.out];exact hn,h0,List.length_replicate,fun j h=>by omega,(hB.out.alloc hh _).alloc (by simp;omega) _⟩
 case round=>
  obtain⟨q,L,hq,rfl,h9,h0,h7,h5,hb⟩:=hrel
  have H0:=aa h9
  have H1:=aa h0
  have HL:=aa h7
  have HF:=aa h5
  have HB:=aa hb
  have hX:=hb.size
  by_cases e:q<s.size
  ·have h4:=UInt8.toNat_lt s[q]
   have ho:=dY s q e
   have ha:jg s.data.toList q=bw s.data.toList s[q].toNat+bu (s.data.toList.take q) s[q].toNat:=by rw[jg,ho]
   have he:=hJ.out q (by rw[h8.out];exact e)
   rw[h8.out]at he
   obtain⟨b,hg⟩:∃b,b=s[q].toNat:=⟨_,rfl⟩
   obtain⟨r,ht⟩:∃r,r=jg s.data.toList q:=⟨_,rfl⟩
   rw[← hg]at h4 ha
   rw[← ht]at he ha
   have hc:=ac h9 b
   have hf:=ae h9 b
   have hT:=h0.frozen r
   rw[HG.out _ b h4,←ha]at hc
   have hW:s[q].toNat=b:=hg.symm
   have h6:=aI h9 (show w1.heap.size≠w1.heap.size+1 by omega) r (.int .i64 q)
   have hN:=ac h6 b
   have hV:=ae h6 b
   rw[HG.out _ b h4,←ha]at hN
   have hO:=h0.cell (i:=r) (by rw[h7];exact he)
   obtain⟨v0,hw⟩:∃v0,v0=L.getD r 0:=⟨_,rfl⟩
   rw[← hw]at hO
   have hR:=HS.out fun b=>bw s.data.toList b+bu (s.data.toList.take q) b
   have hk:=aa h6
   have hI:=aa ha
   have hu:=aa ht
   have hD:=aa ho
   have hC:=aa hg
   clear h9 h0 h7 h5 hb h6 ha ht ho hg hw hz
   go_wp2_with fail
   go_roundw
   case rel=>
    refine⟨q+1,L.set r q,by omega,by go_num,?_,(H1.out.set (by rw[HL.out];exact he) q).apart (by omega) _ _,by rw[List.length_set];exact HL.out,fun j hj=> ?_,(HB.out.setCell (by show _≤w1.heap.size+1;omega) _).setCell (by show _≤w1.heap.size;omega) _⟩
    ·have h1:=au hk.out b (.int .i64 ((r+1:Nat):Int))
     rw[hl.out]at h1
     have e2:(fun i=>if i=b then r+1 else bw s.data.toList i+bu (s.data.toList.take q) i)=fun b=>bw s.data.toList b+bu (s.data.toList.take (q+1)) b:=by
      funext i
      rw[hE.out q i (by rw[h8.out];exact e),hD.out,←hC.out,hI.out]
      by_cases h:i=b
      ·subst h
       rw[if_pos rfl,if_pos rfl,Nat.add_assoc]
      ·rw[if_neg h,if_neg h]
     rw[e2]at h1
     exact h1
    ·by_cases h:j=q
     ·subst h
      rw[← hu.out,List.getElem?_set_self (by rw[HL.out];exact he)]
     ·have hP:r≠jg s.data.toList j:=fun h2=>h (hH.out j q (by rw[h8.out];omega) (by rw[h8.out];exact e) (h2.symm.trans hu.out))
      rw[List.getElem?_set_ne hP]
      exact HF.out j (by omega)
   case measure=>simp[intOf];omega
  ·obtain rfl:q=s.size:=by omega
   have hL:=hG.out L (by rw[h8.out];exact HL.out) fun i hi=>HF.out i (by rw[h8.out]at hi;exact hi)
   subst hL
   clear h9 h0 h7 h5 hb hz
   go_wp2_with fail
   go_ret
   exact⟨_,rfl,H1.out,by omega,HB.out⟩
structure Way (w:World) (pb:Nat) (n:Nat) (L:List Nat):Prop where
 var:∃pg,w.cell? ⟨pb,0,none⟩=some (.slice (some ⟨pg,0,none⟩) n n)∧cF w pg L
 len:L.length=n
theorem Way.below{w w':World}{pb n:Nat}{L:List Nat}(h:Way w pb n L)(hb:Below w.heap.size w w'):Way w' pb n L:=by
 obtain⟨pg,hv,hr⟩:=h.var
 refine⟨⟨pg,(hb.cell (p:=⟨pb,0,none⟩) (World.block_lt_of_cell? w _ hv)).trans hv,?_⟩,h.len⟩
 exact(am hb).irow hr aq aq
theorem r5(w:World)(pb n r:Nat)(L:List Nat)(h:Way w pb n L)(hr:r<n)(_:n≤1000000):Calls Tryz.prog 194 #[.int .i64 r,.pointer (some ⟨pb,0,none⟩)] w fun e w'=>e=.returned (.int .i64 (L.getD r 0:Nat))∧w=w':=by
 obtain⟨pg,hv,h0⟩:=h.var
 have hc:=h0.cell (i:=r) (by rw[h.len];exact hr)
 obtain⟨x,hx⟩:∃x,x=L.getD r 0:=⟨_,rfl⟩
 rw[← hx]at hc ⊢
 clear h hx h0
 go_enter Tryz.func194,Tryz.ntmps194
 go_wp2_with fail
 go_ret
 exact⟨rfl,rfl⟩
theorem xh(w:World)(s:ByteArray)(hs:s.size≤1000000):Calls Tryz.prog 152 #[.string s] w fun e w'=>∃pb,e=.returned (.agg #[.string s,.func (.func 194) #[] #[.pointer (some ⟨pb,0,none⟩)]])∧Way w' pb s.size (aF s.data.toList)∧Below w.heap.size w w':=by
 have HA:=aa fun w1:World=>Ba w1 s hs
 have HL:=aa (show(aF s.data.toList).length=s.size from(bO _).trans rfl)
 go_enter Tryz.func152,Tryz.ntmps152
 go_wp2_with fail
 refine(HA.out _).mono ?_
 rintro e w1 ⟨g,rfl,h1,hg,hb⟩
 have ha:w.heap.size+1≤g:=by simpa using hg
 have he:w.heap.size+1≤w1.heap.size:=by simpa using hb.size
 have h4:Blk w1 w.heap.size 203 #[.string ⟨#[]⟩,Value.nilFunc]:=(hb.block _ (by simp)).trans (ag w 203 _)
 have h0:Blk (w1.alloc (.cells #[.slice (some ⟨g,0,none⟩) s.size s.size] 36)) w.heap.size 203 #[.string ⟨#[]⟩,Value.nilFunc]:=by
  show(World.alloc _ _).heap[_]? =_
  rw[bn _ _ _ (by omega)]
  exact h4
 have h2:=au h0 0 (.string s)
 have h3:=au h2 1 (.func (.func 194) #[] #[.pointer (some ⟨w1.heap.size,0,none⟩)])
 have h7:Blk (w1.alloc (.cells #[.slice (some ⟨g,0,none⟩) s.size s.size] 36)) w1.heap.size 36 #[.slice (some ⟨g,0,none⟩) s.size s.size]:=ag w1 36 _
 have h8:=aI (aI h7 (show w1.heap.size≠w.heap.size by omega) 0 (.string s)) (show w1.heap.size≠w.heap.size by omega) 1 (.func (.func 194) #[] #[.pointer (some ⟨w1.heap.size,0,none⟩)])
 have h9:=(((am ((Below.refl _ w1).alloc (ah _) (.cells #[.slice (some ⟨g,0,none⟩) s.size s.size] 36))).irow h1 aq aq).apart (show g≠w.heap.size by omega) 0 (.string s)).apart (show g≠w.heap.size by omega) 1 (.func (.func 194) #[] #[.pointer (some ⟨w1.heap.size,0,none⟩)])
 have h6:Below w.heap.size w w1:=((Below.refl _ w).alloc (ah _) (.cells #[.string ⟨#[]⟩,Value.nilFunc] 203)).trans (hb.mono (by simp))
 have h5:=((h6.alloc (by omega) (.cells #[.slice (some ⟨g,0,none⟩) s.size s.size] 36)).setCell (p:=⟨w.heap.size,0,none⟩) (ah _) (.string s)).setCell (p:=⟨w.heap.size,1,none⟩) (ah _) (.func (.func 194) #[] #[.pointer (some ⟨w1.heap.size,0,none⟩)])
 have c0:(w1.alloc (.cells #[.slice (some ⟨g,0,none⟩) s.size s.size] 36)).cell? ⟨w.heap.size,0,none⟩=some (.string ⟨#[]⟩):=ac h0 0
 have f0:=ae h0 0
 have c1:((w1.alloc (.cells #[.slice (some ⟨g,0,none⟩) s.size s.size] 36)).setCell ⟨w.heap.size,0,none⟩ (.string s)).cell? ⟨w.heap.size,1,none⟩=some Value.nilFunc:=ac h2 1
 have f1:=ae h2 1
 have q0:(((w1.alloc (.cells #[.slice (some ⟨g,0,none⟩) s.size s.size] 36)).setCell ⟨w.heap.size,0,none⟩ (.string s)).setCell ⟨w.heap.size,1,none⟩ (.func (.func 194) #[] #[.pointer (some ⟨w1.heap.size,0,none⟩)])).cell? ⟨w.heap.size,0,none⟩=some (.string s):=ac h3 0
 have q1:(((w1.alloc (.cells #[.slice (some ⟨g,0,none⟩) s.size s.size] 36)).setCell ⟨w.heap.size,0,none⟩ (.string s)).setCell ⟨w.heap.size,1,none⟩ (.func (.func 194) #[] #[.pointer (some ⟨w1.heap.size,0,none⟩)])).cell? ⟨w.heap.size,1,none⟩=some (.func (.func 194) #[] #[.pointer (some ⟨w1.heap.size,0,none⟩)]):=ac h3 1
 have HP:=aa (ac h8 0)
 have HR:=aa h9
 have HB:=aa h5
 have c2:(w1.alloc (.cells #[.slice (some ⟨g,0,none⟩) s.size s.size] 36)).cell? ⟨w.heap.size,1,none⟩=some Value.nilFunc:=ac h0 1
 have f2:=ae h0 1
 have hc:=run_store Tryz.prog ((w1.alloc (.cells #[.slice (some ⟨g,0,none⟩) s.size s.size] 36)).setCell ⟨w.heap.size,0,none⟩ (.string s)) ⟨w.heap.size,1,none⟩ (.func (.func 194) #[] #[.pointer (some ⟨w1.heap.size,0,none⟩)]) .plain rfl
 clear h4 h0 h2 h3 h7 h8 h9 h6 h5 h1 hb hg
 go_wp2_with fail
 refine bodyPost_ret (v:=.agg #[.string s,.func (.func 194) #[] #[.pointer (some ⟨w1.heap.size,0,none⟩)]]) ?_ rfl ?_
 ·simp[results,Tryz.results152,go_sem,q0,q1]
 ·exact⟨w1.heap.size,rfl,⟨⟨g,HP.out,HR.out⟩,HL.out⟩,HB.out⟩
theorem uO(l:List UInt8)(r:Nat)(hr:r<l.length):(aF l).getD r 0<l.length:=by
 have hk:r<(aF l).length:=by rw[bO];exact hr
 rw[List.getD_eq_getElem?_getD,List.getElem?_eq_getElem hk]
 exact(gj l _).1 (List.getElem_mem hk)
theorem yY(l:List UInt8)(r:Nat)(hr:r<l.length):∀k,itr (aF l) r k<l.length
 | 0=>hr
 | k+1=>uO l _ (yY l r hr k)
theorem eR(l:List UInt8)(r:Nat):(fF l r).length=l.length:=by simp[fF]
theorem tG(l:List UInt8)(r k:Nat)(h:k<l.length):(fF l r).take (k+1)=(fF l r).take k++ [l.getD (itr (aF l) r (k+1)) 0]:=by
 rw[List.take_succ_eq_append_getElem (by rw[eR];exact h)]
 congr 2
 simp[fF]
theorem fO{w:World}{B:Nat}{v:Value}{l:List UInt8}(h:w.ownsRow B 5 1 v l.length (l.map bv)):(convert 43 9 v).run Tryz.prog w=.ok (.string ⟨l.toArray⟩) w:=by
 rcases h.2 with⟨rfl,h0⟩ | ⟨g,cap,cur,rfl,_⟩
 ·have:l= []:=List.eq_nil_of_length_eq_zero h0
  subst this
  exact run_convert_bytes_nil w 43 5 Tryz.underlying43 Tryz.underlying5 0 0 9 Tryz.underlying9
 ·have hn:∀j (hj:j<l.length),w.cell? ((⟨g,0,none⟩:Addr).add j)=some (.int .u8 (l[j].toNat:Int)):=by
   intro j hj
   have h1:=h.cells (g:=g) rfl j (.int .u8 (l[j].toNat:Int))
   exact h1 (by rw[List.getElem?_map,List.getElem?_eq_getElem hj];rfl)
  exact run_convert_bytes_back w 43 9 5 ⟨g,0,none⟩ cap l Tryz.underlying43 Tryz.underlying5 Tryz.underlying9 hn
theorem Fa(w:World)(s:ByteArray)(pb r:Nat)(hr:r<s.size)(hs:s.size≤1000000)(hw:Way w pb s.size (aF s.data.toList)):
 Calls Tryz.prog 153 #[.agg #[.string s,.func (.func 194) #[] #[.pointer (some ⟨pb,0,none⟩)]],.int .i64 r] w fun e w'=>e=.returned (.string ⟨(fF s.data.toList r).toArray⟩)∧Below w.heap.size w w':=by
 obtain⟨i5,h5,ht,hv,hz⟩:=info_parts Tryz.info5
 have ha:∀w1:World,(Instr.makeSlice 43 (.int .i64 0) (.int .i64 s.size)).run Tryz.prog w1=.ok (.slice (some ⟨w1.heap.size,0,none⟩) 0 s.size) (w1.alloc (.cells (madeCells #[.int .u8 0] s.size) 5)):=by
  intro w1
  have h:=run_make (P:=Tryz.prog) w1 43 5 i5 (.int .u8 0) Tryz.underlying43 h5 ht .i64 .i64 (0:Int) (s.size:Int) (by omega) (by omega) (by rw[hz];omega) (by omega)
  rw[hv,Int.toNat_natCast,Nat.mul_one]at h
  exact h
 have hl:s.data.toList.length=s.size:=rfl
 have h4:=aa hl
 have h8:=(Below.refl w.heap.size w).alloc (ah _) (.cells #[.string s,.func (.func 194) #[] #[.pointer (some ⟨pb,0,none⟩)]] 203)
 have hn:=hw.below h8
 have h6:=ag w 203 #[.string s,.func (.func 194) #[] #[.pointer (some ⟨pb,0,none⟩)]]
 have hB:=aa h8
 have hI:=aa hn
 have hH:=aa h6
 have c0:=ac h6 0
 have c1:=ac h6 1
 have hL:=aa ha
 have hc:=ha (w.alloc (.cells #[.string s,.func (.func 194) #[] #[.pointer (some ⟨pb,0,none⟩)]] 203))
 clear hl h8 hn hw h6 ha
 go_enter Tryz.func153,Tryz.ntmps153
 go_wp2_with fail
 have e0:(w.alloc (.cells #[.string s,.func (.func 194) #[] #[.pointer (some ⟨pb,0,none⟩)]] 203)).heap.size=w.heap.size+1:=by simp
 clear hc
 go_loopw [1,5,13] (fun x t k wx=>∃q y:Nat,q≤s.size∧k=.int .i64 q∧x=.int .i64 y∧y=itr (aF s.data.toList) r q∧wx.ownsRow (w.heap.size+1) 5 1 t q (((fF s.data.toList r).take q).map bv)∧Below (w.heap.size+1) (w.alloc (.cells #[.string s,.func (.func 194) #[] #[.pointer (some ⟨pb,0,none⟩)]] 203)) wx) (fun _ _ k _=>s.size - (intOf k).toNat)
 case atStart=>
  have hm:(madeCells #[.int .u8 0] s.size).size=s.size*1:=by simp[madeCells]
  have h1:=World.ownsRow_made (base:=w.heap.size+1) (e:=5) (size:=1) (w.alloc (.cells #[.string s,.func (.func 194) #[] #[.pointer (some ⟨pb,0,none⟩)]] 203)) (madeCells #[.int .u8 0] s.size) s.size (Nat.le_of_eq e0.symm) (by unfold maxLen;omega) hm
  rw[e0]at h1
  exact⟨0,r,Nat.zero_le _,rfl,rfl,rfl,h1,(Below.refl _ _).alloc (Nat.le_of_eq e0.symm) _⟩
 case round=>
  obtain⟨q,y,hq,rfl,rfl,hy,h0,hb⟩:=hrel
  have hp:y<s.size:=by rw[hy];exact yY s.data.toList r (by rw[h4.out];exact hr) q
  have HB:=aa hb
  have hA:=hb.size
  rw[e0]at hA
  have h9:Below (w.alloc (.cells #[.string s,.func (.func 194) #[] #[.pointer (some ⟨pb,0,none⟩)]] 203)).heap.size (w.alloc (.cells #[.string s,.func (.func 194) #[] #[.pointer (some ⟨pb,0,none⟩)]] 203)) wr:=by rw[e0];exact hb
  have h7:Blk wr w.heap.size 203 #[.string s,.func (.func 194) #[] #[.pointer (some ⟨pb,0,none⟩)]]:=(hb.block _ (by omega)).trans hH.out
  have d0:=ac h7 0
  have d1:=ac h7 1
  obtain⟨A0,k0,rfl,hN,hK,hJ⟩:=aj h0
  clear hJ
  unfold maxLen at hK
  have HO:=aa h0
  have HY:=aa hy
  by_cases e:q<s.size
  ·have hf:=aa (r5 wr pb s.size y (aF s.data.toList) (hI.out.below h9) hp hs)
   have ho:(aF s.data.toList).getD y 0<s.size:=by
    have:=uO s.data.toList y (by rw[h4.out];exact hp)
    rwa [h4.out]at this
   have he:(aF s.data.toList).getD y 0=itr (aF s.data.toList) r (q+1):=by rw[hy];rfl
   have hE:=aa (tG s.data.toList r q (by rw[h4.out];exact e))
   obtain⟨x,hx⟩:∃x,x=(aF s.data.toList).getD y 0:=⟨_,rfl⟩
   rw[← hx]at ho he hf
   have hg:=aa he
   have hj:=dY s x ho
   have hF:=aa hj
   clear h0 hb hy h9 h7 hx he hj e0 c0 c1
   go_wp2_with fail
   refine hf.out.mono ?_
   rintro e w1 ⟨rfl,rfl⟩
   go_wp2_with (at_builtin;refine wpList_append_own _ rfl _ _ 43 rfl (w.heap.size+1) 5 i5 (.int .u8 0) 1 1 Tryz.underlying43 h5 ht hv hz rfl (by decide) _ _ _ rfl (HO.out.alloc _) ⟨wr.heap.size,0,none⟩ 1 1 [.int .u8 (s[x]).toNat] rfl rfl ?c1 ?c2 ?c3 ?c4 ?c5 ?_)
   case c1=>exact bi _ _ _
   case c2=>intro u hu;simp at hu;subst hu;rfl
   case c3=>unfold maxLen;omega
   case c4=>omega
   case c5=>simp;omega
   intro v2 w2 h3 h2 _
   have hh:Below (w.heap.size+1) (w.alloc (.cells #[.string s,.func (.func 194) #[] #[.pointer (some ⟨pb,0,none⟩)]] 203)) w2:=(HB.out.alloc hA _).grown h2 (by simp;omega) (fun k hk=>(HO.out.lt k hk).1)
   have hG:=aa h3
   have hC:=aa hh
   clear h3 h2 hh
   go_wp2_with fail
   go_roundw
   case rel=>exact⟨q+1,x,by omega,by go_num,rfl,hg.out,by rw[hE.out,List.map_append,←hg.out,hF.out,List.map_take];exact hG.out,hC.out⟩
   case measure=>simp[intOf];omega
  ·obtain rfl:q=s.size:=by omega
   have hT:(fF s.data.toList r).take s.size=fF s.data.toList r:=List.take_of_length_le (by rw[eR,h4.out];exact Nat.le_refl _)
   have hM:(convert 43 9 (.slice A0 s.size k0)).run Tryz.prog wr=.ok (.string ⟨(fF s.data.toList r).toArray⟩) wr:=by
    refine fO (B:=w.heap.size+1) ?_
    rw[eR,h4.out]
    rw[hT]at h0
    exact h0
   have hi:Below w.heap.size w wr:=hB.out.trans (hb.mono (by omega))
   have hD:=aa hi
   clear h0 hb hy h9 h7 e0 c0 c1 hT hi
   go_wp2_with fail
   go_ret
   exact⟨rfl,hD.out⟩
theorem oQ(w:World)(s:ByteArray)(r:Nat)(hr:r<s.size)(hs:s.size≤262144):Calls Tryz.prog 91 #[.string s,.int .i64 r] w fun e w'=>e=.returned (.tuple #[.string ⟨(fF s.data.toList r).toArray⟩,.int .i64 0])∧Below w.heap.size w w':=by
 have d0:decide ((262144:Int)<(s.size:Int))=false:=ao (by omega)
 have d1:decide ((r:Int)<0)=false:=ao (by omega)
 have d2:decide ((s.size:Int)≤(r:Int))=false:=ao (by omega)
 have HA:=aa (xh w s (by omega))
 have HF:=aa fun(w1:World) (pb:Nat)=>Fa w1 s pb r hr (by omega)
 clear hs
 go_enter Tryz.func91,Tryz.ntmps91
 go_wp2_with fail
 refine HA.out.mono ?_
 rintro e w1 ⟨pb,rfl,hw,hb⟩
 have HW:=aa hw
 have HB:=aa hb
 clear hw hb
 go_wp2_with fail
 refine(HF.out w1 pb HW.out).mono ?_
 rintro e w2 ⟨rfl,h0⟩
 have h1:=aa (ap HB.out h0)
 clear h0
 go_wp2_with fail
 go_ret2
 exact⟨rfl,h1.out⟩
theorem D0(w:World)(s:ByteArray)(r:Int)(hs:262144<s.size):Calls Tryz.prog 91 #[.string s,.int .i64 r] w fun e w'=>e=.returned (.tuple #[.string ⟨#[]⟩,.int .i64 3])∧w=w':=by
 have d0:decide ((262144:Int)<(s.size:Int))=true:=ar (by omega)
 clear hs
 go_enter Tryz.func91,Tryz.ntmps91
 go_wp2_with fail
 go_ret2
 exact⟨rfl,rfl⟩
theorem C8(w:World)(s:ByteArray)(r:Int)(hs:s.size≤262144)(hr:r<0∨(s.size:Int)≤r):Calls Tryz.prog 91 #[.string s,.int .i64 r] w fun e w'=>e=.returned (.tuple #[.string ⟨#[]⟩,.int .i64 50])∧w=w':=by
 have d0:decide ((262144:Int)<(s.size:Int))=false:=ao (by omega)
 by_cases h1:r<0
 ·have d1:decide (r<0)=true:=decide_eq_true h1
  clear hs hr
  go_enter Tryz.func91,Tryz.ntmps91
  go_wp2_with fail
  go_ret2
  exact⟨rfl,rfl⟩
 ·have d1:decide (r<0)=false:=decide_eq_false h1
  have d2:decide ((s.size:Int)≤r)=true:=ar (by omega)
  clear hs hr
  go_enter Tryz.func91,Tryz.ntmps91
  go_wp2_with fail
  go_ret2
  exact⟨rfl,rfl⟩
def kP(s:List UInt8)(b:Nat):List Nat:=(List.range b).flatMap (Bd s)
def nJ(s:List UInt8)(b i:Nat):List Nat:=(List.range i).filter fun j=>(s.getD j 0).toNat==b
theorem Co(s:List UInt8)(b:Nat):kP s (b+1)=kP s b++nJ s b s.length:=by
 rw[kP,List.range_succ,List.flatMap_append]
 simp[kP,nJ,Bd]
theorem CY(s:List UInt8)(b i:Nat):nJ s b (i+1)=nJ s b i++if(s.getD i 0).toNat=b then [i]else []:=by
 rw[nJ,List.range_succ,List.filter_append]
 congr 1
 simp only[List.filter_cons,List.filter_nil,beq_iff_eq]
theorem FI(s:List UInt8)(b:Nat)(hb:b≤256):(kP s b).length≤s.length:=by
 rw[kP,gR]
 exact nB s b hb
theorem Gf(s:List UInt8)(b i:Nat)(hi:i≤s.length):(nJ s b i).length≤s.length:=by
 rw[nJ,qi s b i hi]
 exact rW s i b
theorem wB(w:World)(s:ByteArray)(hs:s.size≤1000000):Calls Tryz.prog 103 #[.string s] w fun e w'=>∃v,e=.returned v∧w'.ownsRow w.heap.size 3 1 v s.size ((aF s.data.toList).map iv)∧Below w.heap.size w w':=by
 obtain⟨i3,h3,hC,hD,hE⟩:=info_parts Tryz.info3
 have h9:=aa (show s.data.toList.length=s.size from rfl)
 have ht:=aa (Co s.data.toList)
 have hw:=aa (CY s.data.toList)
 have hr:=aa (FI s.data.toList)
 have hv:=aa (Gf s.data.toList)
 have hA:=aa (bO s.data.toList)
 go_enter Tryz.func103,Tryz.ntmps103
 go_wp2_with fail
 go_loopw [3,4] (fun v x wx=>∃b:Nat,b≤256∧x=.int .i64 b∧wx.ownsRow w.heap.size 3 1 v (kP s.data.toList b).length ((kP s.data.toList b).map iv)∧Below w.heap.size w wx) (fun _ x _=>256 - (intOf x).toNat)
 case atStart=>exact⟨0,by omega,rfl,World.ownsRow_nil _ _ _ _,Below.refl _ _⟩
 case round=>
  obtain⟨b,hb,rfl,h0,h6⟩:=hrel
  have HO:=aa h0
  have HB:=aa h6
  by_cases e:b<256
  ·have d1:decide ((b:Int)<256)=true:=ar (by omega)
   clear h0 h6
   go_wp2_with fail
   go_loopw [3,5] (fun v x wx=>∃(i:Nat) (M:List Nat),i≤s.size∧x=.int .i64 i∧M=kP s.data.toList b++nJ s.data.toList b i∧wx.ownsRow w.heap.size 3 1 v M.length (M.map iv)∧Below w.heap.size w wx) (fun _ x _=>s.size - (intOf x).toNat)
   case atStart=>exact⟨0,kP s.data.toList b,Nat.zero_le _,rfl,by simp[nJ],HO.out,HB.out⟩
   case round=>
    obtain⟨i,M,hi,rfl,hM,h0,h6⟩:=hrel
    have hz:=h6.size
    have hB:M.length≤2000000:=by
     have h1:=hr.out b hb
     have h2:=hv.out b i (by rw[h9.out];exact hi)
     rw[h9.out]at h1 h2
     rw[hM,List.length_append]
     omega
    obtain⟨A0,c0,rfl,hp,ho,he⟩:=aj h0
    clear he
    unfold maxLen at ho
    have hh:=aa h0
    have hc:=aa h6
    have HM:=aa hM
    obtain⟨n,hn⟩:∃n,n=M.length:=⟨_,rfl⟩
    obtain⟨X,hX⟩:∃X,X=M.map iv:=⟨_,rfl⟩
    rw[← hn,←hX]at h0
    rw[← hn]at hp hB ⊢
    have h8:=aa h0
    have HN:=aa hn
    have HX:=aa hX
    clear h0 h6 hM hn hX
    by_cases e2:i<s.size
    ·have d2:decide ((i:Int)<(s.size:Int))=true:=ar (by omega)
     have hm:=dY s i e2
     have ha:=hw.out b i
     rw[hm]at ha
     have h7:=UInt8.toNat_lt s[i]
     obtain⟨c,hf⟩:∃c,c=s[i].toNat:=⟨_,rfl⟩
     rw[← hf]at ha h7
     have hF:s[i].toNat=c:=hf.symm
     have hg:=aa ha
     clear hm ha hf
     by_cases e3:c=b
     ·have q1:((c:Int)==(b:Int))=true:=by rw[e3];simp
      have HE:=aa e3
      clear e3
      go_wp2_with (at_builtin;refine wpList_append_own _ rfl _ _ 36 rfl w.heap.size 3 i3 (.int .i64 0) 1 8 Tryz.underlying36 h3 hC hD hE rfl (by decide) _ _ _ rfl (h8.out.alloc _) ⟨wr.heap.size,0,none⟩ 1 1 [.int .i64 i] rfl rfl ?c1 ?c2 ?c3 ?c4 ?c5 ?_)
      case c1=>exact bi _ _ _
      case c2=>intro u hu;simp at hu;subst hu;rfl
      case c3=>unfold maxLen;omega
      case c4=>omega
      case c5=>simp;omega
      intro v3 w3 h5 h4 _
      have hl:Below w.heap.size w w3:=(hc.out.alloc hz _).grown h4 (by simp;omega) (fun k hk=>(h8.out.lt k hk).1)
      have hy:=aa h5
      have hq:=aa hl
      clear h5 h4 hl
      go_wp2_with fail
      go_roundw
      case rel=>
       refine⟨i+1,M++ [i],by omega,by go_num,?_,?_,hq.out⟩
       ·rw[hg.out,if_pos HE.out,HM.out,List.append_assoc]
       ·rw[List.length_append,←HN.out,List.map_append,←HX.out]
        exact hy.out
      case measure=>simp[intOf];omega
     ·have q1:((c:Int)==(b:Int))=false:=by
       simp only[beq_eq_false_iff_ne,ne_eq]
       omega
      have HE:=aa e3
      clear e3
      go_wp2_with fail
      go_roundw
      case rel=>
       refine⟨i+1,M,by omega,by go_num,?_,?_,hc.out⟩
       ·rw[hg.out,if_neg HE.out,HM.out,List.append_nil]
       ·rw[← HN.out,←HX.out]
        exact h8.out
      case measure=>simp[intOf];omega
    ·obtain rfl:i=s.size:=by omega
     have d2:decide ((s.size:Int)<(s.size:Int))=false:=ao (by omega)
     have hj:M=kP s.data.toList (b+1):=by rw[HM.out,ht.out,h9.out]
     have hx:=aa hj
     clear hj
     go_wp2_with fail
     go_roundw
     case rel=>exact⟨b+1,by omega,by go_num,by rw[← hx.out,←HN.out,←HX.out];exact h8.out,hc.out⟩
     case measure=>simp[intOf];omega
  ·obtain rfl:b=256:=by omega
   have d1:decide ((256:Int)<256)=false:=by decide
   have hP:kP s.data.toList 256=aF s.data.toList:=rfl
   rw[hP,hA.out,h9.out]at h0
   obtain⟨A0,c0,rfl,hp,ho,he⟩:=aj h0
   have hh:=aa h0
   clear h0 h6 hP he
   go_wp2_with fail
   go_ret
   exact⟨_,rfl,hh.out,HB.out⟩
def IE(w:World)(s:List UInt8)(e:Ending)(w':World):Prop:=∃(L:List Nat) (k:Nat),e=.returned (.tuple #[.string ⟨(a6 s L).toArray⟩,.int .i64 k,.int .i64 0])∧ef s L∧k<L.length∧L.getD k 0=0∧Below w.heap.size w w'
theorem EU(s:List UInt8)(L:List Nat)(q:Nat)(h:q<L.length):(a6 s L).take (q+1)=(a6 s L).take q++ [rat s (L.getD q 0+(s.length - 1))]:=by
 rw[List.take_succ_eq_append_getElem (by rw[a4];exact h)]
 congr 2
 simp[a6,List.getElem?_eq_getElem h]
theorem jL(s:ByteArray)(h:0<s.size):s.toList.isEmpty=false:=by
 rw[ByteArray.toList_eq]
 have h0:s.data.toList.length=s.size:=rfl
 cases hd:s.data.toList with
 | nil=>rw[hd]at h0;simp at h0;omega
 | cons a l=>rfl
theorem DW(w:World):Calls Tryz.prog 16 #[.string ⟨#[]⟩] w fun e w'=>e=.returned (.tuple #[.string ⟨#[]⟩,.int .i64 0,.int .i64 2])∧w=w':=by
 go_enter Tryz.func16,Tryz.ntmps16
 go_wp2_with fail
 go_ret3
 exact⟨rfl,rfl⟩
theorem FK(N:Nat)(S:mJ N)(w:World)(s:ByteArray)(h0:0<s.size)(hN:s.size≤N)(hs:s.size≤262144):Calls Tryz.prog 16 #[.string s] w (IE w s.data.toList):=by
 obtain⟨i5,h5,hC,hD,hE⟩:=info_parts Tryz.info5
 have hv:∀w1:World,(Instr.makeSlice 43 (.int .i64 0) (.int .i64 s.size)).run Tryz.prog w1=.ok (.slice (some ⟨w1.heap.size,0,none⟩) 0 s.size) (w1.alloc (.cells (madeCells #[.int .u8 0] s.size) 5)):=by
  intro w1
  have h:=run_make (P:=Tryz.prog) w1 43 5 i5 (.int .u8 0) Tryz.underlying43 h5 hC .i64 .i64 (0:Int) (s.size:Int) (by omega) (by omega) (by rw[hE];omega) (by omega)
  rw[hD,Int.toNat_natCast,Nat.mul_one]at h
  exact h
 have hA:s.data.toList.length=s.size:=rfl
 have h9:=aa hA
 have hS:=jL s h0
 have d0:decide ((262144:Int)<(s.size:Int))=false:=ao (by omega)
 have HO:=aa (oD N S w s hN (by omega))
 have hW:s.size≤1000000:=by omega
 have hL:=aa hv
 clear hA hv hs hN
 go_enter Tryz.func16,Tryz.ntmps16
 go_wp2_with fail
 refine HO.out.mono ?_
 rintro e w2 ⟨g,L,rfl,h8,h3,hg,hb⟩
 rw[h9.out]
 have hi:=hL.out w2
 have hj:=hb.size
 go_wp2_with fail
 have hy:L.length=s.size:=(dw h3).trans h9.out
 obtain⟨k0,hr,ht,h4⟩:=pu h3 0 (by rw[h9.out];exact h0)
 have he:=aa h8
 have hh:=aa h3
 have HB:=aa hb
 have h7:=aa hy
 have hn:=aa ht
 have ha:=aa h4
 have hl:=aa hr
 have hK:=aa (lp h3)
 have hQ:=h8.lt
 clear hi h8 h3 hb hy ht h4 hr d0 hS
 go_loopw [6,23] (fun t k wx=>∃q:Nat,q≤s.size∧k=.int .i64 q∧wx.ownsRow w2.heap.size 5 1 t q (((a6 s.data.toList L).take q).map bv)∧Below w2.heap.size w2 wx) (fun _ k _=>s.size - (intOf k).toNat)
 case atStart=>
  have hm:(madeCells #[.int .u8 0] s.size).size=s.size*1:=by simp[madeCells]
  exact⟨0,Nat.zero_le _,rfl,World.ownsRow_made w2 (madeCells #[.int .u8 0] s.size) s.size (ah _) (by unfold maxLen;omega) hm,(Below.refl _ _).alloc (ah _) _⟩
 case round=>
  obtain⟨q,hq,rfl,h1,hb⟩:=hrel
  have hX:=hb.size
  obtain⟨A0,c0,rfl,H0,hR,hO⟩:=aj h1
  clear hO
  unfold maxLen at hR
  have HO:=aa h1
  have hF:=aa hb
  by_cases e:q<s.size
  ·have hc:=(hb.cell (p:=⟨g,q,none⟩) hQ).trans (he.out.cell (i:=q) (by rw[h7.out];exact e))
   have hB:=hK.out q (by rw[h9.out];exact e)
   rw[h9.out]at hB
   have hf:=EU s.data.toList L q (by rw[h7.out];exact e)
   rw[h9.out]at hf
   obtain⟨x,hx⟩:∃x,x=L.getD q 0:=⟨_,rfl⟩
   rw[← hx]at hc hB hf
   obtain⟨p,hp⟩:∃p,p=(x+(s.size - 1)) % s.size:=⟨_,rfl⟩
   have hV:p<s.size:=by rw[hp];exact Nat.mod_lt _ h0
   have hZ:((x:Int)+(s.size:Int) - 1) % (s.size:Int)=(p:Int):=by
    rw[hp,Int.natCast_emod,Int.natCast_add,show((s.size - 1:Nat):Int)=(s.size:Int) - 1 by omega]
    congr 1
    omega
   have hw:=Bt s (x+(s.size - 1)) p hp hV
   rw[← hw]at hf
   have hJ:=aa hf
   clear h1 hb hx hp hw hf
   go_wp2_with (at_builtin;refine wpList_append_own _ rfl _ _ 43 rfl w2.heap.size 5 i5 (.int .u8 0) 1 1 Tryz.underlying43 h5 hC hD hE rfl (by decide) _ _ _ rfl (HO.out.alloc _) ⟨wr.heap.size,0,none⟩ 1 1 [.int .u8 (s[p]).toNat] rfl rfl ?c1 ?c2 ?c3 ?c4 ?c5 ?_)
   case c1=>exact bi _ _ _
   case c2=>intro u hu;simp at hu;subst hu;rfl
   case c3=>unfold maxLen;omega
   case c4=>omega
   case c5=>simp;omega
   intro v3 w3 h6 h2 _
   have ho:Below w2.heap.size w2 w3:=(hF.out.alloc hX _).grown h2 (by simp;omega) (fun k hk=>(HO.out.lt k hk).1)
   have hM:=aa h6
   have hG:=aa ho
   clear h6 h2 ho
   go_wp2_with fail
   go_roundw
   case rel=>exact⟨q+1,by omega,by go_num,by rw[hJ.out,List.map_append,List.map_take];exact hM.out,hG.out⟩
   case measure=>simp[intOf];omega
  ·obtain rfl:q=s.size:=by omega
   have hT:(a6 s.data.toList L).take s.size=a6 s.data.toList L:=List.take_of_length_le (by rw[a4,h7.out];exact Nat.le_refl _)
   have hP:(convert 43 9 (.slice A0 s.size c0)).run Tryz.prog wr=.ok (.string ⟨(a6 s.data.toList L).toArray⟩) wr:=by
    refine fO (B:=w2.heap.size) ?_
    rw[a4,h7.out]
    rw[hT]at h1
    exact h1
   have hY:∀n,(convert 43 9 (.slice A0 s.size c0)).run Tryz.prog (wr.drewN n)=.ok (.string ⟨(a6 s.data.toList L).toArray⟩) (wr.drewN n):=by
    intro n
    refine fO (B:=w2.heap.size) ?_
    rw[a4,h7.out]
    rw[hT]at h1
    exact h1
   have hz:cF wr g L:=(am hb).irow he.out aq aq
   have hI:=aa fun(n:Nat)=>(nY (wr.drewN n) g s.size s.size k0 0 L (show cF (wr.drewN n) g L from hz) h7.out (by rw[← h7.out];exact hl.out) hn.out ha.out hW).mono (R':=fun e w'=>e=.returned (.int .i64 k0)∧∃m,w'=(wr.drewN n).drewN m) (by rintro e w' ⟨rfl,rfl⟩;exact⟨rfl,0,rfl⟩)
   have hH:=aa (HB.out.trans (hb.mono hj))
   clear h1 hb hT hz
   go_wp2_with fail
   go_quiet (first | (go_at_call 48;exact Calls.quiet_of (hI.out _)))
   go_wp2_with fail
   go_ret3
   exact⟨L,k0,rfl,hh.out,hl.out,hn.out,az hH.out _⟩
theorem ER(w:World)(s:ByteArray)(r:Int)(hs:262144<s.size):Calls Tryz.prog 42 #[.string s,.int .i64 r] w fun e w'=>e=.returned (.tuple #[.string ⟨#[]⟩,.int .i64 3])∧w=w':=by
 have d0:decide ((262144:Int)<(s.size:Int))=true:=ar (by omega)
 clear hs
 go_enter Tryz.func42,Tryz.ntmps42
 go_wp2_with fail
 go_ret2
 exact⟨rfl,rfl⟩
theorem D7(w:World)(s:ByteArray)(r:Int)(hs:s.size≤262144)(hr:r<0∨(s.size:Int)≤r):Calls Tryz.prog 42 #[.string s,.int .i64 r] w fun e w'=>e=.returned (.tuple #[.string ⟨#[]⟩,.int .i64 50])∧w=w':=by
 have d0:decide ((262144:Int)<(s.size:Int))=false:=ao (by omega)
 by_cases h1:r<0
 ·have d1:decide (r<0)=true:=decide_eq_true h1
  clear hs hr
  go_enter Tryz.func42,Tryz.ntmps42
  go_wp2_with fail
  go_ret2
  exact⟨rfl,rfl⟩
 ·have d1:decide (r<0)=false:=decide_eq_false h1
  have d2:decide ((s.size:Int)≤r)=true:=ar (by omega)
  clear hs hr
  go_enter Tryz.func42,Tryz.ntmps42
  go_wp2_with fail
  go_ret2
  exact⟨rfl,rfl⟩
theorem o6(w:World)(s:ByteArray)(r:Nat)(hr:r<s.size)(hs:s.size≤262144):Calls Tryz.prog 42 #[.string s,.int .i64 r] w fun e w'=>e=.returned (.tuple #[.string ⟨(fF s.data.toList r).toArray⟩,.int .i64 0])∧Below w.heap.size w w':=by
 obtain⟨i5,h5,hw,hz,hA⟩:=info_parts Tryz.info5
 have d0:decide ((262144:Int)<(s.size:Int))=false:=ao (by omega)
 have d1:decide ((r:Int)<0)=false:=ao (by omega)
 have d2:decide ((s.size:Int)≤(r:Int))=false:=ao (by omega)
 have HA:=aa (wB w s (by omega))
 have h6:=aa (show s.data.toList.length=s.size from rfl)
 have hE:s.size≤1000000:=by omega
 clear hs
 go_enter Tryz.func42,Tryz.ntmps42
 go_wp2_with fail
 refine HA.out.mono ?_
 rintro e w1 ⟨v1,rfl,h2,h7⟩
 obtain⟨A1,c1,rfl,_,_,_⟩:=aj h2
 have hg:=aJ h2
 obtain⟨g,o,rfl,h4⟩:=hg.2 (by omega)
 have HC:=aa h4
 have hi:=aa h7
 have ha:=h7.size
 clear h2 hg h4 h7 d0 d1 d2
 go_wp2_with fail
 go_loopw [7,8] (fun t x wx=>∃q y:Nat,q≤s.size∧x=.int .i64 y∧y=itr (aF s.data.toList) r q∧wx.ownsRow w1.heap.size 5 1 t q (((fF s.data.toList r).take q).map bv)∧Below w1.heap.size w1 wx) (fun t _ _=>s.size - FT t)
 case atStart=>exact⟨0,r,Nat.zero_le _,rfl,rfl,World.ownsRow_nil _ _ _ _,Below.refl _ _⟩
 case round=>
  obtain⟨q,y,hq,rfl,hy,h0,hb⟩:=hrel
  have h9:y<s.size:=by rw[hy];exact yY s.data.toList r (by rw[h6.out];exact hr) q
  have HB:=aa hb
  have hB:=hb.size
  obtain⟨A0,k0,rfl,hD,hv,hp⟩:=aj h0
  clear hp
  unfold maxLen at hv
  have HO:=aa h0
  have HY:=aa hy
  by_cases e:q<s.size
  ·have d3:decide ((q:Int)<(s.size:Int))=true:=ar (by omega)
   have hh:(aF s.data.toList).getD y 0<s.size:=by
    have:=uO s.data.toList y (by rw[h6.out];exact h9)
    rwa [h6.out]at this
   have h8:(aF s.data.toList).getD y 0=itr (aF s.data.toList) r (q+1):=by rw[hy];rfl
   have hm:=aa (tG s.data.toList r q (by rw[h6.out];exact e))
   have ht:=(hb.cell (p:=⟨g,o+y,none⟩) (World.block_lt_of_cell? w1 _ (HC.out y h9))).trans (HC.out y h9)
   obtain⟨x,hx⟩:∃x,x=(aF s.data.toList).getD y 0:=⟨_,rfl⟩
   rw[← hx]at hh h8 ht
   have hc:=aa h8
   have hf:=dY s x hh
   have hn:=aa hf
   clear h0 hb hy hx h8 hf
   go_wp2_with (at_builtin;refine wpList_append_own _ rfl _ _ 43 rfl w1.heap.size 5 i5 (.int .u8 0) 1 1 Tryz.underlying43 h5 hw hz hA rfl (by decide) _ _ _ rfl (HO.out.alloc _) ⟨wr.heap.size,0,none⟩ 1 1 [.int .u8 (s[x]).toNat] rfl rfl ?c1 ?c2 ?c3 ?c4 ?c5 ?_)
   case c1=>exact bi _ _ _
   case c2=>intro u hu;simp at hu;subst hu;rfl
   case c3=>unfold maxLen;omega
   case c4=>omega
   case c5=>simp;omega
   intro v2 w2 h3 h1 _
   obtain⟨A2,k2,rfl,_,_,_⟩:=aj h3
   have he:Below w1.heap.size w1 w2:=(HB.out.alloc hB _).grown h1 (by simp;omega) (fun k hk=>(HO.out.lt k hk).1)
   have ho:=aa h3
   have hj:=aa he
   clear h3 h1 he
   go_wp2_with fail
   go_roundw
   case rel=>exact⟨q+1,x,by omega,rfl,hc.out,by rw[hm.out,List.map_append,←hc.out,hn.out,List.map_take];exact ho.out,hj.out⟩
   case measure=>show s.size - (q+1)<s.size - q;omega
  ·obtain rfl:q=s.size:=by omega
   have d3:decide ((s.size:Int)<(s.size:Int))=false:=ao (by omega)
   have hT:(fF s.data.toList r).take s.size=fF s.data.toList r:=List.take_of_length_le (by rw[eR,h6.out];exact Nat.le_refl _)
   have hC:(convert 43 9 (.slice A0 s.size k0)).run Tryz.prog wr=.ok (.string ⟨(fF s.data.toList r).toArray⟩) wr:=by
    refine fO (B:=w1.heap.size) ?_
    rw[eR,h6.out]
    rw[hT]at h0
    exact h0
   have hl:=aa (hi.out.trans (hb.mono ha))
   clear h0 hb hy hT
   go_wp2_with fail
   go_ret2
   exact⟨rfl,hl.out⟩
end Go.Proofs.YthakcjehhlpjnaaGreat.S05
