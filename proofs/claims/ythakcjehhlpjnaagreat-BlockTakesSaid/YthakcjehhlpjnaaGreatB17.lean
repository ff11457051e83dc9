import Derived.Test.YthakcjehhlpjnaaGreatB10
import Derived.Lib.AppendZerosOnto
import Derived.Deep.Onto
set_option maxHeartbeats 1600000
set_option maxRecDepth 100000
namespace Go.Proofs.YthakcjehhlpjnaaGreat.S02
def pL:List Nat:=ai 4374732215 33
theorem md:pL.length=33:=af _ _
theorem H7:an pL:=aE _ _
def jC(D:List Nat)(i:Nat):Nat→List Nat
 | 0=>D
 | m+1=>(jC D i m).set (i+m) (((jC D i m).getD (i+m) 0+pL.getD m 0) % 2)
def eZ(D:List Nat)(i:Nat):List Nat:=if D.getD i 0=1 then jC D i 33 else D
def fJ(D:List Nat):Nat→List Nat
 | 0=>D
 | i+1=>eZ (fJ D i) i
def pD(D:List Nat):List Nat:=(fJ D (D.length - 32)).drop (D.length - 32)
theorem pX(D:List Nat)(i m:Nat):(jC D i m).length=D.length:=by
 induction m with
 | zero=>rfl
 | succ m ih=>rw[jC,List.length_set,ih]
theorem t7(D:List Nat)(i m:Nat)(h:an D):an (jC D i m):=by
 induction m with
 | zero=>exact h
 | succ m ih=>
   intro b hb
   rw[jC]at hb
   rcases List.mem_or_eq_of_mem_set hb with h1 | h1
   ·exact ih b h1
   ·rw[h1];exact Nat.mod_lt _ (by omega)
theorem vp(D:List Nat)(i:Nat):(eZ D i).length=D.length:=by
 unfold eZ;split
 ·exact pX _ _ _
 ·rfl
theorem Bf(D:List Nat)(i:Nat)(h:an D):an (eZ D i):=by
 unfold eZ;split
 ·exact t7 _ _ _ h
 ·exact h
theorem eM(D:List Nat)(i:Nat):(fJ D i).length=D.length:=by
 induction i with
 | zero=>rfl
 | succ i ih=>rw[fJ,vp,ih]
theorem oK(D:List Nat)(i:Nat)(h:an D):an (fJ D i):=by
 induction i with
 | zero=>exact h
 | succ i ih=>exact Bf _ _ ih
theorem vJ(D:List Nat)(h:32≤D.length):(pD D).length=32:=by
 unfold pD;rw[List.length_drop,eM];omega
theorem sr(D:List Nat)(h:an D):an (pD D):=(oK D _ h).drop _
open Go.RowKit
theorem He(w:World):Calls Tryz.prog 202 #[] w fun e w'=>∃g cap,e=.returned (.slice (some ⟨g,0,none⟩) 33 cap)∧w'.ownsRow w.heap.size 3 1 (.slice (some ⟨g,0,none⟩) 33 cap) 33 (pL.map iv)∧Below w.heap.size w w':=by
 have hc:Calls Tryz.prog 79 #[.int .u64 4374732215,.int .i64 33] w (oG w 4374732215 33):=o7 w 4374732215 33 (by decide) (by decide)
 have HC:=aa hc
 clear hc
 go_enter Tryz.func202,Tryz.ntmps202
 go_wp2_with fail
 refine HC.out.mono ?_
 rintro e w1 ⟨g,cap,rfl,ho,hb⟩
 go_wp2_with fail
 go_ret
 exact⟨g,cap,rfl,ho,hb⟩
theorem Do(D:List Nat)(i m:Nat):((jC D i m).map iv).set (i+m) (.int .i64 (((jC D i m).getD (i+m) 0+pL.getD m 0) % 2:Nat))=(jC D i (m+1)).map iv:=by
 rw[jC,List.map_set]
 rfl
theorem GH(w:World)(A:Option Addr)(n c:Nat)(L:List Nat)(hi:aw w A n L)(hb:an L)(hn:n≤100000000)(hZ:32≤n):
 Calls Tryz.prog 160 #[.slice A n c] w fun e w'=>∃A' c',e=.returned (.slice A' 32 c')∧aw w' A' 32 (pD L)∧Below w.heap.size w w':=by
 have hl:=hi.1
 have HI:=aa hi
 have HL:=aa hl
 clear hi hl
 go_enter Tryz.func160,Tryz.ntmps160
 go_wp2_with fail
 refine(He w).mono ?_
 rintro e w1 ⟨gp,cp,rfl,hA,hg⟩
 have H3:=am hg
 obtain⟨b,off,rfl,hc⟩:=HI.out.2 (by omega)
 have h8:∀j u,(L.map iv)[j]? =some u→(w1.alloc (.cells #[] 3)).cell? ((⟨b,off,none⟩:Addr).add j)=some u:=by
  intro j u hu
  have hx:j<n:=by
   have:=(List.getElem?_eq_some_iff.1 hu).1
   rw[List.length_map,HL.out]at this
   exact this
  have hP:=World.block_lt_of_cell? w ⟨b,off+j,none⟩ (hc j hx)
  have hy:b<w.heap.size:=hP
  have hz:=hg.size
  rw[Addr.add_lit]
  have h1:=(((hg.alloc hz (.cells #[] 3)).cell (p:=⟨b,off+j,none⟩) hy)).trans (hc j hx)
  rw[h1,←hu,List.getElem?_map,List.getD_eq_getElem?_getD,List.getElem?_eq_getElem (by rw[HL.out];exact hx)]
  rfl
 have hH:=hg.size
 have h9:(w1.alloc (.cells #[] 3)).ownsRow w.heap.size 3 1 (.slice (some ⟨w1.heap.size,0,none⟩) 0 0) 0 []:=by
  have:=World.ownsRow_lit (base:=w.heap.size) (e:=3) (size:=1) w1 #[] 0 hH (by unfold maxLen;omega) (by simp)
  simpa using this
 have hB:(w1.alloc (.cells #[] 3)).ownsRow w.heap.size 3 1 (.slice (some ⟨gp,0,none⟩) 33 cp) 33 (pL.map iv):=hA.alloc _
 have hr:Below w.heap.size w (w1.alloc (.cells #[] 3)):=hg.alloc hH _
 have hN:gp≠w1.heap.size:=by have:=(hA.lt gp rfl).2;omega
 obtain⟨i3,h3,hV,hD,hW⟩:=info_parts Tryz.info3
 have HC:=aa h8
 clear h8 hc
 go_wp2_with (at_builtin;refine wpList_append_lies _ rfl _ _ 36 rfl w.heap.size 3 i3 (.int .i64 0) 1 8 Tryz.underlying36 h3 hV hD hW rfl (by decide) _ _ _ rfl h9 ⟨b,off,none⟩ n c (L.map iv) rfl ?c1 HC.out ?c2 ?c6 ?c3 ?c4 ?c5 (w1.heap.size+1) ?c7 ?_)
 case c1=>rw[List.length_map,HL.out,Nat.mul_one]
 case c2=>intro u hu;obtain⟨q,_,rfl⟩:=List.mem_map.1 hu;rfl
 case c6=>omega
 case c3=>unfold maxLen;omega
 case c4=>omega
 case c5=>simp;omega
 case c7=>simp
 intro gd cd w2 ha h5 hF _
 have h4:w2.ownsRow w.heap.size 3 1 (.slice (some ⟨gd,0,none⟩) n cd) n ((fJ L 0).map iv):=by
  rw[fJ]
  simpa using ha
 have hC:w2.ownsRow w.heap.size 3 1 (.slice (some ⟨gp,0,none⟩) 33 cp) 33 (pL.map iv):=hB.kept h5 (.inr (by simpa [Value.ownBlock]using hN))
 have hM:Below w.heap.size w w2:=hr.grown h5 (by simp;omega) (fun k hk=>(h9.lt k hk).1)
 have hS:gd≠gp:=by
  have h1:=(hA.lt gp rfl).2
  have hL:w1.heap.size=gd∨gd=w1.heap.size+1:=by simpa [Value.ownBlock]using hF
  omega
 obtain⟨_,_,ho,_,hv,_⟩:=aj h4
 have hR:n≤cd:=by
  obtain⟨_,_,ho,h,_,_⟩:=aj h4
  simp only[Value.slice.injEq]at ho
  omega
 have ht:cd≤maxLen:=by
  obtain⟨_,_,ho,_,h,_⟩:=aj h4
  simp only[Value.slice.injEq]at ho
  omega
 unfold maxLen at ht
 clear h5 ha hF ho hv
 go_wp2_with fail
 go_loopw [5] (fun i wr=>∃j:Nat,j≤n - 32∧i=.int .i64 j∧wr.ownsRow w.heap.size 3 1 (.slice (some ⟨gd,0,none⟩) n cd) n ((fJ L j).map iv)∧wr.ownsRow w.heap.size 3 1 (.slice (some ⟨gp,0,none⟩) 33 cp) 33 (pL.map iv)∧Below w.heap.size w wr) (fun i _=>n - 32 - (intOf i).toNat)
 case atStart=>exact⟨0,Nat.zero_le _,rfl,h4,hC,hM⟩
 case round=>
  obtain⟨j,hj,rfl,h7,hG,hs⟩:=hrel
  by_cases h:j<n - 32
  ·have c1:=h7.cellAt j (by omega)
   rw[List.getElem?_map,List.getElem?_eq_getElem (by rw[eM,HL.out];omega)]at c1
   have H2:=oV (fJ L j) j (oK L j hb)
   have hw:(fJ L j)[j]'(by rw[eM,HL.out];omega)=(fJ L j).getD j 0:=by
    rw[List.getD_eq_getElem?_getD,List.getElem?_eq_getElem (by rw[eM,HL.out];omega)];rfl
   have c2:wr.cell? ⟨gd,j,none⟩=some (.int .i64 ((fJ L j).getD j 0:Nat)):=by rw[c1,←hw];rfl
   by_cases h1:(fJ L j).getD j 0=1
   ·rw[h1]at c2
    have H1:=aa h1
    clear h1 c1 hw
    go_wp2_with fail
    go_loopw [6] (fun x wx=>∃m:Nat,m≤33∧x=.int .i64 m∧wx.ownsRow w.heap.size 3 1 (.slice (some ⟨gd,0,none⟩) n cd) n ((jC (fJ L j) j m).map iv)∧wx.ownsRow w.heap.size 3 1 (.slice (some ⟨gp,0,none⟩) 33 cp) 33 (pL.map iv)∧Below w.heap.size w wx) (fun x _=>33 - (intOf x).toNat)
    case atStart=>exact⟨0,by omega,rfl,h7,hG,hs⟩
    case round=>
     obtain⟨m,hm,rfl,h2,he,hh⟩:=hrel
     have hp:(jC (fJ L j) j m).length=n:=by rw[pX,eM,HL.out]
     have hK:=t7 (fJ L j) j m (oK L j hb)
     by_cases hQ:m<33
     ·have k1:wr.cell? ⟨gd,j+m,none⟩=some (.int .i64 ((jC (fJ L j) j m).getD (j+m) 0:Nat)):=by
       rw[h2.cellAt (j+m) (by omega),List.getElem?_map,List.getD_eq_getElem?_getD,List.getElem?_eq_getElem (by rw[hp];omega)]
       rfl
      have k2:wr.cell? ⟨gp,m,none⟩=some (.int .i64 (pL.getD m 0:Nat)):=by
       rw[he.cellAt m (by omega),List.getElem?_map,List.getD_eq_getElem?_getD,List.getElem?_eq_getElem (by rw[md];omega)]
       rfl
      have k3:=h2.frozenAt (j+m)
      have b1:=oV (jC (fJ L j) j m) (j+m) hK
      have b2:=oV pL m H7
      have hq:=h2.stored (j+m) (.int .i64 (((jC (fJ L j) j m).getD (j+m) 0+pL.getD m 0) % 2:Nat))
      rw[Do]at hq
      generalize (jC (fJ L j) j m).getD (j+m) 0=x at*
      generalize pL.getD m 0=y at*
      have h6:(((x+y) % 2:Nat):Int)=((x:Int)+y) % 2:=by omega
      rw[h6]at hq
      have hX:=aa h6
      have hY:=aa hp
      clear h6 hp c2
      go_upto_region 10 with fail
      go_region
      go_wp2_with fail
      go_roundw
      case rel=>
       have hO:w.heap.size≤gd:=(h2.lt gd rfl).1
       have hT:(wr.setCell ⟨gd,j+m,none⟩ (.int .i64 (((x:Int)+y) % 2))).ownsRow w.heap.size 3 1 (.slice (some ⟨gp,0,none⟩) 33 cp) 33 (pL.map iv):=
        he.kept hq.2 (.inr (by simpa [Value.ownBlock]using fun e=>hS e.symm))
       exact⟨m+1,by omega,by go_num,hq.1,hT,(hh.setCell (p:=⟨gd,j+m,none⟩) hO _).drew⟩
      case measure=>simp[intOf];omega
     ·obtain rfl:m=33:=by omega
      have hf:fJ L (j+1)=jC (fJ L j) j 33:=by rw[fJ,eZ,if_pos H1.out]
      rw[← hf]at h2
      have hE:=aa hf
      clear hf hp c2
      go_wp2_with fail
      go_roundw
      case rel=>exact⟨j+1,by omega,by go_num,h2,he,hh⟩
      case measure=>simp[intOf];omega
   ·have h0:(fJ L j).getD j 0=0:=by omega
    rw[h0]at c2
    have H1:=aa h1
    have H0:=aa h0
    clear h1 h0 c1 hw
    have hf:fJ L (j+1)=fJ L j:=by rw[fJ,eZ,if_neg H1.out]
    have hE:=aa hf
    clear hf
    go_wp2_with fail
    go_roundw
    case rel=>exact⟨j+1,by omega,by go_num,by rw[hE.out];exact h7,hG,hs⟩
    case measure=>simp[intOf];omega
  ·obtain rfl:j=n - 32:=by omega
   have hI:=(aJ h7).cut (a:=n - 32) (k:=32) (by omega)
   have hJ:=aa hI
   clear hI
   have e32:n - (n - 32)=32:=by omega
   have E32:=aa e32
   clear e32
   go_wp2_with fail
   go_ret
   refine⟨some ⟨gd,n - 32,none⟩,cd - (n - 32),?_,?_,hs⟩
   ·show Ending.returned (Value.slice (some ⟨gd,n - 32,none⟩) (n - (n - 32)) (cd - (n - 32)))=_
    rw[E32.out]
   ·have h1:=hJ.out
    rw[Option.map_some,Addr.add_lit,Nat.zero_add,List.take_of_length_le (by rw[List.length_drop,eM,HL.out];omega)]at h1
    unfold pD
    rw[HL.out]
    exact h1
theorem iH(m:Nat):(Builtin.zeroCells (Value.int .i64 0).cells m).toList=List.replicate m (.int .i64 0):=by
 apply List.ext_getElem?
 intro j
 by_cases hj:j<m
 ·simp[Builtin.zeroCells,hj,Nat.mod_one,Value.cells]
 ·simp[Builtin.zeroCells,hj,Value.cells]
theorem f5{P:Program}(w:World)(t tn ty e:TypeId)(i:TypeInfo)(kq kn:IntKind)(ht:P.underlying t=some (.slice e))(h8:P.underlying tn=some (.int kn))(hi:P.info? e=some i)(hz:i.zero=some (.int .i64 0))(hs:i.size=1)(h5:i.bytes=8)
 (g sLen sCap:Nat) (cur:Array Value) (hg:w.heap[g]? =some (.cells cur e (0,0)))
 (k:Nat) (h0:0<k) (hk:k≤1000000000) (h1:sLen+k≤sCap) (h6:sLen+k≤cur.size):
 (Builtin.append_ #[t,tn] ty #[.slice (some ⟨g,0,none⟩) sLen sCap,.int kq k]).run P w=
   .ok (.slice (some ⟨g,0,none⟩) (sLen+k) sCap) (w.setRow g (cur.toList.take sLen++List.replicate k (Value.int .i64 0)++cur.toList.drop (sLen+k)).toArray):=by
 have h7:k≠0:=by omega
 have hw:IntKind.i64.wrap (k:Int)=k:=by rw[IntKind.wrap_i64];omega
 have h2:¬(281474976710656<(k:Int)*8):=by omega
 have h3:¬((k:Int)<0):=by omega
 have h4:=run_storeCells_at P g sLen e (List.replicate k (Value.int .i64 0)) 0 cur w hg (by simp;omega) (by intro u hu;rw[List.eq_of_mem_replicate hu];rfl)
 simp only[Nat.add_zero,List.length_replicate]at h4
 simp[Builtin.append_,run_underlying ht,run_underlying h8,sizeOf,typeInfo,zeroValue,hi,hz,hs,h5,asInt,asIntOf,hw,h1,h3,h7,h2,Addr.add_lit,iH,h4]
theorem fk{P:Program}(w:World)(base:Nat)(t tn ty e:TypeId)(i:TypeInfo)(kq kn:IntKind)(ht:P.underlying t=some (.slice e))(hb:P.underlying tn=some (.int kn))(hi:P.info? e=some i)(hz:i.zero=some (.int .i64 0))(hs:i.size=1)(h8:i.bytes=8)
 (v:Value) (n:Nat) (xs:List Value) (h1:w.ownsRow base e 1 v n xs) (k:Nat) (h0:0<k) (hk:k≤1000000000) (hn:n≤1000000000) (h6:base≤w.heap.size):
 ∃v' w',(Builtin.append_ #[t,tn] ty #[v,.int kq k]).run P w=.ok v' w'∧w'.ownsRow base e 1 v' (n+k) (xs++List.replicate k (Value.int .i64 0))∧w.grownBy w' v.ownBlock∧(v'.ownBlock=v.ownBlock∨v'.ownBlock=some w.heap.size):=by
 have h2:(xs++List.replicate k (Value.int .i64 0)).length=(n+k)*1:=by rw[List.length_append,h1.1,List.length_replicate];omega
 have grown:∀(old:Nat),old<n+k→∀(row:Option Nat),
  (w.drew.alloc (.cells (xs.toArray++Builtin.zeroCells (Value.int .i64 0).cells k++Builtin.zeroCells (Value.int .i64 0).cells (grownCap w (n+k) old e - (n+k))) e)).ownsRow base e 1
    (.slice (some ⟨w.heap.size,0,none⟩) (n+k) (grownCap w (n+k) old e)) (n+k) (xs++List.replicate k (Value.int .i64 0))∧
  w.grownBy (w.drew.alloc (.cells (xs.toArray++Builtin.zeroCells (Value.int .i64 0).cells k++Builtin.zeroCells (Value.int .i64 0).cells (grownCap w (n+k) old e - (n+k))) e)) row:=by
  intro old ho row
  have hf:=grownCap_ge w (n+k) old e
  have h9:grownCap w (n+k) old e≤maxLen:=grownCap_le_maxLen w (n+k) old e (by unfold maxLen;omega)
  have hh:xs.length=n:=by rw[h1.1,Nat.mul_one]
  refine⟨⟨h2,.inr ⟨w.heap.size,_,_,rfl,h6,_root_.Go.heap_alloc_new w.drew _,hf,h9,?_,?_⟩⟩,⟨rfl,rfl,rfl,by simp,fun q hq _=>_root_.Go.heap_alloc_old w.drew _ hq⟩⟩
  ·simp only[Array.size_append,List.size_toArray,size_zeroCells,Value.cells,hh]
   simp
   omega
  ·simp only[Array.toList_append,List.append_assoc,iH]
   rw[← List.append_assoc,←h2]
   exact List.take_left
 rcases h1.2 with⟨rfl,rfl⟩ | ⟨g,cap,cur,rfl,hc,hg,hj,h9,he,h4⟩
 ·have hx:xs= []:=List.eq_nil_of_length_eq_zero (by simpa using h1.1)
  subst hx
  have hr:=Lib.run_append_nil_zeros (P:=P) w t tn ty e i (.int .i64 0) kq kn ht hb hi hz k h0 (by omega) (by omega) (by rw[h8];omega)
  have h5:=grown 0 (by omega) (Value.ownBlock (.slice none 0 0))
  simp only[Nat.zero_add,List.nil_append,Array.empty_append]at h5 ⊢
  exact⟨_,_,hr,h5.1,h5.2,Or.inr rfl⟩
 ·rw[Nat.mul_one]at he
  by_cases h3:n+k≤cap
  ·have hr:=f5 (P:=P) w t tn ty e i kq kn ht hb hi hz hs h8 g n cap cur hg k h0 hk h3 (by omega)
   refine⟨_,_,hr,⟨h2,.inr ⟨g,cap,_,rfl,hc,_root_.Go.setRow_heap w g cur _ e _ hg,h3,h9,?_,?_⟩⟩,⟨rfl,rfl,rfl,by simp,fun q _ hq=>_root_.Go.setRow_other w g q _ (fun e=>hq (by simp[Value.ownBlock,e]))⟩,Or.inl rfl⟩
   ·simp only[List.size_toArray,List.length_append,List.length_take,List.length_drop,Array.length_toList,List.length_replicate]
    omega
   ·rw[Nat.mul_one]at h4
    rw[h4,←h2]
    exact List.take_left
  ·have h7:∀j u,xs[j]? =some u→w.cell? ((⟨g,0,none⟩:Addr).add j)=some u:=h1.cells (g:=g) rfl
   have ha:=run_firstCells_some (P:=P) w.drew i.size n ⟨g,0,none⟩ n cap xs (by rw[h1.1,hs]) (by simpa using h7)
   have hr:=Lib.run_append_grow_zeros (P:=P) w t tn ty e i (.int .i64 0) kq kn ht hb hi hz (some ⟨g,0,none⟩) n cap xs ha k h0 (by omega) (by omega) (by omega) (by rw[h8];omega) (by rw[h8];exact growslice_fits (by omega) (by omega))
   have h5:=grown cap (by omega) (Value.ownBlock (.slice (some ⟨g,0,none⟩) n cap))
   exact⟨_,_,hr,h5.1,h5.2,Or.inr rfl⟩
def ia(D R:List Nat):Nat→List Nat
 | 0=>D
 | m+1=>(ia D R m).set m (((ia D R m).getD m 0+R.getD m 0) % 2)
theorem js(D R:List Nat)(m:Nat):(ia D R m).length=D.length:=by
 induction m with
 | zero=>rfl
 | succ m ih=>rw[ia,List.length_set,ih]
theorem un(D R:List Nat)(m:Nat)(h:an D):an (ia D R m):=by
 induction m with
 | zero=>exact h
 | succ m ih=>
   intro b hb
   rw[ia]at hb
   rcases List.mem_or_eq_of_mem_set hb with h1 | h1
   ·exact ih b h1
   ·rw[h1];exact Nat.mod_lt _ (by omega)
theorem DM(D R:List Nat)(m:Nat):((ia D R m).map iv).set m (.int .i64 (((ia D R m).getD m 0+R.getD m 0) % 2:Nat))=(ia D R (m+1)).map iv:=by
 rw[ia,List.map_set]
 rfl
def t6(r:Nat)(l:List UInt8):List Nat:=pD (ia (al l++List.replicate 32 0) (ai r 32) 32)
theorem je(n:Nat):an (List.replicate n 0):=by
 intro b hb
 rw[List.eq_of_mem_replicate hb]
 omega
theorem uh(r:Nat)(l:List UInt8):an (ia (al l++List.replicate 32 0) (ai r 32) 32):=un _ _ _ ((aM l).append (je 32))
theorem tE(r:Nat)(l:List UInt8):(ia (al l++List.replicate 32 0) (ai r 32) 32).length=8*l.length+32:=by
 rw[js,List.length_append,aA,List.length_replicate]
theorem vI(r:Nat)(l:List UInt8):(t6 r l).length=32:=vJ _ (by rw[tE];omega)
theorem zA(r:Nat)(l:List UInt8):an (t6 r l):=sr _ (uh r l)
def pZ(r:Nat)(l:List UInt8):Nat:=val (t6 r l)
theorem yk(r:Nat)(l:List UInt8):pZ r l<4294967296:=by
 have h:=eD (t6 r l) (zA r l)
 rw[vI]at h
 exact h
theorem Ft(w:World)(r:Nat)(s:ByteArray)(hr:r<4294967296)(hs:s.size≤1000000):
 Calls Tryz.prog 105 #[.int .u32 r,.string s] w fun e w'=>e=.returned (.int .u32 (pZ r s.data.toList))∧Below w.heap.size w w':=by
 obtain⟨i3,h3,hQ,hw,hR⟩:=info_parts Tryz.info3
 have HR:=aa hr
 go_enter Tryz.func105,Tryz.ntmps105
 go_wp2_with fail
 refine(Fs w s hs).mono ?_
 rintro e w1 ⟨v,rfl,hu,hy⟩
 have hC:=hy.size
 obtain⟨v2,w2,h9,h8,h5,hJ⟩:=fk (P:=Tryz.prog) w1 w.heap.size 36 3 36 3 i3 .i64 .i64 Tryz.underlying36 Tryz.underlying3 h3 hQ hw hR v (8*s.size) _ hu 32 (by omega) (by omega) (by omega) hC
 have hz:Below w.heap.size w w2:=hy.grown h5 hC (fun k hk=>(hu.lt k hk).1)
 have h0:w2.ownsRow w.heap.size 3 1 v2 (8*s.size+32) ((al s.data.toList++List.replicate 32 0).map iv):=by
  rw[List.map_append,List.map_replicate]
  exact h8
 have hg:=aa h9
 clear h9
 go_wp2_with (at_builtin;refine Lib.wpList_append_run _ rfl _ _ 36 3 rfl v (.int .i64 32) rfl rfl v2 w2 hg.out ?_)
 obtain⟨A2,c2,rfl,ht,hp,hG⟩:=aj h0
 obtain⟨g,rfl⟩:=hG (by omega)
 clear h8 hJ h5 hu
 have hc:Calls Tryz.prog 79 #[.int .u64 r,.int .i64 32] w2 (oG w2 r 32):=o7 w2 r 32 (by omega) (by decide)
 have HC:=aa hc
 clear hc
 go_wp2_with fail
 refine HC.out.mono ?_
 rintro e w3 ⟨gr,cr,rfl,he,hA⟩
 have ha:=hz.size
 have hm:Below w.heap.size w w3:=hz.trans (hA.mono ha)
 have h7:w3.ownsRow w.heap.size 3 1 (.slice (some ⟨g,0,none⟩) (8*s.size+32) c2) (8*s.size+32) ((ia (al s.data.toList++List.replicate 32 0) (ai r 32) 0).map iv):=
  (am hA).row h0 (fun _ _=>aq) aq
 have hv:=he.mono ha
 have hN:g≠gr:=by
  have h1:=(h0.lt g rfl).2
  have h2:=(he.lt gr rfl).1
  omega
 have hL:32≤cr∧cr≤maxLen:=by
  obtain⟨_,_,hP,h,h',_⟩:=aj he
  simp only[Value.slice.injEq]at hP
  omega
 unfold maxLen at hL hp
 clear h0 he
 have HL:=aa (tE r s.data.toList)
 have HB:=aa (uh r s.data.toList)
 have hi:∀m,(ia (al s.data.toList++List.replicate 32 0) (ai r 32) m).length=8*s.size+32:=by
  intro m
  rw[js,List.length_append,aA,List.length_replicate]
  rfl
 have hh:∀m,an (ia (al s.data.toList++List.replicate 32 0) (ai r 32) m):=fun m=>un _ _ _ ((aM _).append (je 32))
 obtain⟨D,hD⟩:∃D,D=al s.data.toList++List.replicate 32 0:=⟨_,rfl⟩
 rw[← hD]at h7 HL HB hi hh
 have HD:=aa hD
 have hx:=aa hi
 have hE:=aa hh
 clear hD hi hh
 obtain⟨n,hn⟩:∃n,n=8*s.size+32:=⟨_,rfl⟩
 have hY:32≤n∧n≤8000032:=by omega
 rw[← hn]at h7 hx ht ⊢
 have HN:=aa hn
 clear hn HL HB
 go_wp2_with fail
 go_loopw [8] (fun i wr=>∃j:Nat,j≤32∧i=.int .i64 j∧wr.ownsRow w.heap.size 3 1 (.slice (some ⟨g,0,none⟩) n c2) n ((ia D (ai r 32) j).map iv)∧wr.ownsRow w.heap.size 3 1 (.slice (some ⟨gr,0,none⟩) 32 cr) 32 ((ai r 32).map iv)∧Below w.heap.size w wr) (fun i _=>32 - (intOf i).toNat)
 case atStart=>exact⟨0,Nat.zero_le _,rfl,h7,hv,hm⟩
 case round=>
  obtain⟨j,hj,rfl,h6,hB,ho⟩:=hrel
  have hb:=hx.out j
  have hl:=hE.out j
  by_cases h:j<32
  ·have k1:wr.cell? ⟨g,j,none⟩=some (.int .i64 ((ia D (ai r 32) j).getD j 0:Nat)):=by
    rw[h6.cellAt j (by omega),List.getElem?_map,List.getD_eq_getElem?_getD,List.getElem?_eq_getElem (by rw[hb];omega)]
    rfl
   have k2:wr.cell? ⟨gr,j,none⟩=some (.int .i64 ((ai r 32).getD j 0:Nat)):=by
    rw[hB.cellAt j (by omega),List.getElem?_map,List.getD_eq_getElem?_getD,List.getElem?_eq_getElem (by rw[af];omega)]
    rfl
   have k3:=h6.frozenAt j
   have b1:=oV (ia D (ai r 32) j) j hl
   have b2:=oV (ai r 32) j (aE 32 r)
   have hf:=h6.stored j (.int .i64 (((ia D (ai r 32) j).getD j 0+(ai r 32).getD j 0) % 2:Nat))
   rw[DM]at hf
   generalize (ia D (ai r 32) j).getD j 0=x at*
   generalize (ai r 32).getD j 0=y at*
   have h4:(((x+y) % 2:Nat):Int)=((x:Int)+y) % 2:=by omega
   rw[h4]at hf
   have hT:=aa h4
   have hV:=aa hb
   clear h4 hb
   go_upto_region 6 with fail
   go_region
   go_wp2_with fail
   go_roundw
   case rel=>
    have hM:w.heap.size≤g:=(h6.lt g rfl).1
    have hO:(wr.setCell ⟨g,j,none⟩ (.int .i64 (((x:Int)+y) % 2))).ownsRow w.heap.size 3 1 (.slice (some ⟨gr,0,none⟩) 32 cr) 32 ((ai r 32).map iv):=
     hB.kept hf.2 (.inr (by simpa [Value.ownBlock]using fun e=>hN e.symm))
    exact⟨j+1,by omega,by go_num,hf.1,hO,(ho.setCell (p:=⟨g,j,none⟩) hM _).drew⟩
   case measure=>simp[intOf];omega
  ·obtain rfl:j=32:=by omega
   have hI:=aJ h6
   have hF:=aa hI
   clear hI hb
   have hS:=ho.size
   go_wp2_with fail
   refine(GH _ _ _ _ _ hF.out hl (by omega) (by omega)).mono ?_
   rintro e w5 ⟨A5,c5,rfl,hH,hK⟩
   go_wp2_with fail
   refine(kz _ _ _ _ _ hH (sr _ hl) (by omega)).mono ?_
   rintro e w6 ⟨rfl,rfl⟩
   have hX:=yk r s.data.toList
   have hq:val (pD (ia D (ai r 32) 32))=pZ r s.data.toList:=by rw[HD.out];rfl
   rw[hq]
   have hW:=aa hq
   clear hq
   go_wp2_with fail
   go_ret
   exact⟨rfl,ho.trans (hK.mono hS)⟩
def db(l:List UInt8):Nat:=4294967295 - pZ 4294967295 l
theorem xH(l:List UInt8):db l<4294967296:=by unfold db;omega
theorem Gj(w:World)(s:ByteArray)(hs:s.size≤1000000):
 Calls Tryz.prog 44 #[.string s] w fun e w'=>e=.returned (.int .u32 (db s.data.toList))∧Below w.heap.size w w':=by
 go_enter Tryz.func44,Tryz.ntmps44
 go_wp2_with fail
 refine(Ft w 4294967295 s (by decide) hs).mono ?_
 rintro e w1 ⟨rfl,hb⟩
 have h1:=yk 4294967295 s.data.toList
 have h0:((db s.data.toList:Nat):Int)=4294967295 - (pZ 4294967295 s.data.toList:Int):=by unfold db;omega
 have HS:=aa h0
 clear h0
 generalize pZ 4294967295 s.data.toList=x at*
 go_wp2_with fail
 go_ret
 refine⟨?_,hb⟩
 show Ending.returned (Value.int .u32 (4294967295 - (x:Int)))=_
 rw[HS.out]
def bX:List Nat→List Nat→List Nat
 | x :: xs,y :: ys=>(x+y) % 2 :: bX xs ys
 | xs,_=>xs
theorem bP(X:List Nat):bX X []=X:=by cases X <;>rfl
theorem jN(Y:List Nat):bX [] Y= []:=by cases Y <;>rfl
theorem ym(X:List Nat):∀Y,(bX X Y).length=X.length:=by
 induction X with
 | nil=>intro Y;rw[jN]
 | cons x xs ih=>
   intro Y
   cases Y with
   | nil=>rw[bP]
   | cons y ys=>simp[bX,ih]
theorem D3(X:List Nat):∀Y,an X→an (bX X Y):=by
 induction X with
 | nil=>intro Y h;rw[jN];exact h
 | cons x xs ih=>
   intro Y h
   cases Y with
   | nil=>rw[bP];exact h
   | cons y ys=>
     intro b hb
     rw[bX]at hb
     rcases List.mem_cons.1 hb with rfl | hb
     ·exact Nat.mod_lt _ (by omega)
     ·exact ih ys (fun c hc=>h c (List.mem_cons_of_mem _ hc)) b hb
theorem ux(X:List Nat):∀(Y:List Nat) (m:Nat),m<Y.length→m<X.length→bX X (Y.take (m+1))=(bX X (Y.take m)).set m (((bX X (Y.take m)).getD m 0+Y.getD m 0) % 2):=by
 induction X with
 | nil=>intro Y m _ h;cases h
 | cons x xs ih=>
   intro Y m hy hx
   cases Y with
   | nil=>cases hy
   | cons y ys=>
     cases m with
     | zero=>simp[bX,bP]
     | succ m=>
       simp only[List.take_succ_cons,bX,List.set_cons_succ,List.getD_cons_succ]
       rw[ih ys m (by simpa using hy) (by simpa using hx)]
theorem D1(X:List Nat):∀Y Z,bX (bX X Y) Z=bX (bX X Z) Y:=by
 induction X with
 | nil=>intro Y Z;simp[jN]
 | cons x xs ih=>
   intro Y Z
   cases Y with
   | nil=>rw[bP,bP]
   | cons y ys=>
     cases Z with
     | nil=>rw[bP,bP]
     | cons z zs=>
       simp only[bX]
       rw[ih ys zs]
       congr 1
       omega
theorem Ak(X:List Nat):∀Y Z,X.length≤Y.length∨Z.length≤Y.length→bX (bX X Y) Z=bX X (bX Y Z):=by
 induction X with
 | nil=>intro Y Z _;simp[jN]
 | cons x xs ih=>
   intro Y Z h
   cases Y with
   | nil=>
     rcases h with h | h
     ·simp at h
     ·have:Z= []:=List.eq_nil_of_length_eq_zero (by simpa using h)
      subst this
      simp only[bP]
   | cons y ys=>
     cases Z with
     | nil=>rw[bP,bP]
     | cons z zs=>
       simp only[bX]
       rw[ih ys zs (by simpa using h)]
       congr 1
       omega
theorem xk(X:List Nat):∀(Y:List Nat) (k:Nat),an X→bX X (Y++List.replicate k 0)=bX X Y:=by
 induction X with
 | nil=>intro Y k _;simp[jN]
 | cons x xs ih=>
   intro Y k h
   have hx:x<2:=h x List.mem_cons_self
   have hs:an xs:=fun c hc=>h c (List.mem_cons_of_mem _ hc)
   cases Y with
   | nil=>
     cases k with
     | zero=>rfl
     | succ k=>
       have h1:=ih [] k hs
       rw[List.nil_append,bP]at h1
       rw[List.nil_append,List.replicate_succ,bX,bP,h1]
       congr 1
       omega
   | cons y ys=>rw[List.cons_append,bX,bX,ih ys k hs]
theorem Ax(Y:List Nat):an Y→bX (List.replicate Y.length 0) Y=Y:=by
 induction Y with
 | nil=>intro _;rfl
 | cons y ys ih=>
   intro h
   have hy:y<2:=h y List.mem_cons_self
   rw[List.length_cons,List.replicate_succ,bX,ih (fun c hc=>h c (List.mem_cons_of_mem _ hc))]
   congr 1
   omega
theorem wK(X:List Nat):∀(X' Y:List Nat),Y.length≤X.length→bX (X++X') Y=bX X Y++X':=by
 induction X with
 | nil=>
   intro X' Y h
   have:Y= []:=List.eq_nil_of_length_eq_zero (by simpa using h)
   subst this
   rw[bP,bP]
 | cons x xs ih=>
   intro X' Y h
   cases Y with
   | nil=>rw[bP,bP]
   | cons y ys=>rw[List.cons_append,bX,bX,ih X' ys (by simpa using h),List.cons_append]
theorem Ez(D R:List Nat)(m:Nat)(hR:m≤R.length)(hD:m≤D.length):ia D R m=bX D (R.take m):=by
 induction m with
 | zero=>rw[ia,List.take_zero,bP]
 | succ m ih=>rw[ia,ih (by omega) (by omega),ux D R m (by omega) (by omega)]
theorem CI(D:List Nat)(i m:Nat)(hm:m≤33)(hD:i+m≤D.length):jC D i m=D.take i++bX (D.drop i) (pL.take m):=by
 induction m with
 | zero=>rw[jC,List.take_zero,bP,List.take_append_drop]
 | succ m ih=>
   have hl:(D.take i).length=i:=by rw[List.length_take];omega
   rw[jC,ih (by omega) (by omega),ux (D.drop i) pL m (by rw[md];omega) (by rw[List.length_drop];omega)]
   rw[List.set_append,if_neg (by omega),hl,Nat.add_sub_cancel_left]
   congr 2
   rw[List.getD_eq_getElem?_getD,List.getElem?_append_right (by omega),hl,Nat.add_sub_cancel_left,←List.getD_eq_getElem?_getD]
def tV:List Nat→List Nat
 | []=> []
 | x :: xs=>if x=1 then bX xs (pL.drop 1)else xs
def pI:Nat→List Nat→List Nat
 | 0,X=>X
 | n+1,X=>pI n (tV X)
theorem za(n:Nat):∀X,pI (n+1) X=tV (pI n X):=by
 induction n with
 | zero=>intro X;rfl
 | succ n ih=>intro X;rw[pI,ih];rfl
theorem Hz:pL=1 :: pL.drop 1:=by decide
theorem IM(T:List Nat):bX (1 :: T) pL=0 :: bX T (pL.drop 1):=by
 conv=>
  lhs
  rw[Hz,bX]
theorem zG(D:List Nat)(i:Nat)(h:i+33≤D.length):(eZ D i).drop (i+1)=tV (D.drop i):=by
 have hc:D.drop i=D.getD i 0 :: D.drop (i+1):=by
  rw[List.drop_eq_getElem_cons (by omega),List.getD_eq_getElem?_getD,List.getElem?_eq_getElem (by omega)]
  rfl
 unfold eZ
 rw[hc,tV]
 split
 ·rename_i h1
  have hl:(D.take i).length=i:=by rw[List.length_take];omega
  have hp:pL.take 33=pL:=List.take_of_length_le (by rw[md];omega)
  have hd:(D.take i).drop (i+1)= []:=List.drop_of_length_le (by omega)
  rw[CI D i 33 (by omega) (by omega),hp,hc,h1,IM,List.drop_append,hl,hd,Nat.add_sub_cancel_left,List.nil_append]
  rfl
 ·rfl
theorem DX(D:List Nat)(i:Nat)(h:i+32≤D.length):(fJ D i).drop i=pI i D:=by
 induction i with
 | zero=>rfl
 | succ i ih=>rw[fJ,zG _ _ (by rw[eM];omega),ih (by omega),za]
theorem yI(D:List Nat)(h:32≤D.length):pD D=pI (D.length - 32) D:=DX D _ (by omega)
def sX:List Nat→Nat→List Nat
 | [],_=> []
 | x :: xs,m=>if(x+m) % 2=1 then bX (xs++ [0]) (pL.drop 1)else xs++ [0]
theorem j4(x:Nat)(xs:List Nat)(m:Nat):sX (x :: xs) m=if(x+m) % 2=1 then bX (xs++ [0]) (pL.drop 1)else xs++ [0]:=rfl
theorem p8(r:List Nat)(m:Nat):(sX r m).length=r.length:=by
 cases r with
 | nil=>rfl
 | cons x xs=>
   rw[j4]
   split
   ·rw[ym,List.length_append];rfl
   ·rw[List.length_append];rfl
theorem CL(r:List Nat)(m:Nat)(h:an r):an (sX r m):=by
 cases r with
 | nil=>exact h
 | cons x xs=>
   have h1:an (xs++ [0]):=an.append (fun c hc=>h c (List.mem_cons_of_mem _ hc)) (je 1)
   rw[j4]
   split
   ·exact D3 _ _ h1
   ·exact h1
def wn(r:List Nat)(M:List Nat):List Nat:=M.foldl sX r
theorem y7(M:List Nat):∀r:List Nat,r.length=32→an r→an M→pI M.length (bX (M++List.replicate 32 0) r)=wn r M:=by
 induction M with
 | nil=>
   intro r hl hr _
   have h:=Ax r hr
   rw[hl]at h
   exact h
 | cons m M ih=>
   intro r hl hr hM
   have h0:an M:=fun c hc=>hM c (List.mem_cons_of_mem _ hc)
   have hY:an (M++List.replicate 32 0):=h0.append (je 32)
   cases r with
   | nil=>cases hl
   | cons x xs=>
     have h1:xs.length=31:=by simpa using hl
     have e1:bX (M++List.replicate 32 0) xs=bX (M++List.replicate 32 0) (xs++ [0]):=(xk _ xs 1 hY).symm
     have e2:tV (bX ((m :: M)++List.replicate 32 0) (x :: xs))=bX (M++List.replicate 32 0) (sX (x :: xs) m):=by
      rw[List.cons_append,bX,tV,sX,Nat.add_comm x m,e1]
      split
      ·exact Ak _ _ _ (.inr (by rw[List.length_drop,md,List.length_append,h1];decide))
      ·rfl
     rw[List.length_cons,pI,e2,ih _ (by rw[p8];exact hl) (CL _ _ hr) h0]
     rfl
theorem zR(r:Nat)(l:List UInt8):t6 r l=wn (ai r 32) (al l):=by
 have h1:(al l++List.replicate 32 0).length=(al l).length+32:=by rw[List.length_append,List.length_replicate]
 unfold t6
 rw[yI _ (by rw[js,h1];omega),js,h1,Nat.add_sub_cancel,Ez _ _ _ (by rw[af];omega) (by rw[h1];omega),List.take_of_length_le (by rw[af];omega)]
 exact y7 _ _ (af _ _) (aE _ _) (aM _)
def fu(c:Nat):Nat:=(2*c % 4294967296) ^^^ (if 2147483648≤c then 79764919 else 0)
def cz:Nat→Nat→Nat
 | 0,c=>c
 | n+1,c=>cz n (fu c)
def jk(c b:Nat):Nat:=cz 8 (c ^^^ (b*16777216))
theorem Hp(a b:Nat):(a ^^^ b) % 2=(a % 2+b % 2) % 2:=by
 have h:(a ^^^ b) % 2=(a % 2) ^^^ (b % 2):=Nat.xor_mod_two_pow (n:=1)
 have ha:a % 2=0∨a % 2=1:=by omega
 have hb:b % 2=0∨b % 2=1:=by omega
 rw[h]
 rcases ha with ha | ha <;>rcases hb with hb | hb <;>rw[ha,hb] <;>rfl
theorem Gw(a b:Nat):(a ^^^ b) / 2=a / 2 ^^^ b / 2:=by
 apply Nat.eq_of_testBit_eq
 intro i
 rw[Nat.testBit_xor,Nat.testBit_div_two,Nat.testBit_div_two,Nat.testBit_div_two,Nat.testBit_xor]
theorem B6(X:List Nat):∀(Y:List Nat) (x y:Nat),X.length=Y.length→bX (X++ [x]) (Y++ [y])=bX X Y++ [(x+y) % 2]:=by
 induction X with
 | nil=>
   intro Y x y h
   have:Y= []:=List.eq_nil_of_length_eq_zero h.symm
   subst this
   rfl
 | cons z X ih=>
   intro Y x y h
   cases Y with
   | nil=>cases h
   | cons w Y=>rw[List.cons_append,List.cons_append,bX,bX,ih Y x y (by simpa using h),List.cons_append]
theorem tZ(n:Nat):∀a b,ai (a ^^^ b) n=bX (ai a n) (ai b n):=by
 induction n with
 | zero=>intro a b;rfl
 | succ n ih=>
   intro a b
   rw[ai,ai,ai,B6 _ _ _ _ (by rw[af,af]),Gw,ih,Hp]
theorem Dz(n v:Nat):ai (v % 2 ^ n) n=ai v n:=by
 have h1:val (ai v n)=v % 2 ^ n:=cV n v
 have h2:=eQ (ai v n) (aE n v)
 rw[af,h1]at h2
 exact h2
theorem IR:pL.drop 1=ai 79764919 32:=by decide
theorem fZ(c:Nat):fu c<4294967296:=by
 unfold fu
 exact Nat.xor_lt_two_pow (n:=32) (Nat.mod_lt _ (by omega)) (by split <;>omega)
theorem qF(n:Nat):∀c,c<4294967296→cz n c<4294967296:=by
 induction n with
 | zero=>intro c h;exact h
 | succ n ih=>intro c _;exact ih _ (fZ c)
theorem mz(c b:Nat):jk c b<4294967296:=qF 7 _ (fZ _)
theorem Du(v:Nat):ai v 1= [v % 2]:=rfl
theorem IL(c:Nat)(h:c<4294967296):ai c 32=(c / 2147483648) :: ai c 31:=by
 have h2:ai c (1+31)=ai (c / 2147483648) 1++ai c 31:=ix 31 c 1
 have h3:c / 2147483648 % 2=c / 2147483648:=Nat.mod_eq_of_lt (by omega)
 rw[Du,h3,List.singleton_append]at h2
 exact h2
theorem Jy(c:Nat):ai c 31++ [0]=ai (2*c % 4294967296) 32:=by
 have h3:ai (c*2) (31+1)=ai c 31++ [0]:=ll c 1 31
 have h4:ai (2*c % 4294967296) 32=ai (2*c) 32:=Dz 32 (2*c)
 rw[h4,←h3,Nat.mul_comm]
theorem AI(c:Nat)(h:c<4294967296):sX (ai c 32) 0=ai (fu c) 32:=by
 rw[IL c h,j4,Jy,IR,fu]
 by_cases hc:2147483648≤c
 ·rw[if_pos (by omega),if_pos hc,tZ]
 ·rw[if_neg (by omega),if_neg hc,Nat.xor_zero]
def xA:Nat→List Nat→List Nat
 | 0,r=>r
 | n+1,r=>xA n (sX r 0)
theorem xm(n:Nat):∀c,c<4294967296→xA n (ai c 32)=ai (cz n c) 32:=by
 induction n with
 | zero=>intro c _;rfl
 | succ n ih=>intro c h;rw[xA,AI c h,ih _ (fZ c)];rfl
theorem Bh(M:List Nat):∀r:List Nat,r.length=32→M.length≤32→wn r M=xA M.length (bX r M):=by
 induction M with
 | nil=>intro r _ _;rw[bP];rfl
 | cons m M ih=>
   intro r hl hM
   cases r with
   | nil=>cases hl
   | cons x xs=>
     have h1:xs.length=31:=by simpa using hl
     have h0:M.length≤31:=by simpa using hM
     have e1:sX (bX (x :: xs) (m :: M)) 0=bX (sX (x :: xs) m) M:=by
      rw[bX,j4,j4,Nat.add_zero,Nat.mod_mod,←wK xs [0] M (by omega)]
      split
      ·exact D1 _ _ _
      ·rfl
     rw[List.length_cons,xA,e1,←ih _ (by rw[p8];exact hl) (by omega)]
     rfl
theorem C5(c b:Nat)(hc:c<4294967296)(hb:b<256):wn (ai c 32) (ai b 8)=ai (jk c b) 32:=by
 have h1:bX (ai c 32) (ai b 8)=ai (c ^^^ (b*16777216)) 32:=by
  rw[tZ,show b*16777216=b*2 ^ 24 from rfl,ll b 24 8,xk _ _ _ (aE 32 c)]
 rw[Bh _ _ (af _ _) (by rw[af];omega),af,h1,xm _ _ (Nat.xor_lt_two_pow (n:=32) hc (by omega))]
 rfl
theorem zq(l:List UInt8):∀c,c<4294967296→wn (ai c 32) (al l)=ai (l.foldl (fun c b=>jk c b.toNat) c) 32:=by
 induction l with
 | nil=>intro c _;rfl
 | cons b l ih=>
   intro c hc
   rw[eC,wn,List.foldl_append]
   show wn (wn (ai c 32) (ai b.toNat 8)) (al l)=_
   rw[C5 c b.toNat hc b.toNat_lt,ih _ (mz _ _)]
   rfl
def fU(c:Nat)(l:List UInt8):Nat:=l.foldl (fun c b=>jk c b.toNat) c
theorem rx(l:List UInt8):∀c,c<4294967296→fU c l<4294967296:=by
 induction l with
 | nil=>intro c h;exact h
 | cons b l ih=>intro c _;exact ih _ (mz _ _)
theorem sg(c:Nat)(l:List UInt8)(hc:c<4294967296):pZ c l=fU c l:=by
 unfold pZ
 rw[zR,zq l c hc,cV]
 exact Nat.mod_eq_of_lt (rx l c hc)
theorem ry(c:Nat)(a b:List UInt8):fU c (a++b)=fU (fU c a) b:=List.foldl_append
theorem Ex(a b:Nat):2*(a ^^^ b)=(2*a) ^^^ (2*b):=by
 have h:=Nat.shiftLeft_xor_distrib (a:=a) (b:=b) (i:=1)
 rw[Nat.shiftLeft_eq,Nat.shiftLeft_eq,Nat.shiftLeft_eq]at h
 rw[Nat.mul_comm 2,Nat.mul_comm 2 a,Nat.mul_comm 2 b]
 exact h
theorem EV(a b n:Nat):(a ^^^ b)*2 ^ n=(a*2 ^ n) ^^^ (b*2 ^ n):=by
 have h:=Nat.shiftLeft_xor_distrib (a:=a) (b:=b) (i:=n)
 rw[Nat.shiftLeft_eq,Nat.shiftLeft_eq,Nat.shiftLeft_eq]at h
 exact h
theorem Hi(a b n:Nat):(a ^^^ b) / 2 ^ n=(a / 2 ^ n) ^^^ (b / 2 ^ n):=by
 have h:=Nat.shiftRight_xor_distrib (a:=a) (b:=b) (i:=n)
 rw[Nat.shiftRight_eq_div_pow,Nat.shiftRight_eq_div_pow,Nat.shiftRight_eq_div_pow]at h
 exact h
theorem we(a b:Nat):(a ^^^ b)*16777216=(a*16777216) ^^^ (b*16777216):=by
 have h:=EV a b 24
 rw[show (2:Nat) ^ 24=16777216 from rfl]at h
 exact h
theorem FX(a b c d:Nat):(a ^^^ b) ^^^ (c ^^^ d)=(a ^^^ c) ^^^ (b ^^^ d):=by
 rw[Nat.xor_assoc,←Nat.xor_assoc b c d,Nat.xor_comm b c,Nat.xor_assoc c b d,←Nat.xor_assoc]
theorem y9(a b:Nat)(ha:a<4294967296)(hb:b<4294967296):fu (a ^^^ b)=fu a ^^^ fu b:=by
 have h1:2*(a ^^^ b) % 4294967296=(2*a % 4294967296) ^^^ (2*b % 4294967296):=by
  rw[Ex]
  exact Nat.xor_mod_two_pow (n:=32)
 have h2:(a ^^^ b) / 2147483648=(a / 2147483648) ^^^ (b / 2147483648):=Hi a b 31
 have hx:a ^^^ b<4294967296:=Nat.xor_lt_two_pow (n:=32) ha hb
 have h3:(if 2147483648≤a ^^^ b then 79764919 else 0)=(if 2147483648≤a then 79764919 else 0) ^^^ (if 2147483648≤b then 79764919 else 0):=by
  have h0:a / 2147483648=0∨a / 2147483648=1:=by omega
  have h4:b / 2147483648=0∨b / 2147483648=1:=by omega
  rcases h0 with h0 | h0 <;>rcases h4 with h4 | h4 <;>rw[h0,h4]at h2
  ·have:(a ^^^ b) / 2147483648=0:=h2
   rw[if_neg (by omega),if_neg (by omega),if_neg (by omega)]
   rfl
  ·have:(a ^^^ b) / 2147483648=1:=h2
   rw[if_pos (by omega),if_neg (by omega),if_pos (by omega)]
   rfl
  ·have:(a ^^^ b) / 2147483648=1:=h2
   rw[if_pos (by omega),if_pos (by omega),if_neg (by omega)]
   rfl
  ·have:(a ^^^ b) / 2147483648=0:=h2
   rw[if_neg (by omega),if_pos (by omega),if_pos (by omega)]
   rfl
 unfold fu
 rw[h1,h3]
 exact FX _ _ _ _
theorem xC(n:Nat):∀a b,a<4294967296→b<4294967296→cz n (a ^^^ b)=cz n a ^^^ cz n b:=by
 induction n with
 | zero=>intro a b _ _;rfl
 | succ n ih=>
   intro a b ha hb
   rw[cz,cz,cz,y9 a b ha hb,ih _ _ (fZ a) (fZ b)]
theorem eI(d:Nat)(h:d<2147483648):fu d=2*d:=by
 unfold fu
 rw[if_neg (by omega),Nat.xor_zero,Nat.mod_eq_of_lt (by omega)]
theorem wS(d:Nat)(h:d<16777216):cz 8 d=d*256:=by
 simp only[cz]
 rw[eI d (by omega),eI (2*d) (by omega),eI (2*(2*d)) (by omega),eI (2*(2*(2*d))) (by omega),eI (2*(2*(2*(2*d)))) (by omega),eI (2*(2*(2*(2*(2*d))))) (by omega),eI (2*(2*(2*(2*(2*(2*d)))))) (by omega),eI (2*(2*(2*(2*(2*(2*(2*d))))))) (by omega)]
 omega
theorem DS(c:Nat):c=(c / 16777216*16777216) ^^^ (c % 16777216):=by
 have hd:c / 16777216*16777216=(c >>> 24) <<< 24:=by rw[Nat.shiftLeft_eq,Nat.shiftRight_eq_div_pow]
 have hm:c % 16777216=c % 2 ^ 24:=rfl
 apply Nat.eq_of_testBit_eq
 intro i
 rw[hd,hm,Nat.testBit_xor,Nat.testBit_shiftLeft,Nat.testBit_shiftRight,Nat.testBit_mod_two_pow]
 by_cases h:i<24
 ·simp[h,show ¬(24≤i) by omega]
 ·simp[h,show 24≤i by omega,show 24+(i - 24)=i by omega]
def jB(i:Nat):Nat:=cz 8 (i*16777216)
theorem Dj(i:Nat):jB i<4294967296:=by
 unfold jB
 rw[cz]
 exact qF 7 _ (fZ _)
theorem wv(c b:Nat)(hc:c<4294967296)(hb:b<256):jk c b=(c % 16777216*256) ^^^ jB ((c / 16777216) ^^^ b):=by
 have h1:c ^^^ (b*16777216)=(c % 16777216) ^^^ (((c / 16777216) ^^^ b)*16777216):=by
  have h2:((c / 16777216) ^^^ b)*16777216=(c / 16777216*16777216) ^^^ (b*16777216):=we (c / 16777216) b
  rw[h2,←Nat.xor_assoc,Nat.xor_comm (c % 16777216),←DS]
 have h3:(c / 16777216) ^^^ b<256:=Nat.xor_lt_two_pow (n:=8) (by omega) hb
 have h4:c % 16777216<16777216:=Nat.mod_lt _ (by omega)
 unfold jk jB
 rw[h1,xC 8 _ _ (by omega) (by omega),wS _ h4]
end Go.Proofs.YthakcjehhlpjnaaGreat.S02
