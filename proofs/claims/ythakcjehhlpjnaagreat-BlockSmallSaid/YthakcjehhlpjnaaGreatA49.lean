import Derived.Test.YthakcjehhlpjnaaGreatA48
import Derived.Laws.IdiomCopy
import Derived.Lib.BytesEntry
import Derived.Lib.AtoiErrMem
import Derived.Deep.Onto
set_option maxHeartbeats 1600000
set_option maxRecDepth 100000
namespace Go.Proofs.YthakcjehhlpjnaaGreat.S06
open Go.RowKit
def LIn(w:World)(g:Nat)(l:List UInt8):Prop:=∀i,i<l.length→w.cell? ⟨g,i,none⟩=some (bv (l.getD i 0))∧w.frozen? ⟨g,i,none⟩=false
theorem LIn.below{w w':World}{B g:Nat}{l:List UInt8}(h:LIn w g l)(hb:Below B w w')(hg:g<B):LIn w' g l:=by
 intro i hi
 refine⟨(hb.cell (p:=⟨g,i,none⟩) hg).trans (h i hi).1,?_⟩
 have:=(h i hi).2
 unfold World.frozen? at this ⊢
 rw[show w'.heap[(⟨g,i,none⟩:Addr).block]? =w.heap[g]? from hb.block g hg]
 exact this
theorem qC(l:List UInt8)(p:Nat):(ew l p).getD 0 0=l.getD p 0:=rfl
theorem Da(l:List UInt8)(p i:Nat)(h:i<p)(hp:p<l.length):(ew l p).getD (i+1) 0=l.getD i 0:=by
 unfold ew
 rw[List.getD_cons_succ,List.getD_eq_getElem?_getD,List.getElem?_append_left (by rw[List.length_take];omega),List.getElem?_take,if_pos h,←List.getD_eq_getElem?_getD]
theorem yL(l:List UInt8)(p i:Nat)(h:p≤i)(hi:i+1<l.length):(ew l p).getD (i+1) 0=l.getD (i+1) 0:=by
 have hl:(l.take p).length=p:=by rw[List.length_take];omega
 unfold ew
 rw[List.getD_cons_succ,List.getD_eq_getElem?_getD,List.getElem?_append_right (by omega),List.getElem?_drop,hl,show p+1+(i - p)=i+1 by omega,←List.getD_eq_getElem?_getD]
theorem l9{B g:Nat}(hB:B≤g){w:World}:∀(vs:List Value) (o:Nat) (w':World),ai B [g] [] w w'→ai B [g] [] w (w'.setCells g o vs)
 | [],_,_,h=>h
 | v :: r,o,w',h=>by
   rw[World.setCells]
   exact l9 hB r (o+1) _ (h.set (p:=⟨g,o,none⟩) hB (List.mem_singleton.2 rfl) v)
theorem EM(w:World)(g i:Nat)(j:Nat):w.cell? ((⟨g,i,none⟩:Addr).add j)=w.cell? ⟨g,i+j,none⟩:=by
 congr 1
 unfold Addr.add
 split <;>simp_all
theorem pF{P:Program}{w w':World}{ops:Array Oper}{rest:List Oper}{o:Oper}{a:Act}{Q:Exit→Act→World→Prop}(h1:o.guard=none)(d s:Operand)(dT sT:TypeId)
 (ho:o.op=.call { callee:=.builtin .copy,args:=#[d,s],argTypes:=#[dT,sT] }) (dv sv:Value) (k:Nat) (hd:a.eval d=dv) (hs:a.eval s=sv) (h0:(Builtin.copy_ #[dT,sT] o.type #[dv,sv]).run P w=.ok (goInt k) w')
 (h:wpList P ops Q rest (a.put o.dst (goInt k)) w'):wpList P ops Q (o :: rest) a w:=by
 refine wpList_plain h1 fun K hK=> ?_
 unfold Oper.wp
 simp[execOp,ho,resolve,invoke,builtin,hd,hs,h0,Result.andThen]
 exact hK _ _ h
def ve(B:Nat)(w:World)(g:Nat)(l:List UInt8)(p:Nat)(e:Ending)(w':World):Prop:=e=.returned (.tuple #[])∧LIn w' g (ew l p)∧ai B [g] [] w w'
theorem Bd(B:Nat)(w:World)(g n c:Nat)(l:List UInt8)(p:Nat)(hB:B≤g)(hL:LIn w g l)(hn:l.length=n)(hr:n≤c)(hp:p<n)(hl:n≤1000000):
 Calls Tryz.prog 53 #[.slice (some ⟨g,0,none⟩) n c,.int .i64 p] w (ve B w g l p):=by
 obtain⟨i5,h5,hw,hk,hx⟩:=info_parts Tryz.info5
 have h2:((l.take p).map bv).length=p:=by rw[List.length_map,List.length_take];omega
 have h8:∀j v,((l.take p).map bv)[j]? =some v→w.drew.cell? ((⟨g,0,none⟩:Addr).add j)=some v:=by
  intro j v hv
  have hj:j<p:=by have:=(List.getElem?_eq_some_iff.1 hv).1;omega
  rw[EM,Nat.zero_add]
  show w.cell? _=_
  rw[(hL j (by omega)).1,←hv,List.getElem?_map,List.getElem?_take,if_pos hj,List.getElem?_eq_getElem (by omega),List.getD_eq_getElem?_getD,List.getElem?_eq_getElem (by omega)]
  rfl
 have h9:∀v∈(l.take p).map bv,v.oneCell'=true:=by
  intro v hv
  obtain⟨x,_,rfl⟩:=List.mem_map.1 hv
  rfl
 have h4:∀ty,(Builtin.copy_ #[43,43] ty #[.slice (if c=1 then some ⟨g,0,none⟩else some ⟨g,1,none⟩) (n - 1) (c - 1),.slice (some ⟨g,0,none⟩) p c]).run Tryz.prog w.drew=.ok (goInt p) (w.drew.setCells g 1 ((l.take p).map bv)):=by
  intro ty
  have h1:(Tryz.prog.info? 5).map (·.size)=some 1:=by rw[h5];exact congrArg some hk
  by_cases h0:p=0
  ·subst h0
   have:=fun d=>run_copy_none (P:=Tryz.prog) w.drew 43 43 ty 5 d (some ⟨g,0,none⟩) (n - 1) (c - 1) 0 c Tryz.underlying43 h1 (Nat.zero_min _)
   exact this _
  ·rw[if_neg (by omega)]
   have:=run_copy_cells (P:=Tryz.prog) w.drew 43 43 ty 5 g 1 (n - 1) (c - 1) ⟨g,0,none⟩ p c ((l.take p).map bv) Tryz.underlying43 h1 (by rw[h2];exact(Nat.min_eq_left (by omega)).symm) h8
    (fun j hj=>by
      rw[h2]at hj
      show(w.cell? _).isSome=true
      rw[(hL (1+j) (by omega)).1]
      rfl) (fun j hj=>by rw[h2]at hj;exact(hL (1+j) (by omega)).2) h9
   rw[h2]at this
   exact this
 have hh:=(hL p (by omega)).1
 obtain⟨b,hb⟩:∃b,b=(l.getD p 0).toNat:=⟨_,rfl⟩
 have he:bv (l.getD p 0)=.int .u8 b:=by rw[hb];rfl
 rw[he]at hh
 have hs:(0:Int)≤(p:Int):=by omega
 have ht:(p:Int)<(n:Int):=by omega
 have hu:(p:Int)≤(c:Int):=by omega
 have hm:(1:Int)≤(n:Int):=by omega
 have ho:(0:Int)<(n:Int):=by omega
 have hq:(n:Int)≤(c:Int):=by omega
 obtain⟨w2,h6⟩:∃w2,w2=w.drew.setCells g 1 ((l.take p).map bv):=⟨_,rfl⟩
 have hS:ai B [g] [] w w2:=by
  rw[h6]
  exact l9 hB _ _ _ (ai.refl B [g] [] w).drew
 have hg:∀j,j<p→w2.cell? ⟨g,1+j,none⟩=some (bv (l.getD j 0)):=by
  intro j hj
  rw[h6,World.cell?_setCells_in g ((l.take p).map bv) 1 w.drew (fun i hi=>by
   rw[h2]at hi
   show(w.cell? _).isSome=true
   rw[(hL (1+i) (by omega)).1]
   rfl) j (by rw[h2];exact hj)]
  rw[List.getElem_map,List.getElem_take,List.getD_eq_getElem?_getD,List.getElem?_eq_getElem (by omega)]
  rfl
 have h3:∀j,(j=0∨p<j)→w2.cell? ⟨g,j,none⟩=w.cell? ⟨g,j,none⟩:=by
  intro j hj
  rw[h6,World.cell?_setCells_out g _ 1 w.drew ⟨g,j,none⟩ (fun _ _=>by rw[h2];show j<1∨1+p≤j;omega)]
  rfl
 have hf:∀x,w2.frozen? x=w.frozen? x:=by
  intro x
  rw[h6,World.frozen?_setCells]
  rfl
 rw[← h6]at h4
 have h0:w2.cell? ⟨g,0,none⟩=some (bv (l.getD 0 0)):=by rw[h3 0 (.inl rfl),(hL 0 (by omega)).1]
 have f0:w2.frozen? ⟨g,0,none⟩=false:=by rw[hf];exact(hL 0 (by omega)).2
 have h7:ve B w g l p (.returned (.tuple #[])) (w2.setCell ⟨g,0,none⟩ (.int .u8 b)):=by
  refine⟨rfl,?_,hS.set (p:=⟨g,0,none⟩) hB (List.mem_singleton.2 rfl) _⟩
  intro i hi
  rw[dI l p (by omega)]at hi
  refine⟨?_,by rw[World.frozen?_setCell,hf];exact(hL i hi).2⟩
  match i,hi with
  | 0,_=>rw[qC,World.cell?_setCell_same _ _ _ h0,he]
  | i+1,hi=>
    rw[World.cell?_setCell_other _ _ _ _ (by simp)]
    by_cases e:i<p
    ·rw[Da l p i e (by omega),Nat.add_comm]
     exact hg i e
    ·rw[yL l p i (by omega) hi,h3 (i+1) (.inr (by omega))]
     exact(hL (i+1) hi).1
 have ha:=aa h7
 have hc:=aa h4
 clear h7 h4 h6 hg h3 hf h8 h9 he hb h2 hS hL
 generalize ve B w g l p=PO at*
 go_enter Tryz.func53,Tryz.ntmps53
 go_upto_region 1 with fail
 go_still_tail 5,(by kernel_rfl)
 change wpList _ _ _ _ _ w.drew
 generalize (if c=1 then some (⟨g,0,none⟩:Addr)else some ⟨g,1,none⟩)=dA at*
 refine pF rfl _ _ 43 43 rfl _ _ p rfl rfl (hc.out _) ?_
 go_wp2_with fail
 (try simp only[Exit.inBlock,Exit.then])
 refine bodyPost_ret (results_none rfl _ _ _) rfl ?_
 exact ha.out
theorem BS(l:List UInt8)(b:UInt8):Lib.indexByte l b=if b∈l then((l.idxOf b:Nat):Int)else -1:=by
 induction l with
 | nil=>simp[Lib.indexByte]
 | cons x l ih=>
   unfold Lib.indexByte
   rw[List.idxOf_cons]
   by_cases e:x=b
   ·subst e
    simp
   ·have e1:(x==b)=false:=by simpa using e
    have e2:¬b=x:=fun h=>e h.symm
    rw[e1,ih]
    simp only[Bool.false_eq_true,if_false,cond_false,List.mem_cons,e2,false_or]
    by_cases hm:b∈l
    ·rw[if_pos hm,if_pos hm]
     have:(((l.idxOf b:Nat):Int)== -1)=false:=by
      rw[beq_eq_false_iff_ne]
      omega
     rw[this]
     simp
    ·rw[if_neg hm,if_neg hm]
     simp
theorem Eu(l:List UInt8):Lib.bytesOf (l.map fun b=>(b.toNat:Int))=l:=by
 unfold Lib.bytesOf
 rw[List.map_map]
 conv=>rhs;rw[← List.map_id l]
 refine List.map_congr_left fun b _=> ?_
 show UInt8.ofNat ((b.toNat:Int).toNat)=b
 rw[Int.toNat_natCast,UInt8.ofNat_toNat]
theorem wU(w:World)(g n c:Nat)(l:List UInt8)(b:UInt8)(hL:LIn w g l)(hn:l.length=n):
 Calls Tryz.prog 52 #[.slice (some ⟨g,0,none⟩) n c,.int .u8 b.toNat] w fun e w'=>e=.returned (.int .i64 (if b∈l then((l.idxOf b:Nat):Int)else -1))∧w'=w:=by
 have h0:=Lib.run_indexByteSlice (P:=Tryz.prog) w g 0 n c (l.map fun b=>(b.toNat:Int)) (by rw[List.length_map,hn]) (fun i hi=>by
  rw[Nat.zero_add,(hL i (by omega)).1,List.getD_eq_getElem?_getD,List.getD_eq_getElem?_getD,List.getElem?_map,List.getElem?_eq_getElem (by omega)]
  rfl) b.toNat
 rw[Eu,Int.toNat_natCast,show b.toNat.toUInt8=b from UInt8.ofNat_toNat,BS]at h0
 have HR:=aa h0
 clear h0 hL hn
 generalize (if b∈l then((l.idxOf b:Nat):Int)else -1)=y at*
 go_enter Tryz.func52,Tryz.ntmps52
 go_wp2_with fail
 rw[run_callFunc_extern Tryz.func110 (by kernel_rfl) (by kernel_rfl) (by kernel_rfl) (e:=Extern.BytealgIndexByte.indexByte) (by kernel_rfl),HR.out]
 simp only[Result.andThen]
 rw[Oper.upon_value]
 go_wp2_with fail
 go_ret
 exact⟨rfl,rfl⟩
theorem xr(w:World)(s:ByteArray):∃c w2,(convert 9 43 (.string s)).run Tryz.prog w=.ok (.slice (some ⟨w.heap.size,0,none⟩) s.size c) w2∧s.size≤c∧LIn w2 w.heap.size s.data.toList∧Below w.heap.size w w2∧w2.heap.size=w.heap.size+1:=by
 refine⟨_,_,Lib.run_convert_string_bytes (P:=Tryz.prog) w 9 43 5 s Tryz.underlying9 Tryz.underlying43 Tryz.underlying5,?_,?_,Lib.bytesWorld_below w 5 s,Lib.bytesWorld_size w 5 s⟩
 ·exact grownCap_ge _ _ _ _
 ·intro i hi
  have h0:i<s.size:=hi
  refine⟨Lib.bytesWorld_cell w 5 s i h0,?_⟩
  have h2:s.size≤(Lib.bytesCells w 5 s).size:=by
   simp[Lib.bytesCells]
  simp[World.frozen?,Lib.bytesWorld_at_new]
  intro h1
  exfalso
  omega
theorem BG(w:World)(s a:ByteArray)(ha:a.size≤1000000)(hm:¬gB a.data.toList):Calls Tryz.prog 18 #[.string s,.string a] w (oF w s.data.toList a.data.toList):=by
 have HM:=aa (cG w a ha)
 have d0:decide (gB a.data.toList)=false:=decide_eq_false hm
 rw[d0]at HM
 have h0:=aa (show kR s.data.toList a.data.toList=([],2)from if_neg hm)
 clear d0 hm
 go_enter Tryz.func18,Tryz.ntmps18
 go_wp2_with fail
 refine HM.out.mono ?_
 rintro e w1 ⟨rfl,h1⟩
 have h2:=aa h1
 clear h1
 go_wp2_with fail
 go_ret2
 exact⟨_, [],2,h0.out,rfl,World.ownsRow_nil _ _ _ _,h2.out⟩
theorem Ad(w:World)(s a:ByteArray)(hs:s.size≤1000000)(ha:a.size≤1000000)(hm:gB a.data.toList):Calls Tryz.prog 18 #[.string s,.string a] w (oF w s.data.toList a.data.toList):=by
 obtain⟨i3,h3,hO,hP,hQ⟩:=info_parts Tryz.info3
 have hK:∀w1:World,(Instr.makeSlice 36 (.int .i64 0) (.int .i64 s.size)).run Tryz.prog w1=.ok (.slice (some ⟨w1.heap.size,0,none⟩) 0 s.size) (w1.alloc (.cells (madeCells #[.int .i64 0] s.size) 3)):=by
  intro w1
  have h:=run_make (P:=Tryz.prog) w1 36 3 i3 (.int .i64 0) Tryz.underlying36 h3 hO .i64 .i64 (0:Int) (s.size:Int) (by omega) (by omega) (by rw[hQ];omega) (by omega)
  rw[hP,Int.toNat_natCast,Nat.mul_one]at h
  exact h
 have hV:=aa hK
 have HM:=aa (cG w a ha)
 have d0:decide (gB a.data.toList)=true:=decide_eq_true hm
 rw[d0]at HM
 have he:=aa (show kR s.data.toList a.data.toList=(match cK s.data.toList a.data.toList with | none=>([],60) | some l=>(l,0))from if_pos hm)
 have H0:=aa (show s.data.toList.length=s.size from rfl)
 have HC:=aa (show a.data.toList.length=a.size from rfl)
 clear d0 hm hK
 go_enter Tryz.func18,Tryz.ntmps18
 go_wp2_with fail
 refine HM.out.mono ?_
 rintro e w1 ⟨rfl,hy⟩
 have hE:=aa hy
 have h9:=hy.size
 obtain⟨c,w2,h5,H4,h7,hz,h8⟩:=xr w1 a
 obtain⟨g,hg⟩:∃g,g=w1.heap.size:=⟨_,rfl⟩
 have hB:=hV.out w2
 rw[← hg]at h5 h7 h8
 have hS:=aa hz
 have hr:=aa h7
 have H1:=aa h8
 have HG:=aa hg
 have hI:g<w2.heap.size:=by omega
 have hc:w1.heap.size≤w2.heap.size:=hz.size
 clear hy hz h7 h8 hg
 go_wp2_with fail
 clear h5 hB
 go_loopw [7,20] (fun out i wx=>∃(q:Nat) (t:List UInt8) (o:List Nat),q≤s.size∧i=.int .i64 q∧t.length=a.size∧LIn wx g t∧wx.ownsRow w2.heap.size 3 1 out o.length (o.map iv)∧o.length=q∧
  cK s.data.toList a.data.toList=(cK (s.data.toList.drop q) t).map (o++ ·)∧Below w1.heap.size w1 wx∧w2.heap.size≤wx.heap.size) (fun _ i _=>s.size - (intOf i).toNat)
 case atStart=>
  have hm:(madeCells #[.int .i64 0] s.size).size=s.size*1:=by simp[madeCells]
  have hA:Below w2.heap.size w2 (w2.alloc (.cells (madeCells #[.int .i64 0] s.size) 3)):=(Below.refl _ _).alloc (ah _) _
  exact⟨0,a.data.toList, [],Nat.zero_le _,rfl,rfl,hr.out.below hA hI,World.ownsRow_made w2 (madeCells #[.int .i64 0] s.size) s.size (ah _) (by unfold maxLen;omega) hm,rfl,by simp,hS.out.trans (hA.mono hc),hA.size⟩
 case round=>
  obtain⟨q,t,o,hq,rfl,htl,hJ,h2,hC,hH,hb,HA⟩:=hrel
  obtain⟨A0,c0,rfl,H6,H5,H3⟩:=aq h2
  clear H3
  unfold maxLen at H5
  rw[hC]at h2 H6 ⊢
  have hw:=aa hC
  have HB:=aa hb
  have ho:=aa hH
  have HD:=aa htl
  have hF:=aa hJ
  obtain⟨X,hX⟩:∃X,X=o.map iv:=⟨_,rfl⟩
  rw[← hX]at h2
  have HX:=aa hX
  have HO:=aa h2
  clear hX h2 hC hb hH hJ
  by_cases e:q<s.size
  ·have d1:decide ((q:Int)<(s.size:Int))=true:=aC (by omega)
   have hl:=BY s q e
   have hf:=aa (wU wr g a.size c t s[q] hF.out htl)
   by_cases e1:s[q]∈t
   ·have hD:t.idxOf s[q]<t.length:=List.idxOf_lt_length_of_mem e1
    rw[if_pos e1]at hf
    obtain⟨p,hp⟩:∃p,p=t.idxOf s[q]:=⟨_,rfl⟩
    rw[← hp]at hf hD
    have d2:decide ((p:Int)<0)=false:=au (by omega)
    have H7:p<a.size:=by omega
    have H2:=aa (Bd w1.heap.size wr g a.size c t p (by rw[HG.out];exact Nat.le_refl _) hF.out htl H4 H7 ha)
    have hM:cK s.data.toList a.data.toList=(cK (s.data.toList.drop (q+1)) (ew t p)).map ((o++ [p])++ ·):=by
     rw[ho.out,hl,cK,if_pos e1,←hp,Option.map_map]
     congr 1
     funext l
     simp
    have hx:=aa (show(ew t p).length=a.size from(dI _ p hD).trans htl)
    have hY:=aa hM
    clear hl e1 hp hM htl hD
    go_wp2_with fail
    refine hf.out.mono ?_
    rintro e w3 ⟨rfl,rfl⟩
    go_wp2_with fail
    refine H2.out.mono ?_
    rintro e w3 ⟨rfl,hi,h4⟩
    have hN:=h4.row HO.out (fun k hk=>by have:=(HO.out.lt k hk).1;simp;omega) (by simp)
    have hR:w2.heap.size≤w3.heap.size:=Nat.le_trans HA h4.size
    have hT:=aa (HB.out.trans h4.below)
    have hG:=aa hN
    have ht:=aa hi
    clear hi h4 hN
    go_wp2_with (at_builtin;refine wpList_append_own _ rfl _ _ 36 rfl w2.heap.size 3 i3 (.int .i64 0) 1 8 Tryz.underlying36 h3 hO hP hQ rfl (by decide) _ _ _ rfl (hG.out.alloc _) ⟨w3.heap.size,0,none⟩ 1 1 [.int .i64 p] rfl rfl ?c1 ?c2 ?c3 ?c4 ?c5 ?_)
    case c1=>exact cH _ _ _
    case c2=>intro u hu;simp at hu;subst hu;rfl
    case c3=>unfold maxLen;omega
    case c4=>omega
    case c5=>simp;omega
    intro v4 w4 h6 h0 _
    have hj:Below w2.heap.size w3 w4:=((Below.refl w2.heap.size w3).alloc hR _).grown h0 (by simp;omega) (fun k hk=>(hG.out.lt k hk).1)
    have hZ:=aa h6
    have hU:=aa (hT.out.trans (hj.mono hc))
    have hv:=aa (ht.out.below hj hI)
    have H8:w2.heap.size≤w4.heap.size:=Nat.le_trans hR hj.size
    clear h6 h0 hj
    go_wp2_with fail
    go_roundw
    case rel=>
     refine⟨q+1,ew t p,o++ [p],by omega,by go_num,hx.out,hv.out,?_,by rw[List.length_append,hw.out];rfl,hY.out,hU.out,H8⟩
     rw[List.length_append,hw.out,List.map_append,←HX.out]
     exact hZ.out
    case measure=>simp[intOf];omega
   ·rw[if_neg e1]at hf
    have hL:cK s.data.toList a.data.toList=none:=by
     rw[ho.out,hl,cK,if_neg e1]
     rfl
    have hW:=aa hL
    clear hl e1 hL
    go_wp2_with fail
    refine hf.out.mono ?_
    rintro e w3 ⟨rfl,rfl⟩
    go_wp2_with fail
    go_ret2
    refine⟨_, [],60,?_,rfl,World.ownsRow_nil _ _ _ _,hE.out.trans (HB.out.mono h9)⟩
    rw[he.out,hW.out]
  ·obtain rfl:q=s.size:=by omega
   have d1:decide ((s.size:Int)<(s.size:Int))=false:=au (by omega)
   have hh:cK s.data.toList a.data.toList=some o:=by
    rw[ho.out,List.drop_of_length_le (by rw[H0.out];exact Nat.le_refl _)]
    simp[cK]
   have hn:=aa hh
   clear hh
   go_wp2_with fail
   go_ret2
   refine⟨_,o,0,?_,rfl,?_,hE.out.trans (HB.out.mono h9)⟩
   ·rw[he.out,hn.out]
   ·have h1:=HO.out
    rw[HX.out]at h1
    rw[hw.out]
    exact World.ownsRow.mono h1 (Nat.le_trans h9 hc)
theorem yt(w:World)(s a:ByteArray)(hs:s.size≤1000000)(ha:a.size≤1000000):Calls Tryz.prog 18 #[.string s,.string a] w (oF w s.data.toList a.data.toList):=by
 by_cases hm:gB a.data.toList
 ·exact Ad w s a hs ha hm
 ·exact BG w s a ha hm
def jw(w:World)(L:List Int)(a:List UInt8)(e:Ending)(w':World):Prop:=e=.returned (.tuple #[.string (fm (ep L a).1),.int .i64 (ep L a).2])∧Below w.heap.size w w'
theorem ER(w:World)(A:Option Addr)(n c:Nat)(L:List Int)(a:ByteArray)(ha:a.size≤1000000)(hm:¬gB a.data.toList):Calls Tryz.prog 90 #[.slice A n c,.string a] w (jw w L a.data.toList):=by
 have HM:=aa (cG w a ha)
 have d0:decide (gB a.data.toList)=false:=decide_eq_false hm
 rw[d0]at HM
 have h0:=aa (show ep L a.data.toList=([],2)from if_neg hm)
 clear d0 hm
 go_enter Tryz.func90,Tryz.ntmps90
 go_wp2_with fail
 refine HM.out.mono ?_
 rintro e w1 ⟨rfl,h1⟩
 have h2:=aa h1
 clear h1
 go_wp2_with fail
 go_ret2
 refine⟨?_,h2.out⟩
 rw[h0.out]
 rfl
theorem CF(w:World)(A:Option Addr)(n k:Nat)(L:List Int)(a:ByteArray)(hL:ZIn w A n L)(p5:n≤k)(hn:n≤1000000)(ha:a.size≤1000000)(hm:gB a.data.toList):
 Calls Tryz.prog 90 #[.slice A n k,.string a] w (jw w L a.data.toList):=by
 obtain⟨i5,h5,H2,H3,H4⟩:=info_parts Tryz.info5
 have hY:∀w1:World,(Instr.makeSlice 43 (.int .i64 0) (.int .i64 n)).run Tryz.prog w1=.ok (.slice (some ⟨w1.heap.size,0,none⟩) 0 n) (w1.alloc (.cells (madeCells #[.int .u8 0] n) 5)):=by
  intro w1
  have h:=run_make (P:=Tryz.prog) w1 43 5 i5 (.int .u8 0) Tryz.underlying43 h5 H2 .i64 .i64 (0:Int) (n:Int) (by omega) (by omega) (by rw[H4];omega) (by omega)
  rw[H3,Int.toNat_natCast,Nat.mul_one]at h
  exact h
 have HF:=aa hY
 have HM:=aa (cG w a ha)
 have d0:decide (gB a.data.toList)=true:=decide_eq_true hm
 rw[d0]at HM
 have h7:=aa (show ep L a.data.toList=(match eB L a.data.toList with | none=>([],60) | some t=>(t,0))from if_pos hm)
 have HL:=aa hL
 have p2:=aa (show a.data.toList.length=a.size from rfl)
 have HP:Hid (∀ (ans:List UInt8×Nat) w',ep L a.data.toList=ans→Below w.heap.size w w'→jw w L a.data.toList (.returned (.tuple #[.string (fm ans.1),.int .i64 ans.2])) w'):=aa fun ans w' h1 h2=>⟨by rw[h1],h2⟩
 clear d0 hm hL hY
 generalize jw w L a.data.toList=PO at*
 generalize ep L a.data.toList=ans at*
 go_enter Tryz.func90,Tryz.ntmps90
 go_wp2_with fail
 refine HM.out.mono ?_
 rintro e w1 ⟨rfl,ht⟩
 have hO:=aa ht
 have hR:=aa (HL.out.below ht)
 have hp:=ht.size
 obtain⟨c,w2,h4,HR,hf,hF,hi⟩:=xr w1 a
 obtain⟨g,hg⟩:∃g,g=w1.heap.size:=⟨_,rfl⟩
 have hN:=HF.out w2
 rw[← hg]at h4 hf hi
 have H6:=aa hF
 have hB:=aa hf
 have HJ:=aa hi
 have HG:=aa hg
 have hW:g<w2.heap.size:=by omega
 have hr:w1.heap.size≤w2.heap.size:=hF.size
 clear ht hF hf hi hg
 go_wp2_with fail
 clear h4 hN
 go_loopw [7,20] (fun out i wx=>∃(q:Nat) (t:List UInt8) (o:List UInt8),q≤n∧i=.int .i64 q∧t.length=a.size∧LIn wx g t∧wx.ownsRow w2.heap.size 5 1 out o.length (o.map bv)∧o.length=q∧
  eB L a.data.toList=(eB (L.drop q) t).map (o++ ·)∧Below w1.heap.size w1 wx∧w2.heap.size≤wx.heap.size) (fun _ i _=>n - (intOf i).toNat)
 case atStart=>
  have hm:(madeCells #[.int .u8 0] n).size=n*1:=by simp[madeCells]
  have hH:Below w2.heap.size w2 (w2.alloc (.cells (madeCells #[.int .u8 0] n) 5)):=(Below.refl _ _).alloc (ah _) _
  exact⟨0,a.data.toList, [],Nat.zero_le _,rfl,rfl,hB.out.below hH hW,World.ownsRow_made w2 (madeCells #[.int .u8 0] n) n (ah _) (by unfold maxLen;omega) hm,rfl,by simp,H6.out.trans (hH.mono hr),hH.size⟩
 case round=>
  obtain⟨q,t,o,hq,rfl,htl,hK,h0,hz,hw,hb,p1⟩:=hrel
  obtain⟨A0,c0,rfl,HW,HV,HQ⟩:=aq h0
  clear HQ
  unfold maxLen at HV
  have HU:=hR.out.1
  by_cases e:q<n
  ·have d1:decide ((q:Int)<(n:Int))=true:=aC (by omega)
   obtain⟨b,off,rfl,hc⟩:=hR.out.2 (by omega)
   have hj:=hc q e
   have ho:=World.block_lt_of_cell? w1 _ hj
   have hJ:L.drop q=L.getD q 0 :: L.drop (q+1):=by
    rw[List.drop_eq_getElem_cons (by omega),List.getD_eq_getElem?_getD,List.getElem?_eq_getElem (by omega)]
    rfl
   obtain⟨x,hx⟩:∃x,x=L.getD q 0:=⟨_,rfl⟩
   rw[← hx]at hj hJ
   have p3:=(hb.cell (p:=⟨b,off+q,none⟩) ho).trans hj
   have HD:=aa hj
   rw[hz]at h0 HW ⊢
   have hT:=aa hz
   have HB:=aa hb
   have hQ:=aa hw
   have HK:=aa htl
   have HE:=aa hK
   have hP:=aa hJ
   obtain⟨X,hX⟩:∃X,X=o.map bv:=⟨_,rfl⟩
   rw[← hX]at h0
   have HX:=aa hX
   have HO:=aa h0
   have hA:t.length=a.size:=htl
   clear hX h0 hz hb hw htl hK hJ hc hx HU hj
   by_cases e1:0≤x∧x<a.size
   ·obtain⟨p,rfl⟩:∃p:Nat,x=p:=⟨x.toNat,by omega⟩
    have HZ:p<a.size:=by omega
    have d2:decide ((p:Int)<0)=false:=au (by omega)
    have d3:decide ((a.size:Int)≤(p:Int))=false:=au (by omega)
    have HY:¬a.size≤p:=by omega
    have HT:w1.heap.size≤g:=by rw[HG.out];exact Nat.le_refl _
    have HN:=aa (fun w9 (h9:LIn w9 g t)=>Bd w1.heap.size w9 g a.size c t p HT h9 hA HR HZ (by omega))
    have H0:eB L a.data.toList=(eB (L.drop (q+1)) (ew t p)).map ((o++ [t.getD p 0])++ ·):=by
     rw[hQ.out,hP.out,eB,if_pos ⟨e1.1,by rw[hA];exact e1.2⟩,Int.toNat_natCast,Option.map_map]
     congr 1
     funext l
     simp
    have HH:=aa H0
    have hE:=aa (show(ew t p).length=a.size from(dI _ p (by omega)).trans HK.out)
    have hM:(ew t p).length=a.size:=(dI _ p (by omega)).trans hA
    obtain⟨x,hx⟩:∃x,x=t.getD p 0:=⟨_,rfl⟩
    have hU:=aa hx
    have p4:(0:Int)<(a.size:Int):=by omega
    clear e1 H0 hx hM
    go_wp2_with fail
    refine(HN.out wr HE.out).mono ?_
    rintro e w3 ⟨rfl,hh,h8⟩
    have H1:=h8.row HO.out (fun k hk=>by have:=(HO.out.lt k hk).1;simp;omega) (by simp)
    have H5:w2.heap.size≤w3.heap.size:=Nat.le_trans p1 h8.size
    have hG:=HB.out.trans h8.below
    have H7:=aa hG
    have HS:=(hG.cell (p:=⟨b,off+q,none⟩) ho).trans HD.out
    have hV:=(hh 0 (by rw[dI _ _ (by omega)];omega)).1
    rw[qC,←hU.out]at hV
    obtain⟨y,hy⟩:∃y,y=x.toNat:=⟨_,rfl⟩
    have hI:bv x=.int .u8 y:=by rw[hy];rfl
    rw[hI]at hV
    have HC:=aa hI
    have hS:=aa H1
    have hC:=aa hh
    clear hh h8 H1 hG hI hy
    go_wp2_with (at_builtin;refine wpList_append_own _ rfl _ _ 43 rfl w2.heap.size 5 i5 (.int .u8 0) 1 1 Tryz.underlying43 h5 H2 H3 H4 rfl (by decide) _ _ _ rfl (hS.out.alloc _) ⟨w3.heap.size,0,none⟩ 1 1 [.int .u8 y] rfl rfl ?c1 ?c2 ?c3 ?c4 ?c5 ?_)
    case c1=>exact cH _ _ _
    case c2=>intro u hu;simp at hu;subst hu;rfl
    case c3=>unfold maxLen;omega
    case c4=>omega
    case c5=>simp;omega
    intro v4 w4 he h6 _
    have hv:Below w2.heap.size w3 w4:=((Below.refl w2.heap.size w3).alloc H5 _).grown h6 (by simp;omega) (fun k hk=>(hS.out.lt k hk).1)
    have HI:=aa he
    have H8:=aa (H7.out.trans (hv.mono hr))
    have hD:=aa (hC.out.below hv hW)
    have p0:w2.heap.size≤w4.heap.size:=Nat.le_trans H5 hv.size
    clear he h6 hv
    go_wp2_with fail
    go_roundw
    case rel=>
     refine⟨q+1,ew t p,o++ [x],by omega,by go_num,hE.out,hD.out,?_,by rw[List.length_append,hT.out];rfl,by rw[hU.out];exact HH.out,H8.out,p0⟩
     rw[List.length_append,hT.out,List.map_append,←HX.out]
     show World.ownsRow _ _ _ _ _ _ (X++ [bv x])
     rw[HC.out]
     exact HI.out
    case measure=>simp[intOf];omega
   ·have hZ:eB L a.data.toList=none:=by
     rw[hQ.out,hP.out,eB,if_neg (fun h=>e1 ⟨h.1,by have:=h.2;rw[hA]at this;exact this⟩)]
     rfl
    have h3:ans=([],60):=by rw[h7.out,hZ]
    have HA:=aa (hO.out.trans (HB.out.mono hp))
    have hs:=aa (HP.out ([],60) wr h3 HA.out)
    clear hZ h7 h3 HP
    by_cases e2:x<0
    ·have d2:decide (x<0)=true:=decide_eq_true e2
     clear e1
     go_wp2_with fail
     exact hs.out
    ·obtain⟨p,rfl⟩:∃p:Nat,x=p:=⟨x.toNat,by omega⟩
     have HY:a.size≤p:=by omega
     have d2:decide ((p:Int)<0)=false:=au (by omega)
     have d3:decide ((a.size:Int)≤(p:Int))=true:=aC (by omega)
     clear e1 e2
     go_wp2_with fail
     exact hs.out
  ·obtain rfl:q=n:=by omega
   have d1:decide ((q:Int)<(q:Int))=false:=au (by omega)
   have hl:eB L a.data.toList=some o:=by
    rw[hw,List.drop_of_length_le (by omega)]
    simp[eB]
   have h3:ans=(o,0):=by rw[h7.out,hl]
   have h4:=nJ h0
   have hs:=aa (HP.out (o,0) wr h3 (hO.out.trans (hb.mono hp)))
   clear hl h3 h0 hb hw hz hK h7 HP
   go_wp2_with fail
   exact hs.out
theorem od(w:World)(A:Option Addr)(n k:Nat)(L:List Int)(a:ByteArray)(hL:ZIn w A n L)(h0:n≤k)(hn:n≤1000000)(ha:a.size≤1000000):Calls Tryz.prog 90 #[.slice A n k,.string a] w (jw w L a.data.toList):=by
 by_cases hm:gB a.data.toList
 ·exact CF w A n k L a hL h0 hn ha hm
 ·exact ER w A n k L a ha hm
theorem th(w:World)(a:ByteArray)(ha:a.size≤1000000)(hm:¬gB a.data.toList):Calls Tryz.prog 21 #[.string a] w (xm w [] 2):=by
 have HM:=aa fun w1:World=>cG w1 a ha
 have d0:decide (gB a.data.toList)=false:=decide_eq_false hm
 rw[d0]at HM
 have h2:Blk (w.alloc (.cells #[.string ⟨#[]⟩,.int .i64 0] 24)) w.heap.size 24 #[.string ⟨#[]⟩,.int .i64 0]:=ag w 24 _
 have h0:Below w.heap.size w (w.alloc (.cells #[.string ⟨#[]⟩,.int .i64 0] 24)):=(Below.refl _ _).alloc (ah _) _
 have h4:=aa h2
 have h3:=aa h0
 clear d0 hm h2 h0
 go_enter Tryz.func21,Tryz.ntmps21
 go_wp2_with fail
 refine(HM.out _).mono ?_
 rintro e w1 ⟨rfl,hb⟩
 have hk:=aM hb h4.out
 have h1:Below w.heap.size w w1:=h3.out.trans (hb.mono (by simp))
 have q0:w1.cell? ⟨w.heap.size,0,none⟩=some (.string ⟨#[]⟩):=ac hk 0
 have q1:w1.cell? ⟨w.heap.size,1,none⟩=some (.int .i64 0):=ac hk 1
 have f0:=ae hk 0
 have f1:=ae hk 1
 have HB:=aa h1
 clear hb hk h1
 go_wp2_with fail
 refine bodyPost_ret (v:=.tuple #[.agg #[.string ⟨#[]⟩,.int .i64 0],.int .i64 2]) ?_ rfl ?_
 ·simp[results,Tryz.results21,go_sem,q0,q1]
 ·exact⟨rfl,(HB.out.setCell (p:=⟨w.heap.size,0,none⟩) (ah _) _).setCell (p:=⟨w.heap.size,1,none⟩) (ah _) _⟩
theorem nU(w:World)(a:ByteArray)(ha:a.size≤1000000)(hm:gB a.data.toList):Calls Tryz.prog 21 #[.string a] w (xm w (cD a.data.toList) 0):=by
 obtain⟨hz,hi⟩:=rJ
 have HM:=aa fun w1:World=>cG w1 a ha
 have hK:=aa fun w1:World=>sY w1 a ha
 have hM:=aa DA
 have d0:decide (gB a.data.toList)=true:=decide_eq_true hm
 rw[d0]at HM
 have hX:Blk (w.alloc (.cells #[.string ⟨#[]⟩,.int .i64 0] 24)) w.heap.size 24 #[.string ⟨#[]⟩,.int .i64 0]:=ag w 24 _
 have hT:Below w.heap.size w (w.alloc (.cells #[.string ⟨#[]⟩,.int .i64 0] 24)):=(Below.refl _ _).alloc (ah _) _
 have hG:=aa hX
 have hC:=aa hT
 have HI:=aa hi
 have HS:=aa jL
 have HO:=aa lq
 have HG:=aa la
 have HE:=aa qJ
 have H0:kt a.data.toList 16=cD a.data.toList:=rfl
 have HJ:=aa H0
 have hZ:kt a.data.toList 0=(List.range 16).map (jn a.data.toList):=by simp[kt]
 have HH:=aa hZ
 have HN:=aa (o9 a.data.toList)
 have HL:=aa (l8 a.data.toList)
 clear d0 hm hX hT hi H0 hZ
 go_enter Tryz.func21,Tryz.ntmps21
 go_wp2_with fail
 refine(HM.out _).mono ?_
 rintro e w1 ⟨rfl,hb⟩
 have hk:=aM hb hG.out
 have hU:Below w.heap.size w w1:=hC.out.trans (hb.mono (by simp))
 have HK:=aa hk
 have HB:=aa hU
 have HZ:w.heap.size<w1.heap.size:=aA hk
 clear hb hk hU
 go_wp2_with fail
 refine(hK.out w1).mono ?_
 rintro e w2 ⟨f,rfl,h2,he⟩
 generalize gf=T at*
 have ht:∀i,i<16→f i<65536:=fun i hi=>(h2 i hi).1
 have HX:=run_storeCells_new (P:=Tryz.prog) w2 95 (T fun _=>0) (T f) (by rw[HS.out];exact HI.out) (by rw[HS.out,HS.out]) (HO.out _)
 have HY:=HS.out f
 have hw:=aM he HK.out
 have p0:=he.size
 have h3:Below w.heap.size w w2:=HB.out.trans (he.mono (Nat.le_of_lt HZ))
 have hY:Blk (w2.alloc (.cells (T f) 95)) w.heap.size 24 #[.string ⟨#[]⟩,.int .i64 0]:=(bj w2 _ _ (aA hw)).trans hw
 have h9:=aa (ag w2 95 (T f))
 have hj:=aa (h3.alloc h3.size (.cells (T f) 95))
 have hH:=aa hY
 have h6:=aa fun w3=>hM.out w3 f ht
 have H4:=aa ht
 have hL:=aa fun u hu=>Ed (a:=a.data.toList) (f:=f) h2 (u:=u) hu
 have HD:=aa fun i hi h0=>EI (a:=a.data.toList) (f:=f) h2 (i:=i) hi h0
 have HF:=aa fun i hi h0=>sA (a:=a.data.toList) (f:=f) h2 (i:=i) hi h0
 have hF:=aa (show(Tryz.prog.info? 95).map (·.size)=some (T f).size by rw[HY];exact HI.out)
 have H5:=aa (HG.out f)
 clear hw h3 hY he ht h2 hM hK HM HK HB hG hC HG HO
 go_upto_region 4 with fail
 clear HX hz
 have hV:w2.heap.size<(w2.alloc (.cells (T f) 95)).heap.size:=aA h9.out
 have HU:w.heap.size<w2.heap.size:=by omega
 obtain⟨g4,hv⟩:∃g4,g4=w2.heap.size:=⟨_,rfl⟩
 rw[← hv]at h9 hV HU ⊢
 have p1:=aa hv
 clear hv p0
 generalize T f=Tf at*
 generalize w2.alloc (.cells Tf 95)=w3 at*
 go_upto_region 5 with(go_at_call 60;refine(BW w3).mono ?_;rintro e w4 ⟨rfl,h8⟩;have h7:=aa h8;clear h8)
 have hy:=h7.out
 clear h7
 have hA:=hj.out.size
 obtain⟨p,hp⟩:∃p,p=w3.heap.size:=⟨_,rfl⟩
 have hO:IsW w.heap.size w4 p (.slice none 0 0) []:=by rw[hy,hp];exact lC w3 _ hA
 have ho:Below w3.heap.size w3 w4:=cn hy
 have hx:=an ho
 have hh:=aa (hx.blk h9.out az az)
 have hI:=aa (hx.blk hH.out az az)
 have hD:=aa (hj.out.trans (ho.mono hA))
 have hN:=aa hO
 have p3:g4<p:=by omega
 have p4:w.heap.size<p:=by omega
 rw[← hp]
 clear hO ho hx hy hp h9 hH hj hA hV
 refine wp_region_lit (fE rfl rfl (eN rfl rfl rfl hh.out Tryz.underlying95 hF.out ?_))
 go_wp2_with fail
 refine(h6.out w4).mono ?_
 rintro e w5 ⟨u,hu,rfl,hr⟩
 have hf:=an hr
 have hP:=hN.out.step hf az (fun _ _=>az) az az
 have hB:=aa (hf.blk hh.out az az)
 have hJ:=aa (hf.blk hI.out az az)
 have hE:=aa (ao hD.out hr)
 have h1:=aa (eS w.heap.size w5 p _ [] u 16 hP (by simp) (by omega) hu.1)
 rw[List.nil_append,hL.out u hu,←HH.out]at h1
 clear hu hr hf hP h6 hL hN hh hI hD
 go_wp2_with fail
 refine h1.out.mono ?_
 rintro e w6 ⟨rfl,v6,hQ,hc⟩
 have H1:=aa (hc.blk hB.out (by simp;omega) (by decide))
 have H6:=aa (hc.blk hJ.out (by simp;omega) (by decide))
 have H2:=aa (hE.out.trans hc.below)
 have HQ:=aa hQ
 clear hQ hc h1 hB hJ hE
 go_upto_region 6 with fail
 refine wp_region_lit (eN rfl rfl rfl H1.out Tryz.underlying95 hF.out ?_)
 go_wp2_with fail
 go_loopw [20] (fun i wx=>∃(q:Nat) (v:Value),q≤16∧i=.int .i64 q∧IsW w.heap.size wx p v (kt a.data.toList q)∧Blk wx w.heap.size 24 #[.string ⟨#[]⟩,.int .i64 0]∧Below w.heap.size w wx) (fun i _=>16 - (intOf i).toNat)
 case atStart=>exact⟨0,v6,Nat.zero_le _,rfl,HQ.out,H6.out,H2.out⟩
 case round=>
  obtain⟨q,v,hq,rfl,hW,hk,hb⟩:=hrel
  have HW:=aa hW
  have HK:=aa hk
  have HB:=aa hb
  have p5:=HL.out q
  by_cases e:q<16
  ·obtain⟨c,h4⟩:∃c,c=f q:=⟨_,rfl⟩
   have hg:=H5.out q e
   rw[← h4]at hg
   have HV:=fun w9=>HE.out w9 Tf q c e hg
   have h5:=HN.out q
   by_cases hs:c=0
   ·subst hs
    rw[HF.out q e h4.symm,List.append_nil]at h5
    have HC:=aa h5
    clear h5 h4 hW hk hb hg
    go_wp2_with fail
    go_roundw
    case rel=>exact⟨q+1,v,by omega,by go_num,by rw[HC.out];exact HW.out,HK.out,HB.out⟩
    case measure=>simp[intOf];omega
   ·have p2:=ni hs
    rw[← HD.out q e (by rw[← h4];exact hs),←h4]at h5
    have h1:=aa (eS w.heap.size wr p _ _ c 16 hW (by omega) (by omega) (by rw[h4];exact H4.out q e))
    rw[← h5]at h1
    clear h5 h4 hW hk hb hg
    go_wp2_with fail
    refine h1.out.mono ?_
    rintro e w7 ⟨rfl,v7,hR,hl⟩
    have H7:=aa (hl.blk HK.out (by simp;omega) (by decide))
    have H3:=aa (HB.out.trans hl.below)
    have HR:=aa hR
    clear hR hl h1
    go_wp2_with fail
    go_roundw
    case rel=>exact⟨q+1,v7,by omega,by go_num,HR.out,H7.out,H3.out⟩
    case measure=>simp[intOf];omega
  ·obtain rfl:q=16:=by omega
   rw[HJ.out]at hW
   obtain⟨S,hS⟩:∃S:ByteArray,S=⟨(aG (cD a.data.toList)).toArray⟩:=⟨_,rfl⟩
   have HT:=aa (ig w.heap.size wr p v _ hW)
   have HP:=aa hS
   rw[← hS]at HT
   obtain⟨n,hn⟩:∃n,n=(cD a.data.toList).length:=⟨_,rfl⟩
   have c0:=ac hW.blk 0
   have c2:=ac hW.blk 2
   simp at c0 c2
   have HA:=aa hn
   rw[← hn]at c2
   have H8:=aa (jQ wr p n c0 c2)
   have q0:wr.cell? ⟨w.heap.size,0,none⟩=some (.string ⟨#[]⟩):=ac hk 0
   have q1:wr.cell? ⟨w.heap.size,1,none⟩=some (.int .i64 0):=ac hk 1
   have f0:=ae hk 0
   have f1:=ae hk 1
   clear hW hk hb hS hn c0 c2 HW HK
   go_wp2_with fail
   refine HT.out.mono ?_
   rintro e w8 ⟨rfl,rfl⟩
   go_wp2_with fail
   refine H8.out.mono ?_
   rintro e w8 ⟨rfl,rfl⟩
   go_wp2_with fail
   refine bodyPost_ret (v:=.tuple #[.agg #[.string S,.int .i64 n],.int .i64 0]) ?_ rfl ?_
   ·simp[results,Tryz.results21,go_sem,q0,q1]
   ·exact⟨by rw[HP.out,HA.out];rfl,(HB.out.setCell (p:=⟨w.heap.size,0,none⟩) (ah _) _).setCell (p:=⟨w.heap.size,1,none⟩) (ah _) _⟩
end Go.Proofs.YthakcjehhlpjnaaGreat.S06
