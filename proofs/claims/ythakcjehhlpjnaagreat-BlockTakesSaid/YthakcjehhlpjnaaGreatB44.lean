import Derived.Test.YthakcjehhlpjnaaGreatB43
import Derived.Deep.Onto
set_option maxHeartbeats 1600000
set_option maxRecDepth 100000
namespace Go.Proofs.YthakcjehhlpjnaaGreat.S06
open Go.RowKit
theorem De(w:World)(s a:ByteArray)(ha:a.size≤1000000)(hm:¬eY a.data.toList):Calls Tryz.prog 18 #[.string s,.string a] w (oA w s.data.toList a.data.toList):=by
 have HM:=aa (cK w a ha)
 have d0:decide (eY a.data.toList)=false:=decide_eq_false hm
 rw[d0]at HM
 have h0:=aa (show lP s.data.toList a.data.toList=([],2)from if_neg hm)
 clear d0 hm
 go_enter Tryz.func18,Tryz.ntmps18
 go_wp2_with fail
 refine HM.out.mono ?_
 rintro e w1 ⟨rfl,h1⟩
 have h2:=aa h1
 clear h1
 go_wp2_with fail
 go_ret2
 exact⟨_, [],2,h0.out,rfl,World.ownsRow_nil _ _ _ _,h2.out⟩
theorem AC(w:World)(s a:ByteArray)(hs:s.size≤1000000)(ha:a.size≤1000000)(hm:eY a.data.toList):Calls Tryz.prog 18 #[.string s,.string a] w (oA w s.data.toList a.data.toList):=by
 obtain⟨i3,h3,hO,hP,hQ⟩:=info_parts Tryz.info3
 have hK:∀w1:World,(Instr.makeSlice 36 (.int .i64 0) (.int .i64 s.size)).run Tryz.prog w1=.ok (.slice (some ⟨w1.heap.size,0,none⟩) 0 s.size) (w1.alloc (.cells (madeCells #[.int .i64 0] s.size) 3)):=by
  intro w1
  have h:=run_make (P:=Tryz.prog) w1 36 3 i3 (.int .i64 0) Tryz.underlying36 h3 hO .i64 .i64 (0:Int) (s.size:Int) (by omega) (by omega) (by rw[hQ];omega) (by omega)
  rw[hP,Int.toNat_natCast,Nat.mul_one]at h
  exact h
 have hW:=aa hK
 have HM:=aa (cK w a ha)
 have d0:decide (eY a.data.toList)=true:=decide_eq_true hm
 rw[d0]at HM
 have he:=aa (show lP s.data.toList a.data.toList=(match cJ s.data.toList a.data.toList with | none=>([],60) | some l=>(l,0))from if_pos hm)
 have H1:=aa (show s.data.toList.length=s.size from rfl)
 have HF:=aa (show a.data.toList.length=a.size from rfl)
 clear d0 hm hK
 go_enter Tryz.func18,Tryz.ntmps18
 go_wp2_with fail
 refine HM.out.mono ?_
 rintro e w1 ⟨rfl,hy⟩
 have hE:=aa hy
 have h9:=hy.size
 obtain⟨c,w2,h5,H5,h7,hz,h8⟩:=xf w1 a
 obtain⟨g,hg⟩:∃g,g=w1.heap.size:=⟨_,rfl⟩
 have hB:=hW.out w2
 rw[← hg]at h5 h7 h8
 have hS:=aa hz
 have hr:=aa h7
 have H2:=aa h8
 have HG:=aa hg
 have hI:g<w2.heap.size:=by omega
 have hc:w1.heap.size≤w2.heap.size:=hz.size
 clear hy hz h7 h8 hg
 go_wp2_with fail
 clear h5 hB
 go_loopw [7,20] (fun out i wx=>∃(q:Nat) (t:List UInt8) (o:List Nat),q≤s.size∧i=.int .i64 q∧t.length=a.size∧LIn wx g t∧wx.ownsRow w2.heap.size 3 1 out o.length (o.map iv)∧o.length=q∧
  cJ s.data.toList a.data.toList=(cJ (s.data.toList.drop q) t).map (o++ ·)∧Below w1.heap.size w1 wx∧w2.heap.size≤wx.heap.size) (fun _ i _=>s.size - (intOf i).toNat)
 case atStart=>
  have hm:(madeCells #[.int .i64 0] s.size).size=s.size*1:=by simp[madeCells]
  have hA:Below w2.heap.size w2 (w2.alloc (.cells (madeCells #[.int .i64 0] s.size) 3)):=(Below.refl _ _).alloc (ah _) _
  exact⟨0,a.data.toList, [],Nat.zero_le _,rfl,rfl,hr.out.below hA hI,World.ownsRow_made w2 (madeCells #[.int .i64 0] s.size) s.size (ah _) (by unfold maxLen;omega) hm,rfl,by simp,hS.out.trans (hA.mono hc),hA.size⟩
 case round=>
  obtain⟨q,t,o,hq,rfl,htl,hJ,h2,hC,hH,hb,HE⟩:=hrel
  obtain⟨A0,c0,rfl,HA,H8,H4⟩:=aj h2
  clear H4
  unfold maxLen at H8
  rw[hC]at h2 HA ⊢
  have hw:=aa hC
  have HB:=aa hb
  have ho:=aa hH
  have HH:=aa htl
  have hF:=aa hJ
  obtain⟨X,hX⟩:∃X,X=o.map iv:=⟨_,rfl⟩
  rw[← hX]at h2
  have HX:=aa hX
  have HO:=aa h2
  clear hX h2 hC hb hH hJ
  by_cases e:q<s.size
  ·have d1:decide ((q:Int)<(s.size:Int))=true:=ar (by omega)
   have hl:=D2 s q e
   have hf:=aa (xU wr g a.size c t s[q] hF.out htl)
   by_cases e1:s[q]∈t
   ·have hD:t.idxOf s[q]<t.length:=List.idxOf_lt_length_of_mem e1
    rw[if_pos e1]at hf
    obtain⟨p,hp⟩:∃p,p=t.idxOf s[q]:=⟨_,rfl⟩
    rw[← hp]at hf hD
    have d2:decide ((p:Int)<0)=false:=ao (by omega)
    have HC:p<a.size:=by omega
    have H3:=aa (Bx w1.heap.size wr g a.size c t p (by rw[HG.out];exact Nat.le_refl _) hF.out htl H5 HC ha)
    have hM:cJ s.data.toList a.data.toList=(cJ (s.data.toList.drop (q+1)) (cE t p)).map ((o++ [p])++ ·):=by
     rw[ho.out,hl,cJ,if_pos e1,←hp,Option.map_map]
     congr 1
     funext l
     simp
    have hx:=aa (show(cE t p).length=a.size from(da _ p hD).trans htl)
    have hZ:=aa hM
    clear hl e1 hp hM htl hD
    go_wp2_with fail
    refine hf.out.mono ?_
    rintro e w3 ⟨rfl,rfl⟩
    go_wp2_with fail
    refine H3.out.mono ?_
    rintro e w3 ⟨rfl,hi,h4⟩
    have hN:=h4.row HO.out (fun k hk=>by have:=(HO.out.lt k hk).1;simp;omega) (by simp)
    have hR:w2.heap.size≤w3.heap.size:=Nat.le_trans HE h4.size
    have hT:=aa (HB.out.trans h4.below)
    have hG:=aa hN
    have ht:=aa hi
    clear hi h4 hN
    go_wp2_with (at_builtin;refine wpList_append_own _ rfl _ _ 36 rfl w2.heap.size 3 i3 (.int .i64 0) 1 8 Tryz.underlying36 h3 hO hP hQ rfl (by decide) _ _ _ rfl (hG.out.alloc _) ⟨w3.heap.size,0,none⟩ 1 1 [.int .i64 p] rfl rfl ?c1 ?c2 ?c3 ?c4 ?c5 ?_)
    case c1=>exact bi _ _ _
    case c2=>intro u hu;simp at hu;subst hu;rfl
    case c3=>unfold maxLen;omega
    case c4=>omega
    case c5=>simp;omega
    intro v4 w4 h6 h0 _
    have hj:Below w2.heap.size w3 w4:=((Below.refl w2.heap.size w3).alloc hR _).grown h0 (by simp;omega) (fun k hk=>(hG.out.lt k hk).1)
    have H0:=aa h6
    have hV:=aa (hT.out.trans (hj.mono hc))
    have hv:=aa (ht.out.below hj hI)
    have HD:w2.heap.size≤w4.heap.size:=Nat.le_trans hR hj.size
    clear h6 h0 hj
    go_wp2_with fail
    go_roundw
    case rel=>
     refine⟨q+1,cE t p,o++ [p],by omega,by go_num,hx.out,hv.out,?_,by rw[List.length_append,hw.out];rfl,hZ.out,hV.out,HD⟩
     rw[List.length_append,hw.out,List.map_append,←HX.out]
     exact H0.out
    case measure=>simp[intOf];omega
   ·rw[if_neg e1]at hf
    have hL:cJ s.data.toList a.data.toList=none:=by
     rw[ho.out,hl,cJ,if_neg e1]
     rfl
    have hY:=aa hL
    clear hl e1 hL
    go_wp2_with fail
    refine hf.out.mono ?_
    rintro e w3 ⟨rfl,rfl⟩
    go_wp2_with fail
    go_ret2
    refine⟨_, [],60,?_,rfl,World.ownsRow_nil _ _ _ _,hE.out.trans (HB.out.mono h9)⟩
    rw[he.out,hY.out]
  ·obtain rfl:q=s.size:=by omega
   have d1:decide ((s.size:Int)<(s.size:Int))=false:=ao (by omega)
   have hh:cJ s.data.toList a.data.toList=some o:=by
    rw[ho.out,List.drop_of_length_le (by rw[H1.out];exact Nat.le_refl _)]
    simp[cJ]
   have hn:=aa hh
   clear hh
   go_wp2_with fail
   go_ret2
   refine⟨_,o,0,?_,rfl,?_,hE.out.trans (HB.out.mono h9)⟩
   ·rw[he.out,hn.out]
   ·have h1:=HO.out
    rw[HX.out]at h1
    rw[hw.out]
    exact World.ownsRow.mono h1 (Nat.le_trans h9 hc)
theorem AT(w:World)(s a:ByteArray)(hs:s.size≤1000000)(ha:a.size≤1000000):Calls Tryz.prog 18 #[.string s,.string a] w (oA w s.data.toList a.data.toList):=by
 by_cases hm:eY a.data.toList
 ·exact AC w s a hs ha hm
 ·exact De w s a ha hm
def j7(w:World)(L:List Int)(a:List UInt8)(e:Ending)(w':World):Prop:=e=.returned (.tuple #[.string (cN (cw L a).1),.int .i64 (cw L a).2])∧Below w.heap.size w w'
theorem GZ(w:World)(A:Option Addr)(n c:Nat)(L:List Int)(a:ByteArray)(ha:a.size≤1000000)(hm:¬eY a.data.toList):Calls Tryz.prog 90 #[.slice A n c,.string a] w (j7 w L a.data.toList):=by
 have HM:=aa (cK w a ha)
 have d0:decide (eY a.data.toList)=false:=decide_eq_false hm
 rw[d0]at HM
 have h0:=aa (show cw L a.data.toList=([],2)from if_neg hm)
 clear d0 hm
 go_enter Tryz.func90,Tryz.ntmps90
 go_wp2_with fail
 refine HM.out.mono ?_
 rintro e w1 ⟨rfl,h1⟩
 have h2:=aa h1
 clear h1
 go_wp2_with fail
 go_ret2
 refine⟨?_,h2.out⟩
 rw[h0.out]
 rfl
theorem EE(w:World)(A:Option Addr)(n k:Nat)(L:List Int)(a:ByteArray)(hL:ZIn w A n L)(pg:n≤k)(hn:n≤1000000)(ha:a.size≤1000000)(hm:eY a.data.toList):
 Calls Tryz.prog 90 #[.slice A n k,.string a] w (j7 w L a.data.toList):=by
 obtain⟨i5,h5,H3,H4,H5⟩:=info_parts Tryz.info5
 have hZ:∀w1:World,(Instr.makeSlice 43 (.int .i64 0) (.int .i64 n)).run Tryz.prog w1=.ok (.slice (some ⟨w1.heap.size,0,none⟩) 0 n) (w1.alloc (.cells (madeCells #[.int .u8 0] n) 5)):=by
  intro w1
  have h:=run_make (P:=Tryz.prog) w1 43 5 i5 (.int .u8 0) Tryz.underlying43 h5 H3 .i64 .i64 (0:Int) (n:Int) (by omega) (by omega) (by rw[H5];omega) (by omega)
  rw[H4,Int.toNat_natCast,Nat.mul_one]at h
  exact h
 have HJ:=aa hZ
 have HM:=aa (cK w a ha)
 have d0:decide (eY a.data.toList)=true:=decide_eq_true hm
 rw[d0]at HM
 have h7:=aa (show cw L a.data.toList=(match ch L a.data.toList with | none=>([],60) | some t=>(t,0))from if_pos hm)
 have HL:=aa hL
 have p5:=aa (show a.data.toList.length=a.size from rfl)
 have HP:Hid (∀ (ans:List UInt8×Nat) w',cw L a.data.toList=ans→Below w.heap.size w w'→j7 w L a.data.toList (.returned (.tuple #[.string (cN ans.1),.int .i64 ans.2])) w'):=aa fun ans w' h1 h2=>⟨by rw[h1],h2⟩
 clear d0 hm hL hZ
 generalize j7 w L a.data.toList=PO at*
 generalize cw L a.data.toList=ans at*
 go_enter Tryz.func90,Tryz.ntmps90
 go_wp2_with fail
 refine HM.out.mono ?_
 rintro e w1 ⟨rfl,ht⟩
 have hO:=aa ht
 have hR:=aa (HL.out.below ht)
 have hp:=ht.size
 obtain⟨c,w2,h4,HU,hf,hF,hi⟩:=xf w1 a
 obtain⟨g,hg⟩:∃g,g=w1.heap.size:=⟨_,rfl⟩
 have hN:=HJ.out w2
 rw[← hg]at h4 hf hi
 have HA:=aa hF
 have hB:=aa hf
 have HQ:=aa hi
 have HG:=aa hg
 have hY:g<w2.heap.size:=by omega
 have hr:w1.heap.size≤w2.heap.size:=hF.size
 clear ht hF hf hi hg
 go_wp2_with fail
 clear h4 hN
 go_loopw [7,20] (fun out i wx=>∃(q:Nat) (t:List UInt8) (o:List UInt8),q≤n∧i=.int .i64 q∧t.length=a.size∧LIn wx g t∧wx.ownsRow w2.heap.size 5 1 out o.length (o.map bv)∧o.length=q∧
  ch L a.data.toList=(ch (L.drop q) t).map (o++ ·)∧Below w1.heap.size w1 wx∧w2.heap.size≤wx.heap.size) (fun _ i _=>n - (intOf i).toNat)
 case atStart=>
  have hm:(madeCells #[.int .u8 0] n).size=n*1:=by simp[madeCells]
  have hH:Below w2.heap.size w2 (w2.alloc (.cells (madeCells #[.int .u8 0] n) 5)):=(Below.refl _ _).alloc (ah _) _
  exact⟨0,a.data.toList, [],Nat.zero_le _,rfl,rfl,hB.out.below hH hY,World.ownsRow_made w2 (madeCells #[.int .u8 0] n) n (ah _) (by unfold maxLen;omega) hm,rfl,by simp,HA.out.trans (hH.mono hr),hH.size⟩
 case round=>
  obtain⟨q,t,o,hq,rfl,htl,hK,h0,hz,hw,hb,p4⟩:=hrel
  obtain⟨A0,c0,rfl,p0,HZ,HT⟩:=aj h0
  clear HT
  unfold maxLen at HZ
  have HY:=hR.out.1
  by_cases e:q<n
  ·have d1:decide ((q:Int)<(n:Int))=true:=ar (by omega)
   obtain⟨b,off,rfl,hc⟩:=hR.out.2 (by omega)
   have hj:=hc q e
   have ho:=World.block_lt_of_cell? w1 _ hj
   have hJ:L.drop q=L.getD q 0 :: L.drop (q+1):=by
    rw[List.drop_eq_getElem_cons (by omega),List.getD_eq_getElem?_getD,List.getElem?_eq_getElem (by omega)]
    rfl
   obtain⟨x,hx⟩:∃x,x=L.getD q 0:=⟨_,rfl⟩
   rw[← hx]at hj hJ
   have pb:=(hb.cell (p:=⟨b,off+q,none⟩) ho).trans hj
   have HH:=aa hj
   rw[hz]at h0 p0 ⊢
   have hT:=aa hz
   have HB:=aa hb
   have hQ:=aa hw
   have HR:=aa htl
   have HI:=aa hK
   have hP:=aa hJ
   obtain⟨X,hX⟩:∃X,X=o.map bv:=⟨_,rfl⟩
   rw[← hX]at h0
   have HX:=aa hX
   have HO:=aa h0
   have hA:t.length=a.size:=htl
   clear hX h0 hz hb hw htl hK hJ hc hx HY hj
   by_cases e1:0≤x∧x<a.size
   ·obtain⟨p,rfl⟩:∃p:Nat,x=p:=⟨x.toNat,by omega⟩
    have p2:p<a.size:=by omega
    have d2:decide ((p:Int)<0)=false:=ao (by omega)
    have d3:decide ((a.size:Int)≤(p:Int))=false:=ao (by omega)
    have p1:¬a.size≤p:=by omega
    have HW:w1.heap.size≤g:=by rw[HG.out];exact Nat.le_refl _
    have HS:=aa (fun w9 (h9:LIn w9 g t)=>Bx w1.heap.size w9 g a.size c t p HW h9 hA HU p2 (by omega))
    have H1:ch L a.data.toList=(ch (L.drop (q+1)) (cE t p)).map ((o++ [t.getD p 0])++ ·):=by
     rw[hQ.out,hP.out,ch,if_pos ⟨e1.1,by rw[hA];exact e1.2⟩,Int.toNat_natCast,Option.map_map]
     congr 1
     funext l
     simp
    have HK:=aa H1
    have hE:=aa (show(cE t p).length=a.size from(da _ p (by omega)).trans HR.out)
    have hM:(cE t p).length=a.size:=(da _ p (by omega)).trans hA
    obtain⟨x,hx⟩:∃x,x=t.getD p 0:=⟨_,rfl⟩
    have hV:=aa hx
    have pf:(0:Int)<(a.size:Int):=by omega
    clear e1 H1 hx hM
    go_wp2_with fail
    refine(HS.out wr HI.out).mono ?_
    rintro e w3 ⟨rfl,hh,h8⟩
    have H2:=h8.row HO.out (fun k hk=>by have:=(HO.out.lt k hk).1;simp;omega) (by simp)
    have H8:w2.heap.size≤w3.heap.size:=Nat.le_trans p4 h8.size
    have hG:=HB.out.trans h8.below
    have HC:=aa hG
    have HV:=(hG.cell (p:=⟨b,off+q,none⟩) ho).trans HH.out
    have hW:=(hh 0 (by rw[da _ _ (by omega)];omega)).1
    rw[rL,←hV.out]at hW
    obtain⟨y,hy⟩:∃y,y=x.toNat:=⟨_,rfl⟩
    have hI:bv x=.int .u8 y:=by rw[hy];rfl
    rw[hI]at hW
    have HF:=aa hI
    have hS:=aa H2
    have hC:=aa hh
    clear hh h8 H2 hG hI hy
    go_wp2_with (at_builtin;refine wpList_append_own _ rfl _ _ 43 rfl w2.heap.size 5 i5 (.int .u8 0) 1 1 Tryz.underlying43 h5 H3 H4 H5 rfl (by decide) _ _ _ rfl (hS.out.alloc _) ⟨w3.heap.size,0,none⟩ 1 1 [.int .u8 y] rfl rfl ?c1 ?c2 ?c3 ?c4 ?c5 ?_)
    case c1=>exact bi _ _ _
    case c2=>intro u hu;simp at hu;subst hu;rfl
    case c3=>unfold maxLen;omega
    case c4=>omega
    case c5=>simp;omega
    intro v4 w4 he h6 _
    have hv:Below w2.heap.size w3 w4:=((Below.refl w2.heap.size w3).alloc H8 _).grown h6 (by simp;omega) (fun k hk=>(hS.out.lt k hk).1)
    have HN:=aa he
    have HD:=aa (HC.out.trans (hv.mono hr))
    have hD:=aa (hC.out.below hv hY)
    have p3:w2.heap.size≤w4.heap.size:=Nat.le_trans H8 hv.size
    clear he h6 hv
    go_wp2_with fail
    go_roundw
    case rel=>
     refine⟨q+1,cE t p,o++ [x],by omega,by go_num,hE.out,hD.out,?_,by rw[List.length_append,hT.out];rfl,by rw[hV.out];exact HK.out,HD.out,p3⟩
     rw[List.length_append,hT.out,List.map_append,←HX.out]
     show World.ownsRow _ _ _ _ _ _ (X++ [bv x])
     rw[HF.out]
     exact HN.out
    case measure=>simp[intOf];omega
   ·have H0:ch L a.data.toList=none:=by
     rw[hQ.out,hP.out,ch,if_neg (fun h=>e1 ⟨h.1,by have:=h.2;rw[hA]at this;exact this⟩)]
     rfl
    have h3:ans=([],60):=by rw[h7.out,H0]
    have HE:=aa (hO.out.trans (HB.out.mono hp))
    have hs:=aa (HP.out ([],60) wr h3 HE.out)
    clear H0 h7 h3 HP
    by_cases e2:x<0
    ·have d2:decide (x<0)=true:=decide_eq_true e2
     clear e1
     go_wp2_with fail
     exact hs.out
    ·obtain⟨p,rfl⟩:∃p:Nat,x=p:=⟨x.toNat,by omega⟩
     have p1:a.size≤p:=by omega
     have d2:decide ((p:Int)<0)=false:=ao (by omega)
     have d3:decide ((a.size:Int)≤(p:Int))=true:=ar (by omega)
     clear e1 e2
     go_wp2_with fail
     exact hs.out
  ·obtain rfl:q=n:=by omega
   have d1:decide ((q:Int)<(q:Int))=false:=ao (by omega)
   have hl:ch L a.data.toList=some o:=by
    rw[hw,List.drop_of_length_le (by omega)]
    simp[ch]
   have h3:ans=(o,0):=by rw[h7.out,hl]
   have h4:=oo h0
   have hs:=aa (HP.out (o,0) wr h3 (hO.out.trans (hb.mono hp)))
   clear hl h3 h0 hb hw hz hK h7 HP
   go_wp2_with fail
   exact hs.out
theorem oQ(w:World)(A:Option Addr)(n k:Nat)(L:List Int)(a:ByteArray)(hL:ZIn w A n L)(h0:n≤k)(hn:n≤1000000)(ha:a.size≤1000000):Calls Tryz.prog 90 #[.slice A n k,.string a] w (j7 w L a.data.toList):=by
 by_cases hm:eY a.data.toList
 ·exact EE w A n k L a hL h0 hn ha hm
 ·exact GZ w A n k L a ha hm
theorem tW(w:World)(a:ByteArray)(ha:a.size≤1000000)(hm:¬eY a.data.toList):Calls Tryz.prog 21 #[.string a] w (yr w [] 2):=by
 have HM:=aa fun w1:World=>cK w1 a ha
 have d0:decide (eY a.data.toList)=false:=decide_eq_false hm
 rw[d0]at HM
 have h2:Blk (w.alloc (.cells #[.string ⟨#[]⟩,.int .i64 0] 24)) w.heap.size 24 #[.string ⟨#[]⟩,.int .i64 0]:=ag w 24 _
 have h0:Below w.heap.size w (w.alloc (.cells #[.string ⟨#[]⟩,.int .i64 0] 24)):=(Below.refl _ _).alloc (ah _) _
 have h4:=aa h2
 have h3:=aa h0
 clear d0 hm h2 h0
 go_enter Tryz.func21,Tryz.ntmps21
 go_wp2_with fail
 refine(HM.out _).mono ?_
 rintro e w1 ⟨rfl,hb⟩
 have hk:=aL hb h4.out
 have h1:Below w.heap.size w w1:=h3.out.trans (hb.mono (by simp))
 have q0:w1.cell? ⟨w.heap.size,0,none⟩=some (.string ⟨#[]⟩):=ac hk 0
 have q1:w1.cell? ⟨w.heap.size,1,none⟩=some (.int .i64 0):=ac hk 1
 have f0:=ae hk 0
 have f1:=ae hk 1
 have HB:=aa h1
 clear hb hk h1
 go_wp2_with fail
 refine bodyPost_ret (v:=.tuple #[.agg #[.string ⟨#[]⟩,.int .i64 0],.int .i64 2]) ?_ rfl ?_
 ·simp[results,Tryz.results21,go_sem,q0,q1]
 ·exact⟨rfl,(HB.out.setCell (p:=⟨w.heap.size,0,none⟩) (ah _) _).setCell (p:=⟨w.heap.size,1,none⟩) (ah _) _⟩
theorem oX(w:World)(a:ByteArray)(ha:a.size≤1000000)(hm:eY a.data.toList):Calls Tryz.prog 21 #[.string a] w (yr w (dL a.data.toList) 0):=by
 obtain⟨hz,hi⟩:=ro
 have HM:=aa fun w1:World=>cK w1 a ha
 have hK:=aa fun w1:World=>uo w1 a ha
 have hM:=aa Cz
 have d0:decide (eY a.data.toList)=true:=decide_eq_true hm
 rw[d0]at HM
 have hY:Blk (w.alloc (.cells #[.string ⟨#[]⟩,.int .i64 0] 24)) w.heap.size 24 #[.string ⟨#[]⟩,.int .i64 0]:=ag w 24 _
 have hT:Below w.heap.size w (w.alloc (.cells #[.string ⟨#[]⟩,.int .i64 0] 24)):=(Below.refl _ _).alloc (ah _) _
 have hG:=aa hY
 have hC:=aa hT
 have HI:=aa hi
 have HS:=aa jO
 have HO:=aa lE
 have HG:=aa lN
 have HJ:=aa qQ
 have H1:kK a.data.toList 16=dL a.data.toList:=rfl
 have HP:=aa H1
 have H0:kK a.data.toList 0=(List.range 16).map (jF a.data.toList):=by simp[kK]
 have HN:=aa H0
 have HR:=aa (pd a.data.toList)
 have HQ:=aa (mn a.data.toList)
 clear d0 hm hY hT hi H1 H0
 go_enter Tryz.func21,Tryz.ntmps21
 go_wp2_with fail
 refine(HM.out _).mono ?_
 rintro e w1 ⟨rfl,hb⟩
 have hk:=aL hb hG.out
 have hV:Below w.heap.size w w1:=hC.out.trans (hb.mono (by simp))
 have HK:=aa hk
 have HB:=aa hV
 have p2:w.heap.size<w1.heap.size:=ay hk
 clear hb hk hV
 go_wp2_with fail
 refine(hK.out w1).mono ?_
 rintro e w2 ⟨f,rfl,h2,he⟩
 generalize gE=T at*
 have ht:∀i,i<16→f i<65536:=fun i hi=>(h2 i hi).1
 have p0:=run_storeCells_new (P:=Tryz.prog) w2 95 (T fun _=>0) (T f) (by rw[HS.out];exact HI.out) (by rw[HS.out,HS.out]) (HO.out _)
 have p1:=HS.out f
 have hw:=aL he HK.out
 have p3:=he.size
 have h3:Below w.heap.size w w2:=HB.out.trans (he.mono (Nat.le_of_lt p2))
 have hZ:Blk (w2.alloc (.cells (T f) 95)) w.heap.size 24 #[.string ⟨#[]⟩,.int .i64 0]:=(bn w2 _ _ (ay hw)).trans hw
 have h9:=aa (ag w2 95 (T f))
 have hj:=aa (h3.alloc h3.size (.cells (T f) 95))
 have hH:=aa hZ
 have h6:=aa fun w3=>hM.out w3 f ht
 have H5:=aa ht
 have hL:=aa fun u hu=>FS (a:=a.data.toList) (f:=f) h2 (u:=u) hu
 have HH:=aa fun i hi h0=>Fg (a:=a.data.toList) (f:=f) h2 (i:=i) hi h0
 have HL:=aa fun i hi h0=>sZ (a:=a.data.toList) (f:=f) h2 (i:=i) hi h0
 have hF:=aa (show(Tryz.prog.info? 95).map (·.size)=some (T f).size by rw[p1];exact HI.out)
 have H8:=aa (HG.out f)
 clear hw h3 hZ he ht h2 hM hK HM HK HB hG hC HG HO
 go_upto_region 4 with fail
 clear p0 hz
 have hX:w2.heap.size<(w2.alloc (.cells (T f) 95)).heap.size:=ay h9.out
 have HY:w.heap.size<w2.heap.size:=by omega
 obtain⟨g4,hv⟩:∃g4,g4=w2.heap.size:=⟨_,rfl⟩
 rw[← hv]at h9 hX HY ⊢
 have p4:=aa hv
 clear hv p3
 generalize T f=Tf at*
 generalize w2.alloc (.cells Tf 95)=w3 at*
 go_upto_region 5 with(go_at_call 60;refine(Ca w3).mono ?_;rintro e w4 ⟨rfl,h8⟩;have h7:=aa h8;clear h8)
 have hy:=h7.out
 clear h7
 have hA:=hj.out.size
 obtain⟨p,hp⟩:∃p,p=w3.heap.size:=⟨_,rfl⟩
 have hO:IsW w.heap.size w4 p (.slice none 0 0) []:=by rw[hy,hp];exact l7 w3 _ hA
 have ho:Below w3.heap.size w3 w4:=bR hy
 have hx:=am ho
 have hh:=aa (hx.blk h9.out aq aq)
 have hI:=aa (hx.blk hH.out aq aq)
 have hD:=aa (hj.out.trans (ho.mono hA))
 have hN:=aa hO
 have pb:g4<p:=by omega
 have pf:w.heap.size<p:=by omega
 rw[← hp]
 clear hO ho hx hy hp h9 hH hj hA hX
 refine wp_region_lit (gu rfl rfl (fs rfl rfl rfl hh.out Tryz.underlying95 hF.out ?_))
 go_wp2_with fail
 refine(h6.out w4).mono ?_
 rintro e w5 ⟨u,hu,rfl,hr⟩
 have hf:=am hr
 have hP:=hN.out.step hf aq (fun _ _=>aq) aq aq
 have hB:=aa (hf.blk hh.out aq aq)
 have hJ:=aa (hf.blk hI.out aq aq)
 have hE:=aa (ap hD.out hr)
 have h1:=aa (fC w.heap.size w5 p _ [] u 16 hP (by simp) (by omega) hu.1)
 rw[List.nil_append,hL.out u hu,←HN.out]at h1
 clear hu hr hf hP h6 hL hN hh hI hD
 go_wp2_with fail
 refine h1.out.mono ?_
 rintro e w6 ⟨rfl,v6,hQ,hc⟩
 have H2:=aa (hc.blk hB.out (by simp;omega) (by decide))
 have HA:=aa (hc.blk hJ.out (by simp;omega) (by decide))
 have H3:=aa (hE.out.trans hc.below)
 have HV:=aa hQ
 clear hQ hc h1 hB hJ hE
 go_upto_region 6 with fail
 refine wp_region_lit (fs rfl rfl rfl H2.out Tryz.underlying95 hF.out ?_)
 go_wp2_with fail
 go_loopw [20] (fun i wx=>∃(q:Nat) (v:Value),q≤16∧i=.int .i64 q∧IsW w.heap.size wx p v (kK a.data.toList q)∧Blk wx w.heap.size 24 #[.string ⟨#[]⟩,.int .i64 0]∧Below w.heap.size w wx) (fun i _=>16 - (intOf i).toNat)
 case atStart=>exact⟨0,v6,Nat.zero_le _,rfl,HV.out,HA.out,H3.out⟩
 case round=>
  obtain⟨q,v,hq,rfl,hW,hk,hb⟩:=hrel
  have HW:=aa hW
  have HK:=aa hk
  have HB:=aa hb
  have pg:=HQ.out q
  by_cases e:q<16
  ·obtain⟨c,h4⟩:∃c,c=f q:=⟨_,rfl⟩
   have hg:=H8.out q e
   rw[← h4]at hg
   have HZ:=fun w9=>HJ.out w9 Tf q c e hg
   have h5:=HR.out q
   by_cases hs:c=0
   ·subst hs
    rw[HL.out q e h4.symm,List.append_nil]at h5
    have HF:=aa h5
    clear h5 h4 hW hk hb hg
    go_wp2_with fail
    go_roundw
    case rel=>exact⟨q+1,v,by omega,by go_num,by rw[HF.out];exact HW.out,HK.out,HB.out⟩
    case measure=>simp[intOf];omega
   ·have p5:=nO hs
    rw[← HH.out q e (by rw[← h4];exact hs),←h4]at h5
    have h1:=aa (fC w.heap.size wr p _ _ c 16 hW (by omega) (by omega) (by rw[h4];exact H5.out q e))
    rw[← h5]at h1
    clear h5 h4 hW hk hb hg
    go_wp2_with fail
    refine h1.out.mono ?_
    rintro e w7 ⟨rfl,v7,hR,hl⟩
    have HC:=aa (hl.blk HK.out (by simp;omega) (by decide))
    have H4:=aa (HB.out.trans hl.below)
    have HX:=aa hR
    clear hR hl h1
    go_wp2_with fail
    go_roundw
    case rel=>exact⟨q+1,v7,by omega,by go_num,HX.out,HC.out,H4.out⟩
    case measure=>simp[intOf];omega
  ·obtain rfl:q=16:=by omega
   rw[HP.out]at hW
   obtain⟨S,hS⟩:∃S:ByteArray,S=⟨(aK (dL a.data.toList)).toArray⟩:=⟨_,rfl⟩
   have HT:=aa (iz w.heap.size wr p v _ hW)
   have HU:=aa hS
   rw[← hS]at HT
   obtain⟨n,hn⟩:∃n,n=(dL a.data.toList).length:=⟨_,rfl⟩
   have c0:=ac hW.blk 0
   have c2:=ac hW.blk 2
   simp at c0 c2
   have HE:=aa hn
   rw[← hn]at c2
   have HD:=aa (jR wr p n c0 c2)
   have q0:wr.cell? ⟨w.heap.size,0,none⟩=some (.string ⟨#[]⟩):=ac hk 0
   have q1:wr.cell? ⟨w.heap.size,1,none⟩=some (.int .i64 0):=ac hk 1
   have f0:=ae hk 0
   have f1:=ae hk 1
   clear hW hk hb hS hn c0 c2 HW HK
   go_wp2_with fail
   refine HT.out.mono ?_
   rintro e w8 ⟨rfl,rfl⟩
   go_wp2_with fail
   refine HD.out.mono ?_
   rintro e w8 ⟨rfl,rfl⟩
   go_wp2_with fail
   refine bodyPost_ret (v:=.tuple #[.agg #[.string S,.int .i64 n],.int .i64 0]) ?_ rfl ?_
   ·simp[results,Tryz.results21,go_sem,q0,q1]
   ·exact⟨by rw[HU.out,HE.out];rfl,(HB.out.setCell (p:=⟨w.heap.size,0,none⟩) (ah _) _).setCell (p:=⟨w.heap.size,1,none⟩) (ah _) _⟩
end Go.Proofs.YthakcjehhlpjnaaGreat.S06
