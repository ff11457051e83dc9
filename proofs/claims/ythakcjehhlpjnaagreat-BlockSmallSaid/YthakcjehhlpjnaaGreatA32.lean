import Derived.Test.YthakcjehhlpjnaaGreatA11
import Derived.Test.YthakcjehhlpjnaaGreatA31
import Derived.WalkMore
set_option maxHeartbeats 3200000
set_option maxRecDepth 100000
namespace Go.Proofs.YthakcjehhlpjnaaGreat.S10
open Go.RowKit
theorem ef(w:World)(n:Int):Calls Tryz.prog 125 #[.int .i64 n] w fun e w'=>e=.returned (.bool (decide (2≤n∧n≤258)))∧w=w':=by
 by_cases h1:2≤n
 ·by_cases h2:n≤258
  ·have d0:decide ((2:Int)≤n)=true:=decide_eq_true h1
   have d1:decide (n≤(258:Int))=true:=decide_eq_true h2
   have hd:decide (2≤n∧n≤258)=true:=decide_eq_true ⟨h1,h2⟩
   go_enter Tryz.func125,Tryz.ntmps125
   go_wp2_with fail
   go_ret
   first | exact⟨rfl,rfl⟩ | (rw [hd];exact⟨rfl,rfl⟩)
  ·have d0:decide ((2:Int)≤n)=true:=decide_eq_true h1
   have d1:decide (n≤(258:Int))=false:=decide_eq_false h2
   have hd:decide (2≤n∧n≤258)=false:=au (by omega)
   go_enter Tryz.func125,Tryz.ntmps125
   go_wp2_with fail
   go_ret
   first | exact⟨rfl,rfl⟩ | (rw [hd];exact⟨rfl,rfl⟩)
 ·have d0:decide ((2:Int)≤n)=false:=decide_eq_false h1
  have hd:decide (2≤n∧n≤258)=false:=au (by omega)
  go_enter Tryz.func125,Tryz.ntmps125
  go_wp2_with fail
  go_ret
  first | exact⟨rfl,rfl⟩ | (rw [hd];exact⟨rfl,rfl⟩)
theorem tD(w:World)(n:Int):Calls Tryz.prog 127 #[.int .i64 n] w fun e w'=>e=.returned (.bool (decide (n<1∨20<n)))∧w=w':=by
 by_cases h1:n<1
 ·have d0:decide (n<1)=true:=decide_eq_true h1
  have hd:decide (n<1∨20<n)=true:=decide_eq_true (.inl h1)
  go_enter Tryz.func127,Tryz.ntmps127
  go_wp2_with fail
  go_ret
  first | exact⟨rfl,rfl⟩ | (rw [hd];exact⟨rfl,rfl⟩)
 ·by_cases h2:20<n
  ·have d0:decide (n<1)=false:=decide_eq_false h1
   have d1:decide ((20:Int)<n)=true:=decide_eq_true h2
   have hd:decide (n<1∨20<n)=true:=decide_eq_true (.inr h2)
   go_enter Tryz.func127,Tryz.ntmps127
   go_wp2_with fail
   go_ret
   first | exact⟨rfl,rfl⟩ | (rw [hd];exact⟨rfl,rfl⟩)
  ·have d0:decide (n<1)=false:=decide_eq_false h1
   have d1:decide ((20:Int)<n)=false:=decide_eq_false h2
   have hd:decide (n<1∨20<n)=false:=au (by omega)
   go_enter Tryz.func127,Tryz.ntmps127
   go_wp2_with fail
   go_ret
   first | exact⟨rfl,rfl⟩ | (rw [hd];exact⟨rfl,rfl⟩)
abbrev FY:Value:=.func (.func 127) #[] #[]
def nf(L:List Int):Prop:=∃x∈L,x<1∨20<x
instance (L:List Int):Decidable (nf L):=inferInstanceAs (Decidable (∃ x∈L,_))
theorem oy(w:World)(A:Option Addr)(n c:Nat)(L:List Int)(hz:ZIn w A n L)(hn:n≤1000000):Calls Tryz.prog 178 #[.slice A n c,FY] w fun e w'=>∃k:Int,e=.returned (.int .i64 k)∧(0≤k↔nf L)∧Below w.heap.size w w':=by
 have HL:=aa hz
 have h3:=aa hz.1
 have HW:=aa tD
 clear hz
 go_enter Tryz.func178,Tryz.ntmps178
 go_wp2_with fail
 go_loopw [5,8] (fun s5 x wx=>∃i:Nat,i≤n∧x=.int .i64 i∧Hid (¬ nf (L.take i))∧wx=w) (fun _ x _=>n - (intOf x).toNat)
 case atStart=>
  refine⟨0,Nat.zero_le _,rfl,aa ?_,rfl⟩
  rintro⟨x,hx,_⟩
  cases hx
 case round=>
  obtain⟨i,hi,rfl,h6,rfl⟩:=hrel
  by_cases e:i<n
  ·have d0:decide ((i:Int)<(n:Int))=true:=aC (by omega)
   obtain⟨b,off,rfl,hc⟩:=HL.out.2 (by omega)
   have h8:=hc i e
   have h4:=sK L i (by rw[h3.out];exact e)
   obtain⟨x,hx⟩:∃x,x=L.getD i 0:=⟨_,rfl⟩
   rw[← hx]at h8 h4
   have h7:=aa h4
   have HX:=aa hx
   clear hc hx h4
   go_wp2_with fail
   refine(HW.out _ x).mono ?_
   rintro e w1 ⟨rfl,rfl⟩
   by_cases hb:x<1∨20<x
   ·rw[decide_eq_true hb]
    have h2:=aa hb
    clear hb
    go_wp2_with fail
    go_ret
    refine⟨i,rfl,⟨fun _=>⟨x,?_,h2.out⟩,fun _=>by omega⟩,Below.refl _ _⟩
    rw[HX.out]
    exact pO (by rw[h3.out];exact e)
   ·rw[decide_eq_false hb]
    have h2:=aa hb
    clear hb
    go_wp2_with fail
    go_roundw
    case rel=>
     refine⟨i+1,by omega,by go_num,aa ?_,trivial⟩
     rw[h7.out]
     rintro⟨y,hy,h5⟩
     rcases List.mem_append.1 hy with hy | hy
     ·exact h6.out ⟨y,hy,h5⟩
     ·rw[List.mem_singleton.1 hy]at h5
      exact h2.out h5
    case measure=>simp[intOf];omega
  ·obtain rfl:i=n:=by omega
   have d0:decide ((i:Int)<(i:Int))=false:=au (by omega)
   have h0:¬nf L:=by
    have h:=h6.out
    rw[List.take_of_length_le (Nat.le_of_eq h3.out)]at h
    exact h
   have h1:=aa h0
   clear h0
   go_wp2_with fail
   go_ret
   exact⟨-1,rfl,⟨fun h=>absurd h (by omega),fun h=>absurd h h1.out⟩,Below.refl _ _⟩
theorem m5(w:World)(A:Option Addr)(n c:Nat)(L:List Int)(hz:ZIn w A n L)(hn:n≤1000000):Calls Tryz.prog 126 #[.slice A n c,FY] w fun e w'=>e=.returned (.bool (decide (nf L)))∧Below w.heap.size w w':=by
 have HI:=aa (oy w A n c L hz hn)
 clear hz
 go_enter Tryz.func126,Tryz.ntmps126
 go_wp2_with fail
 refine HI.out.mono ?_
 rintro e w1 ⟨k,rfl,hk,hb⟩
 have HB:=aa hb
 by_cases h:nf L
 ·have d0:decide ((0:Int)≤k)=true:=decide_eq_true (hk.2 h)
  have HD:=aa (decide_eq_true h)
  clear hb hk h
  go_wp2_with fail
  go_ret
  rw[HD.out]
  exact⟨rfl,HB.out⟩
 ·have d0:decide ((0:Int)≤k)=false:=decide_eq_false fun h1=>h (hk.1 h1)
  have HD:=aa (decide_eq_false h)
  clear hb hk h
  go_wp2_with fail
  go_ret
  rw[HD.out]
  exact⟨rfl,HB.out⟩
theorem AU(B:Nat)(w:World)(p:Nat)(v:Value)(L:List Nat)(q:Nat)(h:IsW B w p v L)(hL:L.length≤1000000000000)(hq:q<4):Calls Tryz.prog 61 #[.pointer (some ⟨p,0,none⟩),.int .u64 q,.int .i64 2] w fun e w'=>e=.returned (.int .i64 0)∧∃v',IsW B w' p v' (L++aj q 2)∧Below B w w':=
 (eS B w p v L q 2 h hL (by omega) hq).mono fun _ _ ⟨he,v',hW,hs⟩=>⟨he,v',hW,hs.below⟩
theorem GA(B:Nat)(w:World)(p:Nat)(v:Value)(L:List Nat)(h:IsW B w p v L)(hL:L.length≤1000000000000):Calls Tryz.prog 61 #[.pointer (some ⟨p,0,none⟩),.int .u64 0,.int .i64 1] w fun e w'=>e=.returned (.int .i64 0)∧∃v',IsW B w' p v' (L++ [0])∧Below B w w':=
 (eS B w p v L 0 1 h hL (by omega) (by decide)).mono fun _ _ ⟨he,v',hW,hs⟩=>⟨he,v',hW,hs.below⟩
theorem Fi(B:Nat)(w:World)(p:Nat)(v:Value)(L:List Nat)(a x:Nat)(hW:IsW B w p v L)(hL:L.length≤1000000)(ha:a≤20)(hx:x≤20):Calls Tryz.prog 128 #[.pointer (some ⟨p,0,none⟩),.int .i64 a,.int .i64 x] w fun e w'=>e=.returned (.tuple #[])∧∃v',IsW B w' p v' (L++fs a x)∧Below B w w':=by
 have HW:=aa hW
 have hi:=aa fun(w1:World) (v1:Value) (j:Nat) (h:IsW B w1 p v1 (L++ups j)) (hj:j≤20)=>AU B w1 p v1 _ 2 h (by rw[List.length_append,iQ];omega) (by omega)
 have hg:=aa fun(w1:World) (v1:Value) (j:Nat) (h:IsW B w1 p v1 (L++ups (x - a)++ga j)) (hj:j≤20)=>AU B w1 p v1 _ 3 h (by rw[List.length_append,List.length_append,iQ,gQ];omega) (by omega)
 have hh:=aa fun(w1:World) (v1:Value) (h:IsW B w1 p v1 (L++ups (x - a)++ga (a - x)))=>GA B w1 p v1 _ h (by rw[List.length_append,List.length_append,iQ,gQ];omega)
 clear hW
 go_enter Tryz.func128,Tryz.ntmps128
 go_wp2_with fail
 go_loopw [1] (fun f wx=>∃(j:Nat) (v':Value),j≤x - a∧f=.int .i64 (a+j:Nat)∧IsW B wx p v' (L++ups j)∧Below B w wx) (fun f _=>x - (intOf f).toNat)
 case atStart=>exact⟨0,v,Nat.zero_le _,rfl,by rw[show L++ups 0=L from List.append_nil L];exact HW.out,Below.refl _ _⟩
 case round=>
  obtain⟨j,v1,hj,rfl,h8,hb⟩:=hrel
  by_cases e:a+j<x
  ·have d0:decide (((a+j:Nat):Int)<(x:Int))=true:=aC (by omega)
   have HC:=aa (hi.out wr v1 j h8 (by omega))
   have HB:=aa hb
   clear h8 hb
   obtain⟨m,hm⟩:∃m,m=a+j:=⟨_,rfl⟩
   rw[← hm]at d0 e ⊢
   have HM:=aa hm
   clear hm
   go_wp2_with fail
   refine HC.out.mono ?_
   rintro e w2 ⟨rfl,v2,h0,h4⟩
   have h6:=aa h0
   have h5:=aa (HB.out.trans h4)
   clear h0 h4
   go_wp2_with fail
   go_roundw
   case rel=>
    have:=HM.out
    refine⟨j+1,v2,by omega,by rw[this];go_num,?_,h5.out⟩
    rw[vS,←List.append_assoc]
    exact h6.out
   case measure=>simp[intOf];omega
  ·have d0:decide (((a+j:Nat):Int)<(x:Int))=false:=au (by omega)
   obtain rfl:j=x - a:=by omega
   obtain⟨m,hm⟩:∃m,m=a+(x - a):=⟨_,rfl⟩
   have h7:m=max a x:=by omega
   rw[← hm]at d0 ⊢
   have he:=aa h7
   have hl:=aa h8
   have hf:=aa hb
   have e1:¬m<x:=by omega
   clear hm h7 h8 hb hj e
   go_wp2_with fail
   go_loopw [1] (fun f wx=>∃(j m':Nat) (v':Value),j≤a - x∧m'+j=m∧f=.int .i64 (m':Nat)∧IsW B wx p v' (L++ups (x - a)++ga j)∧Below B w wx) (fun f _=>(intOf f).toNat)
   case atStart=>exact⟨0,m,v1,Nat.zero_le _,rfl,rfl,by rw[show L++ups (x - a)++ga 0=L++ups (x - a)from List.append_nil _];exact hl.out,hf.out⟩
   case round=>
    obtain⟨j,k,v3,hj,hk,rfl,h9,hc⟩:=hrel
    have h7:=he.out
    by_cases e2:x<k
    ·have d1:decide ((x:Int)<(k:Int))=true:=aC (by omega)
     have HC:=aa (hg.out wr v3 j h9 (by omega))
     have HB:=aa hc
     have HK:=aa hk
     obtain⟨q,hq⟩:∃q,q+1=k:=⟨k - 1,by omega⟩
     have hn:(k:Int) - 1=(q:Int):=by omega
     have ho:q≤40:=by omega
     have HQ:=aa hq
     clear h9 hc hk h7 hq
     go_wp2_with fail
     refine HC.out.mono ?_
     rintro e w2 ⟨rfl,v2,h0,h4⟩
     have h6:=aa h0
     have h5:=aa (HB.out.trans h4)
     clear h0 h4
     go_wp2_with fail
     go_roundw
     case rel=>
      have h1:=HK.out
      have h2:=he.out
      have h3:=HQ.out
      refine⟨j+1,q,v2,by omega,by omega,by go_num,?_,h5.out⟩
      rw[ry,←List.append_assoc]
      exact h6.out
     case measure=>
      have h3:=HQ.out
      simp[intOf]
      omega
    ·have d1:decide ((x:Int)<(k:Int))=false:=au (by omega)
     obtain rfl:j=a - x:=by omega
     have HC:=aa (hh.out wr v3 h9)
     have HB:=aa hc
     clear h9 hc hk h7 hj
     go_wp2_with fail
     refine HC.out.mono ?_
     rintro e w2 ⟨rfl,v2,h0,h4⟩
     have h6:=aa h0
     have h5:=aa (HB.out.trans h4)
     clear h0 h4
     go_wp2_with fail
     try simp only[Exit.inBlock,Exit.then]
     go_end0
     refine⟨rfl,v2,?_,h5.out⟩
     rw[show fs a x=ups (x - a)++ga (a - x)++ [0]from rfl,←List.append_assoc,←List.append_assoc]
     exact h6.out
theorem ij{B:Nat}{w w':World}{g:Nat}{t:TypeId}{cs:Array Value}(h:Below B w w')(hb:Blk w g t cs)(hg:g<B):Blk w' g t cs:=(h.block g hg).trans hb
theorem DF(w:World)(A:Option Addr)(n c:Nat)(L:List Int)(_hz:ZIn w A n L)(_hn:n≤maxLen)(h:¬(2≤(n:Int)∧(n:Int)≤258)):Calls Tryz.prog 67 #[.slice A n c] w (aW w ([],80)):=by
 unfold maxLen at _hn
 have h0:Blk (w.alloc (.cells #[.string ⟨#[]⟩,.int .i64 0] 24)) w.heap.size 24 #[.string ⟨#[]⟩,.int .i64 0]:=ag w 24 _
 have h1:Below w.heap.size w (w.alloc (.cells #[.string ⟨#[]⟩,.int .i64 0] 24)):=(Below.refl _ _).alloc (ah _) _
 have HE:=aa (ef (w.alloc (.cells #[.string ⟨#[]⟩,.int .i64 0] 24)) n)
 rw[decide_eq_false h]at HE
 have HB:=aa h1
 have q0:=ac h0 0
 have q1:=ac h0 1
 have f0:=ae h0 0
 have f1:=ae h0 1
 simp at q0 q1
 clear h0 h1 h
 go_enter Tryz.func67,Tryz.ntmps67
 go_wp2_with fail
 refine HE.out.mono ?_
 rintro e w1 ⟨rfl,rfl⟩
 go_wp2_with fail
 refine bodyPost_ret (v:=.tuple #[.agg #[.string ⟨#[]⟩,.int .i64 0],.int .i64 80]) ?_ rfl ?_
 ·simp[results,Tryz.results67,go_sem]
 ·first | exact⟨rfl,HB.out⟩ | exact⟨rfl,(HB.out.setCell (p:=⟨w.heap.size,0,none⟩) (ah _) _).setCell (p:=⟨w.heap.size,1,none⟩) (ah _) _⟩
theorem th(w:World)(A:Option Addr)(n c:Nat)(L:List Int)(hz:ZIn w A n L)(h:2≤(n:Int)∧(n:Int)≤258)(h0:nf L):Calls Tryz.prog 67 #[.slice A n c] w (aW w ([],80)):=by
 have h4:Blk (w.alloc (.cells #[.string ⟨#[]⟩,.int .i64 0] 24)) w.heap.size 24 #[.string ⟨#[]⟩,.int .i64 0]:=ag w 24 _
 have h1:Below w.heap.size w (w.alloc (.cells #[.string ⟨#[]⟩,.int .i64 0] 24)):=(Below.refl _ _).alloc (ah _) _
 have HE:=aa (ef (w.alloc (.cells #[.string ⟨#[]⟩,.int .i64 0] 24)) n)
 rw[decide_eq_true h]at HE
 have HC:=aa (m5 (w.alloc (.cells #[.string ⟨#[]⟩,.int .i64 0] 24)) A n c L (hz.below h1) (by omega))
 rw[decide_eq_true h0]at HC
 have HB:=aa h1
 have HK:=aa h4
 clear h4 h1 hz h h0
 go_enter Tryz.func67,Tryz.ntmps67
 go_wp2_with fail
 refine HE.out.mono ?_
 rintro e w1 ⟨rfl,rfl⟩
 go_wp2_with fail
 refine HC.out.mono ?_
 rintro e w2 ⟨rfl,h2⟩
 have hk:=aM h2 HK.out
 have h3:Below w.heap.size w w2:=HB.out.trans (h2.mono (by simp))
 have q0:w2.cell? ⟨w.heap.size,0,none⟩=some (.string ⟨#[]⟩):=ac hk 0
 have q1:w2.cell? ⟨w.heap.size,1,none⟩=some (.int .i64 0):=ac hk 1
 have f0:=ae hk 0
 have f1:=ae hk 1
 have h5:=aa h3
 clear h2 hk h3
 go_wp2_with fail
 refine bodyPost_ret (v:=.tuple #[.agg #[.string ⟨#[]⟩,.int .i64 0],.int .i64 80]) ?_ rfl ?_
 ·simp[results,Tryz.results67,go_sem,q0,q1]
 ·exact⟨rfl,(h5.out.setCell (p:=⟨w.heap.size,0,none⟩) (ah _) _).setCell (p:=⟨w.heap.size,1,none⟩) (ah _) _⟩
theorem Ew(w:World)(A:Option Addr)(n c:Nat)(L:List Int)(hz:ZIn w A n L)(h:DOk L):Calls Tryz.prog 67 #[.slice A n c] w (aW w (aX (nl L),0)):=by
 have hZ:=hz.1
 obtain⟨l,hl⟩:∃l,l=nl L:=⟨_,rfl⟩
 have hY:l.length=n:=by rw[hl,bI];exact hZ
 have ht:∀j,j<n→1≤l.getD j 0∧l.getD j 0≤20:=by
  intro j hj
  rw[hl]
  exact Au h _ (pY (by rw[bI];omega))
 have hr:∀j,j<n→L.getD j 0=(l.getD j 0:Nat):=by
  intro j hj
  have h1:=h.2.2 _ (pO (L:=L) (j:=j) (by omega))
  rw[hl,qY,Int.toNat_of_nonneg (by omega)]
 have H1:¬nf L:=by
  rintro⟨x,hx,HQ⟩
  have:=h.2.2 x hx
  omega
 have HW:2≤n:=by have:=h.1;omega
 have H0:n≤258:=by have:=h.2.1;omega
 rw[← hl]
 have hU:Blk (w.alloc (.cells #[.string ⟨#[]⟩,.int .i64 0] 24)) w.heap.size 24 #[.string ⟨#[]⟩,.int .i64 0]:=ag w 24 _
 have hy:Below w.heap.size w (w.alloc (.cells #[.string ⟨#[]⟩,.int .i64 0] 24)):=(Below.refl _ _).alloc (ah _) _
 have HE:=aa (ef (w.alloc (.cells #[.string ⟨#[]⟩,.int .i64 0] 24)) n)
 rw[decide_eq_true (show 2≤(n:Int)∧(n:Int)≤258 by omega)]at HE
 have HC:=aa (m5 (w.alloc (.cells #[.string ⟨#[]⟩,.int .i64 0] 24)) A n c L (hz.below hy) (by omega))
 rw[decide_eq_false H1]at HC
 have HB:=aa hy
 have HK:=aa hU
 have HZ:=aa hz
 have HG:=aa hr
 have hv:=aa ht
 have HU:=aa hY
 have H2:∀i,i<n→bz (l.getD 0 0) (l.take (i+1))=bz (l.getD 0 0) (l.take i)++fs (ml l i) (l.getD i 0):=fun i hi=>vD (by omega)
 have HH:=aa H2
 have h6:∀i,i≤n→(aj (l.getD 0 0) 5++bz (l.getD 0 0) (l.take i)).length≤20000:=by
  intro i hi
  have h1:=qI (l.take i) (l.getD 0 0) (ht 0 (by omega)).2 (fun x hx=>by
   obtain⟨j,hj,rfl⟩:=List.mem_iff_getElem.1 (List.mem_of_mem_take hx)
   have:=(ht j (by omega)).2
   rw[List.getD_eq_getElem?_getD,List.getElem?_eq_getElem hj]at this
   exact this)
  rw[List.length_append,af,jq]
  have h2:(l.take i).length≤258:=by rw[List.length_take];omega
  omega
 have HA:=aa h6
 have hq:aX l=aj (l.getD 0 0) 5++bz (l.getD 0 0) (l.take n):=by
  rw[List.take_of_length_le (by omega)]
  rfl
 have HF:=aa hq
 have hP:∀i,ml l (i+1)=l.getD i 0:=fun i=>rfl
 have H3:=aa hP
 have ho:ml l 0=l.getD 0 0:=rfl
 have hw:=aa ho
 have hh:=aa Fi
 clear hU hy hz hr ht hY H2 h6 hq hP ho H1 h hl hZ
 go_enter Tryz.func67,Tryz.ntmps67
 go_wp2_with fail
 refine HE.out.mono ?_
 rintro e w1 ⟨rfl,rfl⟩
 go_wp2_with fail
 refine HC.out.mono ?_
 rintro e w2 ⟨rfl,hB⟩
 have hE:=aM hB HK.out
 have hQ:Below w.heap.size w w2:=HB.out.trans (hB.mono (by simp))
 have hJ:=aa hE
 have hH:=aa hQ
 have h8:w.heap.size<w2.heap.size:=aA hE
 clear hB hE hQ HB HK HE HC
 go_upto_region 4 with(go_at_call 60;refine(BW w2).mono ?_;rintro e w3 ⟨rfl,hs⟩;have hn:=aa hs;clear hs)
 have hG:=hn.out
 clear hn
 have hC:Below w2.heap.size w2 w3:=cn hG
 obtain⟨p,hp⟩:∃p,p=w2.heap.size:=⟨_,rfl⟩
 have hM:IsW p w3 p (.slice none 0 0) []:=by rw[hG,hp];exact lC w2 _ (ah _)
 have hV:=ij hC hJ.out h8
 have h5:Below w.heap.size w w3:=hH.out.trans (hC.mono (Nat.le_of_lt h8))
 rw[← hp]at h8 ⊢
 have HS:=HZ.out.below h5
 obtain⟨b,off,hA,hc⟩:=HZ.out.2 (by omega)
 subst hA
 have h3:∀(wx:World),Below w.heap.size w wx→∀i,i<n→wx.cell? ⟨b,off+i,none⟩=some (.int .i64 (l.getD i 0:Nat)):=by
  intro wx HN i hi
  obtain⟨b',off',hA,HO⟩:=(HZ.out.below HN).2 (by omega)
  injection hA with hA
  injection hA with h1 h2
  subst h1 h2
  rw[HO i hi,HG.out i hi]
 have h9:=aa h3
 have hR:w3.cell? ⟨b,off,none⟩=some (.int .i64 (l.getD 0 0:Nat)):=h3 w3 h5 0 (by omega)
 obtain⟨x0,hu⟩:∃x0,x0=l.getD 0 0:=⟨_,rfl⟩
 have h7:1≤x0∧x0≤20:=by rw[hu];exact hv.out 0 (by omega)
 have HX:=h7.1
 have HQ:=h7.2
 rw[← hu]at hR
 have hL:=aa hu
 have hK:=aa hV
 have hI:=aa h5
 have HV:(0:Int)<(n:Int):=by omega
 have hf:=aa (eS p w3 p _ [] x0 5 hM (by simp) (by omega) (by show x0<32;omega))
 clear hG hC hp hM hV h5 hc h3 hu h7 HS hJ hH
 go_wp2_with fail
 refine hf.out.mono ?_
 rintro e w4 ⟨rfl,v4,hN,hF⟩
 have hX:=ij hF.below hK.out h8
 have H6:=aa hX
 have H4:=aa (hI.out.trans (hF.below.mono (Nat.le_of_lt h8)))
 have HI:=aa hN
 clear hN hF hX hK hI hf hR
 go_wp2_with fail
 go_loopw [5,7,27] (fun a5 a7 x wx=>∃(i:Nat) (v:Value),i≤n∧x=.int .i64 i∧a5=.int .i64 (ml l i:Nat)∧IsW p wx p v (aj (l.getD 0 0) 5++bz (l.getD 0 0) (l.take i))∧Blk wx w.heap.size 24 #[.string ⟨#[]⟩,.int .i64 0]∧Below w.heap.size w wx) (fun _ _ x _=>n - (intOf x).toNat)
 case atStart=>
  refine⟨0,v4,Nat.zero_le _,rfl,by rw[hw.out,←hL.out],?_,H6.out,H4.out⟩
  have h1:=HI.out
  rw[hL.out]at h1
  rw[List.take_zero]
  show IsW p w4 p v4 (aj (l.getD 0 0) 5++ [])
  rw[List.append_nil]
  exact h1
 case round=>
  obtain⟨i,v,hi,rfl,rfl,hW,hk,hb⟩:=hrel
  by_cases e:i<n
  ·have d0:decide ((i:Int)<(n:Int))=true:=aC (by omega)
   have HP:=h9.out wr hb i e
   have h0:=HH.out i e
   obtain⟨x,hx⟩:∃x,x=l.getD i 0:=⟨_,rfl⟩
   have HR:x≤20:=by rw[hx];exact(hv.out i e).2
   obtain⟨a,ha⟩:∃a,a=ml l i:=⟨_,rfl⟩
   have HL:a≤20:=by rw[ha];exact(hv.out (i - 1) (by omega)).2
   have h4:=H3.out i
   rw[← hx]at HP h0 h4
   rw[← ha]at h0 ⊢
   have HT:=aa (hh.out p wr p v _ a x hW (Nat.le_trans (HA.out i hi) (by omega)) HL HR)
   have hg:=aa h0
   have he:=aa h4
   have HK:=aa hk
   have HB:=aa hb
   clear hW hk hb hx ha h0 h4
   go_wp2_with fail
   refine HT.out.mono ?_
   rintro e w5 ⟨rfl,v5,hO,hD⟩
   have HJ:=aa hO
   have H7:=aa (ij hD HK.out h8)
   have H5:=aa (HB.out.trans (hD.mono (Nat.le_of_lt h8)))
   clear hO hD
   go_wp2_with fail
   go_roundw
   case rel=>
    refine⟨i+1,v5,by omega,by go_num,by rw[he.out],?_,H7.out,H5.out⟩
    rw[hg.out,←List.append_assoc]
    exact HJ.out
   case measure=>simp[intOf];omega
  ·obtain rfl:i=n:=by omega
   have d0:decide ((i:Int)<(i:Int))=false:=au (by omega)
   rw[← HF.out]at hW
   obtain⟨S,hS⟩:∃S:ByteArray,S=⟨(aG (aX l)).toArray⟩:=⟨_,rfl⟩
   have hT:=ig p wr p v (aX l) hW
   rw[← hS]at hT
   have HT:=aa hT
   have HD:=aa hS
   obtain⟨m,hm⟩:∃m,m=(aX l).length:=⟨_,rfl⟩
   have c0:=ac hW.blk 0
   have c2:=ac hW.blk 2
   simp at c0 c2
   have HM:=aa hm
   rw[← hm]at c2
   have H8:=aa (jQ wr p m c0 c2)
   have q0:wr.cell? ⟨w.heap.size,0,none⟩=some (.string ⟨#[]⟩):=ac hk 0
   have q1:wr.cell? ⟨w.heap.size,1,none⟩=some (.int .i64 0):=ac hk 1
   have f0:=ae hk 0
   have f1:=ae hk 1
   have HB:=aa hb
   clear hW hk hb hS hm c0 c2 hT
   go_wp2_with fail
   refine HT.out.mono ?_
   rintro e w8 ⟨rfl,rfl⟩
   go_wp2_with fail
   refine H8.out.mono ?_
   rintro e w8 ⟨rfl,rfl⟩
   go_wp2_with fail
   refine bodyPost_ret (v:=.tuple #[.agg #[.string S,.int .i64 m],.int .i64 0]) ?_ rfl ?_
   ·simp[results,Tryz.results67,go_sem,q0,q1]
   ·exact⟨by rw[HD.out,HM.out];rfl,(HB.out.setCell (p:=⟨w.heap.size,0,none⟩) (ah _) _).setCell (p:=⟨w.heap.size,1,none⟩) (ah _) _⟩
theorem nU(w:World)(A:Option Addr)(n c:Nat)(L:List Int)(hz:ZIn w A n L)(hn:n≤maxLen):Calls Tryz.prog 67 #[.slice A n c] w (aW w (iX L)):=by
 by_cases h:2≤(n:Int)∧(n:Int)≤258
 ·by_cases hb:nf L
  ·rw[iX,if_neg]
   ·exact th w A n c L hz h hb
   ·intro h0
    obtain⟨x,hx,h3⟩:=hb
    have:=h0.2.2 x hx
    omega
  ·have h0:DOk L:=by
    refine⟨by have:=hz.1;omega,by have:=hz.1;omega,fun x hx=> ?_⟩
    by_cases h1:x<1∨20<x
    ·exact absurd ⟨x,hx,h1⟩ hb
    ·omega
   rw[iX,if_pos h0]
   exact Ew w A n c L hz h0
 ·rw[iX,if_neg]
  ·exact DF w A n c L hz hn h
  ·intro h0
   have h1:=h0.1
   have h2:=h0.2.1
   have:=hz.1
   omega
theorem pI(l:List Nat)(k:Nat)(h:k<l.length):val ((l.drop k).take 1)=l.getD k 0:=by
 have:=lu l k 0 (by omega)
 rw[this,List.take_zero]
 show 2*0+_=_
 rw[Nat.mul_zero,Nat.zero_add,Nat.add_zero]
theorem mN(B:Nat)(w:World)(p:Nat)(s:ByteArray)(k:Nat)(hR:IsR B w p s k)(hs:s.size≤281474976710656)(h0:k<8*s.size):Calls Tryz.prog 84 #[.pointer (some ⟨p,0,none⟩),.int .i64 1] w fun e w'=>e=.returned (.tuple #[.int .u64 ((ak s.data.toList).getD k 0:Nat),.int .i64 0])∧IsR B w' p s (k+1)∧ai B [p] [] w w':=by
 have h:=fV B w p s k 1 hR hs (by omega) (by omega)
 rw[pI _ k (by rw[ax];exact h0)]at h
 exact h
theorem xP(B:Nat)(w:World)(p:Nat)(s:ByteArray)(k:Nat)(hR:IsR B w p s k)(hs:s.size≤281474976710656)(h0:k=8*s.size):Calls Tryz.prog 84 #[.pointer (some ⟨p,0,none⟩),.int .i64 1] w fun e w'=>e=.returned (.tuple #[.int .u64 0,.int .i64 10])∧IsR B w' p s k∧ai B [p] [] w w':=
 dY B w p s k 1 hR hs (by omega) (by omega) (by omega)
abbrev IK (br:Nat):Value:=.func (.func 262) #[] #[.pointer (some ⟨br,0,none⟩)]
theorem wH(w:World)(p:Nat):Calls Tryz.prog 247 #[.pointer (some ⟨p,0,none⟩)] w fun e w'=>e=.returned (IK w.heap.size)∧w'=w.alloc (.cells #[.pointer (some ⟨p,0,none⟩)] 64):=by
 go_enter Tryz.func247,Tryz.ntmps247
 go_wp2_with fail
 go_ret
 exact⟨rfl,rfl⟩
def nw(B:Nat)(w:World)(p:Nat)(s:ByteArray)(st:Int)(er k:Nat)(e:Ending)(w':World):Prop:=
 e=.returned (.tuple #[.int .i64 st,.int .i64 er])∧IsR B w' p s k∧ai B [p] [] w w'
section
variable (B:Nat) (w:World) (p br:Nat) (s:ByteArray) (k:Nat)
theorem CJ(hR:IsR B w p s k)(hs:s.size≤281474976710656)(hb:Blk w br 64 #[.pointer (some ⟨p,0,none⟩)])(h:k=8*s.size):Calls Tryz.prog 262 #[.pointer (some ⟨br,0,none⟩)] w (nw B w p s 0 10 k):=by
 have HT:=aa (xP B w p s k hR hs h)
 have c0:=ac hb 0
 simp at c0
 clear hR hb h
 go_enter Tryz.func262,Tryz.ntmps262
 go_wp2_with fail
 refine HT.out.mono ?_
 rintro e w1 ⟨rfl,h0,h1⟩
 have h2:=aa h0
 have h3:=aa h1
 clear h0 h1
 go_wp2_with fail
 go_ret2
 exact⟨rfl,h2.out,h3.out⟩
theorem Bj(hR:IsR B w p s k)(hs:s.size≤281474976710656)(hb:Blk w br 64 #[.pointer (some ⟨p,0,none⟩)])(h:k<8*s.size)(h0:(ak s.data.toList).getD k 0=0):Calls Tryz.prog 262 #[.pointer (some ⟨br,0,none⟩)] w (nw B w p s 0 0 (k+1)):=by
 have ht:=mN B w p s k hR hs h
 rw[h0]at ht
 have HT:=aa ht
 have c0:=ac hb 0
 simp at c0
 clear hR hb h ht h0
 go_enter Tryz.func262,Tryz.ntmps262
 go_wp2_with fail
 refine HT.out.mono ?_
 rintro e w1 ⟨rfl,h1,h2⟩
 have h3:=aa h1
 have h4:=aa h2
 clear h1 h2
 go_wp2_with fail
 go_ret2
 exact⟨rfl,h3.out,h4.out⟩
theorem m8{B:Nat}{w w':World}{p br:Nat}{s:ByteArray}{k:Nat}{v:Value}(hR:IsR B w p s k)(hb:Blk w br 64 #[v])(hs:ai B [p] [] w w'):Blk w' br 64 #[v]:=by
 refine hs.blk hb ?_ az
 intro h
 rw[List.mem_singleton.1 h]at hb
 have h2:=hR.blk
 unfold Blk at hb h2
 rw[h2]at hb
 injection hb with hb
 injection hb with _ h3
 exact absurd h3 (by decide)
theorem C2(hR:IsR B w p s k)(hs:s.size≤281474976710656)(hb:Blk w br 64 #[.pointer (some ⟨p,0,none⟩)])(h:k+1=8*s.size)(h0:(ak s.data.toList).getD k 0=1):Calls Tryz.prog 262 #[.pointer (some ⟨br,0,none⟩)] w (nw B w p s 0 10 (k+1)):=by
 have ht:=mN B w p s k hR hs (by omega)
 rw[h0]at ht
 have HT:=aa ht
 have h8:=aa fun w1 (h1:IsR B w1 p s (k+1))=>xP B w1 p s (k+1) h1 hs h
 have c0:=ac hb 0
 simp at c0
 have HK:=aa fun w1 (h1:ai B [p] [] w w1)=>m8 hR hb h1
 clear hR hb h ht h0
 go_enter Tryz.func262,Tryz.ntmps262
 go_wp2_with fail
 refine HT.out.mono ?_
 rintro e w1 ⟨rfl,h3,h2⟩
 have c1:=ac (HK.out w1 h2) 0
 simp at c1
 have h9:=aa (h8.out w1 h3)
 have h7:=aa h2
 clear h3 h2
 go_wp2_with fail
 refine h9.out.mono ?_
 rintro e w2 ⟨rfl,h4,h5⟩
 have h6:=aa h4
 have HS2:=aa (h7.out.trans h5)
 clear h4 h5
 go_wp2_with fail
 go_ret2
 exact⟨rfl,h6.out,HS2.out⟩
theorem DC(d:Nat)(hR:IsR B w p s k)(hs:s.size≤281474976710656)(hb:Blk w br 64 #[.pointer (some ⟨p,0,none⟩)])(h:k+1<8*s.size)(h0:(ak s.data.toList).getD k 0=1)(h1:(ak s.data.toList).getD (k+1) 0=d)(hd:d<2):Calls Tryz.prog 262 #[.pointer (some ⟨br,0,none⟩)] w (nw B w p s (1 - 2*(d:Int)) 0 (k+2)):=by
 have ht:=mN B w p s k hR hs (by omega)
 rw[h0]at ht
 have HT:=aa ht
 have h4:=aa fun w1 (h2:IsR B w1 p s (k+1))=>mN B w1 p s (k+1) h2 hs h
 rw[h1]at h4
 have c0:=ac hb 0
 simp at c0
 have HK:=aa fun w1 (h1:ai B [p] [] w w1)=>m8 hR hb h1
 clear hR hb h ht h0 h1
 go_enter Tryz.func262,Tryz.ntmps262
 go_wp2_with fail
 refine HT.out.mono ?_
 rintro e w1 ⟨rfl,h5,h3⟩
 have c1:=ac (HK.out w1 h3) 0
 simp at c1
 have ha:=aa (h4.out w1 h5)
 have h9:=aa h3
 clear h5 h3
 go_wp2_with fail
 refine ha.out.mono ?_
 rintro e w2 ⟨rfl,h6,h7⟩
 have h8:=aa h6
 have HS2:=aa (h9.out.trans h7)
 clear h6 h7
 go_wp2_with fail
 go_ret2
 exact⟨rfl,h8.out,HS2.out⟩
end
def GX(w:World)(p:Nat):Nat:=match w.cell? ⟨p,2,none⟩with | some (.int .i64 k)=>k.toNat | _=>0
theorem pN{B:Nat}{w:World}{p:Nat}{s:ByteArray}{k:Nat}(h:IsR B w p s k):GX w p=k:=by
 have:=ac h.blk 2
 simp at this
 simp[GX,this]
def kP(B:Nat)(w:World)(p:Nat)(s:ByteArray)(ans:List Nat×Nat×Nat)(e:Ending)(w':World):Prop:=
 ∃v k,e=.returned (.tuple #[v,.int .i64 ans.2.2])∧w'.ownsRow w.heap.size 3 1 v ans.1.length (ans.1.map iv)∧(ans.2.2=0→k=ans.2.1)∧IsR B w' p s k∧Below B w w'
theorem Ep(B:Nat)(w:World)(p:Nat)(s:ByteArray)(k:Nat)(hR:IsR B w p s k)(hs:s.size≤281474976710656)(h0:k+5≤8*s.size):Calls Tryz.prog 84 #[.pointer (some ⟨p,0,none⟩),.int .i64 5] w fun e w'=>e=.returned (.tuple #[.int .u64 (val (((ak s.data.toList).drop k).take 5):Nat),.int .i64 0])∧IsR B w' p s (k+5)∧ai B [p] [] w w':=
 fV B w p s k 5 hR hs (by omega) h0
theorem FV(B:Nat)(w:World)(p:Nat)(s:ByteArray)(k:Nat)(hR:IsR B w p s k)(hs:s.size≤281474976710656)(hk:k≤8*s.size)(h0:8*s.size<k+5):Calls Tryz.prog 84 #[.pointer (some ⟨p,0,none⟩),.int .i64 5] w fun e w'=>e=.returned (.tuple #[.int .u64 0,.int .i64 10])∧IsR B w' p s k∧ai B [p] [] w w':=
 dY B w p s k 5 hR hs (by omega) hk h0
theorem zV(B:Nat)(w:World)(p:Nat)(s:ByteArray)(a n:Nat)(hR:IsR B w p s a)(hs:s.size≤2000000)(ha:a≤8*s.size)(h:8*s.size<a+5):Calls Tryz.prog 219 #[.pointer (some ⟨p,0,none⟩),.int .i64 n] w (kP B w p s ([],0,10)):=by
 have HT:=aa (FV B w p s a hR (by omega) ha h)
 clear hR
 go_enter Tryz.func219,Tryz.ntmps219
 go_wp2_with fail
 go_step3
 go_wp2_with fail
 refine HT.out.mono ?_
 rintro e w1 ⟨rfl,h0,h1⟩
 have h3:=aa h0
 have h2:=aa h1.below
 clear h0 h1
 go_wp2_with fail
 go_ret2
 exact⟨_,a,rfl,World.ownsRow_nil _ _ _ _,fun h=>absurd h (by decide),h3.out,h2.out⟩
theorem Fp(B:Nat)(w:World)(p:Nat)(s:ByteArray)(a n:Nat)(hR:IsR B w p s a)(hs:s.size≤2000000)(h:a+5≤8*s.size)(r3:2≤n)(r4:n≤258):Calls Tryz.prog 219 #[.pointer (some ⟨p,0,none⟩),.int .i64 n] w (kP B w p s (bB ((ak s.data.toList).drop (a+5)) (val (((ak s.data.toList).drop a).take 5)) n (a+5) [])):=by
 obtain⟨i3,h3,p3,p4,p5⟩:=info_parts Tryz.info3
 have HZ:∀w1:World,(Instr.makeSlice 36 (.int .i64 0) (.int .i64 n)).run Tryz.prog w1=.ok (.slice (some ⟨w1.heap.size,0,none⟩) 0 n) (w1.alloc (.cells (madeCells #[.int .i64 0] n) 3)):=by
  intro w1
  have h:=run_make (P:=Tryz.prog) w1 36 3 i3 (.int .i64 0) Tryz.underlying36 h3 p3 .i64 .i64 (0:Int) (n:Int) (by omega) (by omega) (by rw[p5];omega) (by omega)
  rw[p4,Int.toNat_natCast,Nat.mul_one]at h
  exact h
 have pl:=aa HZ
 have HT:=aa (Ep B w p s a hR (by omega) h)
 have HL:val (((ak s.data.toList).drop a).take 5)<2 ^ 5:=eY _ _ _ _ (aS _) (ah _)
 have q8:=hR.lo
 have r6:=aA hR.blk
 have q3:=aa tD
 have hQ:=aa (show(ak s.data.toList).length=8*s.size from ax _)
 have HQ:=aa (aS s.data.toList)
 have q1:=aa fun(w1:World) (br k:Nat) (h1:IsR B w1 p s k) h2=>CJ B w1 p br s k h1 (by omega) h2
 have q2:=aa fun(w1:World) (br k:Nat) (h1:IsR B w1 p s k) h2=>Bj B w1 p br s k h1 (by omega) h2
 have pv:=aa fun(w1:World) (br k:Nat) (h1:IsR B w1 p s k) h2=>C2 B w1 p br s k h1 (by omega) h2
 have q0:=aa fun(w1:World) (br k d:Nat) (h1:IsR B w1 p s k) h2=>DC B w1 p br s k d h1 (by omega) h2
 obtain⟨ans,ht⟩:∃ans,ans=bB ((ak s.data.toList).drop (a+5)) (val (((ak s.data.toList).drop a).take 5)) n (a+5) []:=⟨_,rfl⟩
 rw[← ht]
 have hp:∀(v:Value) (k:Nat) (w':World) (er:Nat),w'.ownsRow w.heap.size 3 1 v ans.1.length (ans.1.map iv)→er=ans.2.2→(ans.2.2=0→k=ans.2.1)→IsR B w' p s k→Below B w w'→kP B w p s ans (.returned (.tuple #[v,.int .i64 er])) w':=fun v k w' er h1 h2 h3 h4 h5=>⟨v,k,by rw[h2],h1,h3,h4,h5⟩
 have HP:=aa hp
 generalize kP B w p s ans=PO at*
 obtain⟨x,hx⟩:∃x,x=val (((ak s.data.toList).drop a).take 5):=⟨_,rfl⟩
 rw[← hx]at HT ht HL
 have qo:x<32:=HL
 have hY:=aa ht
 generalize ak s.data.toList=bits at*
 clear hR HZ hx ht hp HL
 go_enter Tryz.func219,Tryz.ntmps219
 go_wp2_with fail
 go_step3
 go_wp2_with fail
 refine HT.out.mono ?_
 rintro e w1 ⟨rfl,ha,HI⟩
 have hU:=aa ha
 have hy:=aa HI.below
 have HN:=HI.size
 have hO:=aA ha.blk
 clear ha HI HT
 have HS:=aa (wH w1 p)
 go_wp2_with fail
 refine HS.out.mono ?_
 rintro e w2 ⟨rfl,hV⟩
 obtain⟨br,H8⟩:∃br,br=w1.heap.size:=⟨_,rfl⟩
 have HE:Blk w2 br 64 #[.pointer (some ⟨p,0,none⟩)]:=by rw[hV,H8];exact ag w1 _ _
 have HU:IsR B w2 p s (a+5):=by rw[hV];exact hU.out.alloc _
 have hI:Below B w w2:=by rw[hV];exact hy.out.alloc (by omega) _
 have HA:=aA HE
 have r5:p<br:=by omega
 have r7:w.heap.size≤br:=by omega
 rw[← H8]
 have pj:=aa HE
 have pr:=aa HU
 have pf:=aa hI
 have HG:=pl.out w2
 clear H8 hV HE HU hI hU hy HS HN hO
 go_wp2_with fail
 go_step3
 go_wp2_with fail
 clear HG
 go_loopw [8,10] (fun f8 f10 wx=>∃(now k:Nat) (o:List Nat),f8=.int .i64 now∧now≤31∧k≤8*s.size∧o.length≤n∧wx.ownsRow w2.heap.size 3 1 f10 o.length (o.map iv)∧bB (bits.drop k) now (n - o.length) k o=ans∧IsR B wx p s k∧Blk wx br 64 #[.pointer (some ⟨p,0,none⟩)]∧Below B w wx∧w2.heap.size≤wx.heap.size) (fun _ _ wx=>8*s.size - GX wx p)
 case atStart=>
  have hm:(madeCells #[.int .i64 0] n).size=n*1:=by simp[madeCells]
  have H7:Below w2.heap.size w2 (w2.alloc (.cells (madeCells #[.int .i64 0] n) 3)):=(Below.refl _ _).alloc (ah _) _
  exact⟨x,a+5, [],rfl,by omega,h,Nat.zero_le _,World.ownsRow_made w2 (madeCells #[.int .i64 0] n) n (ah _) (by unfold maxLen;omega) hm,hY.out.symm,pr.out.alloc _,ij H7 pj.out HA,pf.out.trans (H7.mono (by omega)),H7.size⟩
 case round=>
  obtain⟨now,k,o,rfl,HH,hk,qb,hr,HJ,hR,HW,hb,r0⟩:=hrel
  obtain⟨A0,c0,rfl,qa,q9,q4⟩:=aq hr
  clear q4
  unfold maxLen at q9
  obtain⟨m,hm⟩:∃m,m=o.length:=⟨_,rfl⟩
  rw[← hm]at hr qa qb HJ ⊢
  have HV:=pN hR
  have pb:=aa HV
  have HM:=aa hm
  have HB:=aa hb
  have H5:=aa HJ
  have HR:=aa hR
  have HK:=aa HW
  obtain⟨X,hX⟩:∃X,X=o.map iv:=⟨_,rfl⟩
  rw[← hX]at hr
  have HX:=aa hX
  have HO:=aa hr
  clear hX hr hm hb HJ hR HW HV
  by_cases e:m<n
  ·have d1:decide ((m:Int)<(n:Int))=true:=aC (by omega)
   obtain⟨q,hq⟩:∃q,n - m=q+1:=⟨n - m - 1,by omega⟩
   have p1:n - (m+1)=q:=by omega
   rw[hq]at H5
   have po:=aa p1
   clear hq p1
   go_wp2_with fail
   go_loopw [8,10] (fun f8 f10 wx=>∃(now1 k1:Nat),f10=.slice A0 m c0∧f8=.int .i64 now1∧now1≤31∧k≤k1∧k1≤8*s.size∧bB (bits.drop k1) now1 (q+1) k1 o=ans∧IsR B wx p s k1∧Blk wx br 64 #[.pointer (some ⟨p,0,none⟩)]∧wx.ownsRow w2.heap.size 3 1 (.slice A0 m c0) m X∧Below B w wx∧w2.heap.size≤wx.heap.size) (fun _ _ wx=>8*s.size - GX wx p)
   case atStart=>exact⟨now,k,rfl,rfl,HH,Nat.le_refl _,hk,H5.out,HR.out,HK.out,HO.out,HB.out,r0⟩
   case round=>
    obtain⟨now1,k1,rfl,rfl,p0,r2,r1,hg,ha,h7,h9,hH,hP⟩:=hrel
    have hf:=pN ha
    have hO:p<wr.heap.size:=aA ha.blk
    have hZ:=aa hf
    have hi:=aa hg
    have hD:=aa (q3.out wr now1)
    have hy:=aa hH
    have hS:=aa h9
    have q5:br<wr.heap.size:=aA h7
    by_cases hw:(now1:Int)<1∨20<(now1:Int)
    ·rw[decide_eq_true hw]at hD
     have h8:ans=([],0,80):=by rw[← hi.out,ie _ _ _ _ _ (by omega)]
     have h6:=aa h8
     have hU:=aa ha
     clear h8 hw hf hg ha h7 h9 hH
     go_wp2_with fail
     refine hD.out.mono ?_
     rintro e w3 ⟨rfl,rfl⟩
     go_wp2_with fail
     try rw[Exit.noGoto_ret]
     first | go_ret2 | skip
     refine HP.out (.slice none 0 0) k1 _ 80 ?_ (by rw[h6.out]) (fun h=>absurd h (by rw[h6.out];decide)) hU.out hy.out
     rw[h6.out]
     exact World.ownsRow_nil _ _ _ _
    ·rw[decide_eq_false hw]at hD
     have hz:¬(now1<1∨20<now1):=by omega
     by_cases hv:k1=8*s.size
     ·have HC:=aa (q1.out wr br k1 ha h7 hv)
      have h8:ans=([],0,10):=by rw[← hi.out,List.drop_of_length_le (by rw[hQ.out];omega),jI _ _ _ _ hz]
      have h6:=aa h8
      clear h8 hw hz hf hg ha h7 h9 hH hv
      go_wp2_with fail
      refine hD.out.mono ?_
      rintro e w3 ⟨rfl,rfl⟩
      go_wp2_with fail
      refine HC.out.mono ?_
      rintro e w3 ⟨rfl,hh,he⟩
      have hC:=aa hh
      have hB:=aa (hy.out.trans he.below)
      clear hh he
      go_wp2_with fail
      try rw[Exit.noGoto_ret]
      first | go_ret2 | skip
      refine HP.out (.slice none 0 0) k1 _ 10 ?_ (by rw[h6.out]) (fun h=>absurd h (by rw[h6.out];decide)) hC.out hB.out
      rw[h6.out]
      exact World.ownsRow_nil _ _ _ _
     ·have hM:k1<bits.length:=by rw[hQ.out];omega
      have hJ:=xi hM
      have hI:bits.getD k1 0<2:=HQ.out _ (pY hM)
      by_cases h0:bits.getD k1 0=0
      ·have HC:=aa (q2.out wr br k1 ha h7 (by omega) h0)
       have hN:bB (bits.drop (k1+1)) now1 q (k1+1) (o++ [now1])=ans:=by
        rw[← hi.out,hJ,h0,iE _ _ _ _ _ hz]
       have H4:=aa hN
       have H3:=aa fun w3 (h3:ai B [p] [] wr w3)=>m8 ha h7 h3
       clear hN hw hz hf hg ha h7 h9 hH h0 hI hJ hM
       go_wp2_with fail
       refine hD.out.mono ?_
       rintro e w3 ⟨rfl,rfl⟩
       go_wp2_with fail
       refine HC.out.mono ?_
       rintro e w3 ⟨rfl,hh,he⟩
       have hK:=he.row hS.out (fun j hj=>by have:=(hS.out.lt j hj).1;simp;omega) (by simp)
       have hW:w2.heap.size≤w3.heap.size:=Nat.le_trans hP he.size
       have hT:=aa hK
       have H2:=aa (H3.out w3 he)
       have hB:=aa (hy.out.trans he.below)
       have hC:=aa hh
       clear hh he hK
       go_wp2_with (at_builtin;refine wpList_append_own _ rfl _ _ 36 rfl w2.heap.size 3 i3 (.int .i64 0) 1 8 Tryz.underlying36 h3 p3 p4 p5 rfl (by decide) _ _ _ rfl (hT.out.alloc _) ⟨w3.heap.size,0,none⟩ 1 1 [.int .i64 now1] rfl rfl ?c1 ?c2 ?c3 ?c4 ?c5 ?_)
       case c1=>exact cH _ _ _
       case c2=>intro u hu;simp at hu;subst hu;rfl
       case c3=>unfold maxLen;omega
       case c4=>omega
       case c5=>simp;omega
       intro v4 w4 hA hl _
       have hL:Below w2.heap.size w3 w4:=((Below.refl w2.heap.size w3).alloc hW _).grown hl (by simp;omega) (fun k hk=>(hT.out.lt k hk).1)
       have pm:=aa hA
       have H6:IsR B w4 p s (k1+1):=⟨q8,ij hL hC.out.blk (by omega)⟩
       have H1:=aa (pN H6)
       have ps:=aa H6
       have pk:=aa (ij hL H2.out (by omega))
       have pg:=aa (hB.out.trans (hL.mono (by omega)))
       have qs:w2.heap.size≤w4.heap.size:=Nat.le_trans hW hL.size
       clear hA hl hL H6
       go_wp2_with fail
       go_roundw
       case rel=>
        refine⟨now1,k1+1,o++ [now1],rfl,by omega,by omega,by rw[List.length_append,←HM.out];exact e,?_,by rw[List.length_append,←HM.out];show bB _ _ (n - (m+1)) _ _=ans;rw[po.out];exact H4.out,ps.out,pk.out,pg.out,qs⟩
        rw[List.length_append,←HM.out,List.map_append,←HX.out]
        exact pm.out
       case measure=>rw[H1.out,pb.out];omega
      ·have h1:bits.getD k1 0=1:=by omega
       by_cases hn:k1+1=8*s.size
       ·have HC:=aa (pv.out wr br k1 ha h7 hn h1)
        have h8:ans=([],0,10):=by
         rw[← hi.out,hJ,h1,List.drop_of_length_le (by rw[hQ.out];omega),lE _ _ _ _ _ hz (by omega)]
        have h6:=aa h8
        clear h8 hw hz hf hg ha h7 h9 hH hv hM hJ hI h0 h1 hn
        go_wp2_with fail
        refine hD.out.mono ?_
        rintro e w3 ⟨rfl,rfl⟩
        go_wp2_with fail
        refine HC.out.mono ?_
        rintro e w3 ⟨rfl,hh,he⟩
        have hC:=aa hh
        have hB:=aa (hy.out.trans he.below)
        clear hh he
        go_wp2_with fail
        try rw[Exit.noGoto_ret]
        first | go_ret2 | skip
        refine HP.out (.slice none 0 0) (k1+1) _ 10 ?_ (by rw[h6.out]) (fun h=>absurd h (by rw[h6.out];decide)) hC.out hB.out
        rw[h6.out]
        exact World.ownsRow_nil _ _ _ _
       ·have hF:k1+1<bits.length:=by rw[hQ.out];omega
        have hE:=xi hF
        have HD:bits.getD (k1+1) 0<2:=HQ.out _ (pY hF)
        obtain⟨d,hd⟩:∃d,d=bits.getD (k1+1) 0:=⟨_,rfl⟩
        rw[← hd]at HD hE
        have hc:=q0.out wr br k1 d ha h7 (by omega) h1 hd.symm HD
        obtain⟨now2,ho⟩:∃now2,now2=if d=0 then now1+1 else now1 - 1:=⟨_,rfl⟩
        have hN:bB (bits.drop (k1+2)) now2 (q+1) (k1+2) o=ans:=by
         rw[← hi.out,hJ,h1,hE,fN _ _ _ _ _ _ _ hz (by omega),←ho]
        obtain⟨st,p2⟩:∃st:Int,st=1 - 2*(d:Int):=⟨_,rfl⟩
        rw[← p2]at hc
        have ql:(st==0)=false:=by rw[beq_eq_false_iff_ne];omega
        have qm:(now1:Int)+st=(now2:Int):=by
         rw[ho]
         by_cases HY:d=0
         ·rw[if_pos HY];omega
         ·rw[if_neg HY];omega
        have hG:now2≤31:=by omega
        have HC:=aa hc
        have H4:=aa hN
        have H3:=aa fun w3 (h3:ai B [p] [] wr w3)=>m8 ha h7 h3
        have HF:k1+2≤8*s.size:=by omega
        clear hN hc hw hz hf hg ha h7 h9 hH h0 h1 hI hJ hM hF hE HD hd ho p2 hn hv
        go_wp2_with fail
        refine hD.out.mono ?_
        rintro e w3 ⟨rfl,rfl⟩
        go_wp2_with fail
        refine HC.out.mono ?_
        rintro e w3 ⟨rfl,hh,he⟩
        have hK:=he.row hS.out (fun j hj=>by have:=(hS.out.lt j hj).1;simp;omega) (by simp)
        have hW:w2.heap.size≤w3.heap.size:=Nat.le_trans hP he.size
        have hT:=aa hK
        have H2:=aa (H3.out w3 he)
        have hB:=aa (hy.out.trans he.below)
        have H0:=aa (pN hh)
        have hC:=aa hh
        clear hh he hK
        go_wp2_with fail
        go_roundw
        case rel=>exact⟨now2,k1+2,rfl,by go_num,hG,by omega,HF,H4.out,hC.out,H2.out,hT.out,hB.out,hW⟩
        case measure=>rw[H0.out,hZ.out];omega
  ·obtain rfl:m=n:=by omega
   have d1:decide ((m:Int)<(m:Int))=false:=au (by omega)
   have h8:ans=(o,k,0):=by
    rw[← H5.out,Nat.sub_self,fD]
   have h6:=aa h8
   clear h8
   go_wp2_with fail
   try rw[Exit.noGoto_ret]
   first | go_ret2 | skip
   refine HP.out (.slice A0 m c0) k _ 0 ?_ (by rw[h6.out]) (fun _=>by rw[h6.out]) HR.out HB.out
   rw[h6.out]
   show wr.ownsRow w.heap.size 3 1 (.slice A0 m c0) o.length (o.map iv)
   rw[← HM.out,←HX.out]
   exact World.ownsRow.mono HO.out (by omega)
theorem vC(w:World)(s:ByteArray)(at' n:Int)(hs:s.size≤2000000)(h:at'<0∨8*(s.size:Int)<at'):Calls Tryz.prog 191 #[.string s,.int .i64 at',.int .i64 n] w (bu w ([],0,2)):=by
 have HN:=aa (jG w s at' (by omega) h)
 have HP:=aa (show bu w ([],0,2) (.returned (.tuple #[.slice none 0 0,.int .i64 0,.int .i64 2])) w from⟨_,rfl,World.ownsRow_nil _ _ _ _,Below.refl _ _⟩)
 generalize bu w ([],0,2)=PO at*
 clear h
 go_enter Tryz.func191,Tryz.ntmps191
 go_wp2_with fail
 refine HN.out.mono ?_
 rintro e w1 ⟨rfl,rfl⟩
 go_wp2_with fail
 first | exact HP.out | (go_ret3;exact HP.out)
theorem zN(w:World)(s:ByteArray)(at' n:Int)(hs:s.size≤2000000)(h1:0≤at')(h2:at'≤8*(s.size:Int))(hn:¬(2≤n∧n≤258)):Calls Tryz.prog 191 #[.string s,.int .i64 at',.int .i64 n] w (bu w ([],0,2)):=by
 have HN:=aa (ft w s at' (by omega) h1 h2)
 have HE:=aa fun w1=>ef w1 n
 rw[decide_eq_false hn]at HE
 have HP:=aa (show ∀w',Below w.heap.size w w'→bu w ([],0,2) (.returned (.tuple #[.slice none 0 0,.int .i64 0,.int .i64 2])) w' from fun w' h=>⟨_,rfl,World.ownsRow_nil _ _ _ _,h⟩)
 generalize bu w ([],0,2)=PO at*
 clear h1 h2 hn
 go_enter Tryz.func191,Tryz.ntmps191
 go_wp2_with fail
 refine HN.out.mono ?_
 rintro e w1 ⟨rfl,h4⟩
 have h3:Below w.heap.size w w1:=cn h4
 have h0:=aa (HP.out w1 h3)
 clear h4 h3
 go_wp2_with fail
 refine(HE.out _).mono ?_
 rintro e w2 ⟨rfl,rfl⟩
 go_wp2_with fail
 first | exact h0.out | (go_ret3;exact h0.out)
theorem Ak(w:World)(s:ByteArray)(a n:Nat)(ans:List Nat×Nat×Nat)(hs:s.size≤2000000)(h2:a≤8*s.size)(hy:2≤n)(hA:n≤258)(hg:ans.2.1≤20000000∧ans.2.2≤80)(ha:ans.2.2≠0→ans=([],0,ans.2.2))
 (h6:∀(w1:World) (p:Nat),IsR p w1 p s a→Calls Tryz.prog 219 #[.pointer (some ⟨p,0,none⟩),.int .i64 n] w1 (kP p w1 p s ans)):
 Calls Tryz.prog 191 #[.string s,.int .i64 a,.int .i64 n] w (bu w ans):=by
 have HN:=aa (ft w s a (by omega) (by omega) (by omega))
 have HE:=aa fun w1=>ef w1 n
 rw[decide_eq_true (show 2≤(n:Int)∧(n:Int)≤258 by omega)]at HE
 have HP:=aa (show ∀(v:Value) (k r:Nat) w',w'.ownsRow w.heap.size 3 1 v ans.1.length (ans.1.map iv)→k=ans.2.1→r=ans.2.2→Below w.heap.size w w'→bu w ans (.returned (.tuple #[v,.int .i64 k,.int .i64 r])) w' from fun v k r w' h0 h1 h3 h4=>⟨v,by rw[h1,h3],h0,h4⟩)
 generalize bu w ans=PO at*
 have hm:=aa h6
 have hc:=aa ha
 have hx:=hg.1
 have hw:=hg.2
 clear ha h6 hg
 go_enter Tryz.func191,Tryz.ntmps191
 go_wp2_with fail
 refine HN.out.mono ?_
 rintro e w1 ⟨rfl,hh⟩
 have hq:Below w.heap.size w w1:=cn hh
 have hn:IsR w.heap.size w1 w.heap.size s a:=by rw[hh];exact j5 w _ (ah _) s a
 have hi:=aa hq
 have h9:=aa (hm.out w1 w.heap.size hn)
 obtain⟨p,hp⟩:∃p,p=w.heap.size:=⟨_,rfl⟩
 rw[← hp]at h9 ⊢
 have hv:=aa hp
 clear hh hq hn hp hm
 go_wp2_with fail
 refine(HE.out _).mono ?_
 rintro e w2 ⟨rfl,rfl⟩
 go_wp2_with fail
 refine h9.out.mono ?_
 rintro e w3 ⟨v,k,rfl,h5,hf,hR,he⟩
 have hb:Below w.heap.size w w3:=hi.out.trans (by rw[← hv.out];exact he)
 have ho:w3.ownsRow w.heap.size 3 1 v ans.1.length (ans.1.map iv):=World.ownsRow.mono h5 hi.out.size
 have hl:=aa (HP.out v · · w3 ho)
 have hj:=aa hb
 have c0:=ac hR.blk 0
 have c2:=ac hR.blk 2
 simp at c0 c2
 obtain⟨A0,c0',rfl,_,_,_⟩:=aq h5
 by_cases h0:ans.2.2=0
 ·have hk:=hf h0
  have hu:=aa (lK w3 p k c0 c2)
  have HK:=aa hk
  have H0:=aa h0
  rw[h0]
  clear he hb ho h5 hf hR c0 c2 h0 hk
  go_wp2_with fail
  refine hu.out.mono ?_
  rintro e w4 ⟨rfl,rfl⟩
  go_wp2_with fail
  first | exact hl.out k 0 HK.out H0.out.symm hj.out | (go_ret3;exact hl.out k 0 HK.out H0.out.symm hj.out)
 ·have h8:=hc.out h0
  have ht:ans.2.1=0:=by rw[h8]
  have hz:ans.1= []:=by rw[h8]
  have h7:=aa (HP.out (.slice none 0 0) 0 ans.2.2 w3 (by rw[hz];exact World.ownsRow_nil _ _ _ _) ht.symm rfl hb)
  obtain⟨r,hr⟩:∃r,r=ans.2.2:=⟨_,rfl⟩
  rw[← hr]at h7 hw h0 ⊢
  have d0:((r:Int) != 0)=true:=by
   rw[bne_iff_ne]
   omega
  clear he hb ho h5 hf hR c0 c2 h8 ht hz hr
  go_wp2_with fail
  first | exact h7.out | (go_ret3;exact h7.out)
theorem kT:∀(bs:List Nat) (now n p:Nat) (out:List Nat),(bB bs now n p out).2.2≠0→bB bs now n p out=([],0,(bB bs now n p out).2.2)
 | bs,now,0,p,out=>by
   rw[fD]
   exact fun h=>absurd rfl h
 | [],now,n+1,p,out=>by
   by_cases h:now<1∨20<now
   ·rw[ie _ _ _ _ _ h]
    exact fun _=>rfl
   ·rw[jI _ _ _ _ h]
    exact fun _=>rfl
 | b :: bs,now,n+1,p,out=>by
   by_cases h:now<1∨20<now
   ·rw[ie _ _ _ _ _ h]
    exact fun _=>rfl
   ·by_cases hb:b=0
    ·subst hb
     rw[iE _ _ _ _ _ h]
     exact kT bs now n (p+1) (out++ [now])
    ·match bs with
     | []=>
       rw[lE _ _ _ _ _ h hb]
       exact fun _=>rfl
     | d :: bs=>
       rw[fN _ _ _ _ _ _ _ h hb]
       exact kT bs _ (n+1) (p+2) out
 termination_by bs=>bs.length
theorem nF(w:World)(s:ByteArray)(at' n:Int)(hs:s.size≤2000000):Calls Tryz.prog 191 #[.string s,.int .i64 at',.int .i64 n] w (bu w (aE (ak s.data.toList) at' n)):=by
 have hl:(ak s.data.toList).length=8*s.size:=ax _
 by_cases h1:at'<0∨8*(s.size:Int)<at'
 ·rw[aE,if_pos (by omega)]
  exact vC w s at' n hs h1
 ·by_cases hn:2≤n∧n≤258
  ·obtain⟨a,rfl⟩:∃a:Nat,at'=a:=⟨at'.toNat,by omega⟩
   obtain⟨m,rfl⟩:∃m:Nat,n=m:=⟨n.toNat,by omega⟩
   have h0:=sF (ak s.data.toList) a m
   rw[hl]at h0
   have he:aE (ak s.data.toList) (a:Int) (m:Int)=if 8*s.size<a+5 then([],0,10)else bB ((ak s.data.toList).drop (a+5)) (val (((ak s.data.toList).drop a).take 5)) m (a+5) []:=by
    rw[aE,if_neg (by omega),hl]
    rfl
   refine Ak w s a m _ hs (by omega) (by omega) (by omega) ⟨by omega,h0.2.2⟩ ?_ ?_
   ·rw[he]
    by_cases h5:8*s.size<a+5
    ·rw[if_pos h5]
     exact fun _=>rfl
    ·rw[if_neg h5]
     exact kT _ _ _ _ _
   ·intro w1 p hR
    rw[he]
    by_cases h5:8*s.size<a+5
    ·rw[if_pos h5]
     exact zV p w1 p s a m hR hs (by omega) h5
    ·rw[if_neg h5]
     exact Fp p w1 p s a m hR hs (by omega) (by omega) (by omega)
  ·rw[aE,if_pos (by omega)]
   exact zN w s at' n hs (by omega) (by omega) hn
end Go.Proofs.YthakcjehhlpjnaaGreat.S10
