import Derived.Test.YthakcjehhlpjnaaGreatB08
import Derived.Test.YthakcjehhlpjnaaGreatB29
import Derived.WalkMore
set_option maxHeartbeats 3200000
set_option maxRecDepth 100000
namespace Go.Proofs.YthakcjehhlpjnaaGreat.S10
open Go.RowKit
theorem eP(w:World)(n:Int):Calls Tryz.prog 125 #[.int .i64 n] w fun e w'=>e=.returned (.bool (decide (2≤n∧n≤258)))∧w=w':=by
 by_cases h1:2≤n
 ·by_cases h2:n≤258
  ·have d0:decide ((2:Int)≤n)=true:=decide_eq_true h1
   have d1:decide (n≤(258:Int))=true:=decide_eq_true h2
   have hd:decide (2≤n∧n≤258)=true:=decide_eq_true ⟨h1,h2⟩
   go_enter Tryz.func125,Tryz.ntmps125
   go_wp2_with fail
   go_ret
   first | exact⟨rfl,rfl⟩ | (rw [hd];exact⟨rfl,rfl⟩)
  ·have d0:decide ((2:Int)≤n)=true:=decide_eq_true h1
   have d1:decide (n≤(258:Int))=false:=decide_eq_false h2
   have hd:decide (2≤n∧n≤258)=false:=ao (by omega)
   go_enter Tryz.func125,Tryz.ntmps125
   go_wp2_with fail
   go_ret
   first | exact⟨rfl,rfl⟩ | (rw [hd];exact⟨rfl,rfl⟩)
 ·have d0:decide ((2:Int)≤n)=false:=decide_eq_false h1
  have hd:decide (2≤n∧n≤258)=false:=ao (by omega)
  go_enter Tryz.func125,Tryz.ntmps125
  go_wp2_with fail
  go_ret
  first | exact⟨rfl,rfl⟩ | (rw [hd];exact⟨rfl,rfl⟩)
theorem t8(w:World)(n:Int):Calls Tryz.prog 127 #[.int .i64 n] w fun e w'=>e=.returned (.bool (decide (n<1∨20<n)))∧w=w':=by
 by_cases h1:n<1
 ·have d0:decide (n<1)=true:=decide_eq_true h1
  have hd:decide (n<1∨20<n)=true:=decide_eq_true (.inl h1)
  go_enter Tryz.func127,Tryz.ntmps127
  go_wp2_with fail
  go_ret
  first | exact⟨rfl,rfl⟩ | (rw [hd];exact⟨rfl,rfl⟩)
 ·by_cases h2:20<n
  ·have d0:decide (n<1)=false:=decide_eq_false h1
   have d1:decide ((20:Int)<n)=true:=decide_eq_true h2
   have hd:decide (n<1∨20<n)=true:=decide_eq_true (.inr h2)
   go_enter Tryz.func127,Tryz.ntmps127
   go_wp2_with fail
   go_ret
   first | exact⟨rfl,rfl⟩ | (rw [hd];exact⟨rfl,rfl⟩)
  ·have d0:decide (n<1)=false:=decide_eq_false h1
   have d1:decide ((20:Int)<n)=false:=decide_eq_false h2
   have hd:decide (n<1∨20<n)=false:=ao (by omega)
   go_enter Tryz.func127,Tryz.ntmps127
   go_wp2_with fail
   go_ret
   first | exact⟨rfl,rfl⟩ | (rw [hd];exact⟨rfl,rfl⟩)
abbrev Gx:Value:=.func (.func 127) #[] #[]
def nE(L:List Int):Prop:=∃x∈L,x<1∨20<x
instance (L:List Int):Decidable (nE L):=inferInstanceAs (Decidable (∃ x∈L,_))
theorem nY(w:World)(A:Option Addr)(n c:Nat)(L:List Int)(hz:ZIn w A n L)(hn:n≤1000000):Calls Tryz.prog 178 #[.slice A n c,Gx] w fun e w'=>∃k:Int,e=.returned (.int .i64 k)∧(0≤k↔nE L)∧Below w.heap.size w w':=by
 have HL:=aa hz
 have h3:=aa hz.1
 have HW:=aa t8
 clear hz
 go_enter Tryz.func178,Tryz.ntmps178
 go_wp2_with fail
 go_loopw [5,8] (fun s5 x wx=>∃i:Nat,i≤n∧x=.int .i64 i∧Hid (¬ nE (L.take i))∧wx=w) (fun _ x _=>n - (intOf x).toNat)
 case atStart=>
  refine⟨0,Nat.zero_le _,rfl,aa ?_,rfl⟩
  rintro⟨x,hx,_⟩
  cases hx
 case round=>
  obtain⟨i,hi,rfl,h6,rfl⟩:=hrel
  by_cases e:i<n
  ·have d0:decide ((i:Int)<(n:Int))=true:=ar (by omega)
   obtain⟨b,off,rfl,hc⟩:=HL.out.2 (by omega)
   have h8:=hc i e
   have h4:=tr L i (by rw[h3.out];exact e)
   obtain⟨x,hx⟩:∃x,x=L.getD i 0:=⟨_,rfl⟩
   rw[← hx]at h8 h4
   have h7:=aa h4
   have HX:=aa hx
   clear hc hx h4
   go_wp2_with fail
   refine(HW.out _ x).mono ?_
   rintro e w1 ⟨rfl,rfl⟩
   by_cases hb:x<1∨20<x
   ·rw[decide_eq_true hb]
    have h2:=aa hb
    clear hb
    go_wp2_with fail
    go_ret
    refine⟨i,rfl,⟨fun _=>⟨x,?_,h2.out⟩,fun _=>by omega⟩,Below.refl _ _⟩
    rw[HX.out]
    exact qr (by rw[h3.out];exact e)
   ·rw[decide_eq_false hb]
    have h2:=aa hb
    clear hb
    go_wp2_with fail
    go_roundw
    case rel=>
     refine⟨i+1,by omega,by go_num,aa ?_,trivial⟩
     rw[h7.out]
     rintro⟨y,hy,h5⟩
     rcases List.mem_append.1 hy with hy | hy
     ·exact h6.out ⟨y,hy,h5⟩
     ·rw[List.mem_singleton.1 hy]at h5
      exact h2.out h5
    case measure=>simp[intOf];omega
  ·obtain rfl:i=n:=by omega
   have d0:decide ((i:Int)<(i:Int))=false:=ao (by omega)
   have h0:¬nE L:=by
    have h:=h6.out
    rw[List.take_of_length_le (Nat.le_of_eq h3.out)]at h
    exact h
   have h1:=aa h0
   clear h0
   go_wp2_with fail
   go_ret
   exact⟨-1,rfl,⟨fun h=>absurd h (by omega),fun h=>absurd h h1.out⟩,Below.refl _ _⟩
theorem ng(w:World)(A:Option Addr)(n c:Nat)(L:List Int)(hz:ZIn w A n L)(hn:n≤1000000):Calls Tryz.prog 126 #[.slice A n c,Gx] w fun e w'=>e=.returned (.bool (decide (nE L)))∧Below w.heap.size w w':=by
 have HI:=aa (nY w A n c L hz hn)
 clear hz
 go_enter Tryz.func126,Tryz.ntmps126
 go_wp2_with fail
 refine HI.out.mono ?_
 rintro e w1 ⟨k,rfl,hk,hb⟩
 have HB:=aa hb
 by_cases h:nE L
 ·have d0:decide ((0:Int)≤k)=true:=decide_eq_true (hk.2 h)
  have HD:=aa (decide_eq_true h)
  clear hb hk h
  go_wp2_with fail
  go_ret
  rw[HD.out]
  exact⟨rfl,HB.out⟩
 ·have d0:decide ((0:Int)≤k)=false:=decide_eq_false fun h1=>h (hk.1 h1)
  have HD:=aa (decide_eq_false h)
  clear hb hk h
  go_wp2_with fail
  go_ret
  rw[HD.out]
  exact⟨rfl,HB.out⟩
theorem BT(B:Nat)(w:World)(p:Nat)(v:Value)(L:List Nat)(q:Nat)(h:IsW B w p v L)(hL:L.length≤1000000000000)(hq:q<4):Calls Tryz.prog 61 #[.pointer (some ⟨p,0,none⟩),.int .u64 q,.int .i64 2] w fun e w'=>e=.returned (.int .i64 0)∧∃v',IsW B w' p v' (L++ai q 2)∧Below B w w':=
 (fC B w p v L q 2 h hL (by omega) hq).mono fun _ _ ⟨he,v',hW,hs⟩=>⟨he,v',hW,hs.below⟩
theorem Ij(B:Nat)(w:World)(p:Nat)(v:Value)(L:List Nat)(h:IsW B w p v L)(hL:L.length≤1000000000000):Calls Tryz.prog 61 #[.pointer (some ⟨p,0,none⟩),.int .u64 0,.int .i64 1] w fun e w'=>e=.returned (.int .i64 0)∧∃v',IsW B w' p v' (L++ [0])∧Below B w w':=
 (fC B w p v L 0 1 h hL (by omega) (by decide)).mono fun _ _ ⟨he,v',hW,hs⟩=>⟨he,v',hW,hs.below⟩
theorem G7(B:Nat)(w:World)(p:Nat)(v:Value)(L:List Nat)(a x:Nat)(hW:IsW B w p v L)(hL:L.length≤1000000)(ha:a≤20)(hx:x≤20):Calls Tryz.prog 128 #[.pointer (some ⟨p,0,none⟩),.int .i64 a,.int .i64 x] w fun e w'=>e=.returned (.tuple #[])∧∃v',IsW B w' p v' (L++fP a x)∧Below B w w':=by
 have HW:=aa hW
 have hi:=aa fun(w1:World) (v1:Value) (j:Nat) (h:IsW B w1 p v1 (L++ups j)) (hj:j≤20)=>BT B w1 p v1 _ 2 h (by rw[List.length_append,iP];omega) (by omega)
 have hg:=aa fun(w1:World) (v1:Value) (j:Nat) (h:IsW B w1 p v1 (L++ups (x - a)++gG j)) (hj:j≤20)=>BT B w1 p v1 _ 3 h (by rw[List.length_append,List.length_append,iP,iu];omega) (by omega)
 have hh:=aa fun(w1:World) (v1:Value) (h:IsW B w1 p v1 (L++ups (x - a)++gG (a - x)))=>Ij B w1 p v1 _ h (by rw[List.length_append,List.length_append,iP,iu];omega)
 clear hW
 go_enter Tryz.func128,Tryz.ntmps128
 go_wp2_with fail
 go_loopw [1] (fun f wx=>∃(j:Nat) (v':Value),j≤x - a∧f=.int .i64 (a+j:Nat)∧IsW B wx p v' (L++ups j)∧Below B w wx) (fun f _=>x - (intOf f).toNat)
 case atStart=>exact⟨0,v,Nat.zero_le _,rfl,by rw[show L++ups 0=L from List.append_nil L];exact HW.out,Below.refl _ _⟩
 case round=>
  obtain⟨j,v1,hj,rfl,h8,hb⟩:=hrel
  by_cases e:a+j<x
  ·have d0:decide (((a+j:Nat):Int)<(x:Int))=true:=ar (by omega)
   have HC:=aa (hi.out wr v1 j h8 (by omega))
   have HB:=aa hb
   clear h8 hb
   obtain⟨m,hm⟩:∃m,m=a+j:=⟨_,rfl⟩
   rw[← hm]at d0 e ⊢
   have HM:=aa hm
   clear hm
   go_wp2_with fail
   refine HC.out.mono ?_
   rintro e w2 ⟨rfl,v2,h0,h4⟩
   have h6:=aa h0
   have h5:=aa (HB.out.trans h4)
   clear h0 h4
   go_wp2_with fail
   go_roundw
   case rel=>
    have:=HM.out
    refine⟨j+1,v2,by omega,by rw[this];go_num,?_,h5.out⟩
    rw[wm,←List.append_assoc]
    exact h6.out
   case measure=>simp[intOf];omega
  ·have d0:decide (((a+j:Nat):Int)<(x:Int))=false:=ao (by omega)
   obtain rfl:j=x - a:=by omega
   obtain⟨m,hm⟩:∃m,m=a+(x - a):=⟨_,rfl⟩
   have h7:m=max a x:=by omega
   rw[← hm]at d0 ⊢
   have he:=aa h7
   have hl:=aa h8
   have hf:=aa hb
   have e1:¬m<x:=by omega
   clear hm h7 h8 hb hj e
   go_wp2_with fail
   go_loopw [1] (fun f wx=>∃(j m':Nat) (v':Value),j≤a - x∧m'+j=m∧f=.int .i64 (m':Nat)∧IsW B wx p v' (L++ups (x - a)++gG j)∧Below B w wx) (fun f _=>(intOf f).toNat)
   case atStart=>exact⟨0,m,v1,Nat.zero_le _,rfl,rfl,by rw[show L++ups (x - a)++gG 0=L++ups (x - a)from List.append_nil _];exact hl.out,hf.out⟩
   case round=>
    obtain⟨j,k,v3,hj,hk,rfl,h9,hc⟩:=hrel
    have h7:=he.out
    by_cases e2:x<k
    ·have d1:decide ((x:Int)<(k:Int))=true:=ar (by omega)
     have HC:=aa (hg.out wr v3 j h9 (by omega))
     have HB:=aa hc
     have HK:=aa hk
     obtain⟨q,hq⟩:∃q,q+1=k:=⟨k - 1,by omega⟩
     have hn:(k:Int) - 1=(q:Int):=by omega
     have ho:q≤40:=by omega
     have HQ:=aa hq
     clear h9 hc hk h7 hq
     go_wp2_with fail
     refine HC.out.mono ?_
     rintro e w2 ⟨rfl,v2,h0,h4⟩
     have h6:=aa h0
     have h5:=aa (HB.out.trans h4)
     clear h0 h4
     go_wp2_with fail
     go_roundw
     case rel=>
      have h1:=HK.out
      have h2:=he.out
      have h3:=HQ.out
      refine⟨j+1,q,v2,by omega,by omega,by go_num,?_,h5.out⟩
      rw[rd,←List.append_assoc]
      exact h6.out
     case measure=>
      have h3:=HQ.out
      simp[intOf]
      omega
    ·have d1:decide ((x:Int)<(k:Int))=false:=ao (by omega)
     obtain rfl:j=a - x:=by omega
     have HC:=aa (hh.out wr v3 h9)
     have HB:=aa hc
     clear h9 hc hk h7 hj
     go_wp2_with fail
     refine HC.out.mono ?_
     rintro e w2 ⟨rfl,v2,h0,h4⟩
     have h6:=aa h0
     have h5:=aa (HB.out.trans h4)
     clear h0 h4
     go_wp2_with fail
     try simp only[Exit.inBlock,Exit.then]
     go_end0
     refine⟨rfl,v2,?_,h5.out⟩
     rw[show fP a x=ups (x - a)++gG (a - x)++ [0]from rfl,←List.append_assoc,←List.append_assoc]
     exact h6.out
theorem iE{B:Nat}{w w':World}{g:Nat}{t:TypeId}{cs:Array Value}(h:Below B w w')(hb:Blk w g t cs)(hg:g<B):Blk w' g t cs:=(h.block g hg).trans hb
theorem EW(w:World)(A:Option Addr)(n c:Nat)(L:List Int)(_hz:ZIn w A n L)(_hn:n≤maxLen)(h:¬(2≤(n:Int)∧(n:Int)≤258)):Calls Tryz.prog 67 #[.slice A n c] w (aV w ([],80)):=by
 unfold maxLen at _hn
 have h0:Blk (w.alloc (.cells #[.string ⟨#[]⟩,.int .i64 0] 24)) w.heap.size 24 #[.string ⟨#[]⟩,.int .i64 0]:=ag w 24 _
 have h1:Below w.heap.size w (w.alloc (.cells #[.string ⟨#[]⟩,.int .i64 0] 24)):=(Below.refl _ _).alloc (ah _) _
 have HE:=aa (eP (w.alloc (.cells #[.string ⟨#[]⟩,.int .i64 0] 24)) n)
 rw[decide_eq_false h]at HE
 have HB:=aa h1
 have q0:=ac h0 0
 have q1:=ac h0 1
 have f0:=ae h0 0
 have f1:=ae h0 1
 simp at q0 q1
 clear h0 h1 h
 go_enter Tryz.func67,Tryz.ntmps67
 go_wp2_with fail
 refine HE.out.mono ?_
 rintro e w1 ⟨rfl,rfl⟩
 go_wp2_with fail
 refine bodyPost_ret (v:=.tuple #[.agg #[.string ⟨#[]⟩,.int .i64 0],.int .i64 80]) ?_ rfl ?_
 ·simp[results,Tryz.results67,go_sem]
 ·first | exact⟨rfl,HB.out⟩ | exact⟨rfl,(HB.out.setCell (p:=⟨w.heap.size,0,none⟩) (ah _) _).setCell (p:=⟨w.heap.size,1,none⟩) (ah _) _⟩
theorem tW(w:World)(A:Option Addr)(n c:Nat)(L:List Int)(hz:ZIn w A n L)(h:2≤(n:Int)∧(n:Int)≤258)(h0:nE L):Calls Tryz.prog 67 #[.slice A n c] w (aV w ([],80)):=by
 have h4:Blk (w.alloc (.cells #[.string ⟨#[]⟩,.int .i64 0] 24)) w.heap.size 24 #[.string ⟨#[]⟩,.int .i64 0]:=ag w 24 _
 have h1:Below w.heap.size w (w.alloc (.cells #[.string ⟨#[]⟩,.int .i64 0] 24)):=(Below.refl _ _).alloc (ah _) _
 have HE:=aa (eP (w.alloc (.cells #[.string ⟨#[]⟩,.int .i64 0] 24)) n)
 rw[decide_eq_true h]at HE
 have HC:=aa (ng (w.alloc (.cells #[.string ⟨#[]⟩,.int .i64 0] 24)) A n c L (hz.below h1) (by omega))
 rw[decide_eq_true h0]at HC
 have HB:=aa h1
 have HK:=aa h4
 clear h4 h1 hz h h0
 go_enter Tryz.func67,Tryz.ntmps67
 go_wp2_with fail
 refine HE.out.mono ?_
 rintro e w1 ⟨rfl,rfl⟩
 go_wp2_with fail
 refine HC.out.mono ?_
 rintro e w2 ⟨rfl,h2⟩
 have hk:=aL h2 HK.out
 have h3:Below w.heap.size w w2:=HB.out.trans (h2.mono (by simp))
 have q0:w2.cell? ⟨w.heap.size,0,none⟩=some (.string ⟨#[]⟩):=ac hk 0
 have q1:w2.cell? ⟨w.heap.size,1,none⟩=some (.int .i64 0):=ac hk 1
 have f0:=ae hk 0
 have f1:=ae hk 1
 have h5:=aa h3
 clear h2 hk h3
 go_wp2_with fail
 refine bodyPost_ret (v:=.tuple #[.agg #[.string ⟨#[]⟩,.int .i64 0],.int .i64 80]) ?_ rfl ?_
 ·simp[results,Tryz.results67,go_sem,q0,q1]
 ·exact⟨rfl,(h5.out.setCell (p:=⟨w.heap.size,0,none⟩) (ah _) _).setCell (p:=⟨w.heap.size,1,none⟩) (ah _) _⟩
theorem FY(w:World)(A:Option Addr)(n c:Nat)(L:List Int)(hz:ZIn w A n L)(h:DOk L):Calls Tryz.prog 67 #[.slice A n c] w (aV w (aX (nl L),0)):=by
 have H0:=hz.1
 obtain⟨l,hl⟩:∃l,l=nl L:=⟨_,rfl⟩
 have hZ:l.length=n:=by rw[hl,bz];exact H0
 have ht:∀j,j<n→1≤l.getD j 0∧l.getD j 0≤20:=by
  intro j hj
  rw[hl]
  exact BA h _ (nA (by rw[bz];omega))
 have hr:∀j,j<n→L.getD j 0=(l.getD j 0:Nat):=by
  intro j hj
  have h1:=h.2.2 _ (qr (L:=L) (j:=j) (by omega))
  rw[hl,ox,Int.toNat_of_nonneg (by omega)]
 have H2:¬nE L:=by
  rintro⟨x,hx,HU⟩
  have:=h.2.2 x hx
  omega
 have p0:2≤n:=by have:=h.1;omega
 have H1:n≤258:=by have:=h.2.1;omega
 rw[← hl]
 have hV:Blk (w.alloc (.cells #[.string ⟨#[]⟩,.int .i64 0] 24)) w.heap.size 24 #[.string ⟨#[]⟩,.int .i64 0]:=ag w 24 _
 have hy:Below w.heap.size w (w.alloc (.cells #[.string ⟨#[]⟩,.int .i64 0] 24)):=(Below.refl _ _).alloc (ah _) _
 have HE:=aa (eP (w.alloc (.cells #[.string ⟨#[]⟩,.int .i64 0] 24)) n)
 rw[decide_eq_true (show 2≤(n:Int)∧(n:Int)≤258 by omega)]at HE
 have HC:=aa (ng (w.alloc (.cells #[.string ⟨#[]⟩,.int .i64 0] 24)) A n c L (hz.below hy) (by omega))
 rw[decide_eq_false H2]at HC
 have HB:=aa hy
 have HK:=aa hV
 have HZ:=aa hz
 have HG:=aa hr
 have hv:=aa ht
 have HX:=aa hZ
 have H3:∀i,i<n→bC (l.getD 0 0) (l.take (i+1))=bC (l.getD 0 0) (l.take i)++fP (mC l i) (l.getD i 0):=fun i hi=>yV (by omega)
 have HL:=aa H3
 have h6:∀i,i≤n→(ai (l.getD 0 0) 5++bC (l.getD 0 0) (l.take i)).length≤20000:=by
  intro i hi
  have h1:=qX (l.take i) (l.getD 0 0) (ht 0 (by omega)).2 (fun x hx=>by
   obtain⟨j,hj,rfl⟩:=List.mem_iff_getElem.1 (List.mem_of_mem_take hx)
   have:=(ht j (by omega)).2
   rw[List.getD_eq_getElem?_getD,List.getElem?_eq_getElem hj]at this
   exact this)
  rw[List.length_append,af,jy]
  have h2:(l.take i).length≤258:=by rw[List.length_take];omega
  omega
 have HI:=aa h6
 have hq:aX l=ai (l.getD 0 0) 5++bC (l.getD 0 0) (l.take n):=by
  rw[List.take_of_length_le (by omega)]
  rfl
 have HF:=aa hq
 have hP:∀i,mC l (i+1)=l.getD i 0:=fun i=>rfl
 have H4:=aa hP
 have ho:mC l 0=l.getD 0 0:=rfl
 have hw:=aa ho
 have hh:=aa G7
 clear hV hy hz hr ht hZ H3 h6 hq hP ho H2 h hl H0
 go_enter Tryz.func67,Tryz.ntmps67
 go_wp2_with fail
 refine HE.out.mono ?_
 rintro e w1 ⟨rfl,rfl⟩
 go_wp2_with fail
 refine HC.out.mono ?_
 rintro e w2 ⟨rfl,hB⟩
 have hE:=aL hB HK.out
 have hQ:Below w.heap.size w w2:=HB.out.trans (hB.mono (by simp))
 have hJ:=aa hE
 have hH:=aa hQ
 have h8:w.heap.size<w2.heap.size:=ay hE
 clear hB hE hQ HB HK HE HC
 go_upto_region 4 with(go_at_call 60;refine(Ca w2).mono ?_;rintro e w3 ⟨rfl,hs⟩;have hn:=aa hs;clear hs)
 have hG:=hn.out
 clear hn
 have hC:Below w2.heap.size w2 w3:=bR hG
 obtain⟨p,hp⟩:∃p,p=w2.heap.size:=⟨_,rfl⟩
 have hM:IsW p w3 p (.slice none 0 0) []:=by rw[hG,hp];exact l7 w2 _ (ah _)
 have hX:=iE hC hJ.out h8
 have h5:Below w.heap.size w w3:=hH.out.trans (hC.mono (Nat.le_of_lt h8))
 rw[← hp]at h8 ⊢
 have HW:=HZ.out.below h5
 obtain⟨b,off,hA,hc⟩:=HZ.out.2 (by omega)
 subst hA
 have h3:∀(wx:World),Below w.heap.size w wx→∀i,i<n→wx.cell? ⟨b,off+i,none⟩=some (.int .i64 (l.getD i 0:Nat)):=by
  intro wx HQ i hi
  obtain⟨b',off',hA,HR⟩:=(HZ.out.below HQ).2 (by omega)
  injection hA with hA
  injection hA with h1 h2
  subst h1 h2
  rw[HR i hi,HG.out i hi]
 have h9:=aa h3
 have hR:w3.cell? ⟨b,off,none⟩=some (.int .i64 (l.getD 0 0:Nat)):=h3 w3 h5 0 (by omega)
 obtain⟨x0,hu⟩:∃x0,x0=l.getD 0 0:=⟨_,rfl⟩
 have h7:1≤x0∧x0≤20:=by rw[hu];exact hv.out 0 (by omega)
 have p1:=h7.1
 have HU:=h7.2
 rw[← hu]at hR
 have hL:=aa hu
 have hK:=aa hX
 have hI:=aa h5
 have HY:(0:Int)<(n:Int):=by omega
 have hf:=aa (fC p w3 p _ [] x0 5 hM (by simp) (by omega) (by show x0<32;omega))
 clear hG hC hp hM hX h5 hc h3 hu h7 HW hJ hH
 go_wp2_with fail
 refine hf.out.mono ?_
 rintro e w4 ⟨rfl,v4,hN,hF⟩
 have hY:=iE hF.below hK.out h8
 have HA:=aa hY
 have H5:=aa (hI.out.trans (hF.below.mono (Nat.le_of_lt h8)))
 have HN:=aa hN
 clear hN hF hY hK hI hf hR
 go_wp2_with fail
 go_loopw [5,7,27] (fun a5 a7 x wx=>∃(i:Nat) (v:Value),i≤n∧x=.int .i64 i∧a5=.int .i64 (mC l i:Nat)∧IsW p wx p v (ai (l.getD 0 0) 5++bC (l.getD 0 0) (l.take i))∧Blk wx w.heap.size 24 #[.string ⟨#[]⟩,.int .i64 0]∧Below w.heap.size w wx) (fun _ _ x _=>n - (intOf x).toNat)
 case atStart=>
  refine⟨0,v4,Nat.zero_le _,rfl,by rw[hw.out,←hL.out],?_,HA.out,H5.out⟩
  have h1:=HN.out
  rw[hL.out]at h1
  rw[List.take_zero]
  show IsW p w4 p v4 (ai (l.getD 0 0) 5++ [])
  rw[List.append_nil]
  exact h1
 case round=>
  obtain⟨i,v,hi,rfl,rfl,hW,hk,hb⟩:=hrel
  by_cases e:i<n
  ·have d0:decide ((i:Int)<(n:Int))=true:=ar (by omega)
   have HS:=h9.out wr hb i e
   have h0:=HL.out i e
   obtain⟨x,hx⟩:∃x,x=l.getD i 0:=⟨_,rfl⟩
   have HV:x≤20:=by rw[hx];exact(hv.out i e).2
   obtain⟨a,ha⟩:∃a,a=mC l i:=⟨_,rfl⟩
   have HP:a≤20:=by rw[ha];exact(hv.out (i - 1) (by omega)).2
   have h4:=H4.out i
   rw[← hx]at HS h0 h4
   rw[← ha]at h0 ⊢
   have HT:=aa (hh.out p wr p v _ a x hW (Nat.le_trans (HI.out i hi) (by omega)) HP HV)
   have hg:=aa h0
   have he:=aa h4
   have HK:=aa hk
   have HB:=aa hb
   clear hW hk hb hx ha h0 h4
   go_wp2_with fail
   refine HT.out.mono ?_
   rintro e w5 ⟨rfl,v5,hO,hD⟩
   have HO:=aa hO
   have HD:=aa (iE hD HK.out h8)
   have H8:=aa (HB.out.trans (hD.mono (Nat.le_of_lt h8)))
   clear hO hD
   go_wp2_with fail
   go_roundw
   case rel=>
    refine⟨i+1,v5,by omega,by go_num,by rw[he.out],?_,HD.out,H8.out⟩
    rw[hg.out,←List.append_assoc]
    exact HO.out
   case measure=>simp[intOf];omega
  ·obtain rfl:i=n:=by omega
   have d0:decide ((i:Int)<(i:Int))=false:=ao (by omega)
   rw[← HF.out]at hW
   obtain⟨S,hS⟩:∃S:ByteArray,S=⟨(aK (aX l)).toArray⟩:=⟨_,rfl⟩
   have hT:=iz p wr p v (aX l) hW
   rw[← hS]at hT
   have HT:=aa hT
   have HJ:=aa hS
   obtain⟨m,hm⟩:∃m,m=(aX l).length:=⟨_,rfl⟩
   have c0:=ac hW.blk 0
   have c2:=ac hW.blk 2
   simp at c0 c2
   have HM:=aa hm
   rw[← hm]at c2
   have HH:=aa (jR wr p m c0 c2)
   have q0:wr.cell? ⟨w.heap.size,0,none⟩=some (.string ⟨#[]⟩):=ac hk 0
   have q1:wr.cell? ⟨w.heap.size,1,none⟩=some (.int .i64 0):=ac hk 1
   have f0:=ae hk 0
   have f1:=ae hk 1
   have HB:=aa hb
   clear hW hk hb hS hm c0 c2 hT
   go_wp2_with fail
   refine HT.out.mono ?_
   rintro e w8 ⟨rfl,rfl⟩
   go_wp2_with fail
   refine HH.out.mono ?_
   rintro e w8 ⟨rfl,rfl⟩
   go_wp2_with fail
   refine bodyPost_ret (v:=.tuple #[.agg #[.string S,.int .i64 m],.int .i64 0]) ?_ rfl ?_
   ·simp[results,Tryz.results67,go_sem,q0,q1]
   ·exact⟨by rw[HJ.out,HM.out];rfl,(HB.out.setCell (p:=⟨w.heap.size,0,none⟩) (ah _) _).setCell (p:=⟨w.heap.size,1,none⟩) (ah _) _⟩
theorem oX(w:World)(A:Option Addr)(n c:Nat)(L:List Int)(hz:ZIn w A n L)(hn:n≤maxLen):Calls Tryz.prog 67 #[.slice A n c] w (aV w (jn L)):=by
 by_cases h:2≤(n:Int)∧(n:Int)≤258
 ·by_cases hb:nE L
  ·rw[jn,if_neg]
   ·exact tW w A n c L hz h hb
   ·intro h0
    obtain⟨x,hx,h3⟩:=hb
    have:=h0.2.2 x hx
    omega
  ·have h0:DOk L:=by
    refine⟨by have:=hz.1;omega,by have:=hz.1;omega,fun x hx=> ?_⟩
    by_cases h1:x<1∨20<x
    ·exact absurd ⟨x,hx,h1⟩ hb
    ·omega
   rw[jn,if_pos h0]
   exact FY w A n c L hz h0
 ·rw[jn,if_neg]
  ·exact EW w A n c L hz hn h
  ·intro h0
   have h1:=h0.1
   have h2:=h0.2.1
   have:=hz.1
   omega
theorem qw(l:List Nat)(k:Nat)(h:k<l.length):val ((l.drop k).take 1)=l.getD k 0:=by
 have:=lu l k 0 (by omega)
 rw[this,List.take_zero]
 show 2*0+_=_
 rw[Nat.mul_zero,Nat.zero_add,Nat.add_zero]
theorem nK(B:Nat)(w:World)(p:Nat)(s:ByteArray)(k:Nat)(hR:IsR B w p s k)(hs:s.size≤281474976710656)(h0:k<8*s.size):Calls Tryz.prog 84 #[.pointer (some ⟨p,0,none⟩),.int .i64 1] w fun e w'=>e=.returned (.tuple #[.int .u64 ((al s.data.toList).getD k 0:Nat),.int .i64 0])∧IsR B w' p s (k+1)∧ak B [p] [] w w':=by
 have h:=gz B w p s k 1 hR hs (by omega) (by omega)
 rw[qw _ k (by rw[aA];exact h0)]at h
 exact h
theorem xz(B:Nat)(w:World)(p:Nat)(s:ByteArray)(k:Nat)(hR:IsR B w p s k)(hs:s.size≤281474976710656)(h0:k=8*s.size):Calls Tryz.prog 84 #[.pointer (some ⟨p,0,none⟩),.int .i64 1] w fun e w'=>e=.returned (.tuple #[.int .u64 0,.int .i64 10])∧IsR B w' p s k∧ak B [p] [] w w':=
 eF B w p s k 1 hR hs (by omega) (by omega) (by omega)
abbrev JP (br:Nat):Value:=.func (.func 262) #[] #[.pointer (some ⟨br,0,none⟩)]
theorem xi(w:World)(p:Nat):Calls Tryz.prog 247 #[.pointer (some ⟨p,0,none⟩)] w fun e w'=>e=.returned (JP w.heap.size)∧w'=w.alloc (.cells #[.pointer (some ⟨p,0,none⟩)] 64):=by
 go_enter Tryz.func247,Tryz.ntmps247
 go_wp2_with fail
 go_ret
 exact⟨rfl,rfl⟩
def nV(B:Nat)(w:World)(p:Nat)(s:ByteArray)(st:Int)(er k:Nat)(e:Ending)(w':World):Prop:=
 e=.returned (.tuple #[.int .i64 st,.int .i64 er])∧IsR B w' p s k∧ak B [p] [] w w'
section
variable (B:Nat) (w:World) (p br:Nat) (s:ByteArray) (k:Nat)
theorem EM(hR:IsR B w p s k)(hs:s.size≤281474976710656)(hb:Blk w br 64 #[.pointer (some ⟨p,0,none⟩)])(h:k=8*s.size):Calls Tryz.prog 262 #[.pointer (some ⟨br,0,none⟩)] w (nV B w p s 0 10 k):=by
 have HT:=aa (xz B w p s k hR hs h)
 have c0:=ac hb 0
 simp at c0
 clear hR hb h
 go_enter Tryz.func262,Tryz.ntmps262
 go_wp2_with fail
 refine HT.out.mono ?_
 rintro e w1 ⟨rfl,h0,h1⟩
 have h2:=aa h0
 have h3:=aa h1
 clear h0 h1
 go_wp2_with fail
 go_ret2
 exact⟨rfl,h2.out,h3.out⟩
theorem DK(hR:IsR B w p s k)(hs:s.size≤281474976710656)(hb:Blk w br 64 #[.pointer (some ⟨p,0,none⟩)])(h:k<8*s.size)(h0:(al s.data.toList).getD k 0=0):Calls Tryz.prog 262 #[.pointer (some ⟨br,0,none⟩)] w (nV B w p s 0 0 (k+1)):=by
 have ht:=nK B w p s k hR hs h
 rw[h0]at ht
 have HT:=aa ht
 have c0:=ac hb 0
 simp at c0
 clear hR hb h ht h0
 go_enter Tryz.func262,Tryz.ntmps262
 go_wp2_with fail
 refine HT.out.mono ?_
 rintro e w1 ⟨rfl,h1,h2⟩
 have h3:=aa h1
 have h4:=aa h2
 clear h1 h2
 go_wp2_with fail
 go_ret2
 exact⟨rfl,h3.out,h4.out⟩
theorem nL{B:Nat}{w w':World}{p br:Nat}{s:ByteArray}{k:Nat}{v:Value}(hR:IsR B w p s k)(hb:Blk w br 64 #[v])(hs:ak B [p] [] w w'):Blk w' br 64 #[v]:=by
 refine hs.blk hb ?_ aq
 intro h
 rw[List.mem_singleton.1 h]at hb
 have h2:=hR.blk
 unfold Blk at hb h2
 rw[h2]at hb
 injection hb with hb
 injection hb with _ h3
 exact absurd h3 (by decide)
theorem Em(hR:IsR B w p s k)(hs:s.size≤281474976710656)(hb:Blk w br 64 #[.pointer (some ⟨p,0,none⟩)])(h:k+1=8*s.size)(h0:(al s.data.toList).getD k 0=1):Calls Tryz.prog 262 #[.pointer (some ⟨br,0,none⟩)] w (nV B w p s 0 10 (k+1)):=by
 have ht:=nK B w p s k hR hs (by omega)
 rw[h0]at ht
 have HT:=aa ht
 have h8:=aa fun w1 (h1:IsR B w1 p s (k+1))=>xz B w1 p s (k+1) h1 hs h
 have c0:=ac hb 0
 simp at c0
 have HK:=aa fun w1 (h1:ak B [p] [] w w1)=>nL hR hb h1
 clear hR hb h ht h0
 go_enter Tryz.func262,Tryz.ntmps262
 go_wp2_with fail
 refine HT.out.mono ?_
 rintro e w1 ⟨rfl,h3,h2⟩
 have c1:=ac (HK.out w1 h2) 0
 simp at c1
 have h9:=aa (h8.out w1 h3)
 have h7:=aa h2
 clear h3 h2
 go_wp2_with fail
 refine h9.out.mono ?_
 rintro e w2 ⟨rfl,h4,h5⟩
 have h6:=aa h4
 have HS2:=aa (h7.out.trans h5)
 clear h4 h5
 go_wp2_with fail
 go_ret2
 exact⟨rfl,h6.out,HS2.out⟩
theorem Ea(d:Nat)(hR:IsR B w p s k)(hs:s.size≤281474976710656)(hb:Blk w br 64 #[.pointer (some ⟨p,0,none⟩)])(h:k+1<8*s.size)(h0:(al s.data.toList).getD k 0=1)(h1:(al s.data.toList).getD (k+1) 0=d)(hd:d<2):Calls Tryz.prog 262 #[.pointer (some ⟨br,0,none⟩)] w (nV B w p s (1 - 2*(d:Int)) 0 (k+2)):=by
 have ht:=nK B w p s k hR hs (by omega)
 rw[h0]at ht
 have HT:=aa ht
 have h4:=aa fun w1 (h2:IsR B w1 p s (k+1))=>nK B w1 p s (k+1) h2 hs h
 rw[h1]at h4
 have c0:=ac hb 0
 simp at c0
 have HK:=aa fun w1 (h1:ak B [p] [] w w1)=>nL hR hb h1
 clear hR hb h ht h0 h1
 go_enter Tryz.func262,Tryz.ntmps262
 go_wp2_with fail
 refine HT.out.mono ?_
 rintro e w1 ⟨rfl,h5,h3⟩
 have c1:=ac (HK.out w1 h3) 0
 simp at c1
 have ha:=aa (h4.out w1 h5)
 have h9:=aa h3
 clear h5 h3
 go_wp2_with fail
 refine ha.out.mono ?_
 rintro e w2 ⟨rfl,h6,h7⟩
 have h8:=aa h6
 have HS2:=aa (h9.out.trans h7)
 clear h6 h7
 go_wp2_with fail
 go_ret2
 exact⟨rfl,h8.out,HS2.out⟩
end
def Hy(w:World)(p:Nat):Nat:=match w.cell? ⟨p,2,none⟩with | some (.int .i64 k)=>k.toNat | _=>0
theorem qq{B:Nat}{w:World}{p:Nat}{s:ByteArray}{k:Nat}(h:IsR B w p s k):Hy w p=k:=by
 have:=ac h.blk 2
 simp at this
 simp[Hy,this]
def lr(B:Nat)(w:World)(p:Nat)(s:ByteArray)(ans:List Nat×Nat×Nat)(e:Ending)(w':World):Prop:=
 ∃v k,e=.returned (.tuple #[v,.int .i64 ans.2.2])∧w'.ownsRow w.heap.size 3 1 v ans.1.length (ans.1.map iv)∧(ans.2.2=0→k=ans.2.1)∧IsR B w' p s k∧Below B w w'
theorem GP(B:Nat)(w:World)(p:Nat)(s:ByteArray)(k:Nat)(hR:IsR B w p s k)(hs:s.size≤281474976710656)(h0:k+5≤8*s.size):Calls Tryz.prog 84 #[.pointer (some ⟨p,0,none⟩),.int .i64 5] w fun e w'=>e=.returned (.tuple #[.int .u64 (val (((al s.data.toList).drop k).take 5):Nat),.int .i64 0])∧IsR B w' p s (k+5)∧ak B [p] [] w w':=
 gz B w p s k 5 hR hs (by omega) h0
theorem Fm(B:Nat)(w:World)(p:Nat)(s:ByteArray)(k:Nat)(hR:IsR B w p s k)(hs:s.size≤281474976710656)(hk:k≤8*s.size)(h0:8*s.size<k+5):Calls Tryz.prog 84 #[.pointer (some ⟨p,0,none⟩),.int .i64 5] w fun e w'=>e=.returned (.tuple #[.int .u64 0,.int .i64 10])∧IsR B w' p s k∧ak B [p] [] w w':=
 eF B w p s k 5 hR hs (by omega) hk h0
theorem zu(B:Nat)(w:World)(p:Nat)(s:ByteArray)(a n:Nat)(hR:IsR B w p s a)(hs:s.size≤2000000)(ha:a≤8*s.size)(h:8*s.size<a+5):Calls Tryz.prog 219 #[.pointer (some ⟨p,0,none⟩),.int .i64 n] w (lr B w p s ([],0,10)):=by
 have HT:=aa (Fm B w p s a hR (by omega) ha h)
 clear hR
 go_enter Tryz.func219,Tryz.ntmps219
 go_wp2_with fail
 go_step3
 go_wp2_with fail
 refine HT.out.mono ?_
 rintro e w1 ⟨rfl,h0,h1⟩
 have h3:=aa h0
 have h2:=aa h1.below
 clear h0 h1
 go_wp2_with fail
 go_ret2
 exact⟨_,a,rfl,World.ownsRow_nil _ _ _ _,fun h=>absurd h (by decide),h3.out,h2.out⟩
theorem Fl(B:Nat)(w:World)(p:Nat)(s:ByteArray)(a n:Nat)(hR:IsR B w p s a)(hs:s.size≤2000000)(h:a+5≤8*s.size)(r6:2≤n)(r7:n≤258):Calls Tryz.prog 219 #[.pointer (some ⟨p,0,none⟩),.int .i64 n] w (lr B w p s (bq ((al s.data.toList).drop (a+5)) (val (((al s.data.toList).drop a).take 5)) n (a+5) [])):=by
 obtain⟨i3,h3,pb,pf,pg⟩:=info_parts Tryz.info3
 have p2:∀w1:World,(Instr.makeSlice 36 (.int .i64 0) (.int .i64 n)).run Tryz.prog w1=.ok (.slice (some ⟨w1.heap.size,0,none⟩) 0 n) (w1.alloc (.cells (madeCells #[.int .i64 0] n) 3)):=by
  intro w1
  have h:=run_make (P:=Tryz.prog) w1 36 3 i3 (.int .i64 0) Tryz.underlying36 h3 pb .i64 .i64 (0:Int) (n:Int) (by omega) (by omega) (by rw[pg];omega) (by omega)
  rw[pf,Int.toNat_natCast,Nat.mul_one]at h
  exact h
 have ps:=aa p2
 have HT:=aa (GP B w p s a hR (by omega) h)
 have HS:val (((al s.data.toList).drop a).take 5)<2 ^ 5:=fH _ _ _ _ (aM _) (ah _)
 have qa:=hR.lo
 have rs:=ay hR.blk
 have q7:=aa t8
 have hQ:=aa (show(al s.data.toList).length=8*s.size from aA _)
 have HV:=aa (aM s.data.toList)
 have q4:=aa fun(w1:World) (br k:Nat) (h1:IsR B w1 p s k) h2=>EM B w1 p br s k h1 (by omega) h2
 have q5:=aa fun(w1:World) (br k:Nat) (h1:IsR B w1 p s k) h2=>DK B w1 p br s k h1 (by omega) h2
 have q2:=aa fun(w1:World) (br k:Nat) (h1:IsR B w1 p s k) h2=>Em B w1 p br s k h1 (by omega) h2
 have q3:=aa fun(w1:World) (br k d:Nat) (h1:IsR B w1 p s k) h2=>Ea B w1 p br s k d h1 (by omega) h2
 obtain⟨ans,ht⟩:∃ans,ans=bq ((al s.data.toList).drop (a+5)) (val (((al s.data.toList).drop a).take 5)) n (a+5) []:=⟨_,rfl⟩
 rw[← ht]
 have hp:∀(v:Value) (k:Nat) (w':World) (er:Nat),w'.ownsRow w.heap.size 3 1 v ans.1.length (ans.1.map iv)→er=ans.2.2→(ans.2.2=0→k=ans.2.1)→IsR B w' p s k→Below B w w'→lr B w p s ans (.returned (.tuple #[v,.int .i64 er])) w':=fun v k w' er h1 h2 h3 h4 h5=>⟨v,k,by rw[h2],h1,h3,h4,h5⟩
 have HP:=aa hp
 generalize lr B w p s ans=PO at*
 obtain⟨x,hx⟩:∃x,x=val (((al s.data.toList).drop a).take 5):=⟨_,rfl⟩
 rw[← hx]at HT ht HS
 have qv:x<32:=HS
 have hZ:=aa ht
 generalize al s.data.toList=bits at*
 clear hR p2 hx ht hp HS
 go_enter Tryz.func219,Tryz.ntmps219
 go_wp2_with fail
 go_step3
 go_wp2_with fail
 refine HT.out.mono ?_
 rintro e w1 ⟨rfl,ha,HN⟩
 have hV:=aa ha
 have hy:=aa HN.below
 have HU:=HN.size
 have hO:=ay ha.blk
 clear ha HN HT
 have HW:=aa (xi w1 p)
 go_wp2_with fail
 refine HW.out.mono ?_
 rintro e w2 ⟨rfl,hW⟩
 obtain⟨br,HE⟩:∃br,br=w1.heap.size:=⟨_,rfl⟩
 have HH:Blk w2 br 64 #[.pointer (some ⟨p,0,none⟩)]:=by rw[hW,HE];exact ag w1 _ _
 have HY:IsR B w2 p s (a+5):=by rw[hW];exact hV.out.alloc _
 have hI:Below B w w2:=by rw[hW];exact hy.out.alloc (by omega) _
 have HF:=ay HH
 have rb:p<br:=by omega
 have rv:w.heap.size≤br:=by omega
 rw[← HE]
 have pn:=aa HH
 have q0:=aa HY
 have pk:=aa hI
 have HJ:=ps.out w2
 clear HE hW HH HY hI hV hy HW HU hO
 go_wp2_with fail
 go_step3
 go_wp2_with fail
 clear HJ
 go_loopw [8,10] (fun f8 f10 wx=>∃(now k:Nat) (o:List Nat),f8=.int .i64 now∧now≤31∧k≤8*s.size∧o.length≤n∧wx.ownsRow w2.heap.size 3 1 f10 o.length (o.map iv)∧bq (bits.drop k) now (n - o.length) k o=ans∧IsR B wx p s k∧Blk wx br 64 #[.pointer (some ⟨p,0,none⟩)]∧Below B w wx∧w2.heap.size≤wx.heap.size) (fun _ _ wx=>8*s.size - Hy wx p)
 case atStart=>
  have hm:(madeCells #[.int .i64 0] n).size=n*1:=by simp[madeCells]
  have HD:Below w2.heap.size w2 (w2.alloc (.cells (madeCells #[.int .i64 0] n) 3)):=(Below.refl _ _).alloc (ah _) _
  exact⟨x,a+5, [],rfl,by omega,h,Nat.zero_le _,World.ownsRow_made w2 (madeCells #[.int .i64 0] n) n (ah _) (by unfold maxLen;omega) hm,hZ.out.symm,q0.out.alloc _,iE HD pn.out HF,pk.out.trans (HD.mono (by omega)),HD.size⟩
 case round=>
  obtain⟨now,k,o,rfl,HL,hk,qm,hr,HQ,hR,p0,hb,r1⟩:=hrel
  obtain⟨A0,c0,rfl,ql,qb,q8⟩:=aj hr
  clear q8
  unfold maxLen at qb
  obtain⟨m,hm⟩:∃m,m=o.length:=⟨_,rfl⟩
  rw[← hm]at hr ql qm HQ ⊢
  have HZ:=qq hR
  have pj:=aa HZ
  have HM:=aa hm
  have HB:=aa hb
  have H8:=aa HQ
  have HR:=aa hR
  have HK:=aa p0
  obtain⟨X,hX⟩:∃X,X=o.map iv:=⟨_,rfl⟩
  rw[← hX]at hr
  have HX:=aa hX
  have HO:=aa hr
  clear hX hr hm hb HQ hR p0 HZ
  by_cases e:m<n
  ·have d1:decide ((m:Int)<(n:Int))=true:=ar (by omega)
   obtain⟨q,hq⟩:∃q,n - m=q+1:=⟨n - m - 1,by omega⟩
   have p4:n - (m+1)=q:=by omega
   rw[hq]at H8
   have pM:=aa p4
   clear hq p4
   go_wp2_with fail
   go_loopw [8,10] (fun f8 f10 wx=>∃(now1 k1:Nat),f10=.slice A0 m c0∧f8=.int .i64 now1∧now1≤31∧k≤k1∧k1≤8*s.size∧bq (bits.drop k1) now1 (q+1) k1 o=ans∧IsR B wx p s k1∧Blk wx br 64 #[.pointer (some ⟨p,0,none⟩)]∧wx.ownsRow w2.heap.size 3 1 (.slice A0 m c0) m X∧Below B w wx∧w2.heap.size≤wx.heap.size) (fun _ _ wx=>8*s.size - Hy wx p)
   case atStart=>exact⟨now,k,rfl,rfl,HL,Nat.le_refl _,hk,H8.out,HR.out,HK.out,HO.out,HB.out,r1⟩
   case round=>
    obtain⟨now1,k1,rfl,rfl,p3,r3,r2,hg,ha,h7,h9,hH,hP⟩:=hrel
    have hf:=qq ha
    have hO:p<wr.heap.size:=ay ha.blk
    have H0:=aa hf
    have hi:=aa hg
    have hD:=aa (q7.out wr now1)
    have hy:=aa hH
    have hS:=aa h9
    have q9:br<wr.heap.size:=ay h7
    by_cases hw:(now1:Int)<1∨20<(now1:Int)
    ·rw[decide_eq_true hw]at hD
     have h8:ans=([],0,80):=by rw[← hi.out,gv _ _ _ _ _ (by omega)]
     have h6:=aa h8
     have hV:=aa ha
     clear h8 hw hf hg ha h7 h9 hH
     go_wp2_with fail
     refine hD.out.mono ?_
     rintro e w3 ⟨rfl,rfl⟩
     go_wp2_with fail
     try rw[Exit.noGoto_ret]
     first | go_ret2 | skip
     refine HP.out (.slice none 0 0) k1 _ 80 ?_ (by rw[h6.out]) (fun h=>absurd h (by rw[h6.out];decide)) hV.out hy.out
     rw[h6.out]
     exact World.ownsRow_nil _ _ _ _
    ·rw[decide_eq_false hw]at hD
     have hz:¬(now1<1∨20<now1):=by omega
     by_cases hv:k1=8*s.size
     ·have HC:=aa (q4.out wr br k1 ha h7 hv)
      have h8:ans=([],0,10):=by rw[← hi.out,List.drop_of_length_le (by rw[hQ.out];omega),iC _ _ _ _ hz]
      have h6:=aa h8
      clear h8 hw hz hf hg ha h7 h9 hH hv
      go_wp2_with fail
      refine hD.out.mono ?_
      rintro e w3 ⟨rfl,rfl⟩
      go_wp2_with fail
      refine HC.out.mono ?_
      rintro e w3 ⟨rfl,hh,he⟩
      have hC:=aa hh
      have hB:=aa (hy.out.trans he.below)
      clear hh he
      go_wp2_with fail
      try rw[Exit.noGoto_ret]
      first | go_ret2 | skip
      refine HP.out (.slice none 0 0) k1 _ 10 ?_ (by rw[h6.out]) (fun h=>absurd h (by rw[h6.out];decide)) hC.out hB.out
      rw[h6.out]
      exact World.ownsRow_nil _ _ _ _
     ·have hM:k1<bits.length:=by rw[hQ.out];omega
      have hJ:=lh hM
      have hI:bits.getD k1 0<2:=HV.out _ (nA hM)
      by_cases h0:bits.getD k1 0=0
      ·have HC:=aa (q5.out wr br k1 ha h7 (by omega) h0)
       have hN:bq (bits.drop (k1+1)) now1 q (k1+1) (o++ [now1])=ans:=by
        rw[← hi.out,hJ,h0,f6 _ _ _ _ _ hz]
       have H5:=aa hN
       have H4:=aa fun w3 (h3:ak B [p] [] wr w3)=>nL ha h7 h3
       clear hN hw hz hf hg ha h7 h9 hH h0 hI hJ hM
       go_wp2_with fail
       refine hD.out.mono ?_
       rintro e w3 ⟨rfl,rfl⟩
       go_wp2_with fail
       refine HC.out.mono ?_
       rintro e w3 ⟨rfl,hh,he⟩
       have hK:=he.row hS.out (fun j hj=>by have:=(hS.out.lt j hj).1;simp;omega) (by simp)
       have hY:w2.heap.size≤w3.heap.size:=Nat.le_trans hP he.size
       have hT:=aa hK
       have H3:=aa (H4.out w3 he)
       have hB:=aa (hy.out.trans he.below)
       have hC:=aa hh
       clear hh he hK
       go_wp2_with (at_builtin;refine wpList_append_own _ rfl _ _ 36 rfl w2.heap.size 3 i3 (.int .i64 0) 1 8 Tryz.underlying36 h3 pb pf pg rfl (by decide) _ _ _ rfl (hT.out.alloc _) ⟨w3.heap.size,0,none⟩ 1 1 [.int .i64 now1] rfl rfl ?c1 ?c2 ?c3 ?c4 ?c5 ?_)
       case c1=>exact bi _ _ _
       case c2=>intro u hu;simp at hu;subst hu;rfl
       case c3=>unfold maxLen;omega
       case c4=>omega
       case c5=>simp;omega
       intro v4 w4 hA hl _
       have hL:Below w2.heap.size w3 w4:=((Below.refl w2.heap.size w3).alloc hY _).grown hl (by simp;omega) (fun k hk=>(hT.out.lt k hk).1)
       have pv:=aa hA
       have HA:IsR B w4 p s (k1+1):=⟨qa,iE hL hC.out.blk (by omega)⟩
       have H2:=aa (qq HA)
       have q1:=aa HA
       have po:=aa (iE hL H3.out (by omega))
       have pl:=aa (hB.out.trans (hL.mono (by omega)))
       have r0:w2.heap.size≤w4.heap.size:=Nat.le_trans hY hL.size
       clear hA hl hL HA
       go_wp2_with fail
       go_roundw
       case rel=>
        refine⟨now1,k1+1,o++ [now1],rfl,by omega,by omega,by rw[List.length_append,←HM.out];exact e,?_,by rw[List.length_append,←HM.out];show bq _ _ (n - (m+1)) _ _=ans;rw[pM.out];exact H5.out,q1.out,po.out,pl.out,r0⟩
        rw[List.length_append,←HM.out,List.map_append,←HX.out]
        exact pv.out
       case measure=>rw[H2.out,pj.out];omega
      ·have h1:bits.getD k1 0=1:=by omega
       by_cases hn:k1+1=8*s.size
       ·have HC:=aa (q2.out wr br k1 ha h7 hn h1)
        have h8:ans=([],0,10):=by
         rw[← hi.out,hJ,h1,List.drop_of_length_le (by rw[hQ.out];omega),jK _ _ _ _ _ hz (by omega)]
        have h6:=aa h8
        clear h8 hw hz hf hg ha h7 h9 hH hv hM hJ hI h0 h1 hn
        go_wp2_with fail
        refine hD.out.mono ?_
        rintro e w3 ⟨rfl,rfl⟩
        go_wp2_with fail
        refine HC.out.mono ?_
        rintro e w3 ⟨rfl,hh,he⟩
        have hC:=aa hh
        have hB:=aa (hy.out.trans he.below)
        clear hh he
        go_wp2_with fail
        try rw[Exit.noGoto_ret]
        first | go_ret2 | skip
        refine HP.out (.slice none 0 0) (k1+1) _ 10 ?_ (by rw[h6.out]) (fun h=>absurd h (by rw[h6.out];decide)) hC.out hB.out
        rw[h6.out]
        exact World.ownsRow_nil _ _ _ _
       ·have hF:k1+1<bits.length:=by rw[hQ.out];omega
        have hE:=lh hF
        have HG:bits.getD (k1+1) 0<2:=HV.out _ (nA hF)
        obtain⟨d,hd⟩:∃d,d=bits.getD (k1+1) 0:=⟨_,rfl⟩
        rw[← hd]at HG hE
        have hc:=q3.out wr br k1 d ha h7 (by omega) h1 hd.symm HG
        obtain⟨now2,ho⟩:∃now2,now2=if d=0 then now1+1 else now1 - 1:=⟨_,rfl⟩
        have hN:bq (bits.drop (k1+2)) now2 (q+1) (k1+2) o=ans:=by
         rw[← hi.out,hJ,h1,hE,fB _ _ _ _ _ _ _ hz (by omega),←ho]
        obtain⟨st,p5⟩:∃st:Int,st=1 - 2*(d:Int):=⟨_,rfl⟩
        rw[← p5]at hc
        have qo:(st==0)=false:=by rw[beq_eq_false_iff_ne];omega
        have qs:(now1:Int)+st=(now2:Int):=by
         rw[ho]
         by_cases p1:d=0
         ·rw[if_pos p1];omega
         ·rw[if_neg p1];omega
        have hG:now2≤31:=by omega
        have HC:=aa hc
        have H5:=aa hN
        have H4:=aa fun w3 (h3:ak B [p] [] wr w3)=>nL ha h7 h3
        have HI:k1+2≤8*s.size:=by omega
        clear hN hc hw hz hf hg ha h7 h9 hH h0 h1 hI hJ hM hF hE HG hd ho p5 hn hv
        go_wp2_with fail
        refine hD.out.mono ?_
        rintro e w3 ⟨rfl,rfl⟩
        go_wp2_with fail
        refine HC.out.mono ?_
        rintro e w3 ⟨rfl,hh,he⟩
        have hK:=he.row hS.out (fun j hj=>by have:=(hS.out.lt j hj).1;simp;omega) (by simp)
        have hY:w2.heap.size≤w3.heap.size:=Nat.le_trans hP he.size
        have hT:=aa hK
        have H3:=aa (H4.out w3 he)
        have hB:=aa (hy.out.trans he.below)
        have H1:=aa (qq hh)
        have hC:=aa hh
        clear hh he hK
        go_wp2_with fail
        go_roundw
        case rel=>exact⟨now2,k1+2,rfl,by go_num,hG,by omega,HI,H5.out,hC.out,H3.out,hT.out,hB.out,hY⟩
        case measure=>rw[H1.out,H0.out];omega
  ·obtain rfl:m=n:=by omega
   have d1:decide ((m:Int)<(m:Int))=false:=ao (by omega)
   have h8:ans=(o,k,0):=by
    rw[← H8.out,Nat.sub_self,fw]
   have h6:=aa h8
   clear h8
   go_wp2_with fail
   try rw[Exit.noGoto_ret]
   first | go_ret2 | skip
   refine HP.out (.slice A0 m c0) k _ 0 ?_ (by rw[h6.out]) (fun _=>by rw[h6.out]) HR.out HB.out
   rw[h6.out]
   show wr.ownsRow w.heap.size 3 1 (.slice A0 m c0) o.length (o.map iv)
   rw[← HM.out,←HX.out]
   exact World.ownsRow.mono HO.out (by omega)
theorem yx(w:World)(s:ByteArray)(at' n:Int)(hs:s.size≤2000000)(h:at'<0∨8*(s.size:Int)<at'):Calls Tryz.prog 191 #[.string s,.int .i64 at',.int .i64 n] w (aH w ([],0,2)):=by
 have HN:=aa (j8 w s at' (by omega) h)
 have HP:=aa (show aH w ([],0,2) (.returned (.tuple #[.slice none 0 0,.int .i64 0,.int .i64 2])) w from⟨_,rfl,World.ownsRow_nil _ _ _ _,Below.refl _ _⟩)
 generalize aH w ([],0,2)=PO at*
 clear h
 go_enter Tryz.func191,Tryz.ntmps191
 go_wp2_with fail
 refine HN.out.mono ?_
 rintro e w1 ⟨rfl,rfl⟩
 go_wp2_with fail
 first | exact HP.out | (go_ret3;exact HP.out)
theorem zw(w:World)(s:ByteArray)(at' n:Int)(hs:s.size≤2000000)(h1:0≤at')(h2:at'≤8*(s.size:Int))(hn:¬(2≤n∧n≤258)):Calls Tryz.prog 191 #[.string s,.int .i64 at',.int .i64 n] w (aH w ([],0,2)):=by
 have HN:=aa (fR w s at' (by omega) h1 h2)
 have HE:=aa fun w1=>eP w1 n
 rw[decide_eq_false hn]at HE
 have HP:=aa (show ∀w',Below w.heap.size w w'→aH w ([],0,2) (.returned (.tuple #[.slice none 0 0,.int .i64 0,.int .i64 2])) w' from fun w' h=>⟨_,rfl,World.ownsRow_nil _ _ _ _,h⟩)
 generalize aH w ([],0,2)=PO at*
 clear h1 h2 hn
 go_enter Tryz.func191,Tryz.ntmps191
 go_wp2_with fail
 refine HN.out.mono ?_
 rintro e w1 ⟨rfl,h4⟩
 have h3:Below w.heap.size w w1:=bR h4
 have h0:=aa (HP.out w1 h3)
 clear h4 h3
 go_wp2_with fail
 refine(HE.out _).mono ?_
 rintro e w2 ⟨rfl,rfl⟩
 go_wp2_with fail
 first | exact h0.out | (go_ret3;exact h0.out)
theorem Bc(w:World)(s:ByteArray)(a n:Nat)(ans:List Nat×Nat×Nat)(hs:s.size≤2000000)(h2:a≤8*s.size)(hy:2≤n)(hA:n≤258)(hg:ans.2.1≤20000000∧ans.2.2≤80)(ha:ans.2.2≠0→ans=([],0,ans.2.2))
 (h6:∀(w1:World) (p:Nat),IsR p w1 p s a→Calls Tryz.prog 219 #[.pointer (some ⟨p,0,none⟩),.int .i64 n] w1 (lr p w1 p s ans)):
 Calls Tryz.prog 191 #[.string s,.int .i64 a,.int .i64 n] w (aH w ans):=by
 have HN:=aa (fR w s a (by omega) (by omega) (by omega))
 have HE:=aa fun w1=>eP w1 n
 rw[decide_eq_true (show 2≤(n:Int)∧(n:Int)≤258 by omega)]at HE
 have HP:=aa (show ∀(v:Value) (k r:Nat) w',w'.ownsRow w.heap.size 3 1 v ans.1.length (ans.1.map iv)→k=ans.2.1→r=ans.2.2→Below w.heap.size w w'→aH w ans (.returned (.tuple #[v,.int .i64 k,.int .i64 r])) w' from fun v k r w' h0 h1 h3 h4=>⟨v,by rw[h1,h3],h0,h4⟩)
 generalize aH w ans=PO at*
 have hm:=aa h6
 have hc:=aa ha
 have hx:=hg.1
 have hw:=hg.2
 clear ha h6 hg
 go_enter Tryz.func191,Tryz.ntmps191
 go_wp2_with fail
 refine HN.out.mono ?_
 rintro e w1 ⟨rfl,hh⟩
 have hq:Below w.heap.size w w1:=bR hh
 have hn:IsR w.heap.size w1 w.heap.size s a:=by rw[hh];exact kp w _ (ah _) s a
 have hi:=aa hq
 have h9:=aa (hm.out w1 w.heap.size hn)
 obtain⟨p,hp⟩:∃p,p=w.heap.size:=⟨_,rfl⟩
 rw[← hp]at h9 ⊢
 have hv:=aa hp
 clear hh hq hn hp hm
 go_wp2_with fail
 refine(HE.out _).mono ?_
 rintro e w2 ⟨rfl,rfl⟩
 go_wp2_with fail
 refine h9.out.mono ?_
 rintro e w3 ⟨v,k,rfl,h5,hf,hR,he⟩
 have hb:Below w.heap.size w w3:=hi.out.trans (by rw[← hv.out];exact he)
 have ho:w3.ownsRow w.heap.size 3 1 v ans.1.length (ans.1.map iv):=World.ownsRow.mono h5 hi.out.size
 have hl:=aa (HP.out v · · w3 ho)
 have hj:=aa hb
 have c0:=ac hR.blk 0
 have c2:=ac hR.blk 2
 simp at c0 c2
 obtain⟨A0,c0',rfl,_,_,_⟩:=aj h5
 by_cases h0:ans.2.2=0
 ·have hk:=hf h0
  have hu:=aa (lT w3 p k c0 c2)
  have HK:=aa hk
  have H0:=aa h0
  rw[h0]
  clear he hb ho h5 hf hR c0 c2 h0 hk
  go_wp2_with fail
  refine hu.out.mono ?_
  rintro e w4 ⟨rfl,rfl⟩
  go_wp2_with fail
  first | exact hl.out k 0 HK.out H0.out.symm hj.out | (go_ret3;exact hl.out k 0 HK.out H0.out.symm hj.out)
 ·have h8:=hc.out h0
  have ht:ans.2.1=0:=by rw[h8]
  have hz:ans.1= []:=by rw[h8]
  have h7:=aa (HP.out (.slice none 0 0) 0 ans.2.2 w3 (by rw[hz];exact World.ownsRow_nil _ _ _ _) ht.symm rfl hb)
  obtain⟨r,hr⟩:∃r,r=ans.2.2:=⟨_,rfl⟩
  rw[← hr]at h7 hw h0 ⊢
  have d0:((r:Int) != 0)=true:=by
   rw[bne_iff_ne]
   omega
  clear he hb ho h5 hf hR c0 c2 h8 ht hz hr
  go_wp2_with fail
  first | exact h7.out | (go_ret3;exact h7.out)
theorem lc:∀(bs:List Nat) (now n p:Nat) (out:List Nat),(bq bs now n p out).2.2≠0→bq bs now n p out=([],0,(bq bs now n p out).2.2)
 | bs,now,0,p,out=>by
   rw[fw]
   exact fun h=>absurd rfl h
 | [],now,n+1,p,out=>by
   by_cases h:now<1∨20<now
   ·rw[gv _ _ _ _ _ h]
    exact fun _=>rfl
   ·rw[iC _ _ _ _ h]
    exact fun _=>rfl
 | b :: bs,now,n+1,p,out=>by
   by_cases h:now<1∨20<now
   ·rw[gv _ _ _ _ _ h]
    exact fun _=>rfl
   ·by_cases hb:b=0
    ·subst hb
     rw[f6 _ _ _ _ _ h]
     exact lc bs now n (p+1) (out++ [now])
    ·match bs with
     | []=>
       rw[jK _ _ _ _ _ h hb]
       exact fun _=>rfl
     | d :: bs=>
       rw[fB _ _ _ _ _ _ _ h hb]
       exact lc bs _ (n+1) (p+2) out
 termination_by bs=>bs.length
theorem oO(w:World)(s:ByteArray)(at' n:Int)(hs:s.size≤2000000):Calls Tryz.prog 191 #[.string s,.int .i64 at',.int .i64 n] w (aH w (ax (al s.data.toList) at' n)):=by
 have hl:(al s.data.toList).length=8*s.size:=aA _
 by_cases h1:at'<0∨8*(s.size:Int)<at'
 ·rw[ax,if_pos (by omega)]
  exact yx w s at' n hs h1
 ·by_cases hn:2≤n∧n≤258
  ·obtain⟨a,rfl⟩:∃a:Nat,at'=a:=⟨at'.toNat,by omega⟩
   obtain⟨m,rfl⟩:∃m:Nat,n=m:=⟨n.toNat,by omega⟩
   have h0:=sY (al s.data.toList) a m
   rw[hl]at h0
   have he:ax (al s.data.toList) (a:Int) (m:Int)=if 8*s.size<a+5 then([],0,10)else bq ((al s.data.toList).drop (a+5)) (val (((al s.data.toList).drop a).take 5)) m (a+5) []:=by
    rw[ax,if_neg (by omega),hl]
    rfl
   refine Bc w s a m _ hs (by omega) (by omega) (by omega) ⟨by omega,h0.2.2⟩ ?_ ?_
   ·rw[he]
    by_cases h5:8*s.size<a+5
    ·rw[if_pos h5]
     exact fun _=>rfl
    ·rw[if_neg h5]
     exact lc _ _ _ _ _
   ·intro w1 p hR
    rw[he]
    by_cases h5:8*s.size<a+5
    ·rw[if_pos h5]
     exact zu p w1 p s a m hR hs (by omega) h5
    ·rw[if_neg h5]
     exact Fl p w1 p s a m hR hs (by omega) (by omega) (by omega)
  ·rw[ax,if_pos (by omega)]
   exact zw w s at' n hs (by omega) (by omega) hn
end Go.Proofs.YthakcjehhlpjnaaGreat.S10
