import Derived.Test.YthakcjehhlpjnaaGreatA03
import Derived.Lib.SliceRun
set_option maxHeartbeats 1600000
set_option maxRecDepth 100000
namespace Go.Proofs.YthakcjehhlpjnaaGreat
open Go.RowKit
def og(w:World)(n:Nat)(f:Nat→Nat)(e:Ending)(w':World):Prop:=
 ∃g c,e=.returned (.slice (some ⟨g,0,none⟩) n c)∧aB w' w.heap.size g c n f∧Below w.heap.size w w'
theorem lS(w:World)(A:Option Addr)(n c:Nat)(L:List Int)(hL:ZIn w A n L)(hv:∀x∈L,0≤x)(h1:1≤n)(hn:n≤1000000):
 Calls Tryz.prog 118 #[.slice A n c] w (og w n fun j=>(L.getD j 0).toNat):=by
 have ha:=hL.1
 obtain⟨b,off,rfl,_⟩:=hL.2 (by omega)
 have h9:=eZ hL hv
 have h0:(w.alloc (.cells #[] 3)).ownsRow w.heap.size 3 1 (.slice (some ⟨w.heap.size,0,none⟩) 0 0) 0 []:=World.ownsRow_made w #[] 0 (ah _) (Nat.zero_le _) rfl
 have h3:Below w.heap.size w (w.alloc (.cells #[] 3)):=(Below.refl _ w).alloc (ah _) _
 obtain⟨v3,w3,h4,h2,h8⟩:=iW (w.alloc (.cells #[] 3)) w.heap.size _ 0 [] h0 (some ⟨b,off,none⟩) n c _ (cU h9 h3) (by omega) (by simp)
 have h6:Below w.heap.size w w3:=h3.grown h8 (by simp) (fun k hk=>(h0.lt k hk).1)
 obtain⟨A3,cA,rfl,hc,_,h5⟩:=aq h2
 obtain⟨gA,rfl⟩:=h5 (by omega)
 rw[Nat.zero_add]at h2 h4
 have h7:aB w3 w.heap.size gA cA n (fun j=>(L.getD j 0).toNat):=by
  have:=h2
  rw[List.nil_append,nY,List.length_map,ha]at this
  have e:bW n (fun j=>(L.map Int.toNat).getD j 0)=bW n (fun j=>(L.getD j 0).toNat):=bJ n _ _ fun j hj=>by
   show(L.map Int.toNat).getD j 0=(L.getD j 0).toNat
   rw[List.getD_eq_getElem?_getD,List.getD_eq_getElem?_getD,List.getElem?_map,List.getElem?_eq_getElem (by omega)]
   rfl
  rw[e]at this
  exact this
 have q4:∀w1:World,(binOp .eql 36 (.slice (some ⟨b,off,none⟩) n c) (.slice none 0 0)).run Tryz.prog w1=.ok (.bool false) w1:=fun w1=>Lib.run_eql_slice_nil w1 _ _ (some ⟨b,off,none⟩) n c 0 0 Tryz.underlying36
 have F:Hid (og w n (fun j=>(L.getD j 0).toNat) (.returned (.slice (some ⟨gA,0,none⟩) n cA)) w3):=aa ⟨gA,cA,rfl,h7,h6⟩
 have hb:=aa h4
 generalize og w n (fun j=>(L.getD j 0).toNat)=PO at*
 clear hL ha h9 h0 h3 h4 h2 h8 h6 h5 hc h7
 go_enter Tryz.func118,Tryz.ntmps118
 go_wp2_with (at_builtin;refine Lib.wpList_append_run _ rfl (.tmp 5) (.tmp 6) 36 36 rfl (.slice (some ⟨w.heap.size,0,none⟩) 0 0) (.slice (some ⟨b,off,none⟩) n c) rfl rfl _ w3 hb.out ?_)
 exact F.out
theorem px(w:World)(A:Option Addr)(n c:Nat)(L:List Int)(hL:ZIn w A n L)(hv:∀x∈L,0≤x)(h1:1≤n)(hn:n≤1000000):
 Calls Tryz.prog 171 #[.slice A n c] w (og w n (qU L)):=by
 have HC:=aa (lS w A n c L hL hv h1 hn)
 obtain⟨f0,h5⟩:∃f0:Nat→Nat,f0=fun j=>(L.getD j 0).toNat:=⟨_,rfl⟩
 rw[← h5]at HC
 have HW:Hid (∀ j,qU L j=max (f0 j) 1):=aa fun j=>by rw[h5];rfl
 have hP:Hid (∀ g c w',aB w' w.heap.size g c n (qU L)→Below w.heap.size w w'→og w n (qU L) (.returned (.slice (some ⟨g,0,none⟩) n c)) w'):=aa fun g c w' h2 h3=>⟨g,c,rfl,h2,h3⟩
 generalize og w n (qU L)=PO at*
 generalize qU L=F1 at*
 clear hL h5 hv
 go_enter Tryz.func171,Tryz.ntmps171
 go_wp2_with fail
 refine HC.out.mono ?_
 rintro e w3 ⟨gA,cA,rfl,hf,hb⟩
 have h7:=aa hf
 have h6:=aa hb
 clear hf hb HC
 go_wp2_with fail
 go_loopw [4,5,10] (fun s4 s5 x wx=>∃i:Nat,i≤n∧x=.int .i64 i∧aB wx w.heap.size gA cA n (fun j=>if j<i then F1 j else f0 j)∧Below w.heap.size w wx) (fun _ _ x _=>n - (intOf x).toNat)
 case atStart=>
  refine⟨0,Nat.zero_le _,rfl,?_,h6.out⟩
  have e0:(fun j=>if j<0 then F1 j else f0 j)=f0:=by
   funext j
   rw[if_neg (by omega)]
  rw[e0]
  exact h7.out
 case round=>
  obtain⟨i,hi,rfl,hf,hb⟩:=hrel
  by_cases e:i<n
  ·have di:decide ((i:Int)<(n:Int))=true:=aC (by omega)
   have hh:(0:Int)≤(i:Int):=by omega
   have ci:=hf.cell i e
   have fi:=hf.frozen i
   rw[if_neg (by omega)]at ci
   have hg:=hf.lt
   obtain⟨x,hx⟩:∃x,x=f0 i:=⟨_,rfl⟩
   rw[← hx]at ci
   have h9:∀m:Nat,m=max x 1→(fun j=>if j=i then m else if j<i then F1 j else f0 j)=fun j=>if j<i+1 then F1 j else f0 j:=by
    intro m hm
    funext j
    by_cases ej:j=i
    ·rw[if_pos ej,if_pos (by omega),ej,hm,HW.out,hx]
    ·rw[if_neg ej]
     by_cases ej2:j<i
     ·rw[if_pos ej2,if_pos (by omega)]
     ·rw[if_neg ej2,if_neg (by omega)]
   have h8:=aa h9
   have HF:=aa hf
   have HB:=aa hb
   have ha:w.heap.size≤gA:=hg.1
   clear hf hb h9 hx hg
   by_cases h0:1<x
   ·have hs:=HF.out.set i x
    rw[h8.out x (by omega)]at hs
    have HS:=aa hs
    have h4:=aa (HB.out.setCell (p:=⟨gA,i,none⟩) ha (.int .i64 (x:Int)))
    have dx:decide ((1:Int)<(x:Int))=true:=aC (by omega)
    have he:(1:Int)<(x:Int):=by omega
    clear hs
    go_wp2_with fail
    go_roundw
    case rel=>exact⟨i+1,by omega,by go_num,HS.out,h4.out⟩
    case measure=>simp[intOf];omega
   ·have hs:=HF.out.set i 1
    rw[h8.out 1 (by omega)]at hs
    have HS:=aa hs
    have h4:=aa (HB.out.setCell (p:=⟨gA,i,none⟩) ha (.int .i64 ((1:Nat):Int)))
    have dx:decide ((1:Int)<(x:Int))=false:=au (by omega)
    have he:¬(1:Int)<(x:Int):=by omega
    clear hs
    go_wp2_with fail
    go_roundw
    case rel=>exact⟨i+1,by omega,by go_num,HS.out,h4.out⟩
    case measure=>simp[intOf];omega
  ·obtain rfl:i=n:=by omega
   have di:decide ((i:Int)<(i:Int))=false:=au (by omega)
   have h3:wr.ownsRow w.heap.size 3 1 (.slice (some ⟨gA,0,none⟩) i cA) i (bW i fun j=>if j<i then F1 j else f0 j):=hf
   rw[bJ i _ F1 fun j hj=>if_pos hj]at h3
   have hc:=aa (hP.out gA cA wr h3 hb)
   clear hf hb h3 hP h7 h6
   go_wp2_with fail
   exact hc.out
theorem Cv(w:World)(B g c n:Nat)(f:Nat→Nat)(hf:aB w B g c n f)(h4:∀j,j<n→f j≤1073741824)(hn:n≤1000000):
 Calls Tryz.prog 207 #[.slice (some ⟨g,0,none⟩) n c] w fun e w'=>e=.returned (.tuple #[])∧aB w' B g c n (fun j=>f j / 2+1)∧Below B w w':=by
 have h9:=aa hf
 have hc:=aa h4
 clear hf h4
 go_enter Tryz.func207,Tryz.ntmps207
 go_wp2_with fail
 go_loopw [2,3,6] (fun s2 s3 x wx=>∃j:Nat,j≤n∧x=.int .i64 j∧aB wx B g c n (fun a=>if a<j then f a / 2+1 else f a)∧Below B w wx) (fun _ _ x _=>n - (intOf x).toNat)
 case atStart=>
  refine⟨0,Nat.zero_le _,rfl,?_,Below.refl _ _⟩
  have e0:(fun a=>if a<0 then f a / 2+1 else f a)=f:=by
   funext a
   rw[if_neg (by omega)]
  rw[e0]
  exact h9.out
 case round=>
  obtain⟨j,hj,rfl,h0,h1⟩:=hrel
  by_cases e3:j<n
  ·have dj:decide ((j:Int)<(n:Int))=true:=aC (by omega)
   have hh:(0:Int)≤(j:Int):=by omega
   have cj:=h0.cell j e3
   have fj:=h0.frozen j
   rw[if_neg (by omega)]at cj
   have hg:=h0.lt
   obtain⟨x,hx⟩:∃x,x=f j:=⟨_,rfl⟩
   rw[← hx]at cj
   obtain⟨y,hy⟩:∃y,y=x / 2:=⟨_,rfl⟩
   obtain⟨y1,h6⟩:∃y1,y1=y+1:=⟨_,rfl⟩
   have hl:(x:Int) / 2=(y:Int):=by omega
   have hi:x≤1073741824:=by rw[hx];exact hc.out j e3
   have hk:y≤1073741824:=by omega
   have he:(y:Int)+1=(y1:Int):=by omega
   have hs:=h0.set j y1
   have h5:(fun a=>if a=j then y1 else if a<j then f a / 2+1 else f a)=fun a=>if a<j+1 then f a / 2+1 else f a:=by
    funext a
    by_cases ea:a=j
    ·rw[if_pos ea,if_pos (by omega),ea,h6,hy,hx]
    ·rw[if_neg ea]
     by_cases ea2:a<j
     ·rw[if_pos ea2,if_pos (by omega)]
     ·rw[if_neg ea2,if_neg (by omega)]
   rw[h5]at hs
   have HS:=aa hs
   have h8:=aa (h1.setCell (p:=⟨g,j,none⟩) hg.1 (.int .i64 (y1:Nat)))
   clear h0 h1 hs h5 hx hy h6 hg
   go_wp2_with fail
   go_roundw
   case rel=>exact⟨j+1,by omega,by go_num,HS.out,h8.out⟩
   case measure=>simp[intOf];omega
  ·obtain rfl:j=n:=by omega
   have dj:decide ((j:Int)<(j:Int))=false:=au (by omega)
   have h2:aB wr B g c j (fun a=>f a / 2+1):=by
    have h3:wr.ownsRow B 3 1 (.slice (some ⟨g,0,none⟩) j c) j (bW j fun a=>if a<j then f a / 2+1 else f a):=h0
    rw[bJ j _ (fun a=>f a / 2+1) fun a ha=>if_pos ha]at h3
    exact h3
   have hb:=aa h2
   have h7:=aa h1
   clear h0 h1 h2
   go_wp2_with fail
   try simp only[Exit.inBlock,Exit.then]
   go_end0
   exact⟨rfl,hb.out,h7.out⟩
end Go.Proofs.YthakcjehhlpjnaaGreat
