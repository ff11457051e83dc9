import Derived.Test.YthakcjehhlpjnaaGreatB04
import Derived.Test.YthakcjehhlpjnaaGreatLx
import Derived.Shelf.SlSortCmp.WholeK
set_option maxHeartbeats 3200000
set_option maxRecDepth 100000
namespace Go.Proofs.YthakcjehhlpjnaaGreat
open Go.RowKit
def tf(x:Nat×Nat):List Value:= [.int .i64 x.1,.int .i64 x.2]
def ew(w:World)(g:Nat)(T:List (Nat×Nat)):Prop:=
 ∃cs,Blk w g 222 cs∧∀i,i<T.length→cs[i*2]? =some (.int .i64 (T.getD i (0,0)).1)∧cs[i*2+1]? =some (.int .i64 (T.getD i (0,0)).2)
theorem ew.cell0{w:World}{g:Nat}{T:List (Nat×Nat)}(h:ew w g T){i:Nat}(hi:i<T.length):w.cell? ⟨g,i*2,none⟩=some (.int .i64 (T.getD i (0,0)).1):=by
 obtain⟨cs,hb,hc⟩:=h
 rw[ac hb,(hc i hi).1]
theorem ew.cell1{w:World}{g:Nat}{T:List (Nat×Nat)}(h:ew w g T){i:Nat}(hi:i<T.length):w.cell? ⟨g,i*2+1,none⟩=some (.int .i64 (T.getD i (0,0)).2):=by
 obtain⟨cs,hb,hc⟩:=h
 rw[ac hb,(hc i hi).2]
theorem ew.frozen{w:World}{g:Nat}{T:List (Nat×Nat)}(h:ew w g T)(i:Nat):w.frozen? ⟨g,i,none⟩=false:=by
 obtain⟨cs,hb,hc⟩:=h
 exact ae hb i
theorem ew.lt{w:World}{g:Nat}{T:List (Nat×Nat)}(h:ew w g T):g<w.heap.size:=by
 obtain⟨cs,hb,hc⟩:=h
 exact ay hb
theorem ak.trow{B:Nat}{ps:List Nat}{w w':World}(h:ak B ps [] w w'){g:Nat}{T:List (Nat×Nat)}(hr:ew w g T)(hp:g∉ps):ew w' g T:=by
 obtain⟨cs,hb,hc⟩:=hr
 exact⟨cs,h.blk hb hp (by simp),hc⟩
theorem JR(T:List (Nat×Nat))(i:Nat)(h:i<T.length):T.toArray[i]! =T.getD i (0,0):=by
 rw[List.getD_eq_getElem?_getD,List.getElem?_eq_getElem h]
 simp[h]
theorem qZ{w:World}{g:Nat}{T:List (Nat×Nat)}(h:ew w g T):Go.Sort.HoldsK tf 2 w g 0 T.toArray:=by
 intro t ht
 have h0:t<T.length*2:=by simpa using ht
 have hi:t / 2<T.length:=by omega
 refine⟨?_,h.frozen _⟩
 rw[Go.Sort.get_flatK tf 2 T.toArray t (by simpa using h0),JR T _ hi,Nat.zero_add]
 by_cases e:t % 2=0
 ·have h1:=h.cell0 hi
  rw[show t / 2*2=t by omega]at h1
  rw[h1,e]
  rfl
 ·have h1:=h.cell1 hi
  rw[show t / 2*2+1=t by omega]at h1
  rw[h1,show t % 2=1 by omega]
  rfl
theorem AB{w:World}{g:Nat}{T:List (Nat×Nat)}(h:ew w g T)(n:Nat)(d:Array (Nat×Nat))(os:Array Obj)(hs:d.size=T.length)(B:Nat)(hB:B≤g):
 ew (sortWorldK tf 2 w g 0 n d os) g d.toList∧ak B [g] [] w (sortWorldK tf 2 w g 0 n d os):=by
 have h6:=h.lt
 have hH:=holdsK_sortWorldK_c tf 2 w g 0 T.toArray d n os (qZ h) h6 (by simpa using hs)
 have hz:=size_sortWorldK_c tf 2 w g 0 n d os
 have h2:∀k,k<w.heap.size→k≠g→(sortWorldK tf 2 w g 0 n d os).heap[k]? =w.heap[k]? :=by
  intro k hk h7
  unfold sortWorldK Go.Sort.putRowK Go.Sort.putRow Go.Sort.mapBlock Go.Sort.grow Go.Sort.ahead
  dsimp only
  rw[Array.getElem?_append_left (by simpa using hk),Array.getElem?_modify,if_neg (fun e=>h7 e.symm)]
 have h3:∃cs',Blk (sortWorldK tf 2 w g 0 n d os) g 222 cs':=by
  obtain⟨cs,hb,_⟩:=h
  unfold Blk at hb ⊢
  unfold sortWorldK Go.Sort.putRowK Go.Sort.putRow Go.Sort.mapBlock Go.Sort.grow Go.Sort.ahead
  dsimp only
  rw[Array.getElem?_append_left (by simpa using h6),Array.getElem?_modify,if_pos rfl,hb]
  exact⟨_,rfl⟩
 refine⟨?_,⟨⟨rfl,rfl,rfl,hz,fun k hk=>h2 k (by omega) (by omega)⟩,fun k cs t fr hh hk _=>(h2 k (Array.getElem?_eq_some_iff.1 hh).1 (by simpa using hk)).trans hh⟩⟩
 obtain⟨cs',h4⟩:=h3
 refine⟨cs',h4,fun i hi=> ?_⟩
 have h5:i<d.size:=by simpa using hi
 have e:d[i]! =d.toList.getD i (0,0):=by
  rw[← JR d.toList i hi]
 have h0:=(Go.Sort.HoldsK.cell hH h5 (c:=0) (by omega)).1
 have h1:=(Go.Sort.HoldsK.cell hH h5 (c:=1) (by omega)).1
 rw[ac h4,Nat.zero_add,e]at h0 h1
 exact⟨h0,h1⟩
theorem xG(cf:Nat×Nat→Nat×Nat→Int)(R:Nat×Nat→Nat×Nat→Prop)(fn:Nat)(eg:∀args w,(callFunc fn args).run Tryz.prog w=.ok (.enter fn args) w)
 (hc:∀(x y:Nat×Nat) (w:World),Calls Tryz.prog fn #[.agg #[.int .i64 x.1,.int .i64 x.2],.agg #[.int .i64 y.1,.int .i64 y.2]] w fun e w'=>e=.returned (.int .i64 (cf x y))∧∃q os',w'=Go.Sort.grow (w.drewN q) os')
 (hR:∀x y,cf x y<0↔R x y) (h9:∀x,¬R x x) (hm:∀x y z,R x y→R y z→R x z) (hl:∀x y z,¬R x y→¬R y z→¬R x z) (hb:∀x y,¬R x y→x.2≠y.2→R y x)
 (w:World) (B g c:Nat) (T:List (Nat×Nat)) (h:ew w g T) (hB:B≤g) (hn:T.length≤1000000) (hd:(T.map Prod.snd).Nodup):
 Calls Tryz.prog 172 #[.slice (some ⟨g,0,none⟩) T.length c,.func (.func fn) #[] #[]] w fun e w'=>e=.returned (.tuple #[])∧∃T',T'.Perm T∧T'.Pairwise R∧ew w' g T'∧ak B [g] [] w w':=by
 have h7:∀x y,ltOf cf x y=true↔R x y:=fun x y=>by
  unfold ltOf
  rw[decide_eq_true_eq]
  exact hR x y
 have h6:∀x y,ltOf cf x y=false↔¬R x y:=fun x y=>by rw[← h7,Bool.not_eq_true]
 have hO:Go.Sort.SWO (ltOf cf):=by
  refine⟨fun x=>(h6 x x).2 (h9 x),fun x y z h1 h2=>(h7 x z).2 (hm x y z ((h7 x y).1 h1) ((h7 y z).1 h2)),fun x y z h1 h2=>(h6 x z).2 (hl x y z ((h6 x y).1 h1) ((h6 y z).1 h2))⟩
 have hS:=AnyQ.slices_SortFunc Tryz.laysSort 2 Tryz.isAgg222 Tryz.sizeOf222 tf (fun _=>rfl) (fun x v hv=>by simp[tf]at hv;rcases hv with rfl | rfl <;>rfl) cf hO fn #[] g 0 c T.toArray w eg
  (fun m os dk _ x y=>hc x y _) (qZ h) h.lt (by simp;omega)
 have ha:T.toArray.size=T.length:=by simp
 rw[ha]at hS
 refine hS.mono ?_
 rintro e w' ⟨rfl,d',n,os,hp,hs,rfl⟩
 have h8:d'.size=T.length:=by rw[hp.1,ha]
 have h0:d'.toList.Perm T:=by
  have:=hp.2.2
  rw[← h8,Array.extract_size,h8,←ha,Array.extract_size]at this
  simpa using this
 obtain⟨h1,h2⟩:=AB h n d' os h8 B hB
 refine⟨rfl,d'.toList,h0,?_,h1,h2⟩
 have hf:(d'.toList.map Prod.snd).Nodup:=(h0.map _).nodup_iff.2 hd
 rw[List.pairwise_iff_getElem]
 intro i j hi hj he
 have hg:i<d'.size:=by simpa using hi
 have hh:j<d'.size:=by simpa using hj
 have h3:=hs i j (Nat.zero_le _) he (by omega)
 have h4:=(h6 _ _).1 h3
 rw[getElem!_pos d' i hg,getElem!_pos d' j hh]at h4
 have hk:d'[j].2≠d'[i].2:=by
  intro e
  rw[List.nodup_iff_pairwise_ne,List.pairwise_iff_getElem]at hf
  have:=hf i j (by simpa using hi) (by simpa using hj) he
  simp at this
  exact this e.symm
 have h5:=hb _ _ h4 hk
 simpa using h5
theorem iQ(a b:Int):eW a b<0↔a<b:=by
 unfold eW
 by_cases h1:a<b
 ·rw[if_pos h1];omega
 ·by_cases h2:b<a
  ·rw[if_neg h1,if_pos h2];omega
  ·rw[if_neg h1,if_neg h2];omega
theorem gl(a b:Int):eW a b=0↔a=b:=by
 unfold eW
 by_cases h1:a<b
 ·rw[if_pos h1];omega
 ·by_cases h2:b<a
  ·rw[if_neg h1,if_pos h2];omega
  ·rw[if_neg h1,if_neg h2];omega
def fc(x y:Nat×Nat):Int:=xN ((x.1:Int),(x.2:Int)) ((y.1:Int),(y.2:Int))
def Fu(x y:Nat×Nat):Int:=Br ((x.1:Int),(x.2:Int)) ((y.1:Int),(y.2:Int))
theorem qN(x y:Nat×Nat):fc x y<0↔Fst x y:=by
 unfold fc xN Fst
 dsimp only
 by_cases e:eW (x.1:Int) (y.1:Int)=0
 ·rw[if_pos e,iQ]
  have:=(gl _ _).1 e
  omega
 ·rw[if_neg e,iQ]
  have:=mt (gl (x.1:Int) (y.1:Int)).2 e
  omega
theorem EC(x y:Nat×Nat):Fu x y<0↔kh x y:=by
 unfold Fu Br kh
 dsimp only
 by_cases e:eW (y.1:Int) (x.1:Int)=0
 ·rw[if_pos e,iQ]
  have:=(gl _ _).1 e
  omega
 ·rw[if_neg e,iQ]
  have:=mt (gl (y.1:Int) (x.1:Int)).2 e
  omega
theorem yc(w:World)(B g c:Nat)(T:List (Nat×Nat))(h:ew w g T)(hB:B≤g)(hn:T.length≤1000000)(hd:(T.map Prod.snd).Nodup):
 Calls Tryz.prog 172 #[.slice (some ⟨g,0,none⟩) T.length c,.func (.func 255) #[] #[]] w fun e w'=>e=.returned (.tuple #[])∧∃T',T'.Perm T∧T'.Pairwise Fst∧ew w' g T'∧ak B [g] [] w w':=
 xG fc Fst 255 (enters_of Tryz.func255 (by kernel_rfl) rfl) (fun x y w=>iY _ _ w) qN (fun x=>by unfold Fst;omega) (fun x y z=>Fst.trans) (fun x y z=>by unfold Fst;omega) (fun x y=>uq) w B g c T h hB hn hd
theorem uP(w:World)(B g c:Nat)(T:List (Nat×Nat))(h:ew w g T)(hB:B≤g)(hn:T.length≤1000000)(hd:(T.map Prod.snd).Nodup):
 Calls Tryz.prog 172 #[.slice (some ⟨g,0,none⟩) T.length c,.func (.func 173) #[] #[]] w fun e w'=>e=.returned (.tuple #[])∧∃T',T'.Perm T∧T'.Pairwise kh∧ew w' g T'∧ak B [g] [] w w':=
 xG Fu kh 173 (enters_of Tryz.func173 (by kernel_rfl) rfl) (fun x y w=>yw _ _ w) EC (fun x=>by unfold kh;omega) (fun x y z=>by unfold kh;omega) (fun x y z=>by unfold kh;omega) (fun x y=>by unfold kh;omega) w B g c T h hB hn hd
def jz(w:World)(g N:Nat)(T:List (Nat×Nat)):Prop:=
 ∃cs,Blk w g 222 cs∧cs.size=N*2∧∀i,i<T.length→cs[i*2]? =some (.int .i64 (T.getD i (0,0)).1)∧cs[i*2+1]? =some (.int .i64 (T.getD i (0,0)).2)
theorem jz.row{w:World}{g N:Nat}{T:List (Nat×Nat)}(h:jz w g N T):ew w g T:=by
 obtain⟨cs,h1,_,h3⟩:=h
 exact⟨cs,h1,h3⟩
theorem ak.tcap{B:Nat}{ps:List Nat}{w w':World}(h:ak B ps [] w w'){g N:Nat}{T:List (Nat×Nat)}(hr:jz w g N T)(hp:g∉ps):jz w' g N T:=by
 obtain⟨cs,hb,hc⟩:=hr
 exact⟨cs,h.blk hb hp (by simp),hc⟩
theorem jz.there{w:World}{g N:Nat}{T:List (Nat×Nat)}(h:jz w g N T)(j:Nat)(hj:j<N*2):(w.cell? ⟨g,j,none⟩).isSome=true∧w.frozen? ⟨g,j,none⟩=false:=by
 obtain⟨cs,hb,hs,_⟩:=h
 refine⟨?_,ae hb j⟩
 rw[ac hb,Array.getElem?_eq_getElem (by omega)]
 rfl
theorem jz.store{w:World}{g N:Nat}{T:List (Nat×Nat)}(h:jz w g N T)(x:Nat×Nat)(hN:T.length<N):
 jz ((w.setCell ⟨g,T.length*2,none⟩ (.int .i64 x.1)).setCell ⟨g,T.length*2+1,none⟩ (.int .i64 x.2)) g N (T++ [x]):=by
 obtain⟨cs,hb,hs,hc⟩:=h
 refine⟨_,au (au hb (T.length*2) (.int .i64 x.1)) (T.length*2+1) (.int .i64 x.2),by simp[hs],fun i hi=> ?_⟩
 rw[List.length_append,List.length_singleton]at hi
 by_cases e:i=T.length
 ·subst e
  have e0:(T++ [x]).getD T.length (0,0)=x:=by simp
  rw[e0]
  constructor
  ·rw[Array.getElem?_setIfInBounds_ne (by omega),Array.getElem?_setIfInBounds_self_of_lt (by omega)]
  ·rw[Array.getElem?_setIfInBounds_self_of_lt (by simp;omega)]
 ·have h0:i<T.length:=by omega
  have e0:(T++ [x]).getD i (0,0)=T.getD i (0,0):=by
   rw[List.getD_eq_getElem?_getD,List.getD_eq_getElem?_getD,List.getElem?_append_left h0]
  rw[e0]
  have h3:=hc i h0
  constructor
  ·rw[Array.getElem?_setIfInBounds_ne (by omega),Array.getElem?_setIfInBounds_ne (by omega)]
   exact h3.1
  ·rw[Array.getElem?_setIfInBounds_ne (by omega),Array.getElem?_setIfInBounds_ne (by omega)]
   exact h3.2
theorem Tryz.infoTree:(Tryz.prog.info? 222).map (fun i=>(i.zero,i.size,i.bytes))=some (some (.agg #[.int .i64 0,.int .i64 0]),2,16):=by kernel_rfl
theorem sb(w:World)(n m:Nat)(hn:n≤m)(hm:m≤1000000):(Instr.makeSlice 218 (.int .i64 n) (.int .i64 m)).run Tryz.prog w=.ok (.slice (some ⟨w.heap.size,0,none⟩) n m) (w.alloc (.cells (madeCells #[.int .i64 0,.int .i64 0] (m*2)) 222)):=by
 obtain⟨i3,h3,h0,h1,h2⟩:=info_parts Tryz.infoTree
 have h:=run_make (P:=Tryz.prog) w 218 222 i3 (.agg #[.int .i64 0,.int .i64 0]) Tryz.underlying218 h3 h0 .i64 .i64 (n:Int) (m:Int) (by omega) (by omega) (by rw[h2];omega) (by omega)
 rw[h1,Int.toNat_natCast,Int.toNat_natCast]at h
 exact h
theorem Ai(w:World)(m:Nat):jz (w.alloc (.cells (madeCells #[.int .i64 0,.int .i64 0] (m*2)) 222)) w.heap.size m []:=
 ⟨_,ag w _ _,by rw[size_madeCells],fun i hi=>absurd hi (by simp)⟩
theorem uB(w:World)(A:Option Addr)(n c:Nat)(f:Nat→Nat)(hL:aw w A n ((List.range n).map f))(h1:1≤n)(hn:n≤1000000):
 Calls Tryz.prog 170 #[.slice A n c] w fun e w'=>e=.returned (.slice (some ⟨w.heap.size,0,none⟩) n n)∧jz w' w.heap.size n ((List.range n).map fun i=>(f i,i))∧Below w.heap.size w w':=by
 obtain⟨b,off,rfl,hc⟩:=hL.2 (by omega)
 have h2:∀i,i<n→w.cell? ⟨b,off+i,none⟩=some (.int .i64 (f i)):=fun i hi=>by rw[hc i hi,cH n f i hi]
 have HC:=aa h2
 have h4:=sb w n n (ah _) hn
 have HM:=aa (Ai w n)
 clear hL hc h2
 go_enter Tryz.func170,Tryz.ntmps170
 go_wp2_with fail
 have h0:=aa ((Below.refl w.heap.size w).alloc (ah _) (.cells (madeCells #[.int .i64 0,.int .i64 0] (n*2)) 222))
 go_loopw [4,5,11] (fun s4 s5 x wx=>∃i:Nat,i≤n∧x=.int .i64 i∧jz wx w.heap.size n ((List.range i).map fun i=>(f i,i))∧Below w.heap.size w wx) (fun _ _ x _=>n - (intOf x).toNat)
 case atStart=>exact⟨0,Nat.zero_le _,rfl,HM.out,h0.out⟩
 case round=>
  clear HM h0 h4
  obtain⟨i,hi,rfl,ht,hb⟩:=hrel
  by_cases e:i<n
  ·have di:decide ((i:Int)<(n:Int))=true:=ar (by omega)
   have h5:(0:Int)≤(i:Int):=by omega
   have ci:=(hb.cell (p:=⟨b,off+i,none⟩) (World.block_lt_of_cell? w _ (HC.out i e))).trans (HC.out i e)
   have t0:=ht.there (i*2) (by omega)
   have t1:=ht.there (i*2+1) (by omega)
   have hs:=ht.store (f i,i) (by simpa using e)
   have hl:((List.range i).map fun i=>(f i,i)).length=i:=by simp
   rw[hl,show((List.range i).map fun i=>(f i,i))++ [(f i,i)]=(List.range (i+1)).map fun i=>(f i,i) by rw[List.range_succ,List.map_append];rfl]at hs
   have HS:=aa hs
   have h3:=aa ((hb.setCell (p:=⟨w.heap.size,i*2,none⟩) (ah _) (.int .i64 (f i:Nat))).setCell (p:=⟨w.heap.size,i*2+1,none⟩) (ah _) (.int .i64 (i:Nat)))
   obtain⟨u0,h6⟩:=Option.isSome_iff_exists.1 t0.1
   obtain⟨u1,h7⟩:=Option.isSome_iff_exists.1 t1.1
   have f0:=t0.2
   have f1:=t1.2
   dsimp only at HS
   generalize f i=x at*
   clear ht hb hs hl t0 t1
   go_wp2_with fail
   go_roundw
   case rel=>exact⟨i+1,by omega,by go_num,HS.out,h3.out⟩
   case measure=>simp[intOf];omega
  ·obtain rfl:i=n:=by omega
   have di:decide ((i:Int)<(i:Int))=false:=ao (by omega)
   have HT:=aa ht
   have HB:=aa hb
   clear ht hb
   go_wp2_with fail
   go_ret
   exact⟨rfl,HT.out,HB.out⟩
def hd:List (Nat×Nat)→Nat×Nat
 | []=>(9223372036854775807,0)
 | x :: _=>x
theorem ID(L:List (Nat×Nat))(p:Nat)(h:p<L.length):hd (L.drop p)=L.getD p (0,0):=by
 rw[List.drop_eq_getElem_cons h,List.getD_eq_getElem?_getD,List.getElem?_eq_getElem h]
 rfl
theorem wk(w:World)(A:Option Addr)(g p c:Nat)(L:List (Nat×Nat))(h:ew w g L)(hA:p<L.length→A=some ⟨g,p*2,none⟩)(hp:p≤L.length)(_hn:L.length≤1000000):
 Calls Tryz.prog 258 #[.slice A (L.length - p) c] w fun e w'=>e=.returned (.agg #[.int .i64 (hd (L.drop p)).1,.int .i64 (hd (L.drop p)).2])∧Below w.heap.size w w':=by
 by_cases e:p<L.length
 ·obtain rfl:=hA e
  rw[ID L p e]
  have c0:=h.cell0 e
  have c1:=h.cell1 e
  have hz:=h.lt
  generalize L.getD p (0,0)=x at*
  obtain⟨k,hk⟩:∃k,k=L.length - p:=⟨_,rfl⟩
  rw[← hk]
  have d1:((k:Int)==0)=false:=by rw[beq_eq_false_iff_ne];omega
  have h2:(0:Int)<(k:Int):=by omega
  have h3:0<k:=by omega
  have h1:=aa ((Below.refl w.heap.size w).alloc (ah _) (.cells #[.int .i64 0,.int .i64 0] 222))
  clear h hA hk
  go_enter Tryz.func258,Tryz.ntmps258
  go_wp2_with fail
  have q0:=fX w (.int .i64 x.1) (.int .i64 x.2) 222
  have q1:=gn w (.int .i64 x.1) (.int .i64 x.2) 222
  refine bodyPost_ret (v:=.agg #[.int .i64 x.1,.int .i64 x.2]) ?_ rfl ⟨rfl,?_⟩
  ·simp[results,Tryz.results258,go_sem,q0,q1]
  ·exact(Below.refl w.heap.size w).alloc (ah _) _
 ·have h0:p=L.length:=by omega
  subst h0
  rw[List.drop_length,Nat.sub_self]
  clear h hA
  go_enter Tryz.func258,Tryz.ntmps258
  go_wp2_with fail
  have q0:=fX w (.int .i64 9223372036854775807) (.int .i64 0) 222
  have q1:=gn w (.int .i64 9223372036854775807) (.int .i64 0) 222
  refine bodyPost_ret (v:=.agg #[.int .i64 9223372036854775807,.int .i64 0]) ?_ rfl ⟨rfl,?_⟩
  ·simp[results,Tryz.results258,go_sem,q0,q1]
  ·exact(Below.refl w.heap.size w).alloc (ah _) _
theorem Bo(w:World)(a b c d:Value)(t:TypeId):Blk ((w.alloc (.cells #[a,b] t)).alloc (.cells #[c,d] t)) w.heap.size t #[a,b]∧Blk ((w.alloc (.cells #[a,b] t)).alloc (.cells #[c,d] t)) (w.heap.size+1) t #[c,d]:=by
 constructor
 ·exact(heap_alloc_old _ _ (by simp)).trans (heap_alloc_new w _)
 ·have h:=heap_alloc_new (w.alloc (.cells #[a,b] t)) (.cells #[c,d] t)
  simpa [Blk]using h
theorem EX(B:Nat)(w:World)(q:Nat)(os:Array Obj)(hB:B≤w.heap.size):ak B [] [] w (Go.Sort.grow (w.drewN q) os):=by
 have h0:∀k,k<w.heap.size→(Go.Sort.grow (w.drewN q) os).heap[k]? =w.heap[k]? :=fun k hk=>by
  show(w.heap++os)[k]? =_
  rw[Array.getElem?_append_left hk]
 refine⟨⟨rfl,rfl,rfl,?_,fun k hk=> ?_⟩,fun k cs t fr hh _ _=>(h0 k (Array.getElem?_eq_some_iff.1 hh).1).trans hh⟩
 ·show w.heap.size≤(w.heap++os).size
  simp
 ·exact h0 k (by omega)
def lx(x y:Nat×Nat):Nat×Nat:=if fc y x<0 then y else x
theorem AY(w:World)(b c:Nat)(x y:Nat×Nat)(h9:w.cell? ⟨b,0,none⟩=some (.int .i64 x.1))(hl:w.cell? ⟨b,1,none⟩=some (.int .i64 x.2))(ha:w.cell? ⟨b,2,none⟩=some (.int .i64 y.1))(hc:w.cell? ⟨b,3,none⟩=some (.int .i64 y.2)):
 Calls Tryz.prog 257 #[.slice (some ⟨b,0,none⟩) 2 c,.func (.func 255) #[] #[]] w fun e w'=>e=.returned (.agg #[.int .i64 (lx x y).1,.int .i64 (lx x y).2])∧Below w.heap.size w w':=by
 have hb:=World.block_lt_of_cell? w ⟨b,0,none⟩ h9
 have HR:=aa fun w1:World=>iY ((y.1:Int),(y.2:Int)) ((x.1:Int),(x.2:Int)) w1
 have hP:Hid (lx x y=if fc y x<0 then y else x):=aa rfl
 have hr:xN ((y.1:Int),(y.2:Int)) ((x.1:Int),(x.2:Int))=fc y x:=rfl
 rw[hr]at HR
 clear hr
 generalize lx x y=z at*
 generalize fc y x=r at*
 obtain⟨x0,x1⟩:=x
 obtain⟨y0,y1⟩:=y
 dsimp only at*
 go_enter Tryz.func257,Tryz.ntmps257
 go_wp2_with fail
 have h7:=aa (Bo w (.int .i64 0) (.int .i64 0) (.int .i64 x0) (.int .i64 x1) 222)
 have hf:=aa (((Below.refl w.heap.size w).alloc (ah _) (.cells #[.int .i64 0,.int .i64 0] 222)).alloc (by simp) (.cells #[.int .i64 x0,.int .i64 x1] 222))
 go_loopw [6] (fun i wx=>(i=.int .i64 1∧Blk wx (w.heap.size+1) 222 #[.int .i64 x0,.int .i64 x1]∨i=.int .i64 2∧Blk wx (w.heap.size+1) 222 #[.int .i64 z.1,.int .i64 z.2])∧Blk wx w.heap.size 222 #[.int .i64 0,.int .i64 0]∧Below w.heap.size w wx) (fun i _=>2 - (intOf i).toNat)
 case atStart=>exact⟨.inl ⟨rfl,h7.out.2⟩,h7.out.1,hf.out⟩
 case round=>
  clear h7 hf
  obtain⟨hi,h1,h2⟩:=hrel
  have h6:=aa h1
  have HB:=aa h2
  rcases hi with⟨rfl,hm⟩ | ⟨rfl,hm⟩
  ·have cy0:=(h2.cell (p:=⟨b,2,none⟩) hb).trans ha
   have cy1:=(h2.cell (p:=⟨b,3,none⟩) hb).trans hc
   have cm0:wr.cell? ⟨w.heap.size+1,0,none⟩=some (.int .i64 x0):=ac hm 0
   have cm1:wr.cell? ⟨w.heap.size+1,1,none⟩=some (.int .i64 x1):=ac hm 1
   have dy0:wr.drew.cell? ⟨b,2,none⟩=some (.int .i64 y0):=cy0
   have dy1:wr.drew.cell? ⟨b,3,none⟩=some (.int .i64 y1):=cy1
   have dm0:wr.drew.cell? ⟨w.heap.size+1,0,none⟩=some (.int .i64 x0):=cm0
   have dm1:wr.drew.cell? ⟨w.heap.size+1,1,none⟩=some (.int .i64 x1):=cm1
   have HM:=aa hm
   have zb:b<wr.heap.size:=World.block_lt_of_cell? wr ⟨b,2,none⟩ cy0
   have zm:w.heap.size+1<wr.heap.size:=World.block_lt_of_cell? wr ⟨w.heap.size+1,0,none⟩ cm0
   clear h9 hl ha hc hm h1 h2
   go_upto_region 7 with fail
   go_region_held3 (fun w'=>w'.cell? ⟨b,2,none⟩=some (.int .i64 y0)∧w'.cell? ⟨b,3,none⟩=some (.int .i64 y1)∧w'.cell? ⟨w.heap.size+1,0,none⟩=some (.int .i64 x0)∧w'.cell? ⟨w.heap.size+1,1,none⟩=some (.int .i64 x1))
    (first | with_reducible exact⟨cy0,cy1,cm0,cm1⟩ | with_reducible exact⟨dy0,dy1,dm0,dm1⟩ | with_reducible exact⟨ey0,ey1,em0,em1⟩)
    (first
      | (go_at_call 255;with_reducible refine(HR.out _).mono ?_;rintro e w2 ⟨rfl,q,os,h8⟩
         have h0:=EX wr.heap.size wr.drew q os (ah _)
         rw[← h8]at h0
         have ey0:w2.cell? ⟨b,2,none⟩=some (.int .i64 y0):=(h0.below.cell (p:=⟨b,2,none⟩) zb).trans dy0
         have ey1:w2.cell? ⟨b,3,none⟩=some (.int .i64 y1):=(h0.below.cell (p:=⟨b,3,none⟩) zb).trans dy1
         have em0:w2.cell? ⟨w.heap.size+1,0,none⟩=some (.int .i64 x0):=(h0.below.cell (p:=⟨w.heap.size+1,0,none⟩) zm).trans dm0
         have em1:w2.cell? ⟨w.heap.size+1,1,none⟩=some (.int .i64 x1):=(h0.below.cell (p:=⟨w.heap.size+1,1,none⟩) zm).trans dm1
         have ho:=aa h8
         clear h8))
   have h4:Blk w2 (w.heap.size+1) 222 #[.int .i64 x0,.int .i64 x1]:=h0.blk HM.out (by simp) (by simp)
   have hj:Blk w2 w.heap.size 222 #[.int .i64 0,.int .i64 0]:=h0.blk h6.out (by simp) (by simp)
   have hk:Below w.heap.size w w2:=HB.out.trans (Below.mono (w:=wr) ⟨h0.below.os,h0.below.tape,h0.below.output,h0.below.size,h0.below.block⟩ HB.out.size)
   have fm0:=ae h4 0
   have fm1:=ae h4 1
   have he:=aa hj
   have hg:=aa hk
   have hh:=aa h4
   clear cy0 cy1 cm0 cm1 dy0 dy1 dm0 dm1 h0 h4 hj hk HR ho zb zm HM h6 HB
   by_cases e:r<0
   ·have dr:decide (r<0)=true:=decide_eq_true e
    have hz:=hP.out
    rw[if_pos e]at hz
    subst hz
    have HS:=aa (au (au hh.out 0 (.int .i64 y0)) 1 (.int .i64 y1))
    have hn:Hid (Blk ((w2.setCell ⟨w.heap.size+1,0,none⟩ (.int .i64 y0)).setCell ⟨w.heap.size+1,1,none⟩ (.int .i64 y1)) w.heap.size 222 #[.int .i64 0,.int .i64 0]):=aa (by
     have h3:ak 0 [w.heap.size+1] [] w2 ((w2.setCell ⟨w.heap.size+1,0,none⟩ (.int .i64 y0)).setCell ⟨w.heap.size+1,1,none⟩ (.int .i64 y1)):=((ak.refl 0 [w.heap.size+1] [] w2).set (p:=⟨w.heap.size+1,0,none⟩) (Nat.zero_le _) (by simp) (.int .i64 y0)).set (p:=⟨w.heap.size+1,1,none⟩) (Nat.zero_le _) (by simp) (.int .i64 y1)
     exact h3.blk he.out (by simp) (by simp))
    have h5:=aa ((hg.out.setCell (p:=⟨w.heap.size+1,0,none⟩) (Nat.le_succ _) (.int .i64 y0)).setCell (p:=⟨w.heap.size+1,1,none⟩) (Nat.le_succ _) (.int .i64 y1))
    clear hP
    go_wp2_with fail
    go_roundw
    case rel=>exact⟨.inr ⟨by go_num,HS.out⟩,hn.out,h5.out⟩
    case measure=>simp[intOf]
   ·have dr:decide (r<0)=false:=decide_eq_false e
    have hz:=hP.out
    rw[if_neg e]at hz
    subst hz
    clear hP
    go_wp2_with fail
    go_roundw
    case rel=>exact⟨.inr ⟨by go_num,hh.out⟩,he.out,hg.out⟩
    case measure=>simp[intOf]
  ·have cm0:wr.cell? ⟨w.heap.size+1,0,none⟩=some (.int .i64 z.1):=ac hm 0
   have cm1:wr.cell? ⟨w.heap.size+1,1,none⟩=some (.int .i64 z.2):=ac hm 1
   have k0:wr.cell? ⟨w.heap.size,0,none⟩=some (.int .i64 0):=ac h1 0
   have k1:wr.cell? ⟨w.heap.size,1,none⟩=some (.int .i64 0):=ac h1 1
   have f0:=ae h1 0
   have f1:=ae h1 1
   have hs:=au (au h1 0 (.int .i64 z.1)) 1 (.int .i64 z.2)
   have q0:((wr.setCell ⟨w.heap.size,0,none⟩ (.int .i64 z.1)).setCell ⟨w.heap.size,1,none⟩ (.int .i64 z.2)).cell? ⟨w.heap.size,0,none⟩=some (.int .i64 z.1):=ac hs 0
   have q1:((wr.setCell ⟨w.heap.size,0,none⟩ (.int .i64 z.1)).setCell ⟨w.heap.size,1,none⟩ (.int .i64 z.2)).cell? ⟨w.heap.size,1,none⟩=some (.int .i64 z.2):=ac hs 1
   have h5:=aa ((HB.out.setCell (p:=⟨w.heap.size,0,none⟩) (ah _) (.int .i64 z.1)).setCell (p:=⟨w.heap.size,1,none⟩) (ah _) (.int .i64 z.2))
   clear h9 hl ha hc hm h1 h2 hs HR hP HB h6
   go_wp2_with fail
   (try simp only[Exit.inBlock,Exit.then])
   refine bodyPost_ret (v:=.agg #[.int .i64 z.1,.int .i64 z.2]) ?_ rfl ⟨rfl,h5.out⟩
   simp[results,Tryz.results257,go_sem,q0,q1]
def lL(S M:List (Nat×Nat)):Prop:=Fst (hd M) (hd S)
theorem ET{S M:List (Nat×Nat)}(hS:∀t∈S,t.1<4611686018427387904)(h:lL S M):M≠ []∧jP S M=(hd M,S,M.drop 1):=by
 unfold lL Fst at h
 match S,M,hS,h with
 | [], [],_,h=>simp[hd]at h
 | s :: S, [],hS,h=>
   have:=hS s List.mem_cons_self
   simp[hd]at h
   omega
 | [],m :: M,_,_=>exact⟨by simp,rfl⟩
 | s :: S,m :: M,_,h=>
   refine⟨by simp,?_⟩
   have h2:m.1<s.1∨(m.1=s.1∧m.2<s.2):=h
   show(if m.1<s.1∨(m.1=s.1∧m.2<s.2)then(m,s :: S,M)else(s,S,m :: M))=_
   rw[if_pos h2]
   rfl
theorem yR{S M:List (Nat×Nat)}(hM:∀t∈M,t.1<4611686018427387904)(hS:∀t∈S,t.1<4611686018427387904)(h0:S≠ []∨M≠ [])(h1:∀t∈S,∀u∈M,t.2≠u.2)(h:¬lL S M):
 S≠ []∧jP S M=(hd S,S.drop 1,M)∧¬((hd S).1=(hd M).1∧(hd S).2=(hd M).2):=by
 unfold lL Fst at h
 match S,M,hS,hM,h0,h1,h with
 | [], [],_,_,h0,_,_=>simp at h0
 | s :: S, [],hS,_,_,_,h=>
   have:=hS s List.mem_cons_self
   refine⟨by simp,rfl,?_⟩
   show ¬(s.1=9223372036854775807∧s.2=0)
   omega
 | [],m :: M,_,hM,_,_,h=>
   have:=hM m List.mem_cons_self
   exfalso
   simp[hd]at h
   omega
 | s :: S,m :: M,_,_,_,h1,h=>
   have h0:=h1 s List.mem_cons_self m List.mem_cons_self
   refine⟨by simp,?_,fun hc=>h0 hc.2⟩
   have h2:¬(m.1<s.1∨(m.1=s.1∧m.2<s.2)):=h
   show(if m.1<s.1∨(m.1=s.1∧m.2<s.2)then(m,s :: S,M)else(s,S,m :: M))=_
   rw[if_neg h2]
   rfl
theorem pF{w1 W:World}(h:ak w1.heap.size [] [] w1 W)(o:Obj):ak w1.heap.size [] [] w1 (W.alloc o):=h.alloc h.size o
theorem eZ{w1 W:World}(h:ak w1.heap.size [] [] w1 W):ak w1.heap.size [] [] w1 W.drew:=h.drew
theorem Gv{w1 W:World}{b o:Nat}(h:ak w1.heap.size [] [] w1 W)(hp:w1.heap.size≤b)(v:Value):ak w1.heap.size [] [] w1 (W.setCell ⟨b,o,none⟩ v):=
 h.after ((ak.refl w1.heap.size [b] [] W).set (p:=⟨b,o,none⟩) hp (by simp) v) (ah _) (fun i hi=>.inr (by rw[List.mem_singleton.1 hi];exact hp)) (fun t ht=>absurd ht (by simp))
theorem wl{w1 W W2:World}(h:ak w1.heap.size [] [] w1 W)(hb:Below W.heap.size W W2):ak w1.heap.size [] [] w1 W2:=h.after (am hb) h.size (fun i hi=>absurd hi (by simp)) (fun t ht=>absurd ht (by simp))
theorem dS{W:World}{g:Nat}{t:TypeId}{cs:Array Value}(h:Blk W g t cs)(o:Obj):Blk (W.alloc o) g t cs:=(heap_alloc_old W o (ay h)).trans h
theorem jH{W:World}{g:Nat}{t:TypeId}{cs:Array Value}(h:Blk W g t cs):Blk W.drew g t cs:=h
theorem dV{W W2:World}(hb:Below W.heap.size W W2){g:Nat}{t:TypeId}{cs:Array Value}(h:Blk W g t cs):Blk W2 g t cs:=(hb.block g (ay h)).trans h
theorem aC(w:World){b g o:Nat}(v:Value)(h:b≠g):(w.setCell ⟨g,o,none⟩ v).heap[b]? =w.heap[b]? :=Below.heap_setCell w ⟨g,o,none⟩ v b h
theorem aI{W:World}{g g2:Nat}{t t2:TypeId}{cs cs2:Array Value}(h:Blk W g t cs)(k:Blk W g2 t2 cs2)(ht:t≠t2)(e:g=g2):False:=by
 subst e
 unfold Blk at h k
 rw[h]at k
 injection k with k
 injection k with _ k2
 exact ht k2
theorem Jd:Tryz.prog.stoodInHeld 222=false:=by kernel_rfl
theorem BD:Tryz.prog.underlying 222=some (.struct (Tryz.prog.fieldsOf 222)):=by simp[Program.fieldsOf,Tryz.underlying222]
theorem D4(a b:Int)(w:World):(binOp .eql 222 (.agg #[.int .i64 a,.int .i64 b]) (.agg #[.int .i64 a,.int .i64 b])).run Tryz.prog w=.ok (.bool true) w:=by
 rw[run_eql_struct,run_equalIn_agg w 9999 222 _ _ BD Jd]
 simp[Program.fieldsOf,Tryz.underlying222,Op.eqFields,part,go_sem]
theorem zC(a b c d:Int)(h:¬(a=c∧b=d))(w:World):(binOp .eql 222 (.agg #[.int .i64 a,.int .i64 b]) (.agg #[.int .i64 c,.int .i64 d])).run Tryz.prog w=.ok (.bool false) w:=by
 rw[run_eql_struct,run_equalIn_agg w 9999 222 _ _ BD Jd]
 by_cases e:a=c
 ·have e2:b≠d:=fun e2=>h ⟨e,e2⟩
  simp[Program.fieldsOf,Tryz.underlying222,Op.eqFields,part,go_sem,e,e2]
 ·simp[Program.fieldsOf,Tryz.underlying222,Op.eqFields,part,go_sem,e]
theorem ij{W:World}{g:Nat}(h:Blk W g 222 #[.int .i64 0,.int .i64 0]):Blk W g 222 #[.int .i64 0,.int .i64 0]:=h
theorem F0{W:World}{g:Nat}{t:TypeId}{u v:Value}(h:Blk W g t #[u,v]):W.cell? ⟨g,0,none⟩=some u∧W.cell? ⟨g,1,none⟩=some v∧W.frozen? ⟨g,0,none⟩=false∧W.frozen? ⟨g,1,none⟩=false:=
 ⟨(ac h 0).trans rfl,(ac h 1).trans rfl,ae h 0,ae h 1⟩
theorem Cp(w:World)(B bS bM gS gM p q N:Nat)(AS:Option Addr)(LS LM:List (Nat×Nat))
 (hS:Blk w bS 218 #[.slice AS (LS.length - p:Nat) (LS.length - p:Nat)]) (hM:Blk w bM 218 #[.slice (some ⟨gM,q*2,none⟩) (LM.length - q:Nat) (N - q:Nat)])
 (tS:ew w gS LS) (tM:ew w gM LM) (hP:p<LS.length→AS=some ⟨gS,p*2,none⟩) (hp:p≤LS.length) (hq:q≤LM.length) (hN:q+2≤N) (H0:LM.length≤N) (hL:LS.length≤1000000) (H1:N≤1000000)
 (hQ:∀t∈LS,t.1<4611686018427387904) (hV:∀t∈LM,t.1<4611686018427387904) (hR:∀t∈LS,∀u∈LM,t.2≠u.2) (hZ:p<LS.length∨q<LM.length) (hD:B≤bS) (hC:B≤bM) (hE:bS≠bM):
 Calls Tryz.prog 256 #[.pointer (some ⟨bS,0,none⟩),.pointer (some ⟨bM,0,none⟩)] w fun e w'=>∃x:Nat×Nat,e=.returned (.agg #[.int .i64 x.1,.int .i64 x.2])∧ak B [bS,bM] [] w w'∧
  ((p<LS.length∧jP (LS.drop p) (LM.drop q)=(x,LS.drop (p+1),LM.drop q)∧(∃ A,Blk w' bS 218 #[.slice A (LS.length - (p+1):Nat) (LS.length - (p+1):Nat)]∧(p+1<LS.length→A=some ⟨gS,(p+1)*2,none⟩))∧Blk w' bM 218 #[.slice (some ⟨gM,q*2,none⟩) (LM.length - q:Nat) (N - q:Nat)])∨
   (q<LM.length∧jP (LS.drop p) (LM.drop q)=(x,LS.drop p,LM.drop (q+1))∧Blk w' bS 218 #[.slice AS (LS.length - p:Nat) (LS.length - p:Nat)]∧Blk w' bM 218 #[.slice (some ⟨gM,(q+1)*2,none⟩) (LM.length - (q+1):Nat) (N - (q+1):Nat)])):=by
 have hy:=aa fun(w1:World) (h:ew w1 gS LS)=>wk w1 AS gS p (LS.length - p) LS h hP hp hL
 have hk:=aa fun(w1:World) (h:ew w1 gM LM)=>wk w1 (some ⟨gM,q*2,none⟩) gM q (N - q) LM h (fun _=>rfl) hq (by omega)
 have hl:=aa fun(w1:World) (b:Nat)=>AY w1 b 2 (hd (LS.drop p)) (hd (LM.drop q))
 obtain⟨s,hs⟩:∃s,s=hd (LS.drop p):=⟨_,rfl⟩
 obtain⟨m,hm⟩:∃m,m=hd (LM.drop q):=⟨_,rfl⟩
 obtain⟨z,hz⟩:∃z,z=lx s m:=⟨_,rfl⟩
 obtain⟨kS,hJ⟩:∃k,k=LS.length - p:=⟨_,rfl⟩
 obtain⟨kM,hI⟩:∃k,k=LM.length - q:=⟨_,rfl⟩
 obtain⟨cM,hF⟩:∃k,k=N - q:=⟨_,rfl⟩
 rw[← hs]at hy hl
 rw[← hm]at hk hl
 rw[← hz]at hl
 rw[← hJ]at hy hS
 rw[← hI,←hF]at hk hM
 have TS:=aa tS
 have TM:=aa tM
 have HS:=aa hS
 have HM:=aa hM
 have sl0:w.cell? ⟨bS,0,none⟩=some (.slice AS kS kS):=ac hS 0
 have ml0:w.cell? ⟨bM,0,none⟩=some (.slice (some ⟨gM,q*2,none⟩) kM cM):=ac hM 0
 have zS:=ay hS
 have zM:=ay hM
 have hB:Hid (∀ (w1:World) (b:Nat),w1.cell? ⟨b,0,none⟩=some (.int .i64 s.1)→w1.cell? ⟨b,1,none⟩=some (.int .i64 s.2)→w1.cell? ⟨b,2,none⟩=some (.int .i64 m.1)→w1.cell? ⟨b,3,none⟩=some (.int .i64 m.2)→Calls Tryz.prog 257 #[.slice (some ⟨b,0,none⟩) 2 2,.func (.func 255) #[] #[]] w1 fun e w'=>e=.returned (.agg #[.int .i64 z.1,.int .i64 z.2])∧Below w1.heap.size w1 w'):=aa fun w1 b=>hl.out w1 b
 have EQ:Hid (s=hd (LS.drop p)∧m=hd (LM.drop q)∧z=lx s m∧kS=LS.length - p∧kM=LM.length - q∧cM=N - q):=aa ⟨hs,hm,hz,hJ,hI,hF⟩
 clear hS hM tS tM hl hs hm hz hJ hI hF
 go_enter Tryz.func256,Tryz.ntmps256
 go_wp2_with fail
 obtain⟨w1,hx⟩:∃w1,w1=w.alloc (.cells #[.int .i64 0,.int .i64 0] 222):=⟨_,rfl⟩
 have st0:ak w.heap.size [] [] w w1:=by rw[hx];exact(ak.refl w.heap.size [] [] w).alloc (ah _) _
 have hO:Hid (Blk w1 w.heap.size 222 #[.int .i64 0,.int .i64 0]):=aa (ee hx)
 have ST0:=aa st0
 have st1:ak w1.heap.size [] [] w1 w1:=ak.refl _ _ _ _
 have z1:w.heap.size<w1.heap.size:=ay hO.out
 have CS:Hid (∀ W,ak w1.heap.size [] [] w1 W→W.cell? ⟨bS,0,none⟩=some (.slice AS kS kS)):=aa fun W h=>(h.below.cell (p:=⟨bS,0,none⟩) (Nat.lt_trans zS z1)).trans ((st0.below.cell (p:=⟨bS,0,none⟩) zS).trans sl0)
 have CM:Hid (∀ W,ak w1.heap.size [] [] w1 W→W.cell? ⟨bM,0,none⟩=some (.slice (some ⟨gM,q*2,none⟩) kM cM)):=aa fun W h=>(h.below.cell (p:=⟨bM,0,none⟩) (Nat.lt_trans zM z1)).trans ((st0.below.cell (p:=⟨bM,0,none⟩) zM).trans ml0)
 have RS:Hid (∀ W,ak w1.heap.size [] [] w1 W→ew W gS LS):=aa fun W h=>h.trow (st0.trow TS.out (by simp)) (by simp)
 have RM:Hid (∀ W,ak w1.heap.size [] [] w1 W→ew W gM LM):=aa fun W h=>h.trow (st0.trow TM.out (by simp)) (by simp)
 have sl1:=CS.out w1 st1
 have ml1:=CM.out w1 st1
 rw[← hx]
 clear hx st0 sl0 ml0
 go_cut [3]from 4 to 9 (fun s3 wx=>∃h,s3=.pointer (some ⟨h,0,none⟩)∧Blk wx h 222 #[.int .i64 z.1,.int .i64 z.2]∧ak w1.heap.size [] [] w1 wx)
 case first=>
  go_region_held3 (fun w'=>w'.cell? ⟨bS,0,none⟩=some (.slice AS kS kS)∧w'.cell? ⟨bM,0,none⟩=some (.slice (some ⟨gM,q*2,none⟩) kM cM))
   (exact⟨CS.out _ (by repeat (first | with_reducible assumption | with_reducible refine eZ ?_ | with_reducible refine pF ?_ _ | with_reducible refine Gv ?_ ?_ _ | omega)),CM.out _ (by repeat (first | with_reducible assumption | with_reducible refine eZ ?_ | with_reducible refine pF ?_ _ | with_reducible refine Gv ?_ ?_ _ | omega))⟩)
   (first
     | (go_at_call 258;with_reducible refine(hy.out _ (RS.out _ (by repeat (first | with_reducible assumption | with_reducible refine eZ ?_ | with_reducible refine pF ?_ _)))).mono ?_;rintro e w2 ⟨rfl,hb⟩
        have st2:ak w1.heap.size [] [] w1 w2:=wl (by repeat (first | with_reducible assumption | with_reducible refine eZ ?_ | with_reducible refine pF ?_ _)) hb
        have z2:=st2.size
        (try ((first | with_reducible have hT:=ij (dV hb (ag _ _ _)) | with_reducible have hT:=ij (dV hb (jH (ag _ _ _))) | with_reducible have hT:=ij (dV hb (dS (ag _ _ _) _)) | with_reducible have hT:=ij (dV hb (jH (dS (ag _ _ _) _))) | with_reducible have hT:=ij (dV hb (hT)) | with_reducible have hT:=ij (dV hb (jH hT)) | with_reducible have hT:=ij (dV hb (dS hT _)) | with_reducible have hT:=ij (dV hb (jH (dS hT _))));obtain⟨hn,ho,h7,h8⟩:=F0 hT;(try rw[World.size_alloc]at hn ho h7 h8))))
     | (go_at_call 258;with_reducible refine(hk.out _ (RM.out _ (by repeat (first | with_reducible assumption | with_reducible refine eZ ?_ | with_reducible refine pF ?_ _)))).mono ?_;rintro e w3 ⟨rfl,hc⟩
        have st3:ak w1.heap.size [] [] w1 w3:=wl (by repeat (first | with_reducible assumption | with_reducible refine eZ ?_ | with_reducible refine pF ?_ _)) hc
        have z3:=st3.size
        (try ((first | with_reducible have hT:=ij (dV hc (ag _ _ _)) | with_reducible have hT:=ij (dV hc (jH (ag _ _ _))) | with_reducible have hT:=ij (dV hc (dS (ag _ _ _) _)) | with_reducible have hT:=ij (dV hc (jH (dS (ag _ _ _) _))) | with_reducible have hT:=ij (dV hc (hT)) | with_reducible have hT:=ij (dV hc (jH hT)) | with_reducible have hT:=ij (dV hc (dS hT _)) | with_reducible have hT:=ij (dV hc (jH (dS hT _))));obtain⟨hn,ho,h7,h8⟩:=F0 hT;(try rw[World.size_alloc]at hn ho h7 h8))))
     | (go_at_call 257;refine(hB.out _ _ (by simp) (by simp) (by simp) (by simp)).mono ?_;rintro e w4 ⟨rfl,he⟩
        have st4:ak w1.heap.size [] [] w1 w4:=wl (by repeat (first | with_reducible assumption | with_reducible refine eZ ?_ | with_reducible refine pF ?_ _)) he
        have z4:=st4.size
        (try ((first | with_reducible have hT:=ij (dV he (ag _ _ _)) | with_reducible have hT:=ij (dV he (jH (ag _ _ _))) | with_reducible have hT:=ij (dV he (dS (ag _ _ _) _)) | with_reducible have hT:=ij (dV he (jH (dS (ag _ _ _) _))) | with_reducible have hT:=ij (dV he (hT)) | with_reducible have hT:=ij (dV he (jH hT)) | with_reducible have hT:=ij (dV he (dS hT _)) | with_reducible have hT:=ij (dV he (jH (dS hT _))));obtain⟨hn,ho,h7,h8⟩:=F0 hT;(try rw[World.size_alloc]at hn ho h7 h8)))))
  all_goals go_wp2_with fail
  all_goals go_meet
  all_goals refine⟨_,rfl,?_,(by repeat (first | with_reducible assumption | with_reducible refine eZ ?_ | with_reducible refine pF ?_ _ | with_reducible refine Gv ?_ ?_ _ | omega))⟩
  all_goals (first | exact ag _ _ _ | exact au (au hT 0 _) 1 _ | (have h9:=au (au hT 0 (.int .i64 z.1)) 1 (.int .i64 z.2);simp only[World.size_alloc]at h9;exact h9))
 case rest=>
  obtain⟨h,rfl,ht,hr⟩:=hcut
  have hv:wc.cell? ⟨h,0,none⟩=some (.int .i64 z.1):=ac ht 0
  have hw:wc.cell? ⟨h,1,none⟩=some (.int .i64 z.2):=ac ht 1
  have mlc:=CM.out wc hr
  have hh:wc.drew.cell? ⟨h,0,none⟩=some (.int .i64 z.1):=hv
  have hj:wc.drew.cell? ⟨h,1,none⟩=some (.int .i64 z.2):=hw
  have mld:wc.drew.cell? ⟨bM,0,none⟩=some (.slice (some ⟨gM,q*2,none⟩) kM cM):=mlc
  have zh:=ay ht
  have zMc:bM<wc.heap.size:=Nat.lt_of_lt_of_le (Nat.lt_trans zM z1) hr.size
  have HT:=aa ht
  have rMd:ew wc.drew gM LM:=RM.out _ (eZ hr)
  clear ht sl1 ml1
  obtain⟨e1,e2,e3,e4,e5,e6⟩:=EQ.out
  by_cases hf:lL (LS.drop p) (LM.drop q)
  ·have hz:z=m:=by
    rw[e3]
    unfold lx
    rw[if_pos ((qN m s).2 (by rw[e1,e2];exact hf))]
   subst hz
   have hg:=ET (fun t ht=>hQ t (List.mem_of_mem_drop ht)) hf
   have q13:=D4 (z.1:Int) (z.2:Int)
   have hY:q<LM.length:=by
    rcases Nat.lt_or_ge q LM.length with h1 | h1
    ·exact h1
    ·exact absurd (List.drop_eq_nil_of_le h1) hg.1
   have H4:1≤kM:=by omega
   have H2:kM≤cM:=by omega
   have hW:2≤cM:=by omega
   have PK:=aa hg
   have EQ2:Hid (kS=LS.length - p∧kM=LM.length - q∧cM=N - q):=aa ⟨e4,e5,e6⟩
   have E0:=aa e2
   clear hg hf e1 e2 e3 e4 e5 e6
   go_wp2_with fail
   go_region_held3 (fun w'=>w'.cell? ⟨h,0,none⟩=some (.int .i64 z.1)∧w'.cell? ⟨h,1,none⟩=some (.int .i64 z.2)∧w'.cell? ⟨bM,0,none⟩=some (.slice (some ⟨gM,q*2,none⟩) kM cM))
    (first | with_reducible exact⟨hv,hw,mlc⟩ | with_reducible exact⟨hh,hj,mld⟩ | with_reducible exact⟨hG,hH,mle⟩)
    (first
      | (go_at_call 258;with_reducible refine(hk.out _ rMd).mono ?_;rintro e w5 ⟨rfl,h6⟩
         have hG:w5.cell? ⟨h,0,none⟩=some (.int .i64 z.1):=(h6.cell (p:=⟨h,0,none⟩) zh).trans hh
         have hH:w5.cell? ⟨h,1,none⟩=some (.int .i64 z.2):=(h6.cell (p:=⟨h,1,none⟩) zh).trans hj
         have mle:w5.cell? ⟨bM,0,none⟩=some (.slice (some ⟨gM,q*2,none⟩) kM cM):=(h6.cell (p:=⟨bM,0,none⟩) zMc).trans mld
         have st5:ak w1.heap.size [] [] w1 w5:=wl (eZ hr) h6))
   have M5:Blk w5 bM 218 #[.slice (some ⟨gM,q*2,none⟩) kM cM]:=st5.blk (ST0.out.blk HM.out (by simp) (by simp)) (by simp) (by simp)
   have S5:Blk w5 bS 218 #[.slice AS kS kS]:=st5.blk (ST0.out.blk HS.out (by simp) (by simp)) (by simp) (by simp)
   have R5:Blk w5 w.heap.size 222 #[.int .i64 0,.int .i64 0]:=st5.blk hO.out (by simp) (by simp)
   have T5:Blk w5 h 222 #[.int .i64 z.1,.int .i64 z.2]:=dV h6 HT.out
   have fM5:=ae M5 0
   clear h6 mlc mld hh hj hv hw
   obtain⟨w6,h0⟩:∃w6,w6=w5.setCell ⟨bM,0,none⟩ (.slice (some ⟨gM,q*2+2,none⟩) (kM - 1) (cM - 1)):=⟨_,rfl⟩
   have st6:ak B [bS,bM] [] w5 w6:=by rw[h0];exact(ak.refl B [bS,bM] [] w5).set (p:=⟨bM,0,none⟩) (by first | exact hD | exact hC) (by simp) _
   have N6:Blk w6 bM 218 #[(.slice (some ⟨gM,q*2+2,none⟩) (kM - 1) (cM - 1))]:=by rw[h0];exact au M5 0 _
   have O6:Blk w6 bS 218 #[.slice AS kS kS]:=by
    rw[h0]
    exact(aC w5 _ hE).trans S5
   have ha:h≠bM:=fun e=>aI T5 M5 (by decide) e
   have h4:w.heap.size≠bM:=fun e=>aI R5 M5 (by decide) e
   have T6:Blk w6 h 222 #[.int .i64 z.1,.int .i64 z.2]:=by rw[h0];exact(aC w5 _ ha).trans T5
   have R6:Blk w6 w.heap.size 222 #[.int .i64 0,.int .i64 0]:=by rw[h0];exact(aC w5 _ h4).trans R5
   have c60:(w5.setCell ⟨bM,0,none⟩ (.slice (some ⟨gM,q*2+2,none⟩) (kM - 1) (cM - 1))).cell? ⟨h,0,none⟩=some (.int .i64 z.1):=by rw[← h0];exact ac T6 0
   have c61:(w5.setCell ⟨bM,0,none⟩ (.slice (some ⟨gM,q*2+2,none⟩) (kM - 1) (cM - 1))).cell? ⟨h,1,none⟩=some (.int .i64 z.2):=by rw[← h0];exact ac T6 1
   have r60:(w5.setCell ⟨bM,0,none⟩ (.slice (some ⟨gM,q*2+2,none⟩) (kM - 1) (cM - 1))).cell? ⟨w.heap.size,0,none⟩=some (.int .i64 0):=by rw[← h0];exact ac R6 0
   have r61:(w5.setCell ⟨bM,0,none⟩ (.slice (some ⟨gM,q*2+2,none⟩) (kM - 1) (cM - 1))).cell? ⟨w.heap.size,1,none⟩=some (.int .i64 0):=by rw[← h0];exact ac R6 1
   have f60:(w5.setCell ⟨bM,0,none⟩ (.slice (some ⟨gM,q*2+2,none⟩) (kM - 1) (cM - 1))).frozen? ⟨w.heap.size,0,none⟩=false:=by rw[← h0];exact ae R6 0
   have f61:(w5.setCell ⟨bM,0,none⟩ (.slice (some ⟨gM,q*2+2,none⟩) (kM - 1) (cM - 1))).frozen? ⟨w.heap.size,1,none⟩=false:=by rw[← h0];exact ae R6 1
   have R7:=au (au R6 0 (.int .i64 z.1)) 1 (.int .i64 z.2)
   have ST:Hid (ak B [bS,bM] [] w ((w6.setCell ⟨w.heap.size,0,none⟩ (.int .i64 z.1)).setCell ⟨w.heap.size,1,none⟩ (.int .i64 z.2))):=aa (by
    have a1:ak B [bS,bM] [] w w1:=ST0.out.mono (by omega) (by simp) (by simp)
    have a2:ak B [bS,bM] [] w w5:=a1.after st5 (by omega) (by simp) (by simp)
    have a3:ak B [bS,bM] [] w w6:=a2.trans st6
    exact a3.after (((ak.refl B [w.heap.size] [] w6).set (p:=⟨w.heap.size,0,none⟩) (by show B≤w.heap.size;omega) (by simp) _).set (p:=⟨w.heap.size,1,none⟩) (by show B≤w.heap.size;omega) (by simp) _) (ah _) (by intro i hi;rw[List.mem_singleton.1 hi];exact .inr (ah _)) (by simp))
   have N7:Hid (Blk ((w6.setCell ⟨w.heap.size,0,none⟩ (.int .i64 z.1)).setCell ⟨w.heap.size,1,none⟩ (.int .i64 z.2)) bM 218 #[(.slice (some ⟨gM,q*2+2,none⟩) (kM - 1) (cM - 1))]):=aa ((aC _ _ h4.symm).trans ((aC _ _ h4.symm).trans N6))
   have h5:bS≠w.heap.size:=fun e=>aI R6 O6 (by decide) e.symm
   have O7:Hid (Blk ((w6.setCell ⟨w.heap.size,0,none⟩ (.int .i64 z.1)).setCell ⟨w.heap.size,1,none⟩ (.int .i64 z.2)) bS 218 #[.slice AS kS kS]):=aa ((aC _ _ h5).trans ((aC _ _ h5).trans O6))
   have q0:=(ac R7 0).trans (rfl:_=some (Value.int .i64 z.1))
   have q1:=(ac R7 1).trans (rfl:_=some (Value.int .i64 z.2))
   rw[h0]at ST N7 O7 q0 q1
   clear R7 R6 T6 O6 N6 st6 h0 M5 S5 R5 T5
   go_wp2_with fail
   (try simp only[Exit.inBlock,Exit.then])
   refine bodyPost_ret (v:=.agg #[.int .i64 z.1,.int .i64 z.2]) ?_ rfl ?_
   ·simp[results,Tryz.results256,go_sem,q0,q1]
   ·obtain⟨e1,e2,e3⟩:=EQ2.out
    refine⟨z,rfl,ST.out,.inr ⟨hY,?_,?_,?_⟩⟩
    ·rw[PK.out.2,List.drop_drop,←E0.out]
    ·rw[← e1]
     exact O7.out
    ·rw[show LM.length - (q+1)=kM - 1 by omega,show N - (q+1)=cM - 1 by omega,show(q+1)*2=q*2+2 by omega]
     exact N7.out
  ·have hz:z=s:=by
    rw[e3]
    unfold lx
    rw[if_neg (mt (qN m s).1 (by rw[e1,e2];exact hf))]
   subst hz
   have hg:=yR (fun t ht=>hV t (List.mem_of_mem_drop ht)) (fun t ht=>hQ t (List.mem_of_mem_drop ht)) (by
    rcases hZ with h1 | h1
    ·left
     intro h2
     have:=congrArg List.length h2
     rw[List.length_drop,List.length_nil]at this
     omega
    ·right
     intro h2
     have:=congrArg List.length h2
     rw[List.length_drop,List.length_nil]at this
     omega) (fun t ht u hu=>hR t (List.mem_of_mem_drop ht) u (List.mem_of_mem_drop hu)) hf
   have hK:p<LS.length:=by
    rcases Nat.lt_or_ge p LS.length with h1 | h1
    ·exact h1
    ·exact absurd (List.drop_eq_nil_of_le h1) hg.1
   have hA:=hP hK
   subst hA
   have q13:=zC (z.1:Int) (z.2:Int) (m.1:Int) (m.2:Int) (by
    have h3:=hg.2.2
    rw[← e1,←e2]at h3
    omega)
   have H5:1≤kS:=by omega
   have PK:=aa hg
   have EQ2:Hid (kS=LS.length - p∧kM=LM.length - q∧cM=N - q):=aa ⟨e4,e5,e6⟩
   have E0:=aa e1
   clear hg hf e1 e2 e3 e4 e5 e6
   go_wp2_with fail
   go_region_held3 (fun w'=>w'.cell? ⟨h,0,none⟩=some (.int .i64 z.1)∧w'.cell? ⟨h,1,none⟩=some (.int .i64 z.2)∧w'.cell? ⟨bM,0,none⟩=some (.slice (some ⟨gM,q*2,none⟩) kM cM))
    (first | with_reducible exact⟨hv,hw,mlc⟩ | with_reducible exact⟨hh,hj,mld⟩ | with_reducible exact⟨hG,hH,mle⟩)
    (first
      | (go_at_call 258;with_reducible refine(hk.out _ rMd).mono ?_;rintro e w5 ⟨rfl,h6⟩
         have hG:w5.cell? ⟨h,0,none⟩=some (.int .i64 z.1):=(h6.cell (p:=⟨h,0,none⟩) zh).trans hh
         have hH:w5.cell? ⟨h,1,none⟩=some (.int .i64 z.2):=(h6.cell (p:=⟨h,1,none⟩) zh).trans hj
         have mle:w5.cell? ⟨bM,0,none⟩=some (.slice (some ⟨gM,q*2,none⟩) kM cM):=(h6.cell (p:=⟨bM,0,none⟩) zMc).trans mld
         have st5:ak w1.heap.size [] [] w1 w5:=wl (eZ hr) h6))
   have M5:Blk w5 bM 218 #[.slice (some ⟨gM,q*2,none⟩) kM cM]:=st5.blk (ST0.out.blk HM.out (by simp) (by simp)) (by simp) (by simp)
   have S5:Blk w5 bS 218 #[.slice (some ⟨gS,p*2,none⟩) kS kS]:=st5.blk (ST0.out.blk HS.out (by simp) (by simp)) (by simp) (by simp)
   have R5:Blk w5 w.heap.size 222 #[.int .i64 0,.int .i64 0]:=st5.blk hO.out (by simp) (by simp)
   have T5:Blk w5 h 222 #[.int .i64 z.1,.int .i64 z.2]:=dV h6 HT.out
   have fS5:=ae S5 0
   have sl5:w5.cell? ⟨bS,0,none⟩=some (.slice (some ⟨gS,p*2,none⟩) kS kS):=ac S5 0
   clear h6 mlc mld hh hj hv hw
   by_cases hX:kS=1
   ·subst hX
    obtain⟨w6,h0⟩:∃w6,w6=w5.setCell ⟨bS,0,none⟩ (.slice (some ⟨gS,p*2,none⟩) 0 0):=⟨_,rfl⟩
    have st6:ak B [bS,bM] [] w5 w6:=by rw[h0];exact(ak.refl B [bS,bM] [] w5).set (p:=⟨bS,0,none⟩) (by first | exact hD | exact hC) (by simp) _
    have N6:Blk w6 bS 218 #[(.slice (some ⟨gS,p*2,none⟩) 0 0)]:=by rw[h0];exact au S5 0 _
    have O6:Blk w6 bM 218 #[.slice (some ⟨gM,q*2,none⟩) kM cM]:=by
     rw[h0]
     exact(aC w5 _ hE.symm).trans M5
    have ha:h≠bS:=fun e=>aI T5 S5 (by decide) e
    have h4:w.heap.size≠bS:=fun e=>aI R5 S5 (by decide) e
    have T6:Blk w6 h 222 #[.int .i64 z.1,.int .i64 z.2]:=by rw[h0];exact(aC w5 _ ha).trans T5
    have R6:Blk w6 w.heap.size 222 #[.int .i64 0,.int .i64 0]:=by rw[h0];exact(aC w5 _ h4).trans R5
    have c60:(w5.setCell ⟨bS,0,none⟩ (.slice (some ⟨gS,p*2,none⟩) 0 0)).cell? ⟨h,0,none⟩=some (.int .i64 z.1):=by rw[← h0];exact ac T6 0
    have c61:(w5.setCell ⟨bS,0,none⟩ (.slice (some ⟨gS,p*2,none⟩) 0 0)).cell? ⟨h,1,none⟩=some (.int .i64 z.2):=by rw[← h0];exact ac T6 1
    have r60:(w5.setCell ⟨bS,0,none⟩ (.slice (some ⟨gS,p*2,none⟩) 0 0)).cell? ⟨w.heap.size,0,none⟩=some (.int .i64 0):=by rw[← h0];exact ac R6 0
    have r61:(w5.setCell ⟨bS,0,none⟩ (.slice (some ⟨gS,p*2,none⟩) 0 0)).cell? ⟨w.heap.size,1,none⟩=some (.int .i64 0):=by rw[← h0];exact ac R6 1
    have f60:(w5.setCell ⟨bS,0,none⟩ (.slice (some ⟨gS,p*2,none⟩) 0 0)).frozen? ⟨w.heap.size,0,none⟩=false:=by rw[← h0];exact ae R6 0
    have f61:(w5.setCell ⟨bS,0,none⟩ (.slice (some ⟨gS,p*2,none⟩) 0 0)).frozen? ⟨w.heap.size,1,none⟩=false:=by rw[← h0];exact ae R6 1
    have R7:=au (au R6 0 (.int .i64 z.1)) 1 (.int .i64 z.2)
    have ST:Hid (ak B [bS,bM] [] w ((w6.setCell ⟨w.heap.size,0,none⟩ (.int .i64 z.1)).setCell ⟨w.heap.size,1,none⟩ (.int .i64 z.2))):=aa (by
     have a1:ak B [bS,bM] [] w w1:=ST0.out.mono (by omega) (by simp) (by simp)
     have a2:ak B [bS,bM] [] w w5:=a1.after st5 (by omega) (by simp) (by simp)
     have a3:ak B [bS,bM] [] w w6:=a2.trans st6
     exact a3.after (((ak.refl B [w.heap.size] [] w6).set (p:=⟨w.heap.size,0,none⟩) (by show B≤w.heap.size;omega) (by simp) _).set (p:=⟨w.heap.size,1,none⟩) (by show B≤w.heap.size;omega) (by simp) _) (ah _) (by intro i hi;rw[List.mem_singleton.1 hi];exact .inr (ah _)) (by simp))
    have N7:Hid (Blk ((w6.setCell ⟨w.heap.size,0,none⟩ (.int .i64 z.1)).setCell ⟨w.heap.size,1,none⟩ (.int .i64 z.2)) bS 218 #[(.slice (some ⟨gS,p*2,none⟩) 0 0)]):=aa ((aC _ _ h4.symm).trans ((aC _ _ h4.symm).trans N6))
    have h5:bM≠w.heap.size:=fun e=>aI R6 O6 (by decide) e.symm
    have O7:Hid (Blk ((w6.setCell ⟨w.heap.size,0,none⟩ (.int .i64 z.1)).setCell ⟨w.heap.size,1,none⟩ (.int .i64 z.2)) bM 218 #[.slice (some ⟨gM,q*2,none⟩) kM cM]):=aa ((aC _ _ h5).trans ((aC _ _ h5).trans O6))
    have q0:=(ac R7 0).trans (rfl:_=some (Value.int .i64 z.1))
    have q1:=(ac R7 1).trans (rfl:_=some (Value.int .i64 z.2))
    rw[h0]at ST N7 O7 q0 q1
    clear R7 R6 T6 O6 N6 st6 h0 M5 S5 R5 T5
    go_wp2_with fail
    (try simp only[Exit.inBlock,Exit.then])
    refine bodyPost_ret (v:=.agg #[.int .i64 z.1,.int .i64 z.2]) ?_ rfl ?_
    ·simp[results,Tryz.results256,go_sem,q0,q1]
    ·obtain⟨e1,e2,e3⟩:=EQ2.out
     refine⟨z,rfl,ST.out,.inl ⟨hK,?_,⟨some ⟨gS,p*2,none⟩,?_,fun h=>by omega⟩,?_⟩⟩
     ·rw[PK.out.2.1,List.drop_drop,←E0.out]
     ·rw[show LS.length - (p+1)=0 by omega]
      exact N7.out
     ·rw[← e2,←e3]
      exact O7.out
   ·have H3:2≤kS:=by omega
    obtain⟨w6,h0⟩:∃w6,w6=w5.setCell ⟨bS,0,none⟩ (.slice (some ⟨gS,p*2+2,none⟩) (kS - 1) (kS - 1)):=⟨_,rfl⟩
    have st6:ak B [bS,bM] [] w5 w6:=by rw[h0];exact(ak.refl B [bS,bM] [] w5).set (p:=⟨bS,0,none⟩) (by first | exact hD | exact hC) (by simp) _
    have N6:Blk w6 bS 218 #[(.slice (some ⟨gS,p*2+2,none⟩) (kS - 1) (kS - 1))]:=by rw[h0];exact au S5 0 _
    have O6:Blk w6 bM 218 #[.slice (some ⟨gM,q*2,none⟩) kM cM]:=by
     rw[h0]
     exact(aC w5 _ hE.symm).trans M5
    have ha:h≠bS:=fun e=>aI T5 S5 (by decide) e
    have h4:w.heap.size≠bS:=fun e=>aI R5 S5 (by decide) e
    have T6:Blk w6 h 222 #[.int .i64 z.1,.int .i64 z.2]:=by rw[h0];exact(aC w5 _ ha).trans T5
    have R6:Blk w6 w.heap.size 222 #[.int .i64 0,.int .i64 0]:=by rw[h0];exact(aC w5 _ h4).trans R5
    have c60:(w5.setCell ⟨bS,0,none⟩ (.slice (some ⟨gS,p*2+2,none⟩) (kS - 1) (kS - 1))).cell? ⟨h,0,none⟩=some (.int .i64 z.1):=by rw[← h0];exact ac T6 0
    have c61:(w5.setCell ⟨bS,0,none⟩ (.slice (some ⟨gS,p*2+2,none⟩) (kS - 1) (kS - 1))).cell? ⟨h,1,none⟩=some (.int .i64 z.2):=by rw[← h0];exact ac T6 1
    have r60:(w5.setCell ⟨bS,0,none⟩ (.slice (some ⟨gS,p*2+2,none⟩) (kS - 1) (kS - 1))).cell? ⟨w.heap.size,0,none⟩=some (.int .i64 0):=by rw[← h0];exact ac R6 0
    have r61:(w5.setCell ⟨bS,0,none⟩ (.slice (some ⟨gS,p*2+2,none⟩) (kS - 1) (kS - 1))).cell? ⟨w.heap.size,1,none⟩=some (.int .i64 0):=by rw[← h0];exact ac R6 1
    have f60:(w5.setCell ⟨bS,0,none⟩ (.slice (some ⟨gS,p*2+2,none⟩) (kS - 1) (kS - 1))).frozen? ⟨w.heap.size,0,none⟩=false:=by rw[← h0];exact ae R6 0
    have f61:(w5.setCell ⟨bS,0,none⟩ (.slice (some ⟨gS,p*2+2,none⟩) (kS - 1) (kS - 1))).frozen? ⟨w.heap.size,1,none⟩=false:=by rw[← h0];exact ae R6 1
    have R7:=au (au R6 0 (.int .i64 z.1)) 1 (.int .i64 z.2)
    have ST:Hid (ak B [bS,bM] [] w ((w6.setCell ⟨w.heap.size,0,none⟩ (.int .i64 z.1)).setCell ⟨w.heap.size,1,none⟩ (.int .i64 z.2))):=aa (by
     have a1:ak B [bS,bM] [] w w1:=ST0.out.mono (by omega) (by simp) (by simp)
     have a2:ak B [bS,bM] [] w w5:=a1.after st5 (by omega) (by simp) (by simp)
     have a3:ak B [bS,bM] [] w w6:=a2.trans st6
     exact a3.after (((ak.refl B [w.heap.size] [] w6).set (p:=⟨w.heap.size,0,none⟩) (by show B≤w.heap.size;omega) (by simp) _).set (p:=⟨w.heap.size,1,none⟩) (by show B≤w.heap.size;omega) (by simp) _) (ah _) (by intro i hi;rw[List.mem_singleton.1 hi];exact .inr (ah _)) (by simp))
    have N7:Hid (Blk ((w6.setCell ⟨w.heap.size,0,none⟩ (.int .i64 z.1)).setCell ⟨w.heap.size,1,none⟩ (.int .i64 z.2)) bS 218 #[(.slice (some ⟨gS,p*2+2,none⟩) (kS - 1) (kS - 1))]):=aa ((aC _ _ h4.symm).trans ((aC _ _ h4.symm).trans N6))
    have h5:bM≠w.heap.size:=fun e=>aI R6 O6 (by decide) e.symm
    have O7:Hid (Blk ((w6.setCell ⟨w.heap.size,0,none⟩ (.int .i64 z.1)).setCell ⟨w.heap.size,1,none⟩ (.int .i64 z.2)) bM 218 #[.slice (some ⟨gM,q*2,none⟩) kM cM]):=aa ((aC _ _ h5).trans ((aC _ _ h5).trans O6))
    have q0:=(ac R7 0).trans (rfl:_=some (Value.int .i64 z.1))
    have q1:=(ac R7 1).trans (rfl:_=some (Value.int .i64 z.2))
    rw[h0]at ST N7 O7 q0 q1
    clear R7 R6 T6 O6 N6 st6 h0 M5 S5 R5 T5
    go_wp2_with fail
    (try simp only[Exit.inBlock,Exit.then])
    refine bodyPost_ret (v:=.agg #[.int .i64 z.1,.int .i64 z.2]) ?_ rfl ?_
    ·simp[results,Tryz.results256,go_sem,q0,q1]
    ·obtain⟨e1,e2,e3⟩:=EQ2.out
     refine⟨z,rfl,ST.out,.inl ⟨hK,?_,⟨some ⟨gS,(p+1)*2,none⟩,?_,fun _=>rfl⟩,?_⟩⟩
     ·rw[PK.out.2.1,List.drop_drop,←E0.out]
     ·rw[show LS.length - (p+1)=kS - 1 by omega,show(p+1)*2=p*2+2 by omega]
      exact N7.out
     ·rw[← e2,←e3]
      exact O7.out
end Go.Proofs.YthakcjehhlpjnaaGreat
