import Derived.Test.YthakcjehhlpjnaaGreatA04
import Derived.Test.YthakcjehhlpjnaaGreatA05
import Derived.Test.YthakcjehhlpjnaaGreatLx
import Derived.Shelf.SlSortCmp.WholeK
set_option maxHeartbeats 3200000
set_option maxRecDepth 100000
namespace Go.Proofs.YthakcjehhlpjnaaGreat
open Go.RowKit
def sj(x:Nat×Nat):List Value:= [.int .i64 x.1,.int .i64 x.2]
def dV(w:World)(g:Nat)(T:List (Nat×Nat)):Prop:=
 ∃cs,Blk w g 222 cs∧∀i,i<T.length→cs[i*2]? =some (.int .i64 (T.getD i (0,0)).1)∧cs[i*2+1]? =some (.int .i64 (T.getD i (0,0)).2)
theorem dV.cell0{w:World}{g:Nat}{T:List (Nat×Nat)}(h:dV w g T){i:Nat}(hi:i<T.length):w.cell? ⟨g,i*2,none⟩=some (.int .i64 (T.getD i (0,0)).1):=by
 obtain⟨cs,hb,hc⟩:=h
 rw[ac hb,(hc i hi).1]
theorem dV.cell1{w:World}{g:Nat}{T:List (Nat×Nat)}(h:dV w g T){i:Nat}(hi:i<T.length):w.cell? ⟨g,i*2+1,none⟩=some (.int .i64 (T.getD i (0,0)).2):=by
 obtain⟨cs,hb,hc⟩:=h
 rw[ac hb,(hc i hi).2]
theorem dV.frozen{w:World}{g:Nat}{T:List (Nat×Nat)}(h:dV w g T)(i:Nat):w.frozen? ⟨g,i,none⟩=false:=by
 obtain⟨cs,hb,hc⟩:=h
 exact ae hb i
theorem dV.lt{w:World}{g:Nat}{T:List (Nat×Nat)}(h:dV w g T):g<w.heap.size:=by
 obtain⟨cs,hb,hc⟩:=h
 exact aA hb
theorem ai.trow{B:Nat}{ps:List Nat}{w w':World}(h:ai B ps [] w w'){g:Nat}{T:List (Nat×Nat)}(hr:dV w g T)(hp:g∉ps):dV w' g T:=by
 obtain⟨cs,hb,hc⟩:=hr
 exact⟨cs,h.blk hb hp (by simp),hc⟩
theorem IM(T:List (Nat×Nat))(i:Nat)(h:i<T.length):T.toArray[i]! =T.getD i (0,0):=by
 rw[List.getD_eq_getElem?_getD,List.getElem?_eq_getElem h]
 simp[h]
theorem qx{w:World}{g:Nat}{T:List (Nat×Nat)}(h:dV w g T):Go.Sort.HoldsK sj 2 w g 0 T.toArray:=by
 intro t ht
 have h0:t<T.length*2:=by simpa using ht
 have hi:t / 2<T.length:=by omega
 refine⟨?_,h.frozen _⟩
 rw[Go.Sort.get_flatK sj 2 T.toArray t (by simpa using h0),IM T _ hi,Nat.zero_add]
 by_cases e:t % 2=0
 ·have h1:=h.cell0 hi
  rw[show t / 2*2=t by omega]at h1
  rw[h1,e]
  rfl
 ·have h1:=h.cell1 hi
  rw[show t / 2*2+1=t by omega]at h1
  rw[h1,show t % 2=1 by omega]
  rfl
theorem zd{w:World}{g:Nat}{T:List (Nat×Nat)}(h:dV w g T)(n:Nat)(d:Array (Nat×Nat))(os:Array Obj)(hs:d.size=T.length)(B:Nat)(hB:B≤g):
 dV (sortWorldK sj 2 w g 0 n d os) g d.toList∧ai B [g] [] w (sortWorldK sj 2 w g 0 n d os):=by
 have h6:=h.lt
 have hH:=holdsK_sortWorldK_c sj 2 w g 0 T.toArray d n os (qx h) h6 (by simpa using hs)
 have hz:=size_sortWorldK_c sj 2 w g 0 n d os
 have h2:∀k,k<w.heap.size→k≠g→(sortWorldK sj 2 w g 0 n d os).heap[k]? =w.heap[k]? :=by
  intro k hk h7
  unfold sortWorldK Go.Sort.putRowK Go.Sort.putRow Go.Sort.mapBlock Go.Sort.grow Go.Sort.ahead
  dsimp only
  rw[Array.getElem?_append_left (by simpa using hk),Array.getElem?_modify,if_neg (fun e=>h7 e.symm)]
 have h3:∃cs',Blk (sortWorldK sj 2 w g 0 n d os) g 222 cs':=by
  obtain⟨cs,hb,_⟩:=h
  unfold Blk at hb ⊢
  unfold sortWorldK Go.Sort.putRowK Go.Sort.putRow Go.Sort.mapBlock Go.Sort.grow Go.Sort.ahead
  dsimp only
  rw[Array.getElem?_append_left (by simpa using h6),Array.getElem?_modify,if_pos rfl,hb]
  exact⟨_,rfl⟩
 refine⟨?_,⟨⟨rfl,rfl,rfl,hz,fun k hk=>h2 k (by omega) (by omega)⟩,fun k cs t fr hh hk _=>(h2 k (Array.getElem?_eq_some_iff.1 hh).1 (by simpa using hk)).trans hh⟩⟩
 obtain⟨cs',h4⟩:=h3
 refine⟨cs',h4,fun i hi=> ?_⟩
 have h5:i<d.size:=by simpa using hi
 have e:d[i]! =d.toList.getD i (0,0):=by
  rw[← IM d.toList i hi]
 have h0:=(Go.Sort.HoldsK.cell hH h5 (c:=0) (by omega)).1
 have h1:=(Go.Sort.HoldsK.cell hH h5 (c:=1) (by omega)).1
 rw[ac h4,Nat.zero_add,e]at h0 h1
 exact⟨h0,h1⟩
theorem np(cf:Nat×Nat→Nat×Nat→Int)(R:Nat×Nat→Nat×Nat→Prop)(fn:Nat)(eg:∀args w,(callFunc fn args).run Tryz.prog w=.ok (.enter fn args) w)
 (hc:∀(x y:Nat×Nat) (w:World),Calls Tryz.prog fn #[.agg #[.int .i64 x.1,.int .i64 x.2],.agg #[.int .i64 y.1,.int .i64 y.2]] w fun e w'=>e=.returned (.int .i64 (cf x y))∧∃q os',w'=Go.Sort.grow (w.drewN q) os')
 (hR:∀x y,cf x y<0↔R x y) (h9:∀x,¬R x x) (hm:∀x y z,R x y→R y z→R x z) (hl:∀x y z,¬R x y→¬R y z→¬R x z) (hb:∀x y,¬R x y→x.2≠y.2→R y x)
 (w:World) (B g c:Nat) (T:List (Nat×Nat)) (h:dV w g T) (hB:B≤g) (hn:T.length≤1000000) (hd:(T.map Prod.snd).Nodup):
 Calls Tryz.prog 172 #[.slice (some ⟨g,0,none⟩) T.length c,.func (.func fn) #[] #[]] w fun e w'=>e=.returned (.tuple #[])∧∃T',T'.Perm T∧T'.Pairwise R∧dV w' g T'∧ai B [g] [] w w':=by
 have h7:∀x y,ltOf cf x y=true↔R x y:=fun x y=>by
  unfold ltOf
  rw[decide_eq_true_eq]
  exact hR x y
 have h6:∀x y,ltOf cf x y=false↔¬R x y:=fun x y=>by rw[← h7,Bool.not_eq_true]
 have hO:Go.Sort.SWO (ltOf cf):=by
  refine⟨fun x=>(h6 x x).2 (h9 x),fun x y z h1 h2=>(h7 x z).2 (hm x y z ((h7 x y).1 h1) ((h7 y z).1 h2)),fun x y z h1 h2=>(h6 x z).2 (hl x y z ((h6 x y).1 h1) ((h6 y z).1 h2))⟩
 have hS:=AnyQ.slices_SortFunc Tryz.laysSort 2 Tryz.isAgg222 Tryz.sizeOf222 sj (fun _=>rfl) (fun x v hv=>by simp[sj]at hv;rcases hv with rfl | rfl <;>rfl) cf hO fn #[] g 0 c T.toArray w eg
  (fun m os dk _ x y=>hc x y _) (qx h) h.lt (by simp;omega)
 have ha:T.toArray.size=T.length:=by simp
 rw[ha]at hS
 refine hS.mono ?_
 rintro e w' ⟨rfl,d',n,os,hp,hs,rfl⟩
 have h8:d'.size=T.length:=by rw[hp.1,ha]
 have h0:d'.toList.Perm T:=by
  have:=hp.2.2
  rw[← h8,Array.extract_size,h8,←ha,Array.extract_size]at this
  simpa using this
 obtain⟨h1,h2⟩:=zd h n d' os h8 B hB
 refine⟨rfl,d'.toList,h0,?_,h1,h2⟩
 have hf:(d'.toList.map Prod.snd).Nodup:=(h0.map _).nodup_iff.2 hd
 rw[List.pairwise_iff_getElem]
 intro i j hi hj he
 have hg:i<d'.size:=by simpa using hi
 have hh:j<d'.size:=by simpa using hj
 have h3:=hs i j (Nat.zero_le _) he (by omega)
 have h4:=(h6 _ _).1 h3
 rw[getElem!_pos d' i hg,getElem!_pos d' j hh]at h4
 have hk:d'[j].2≠d'[i].2:=by
  intro e
  rw[List.nodup_iff_pairwise_ne,List.pairwise_iff_getElem]at hf
  have:=hf i j (by simpa using hi) (by simpa using hj) he
  simp at this
  exact this e.symm
 have h5:=hb _ _ h4 hk
 simpa using h5
theorem iL(a b:Int):eD a b<0↔a<b:=by
 unfold eD
 by_cases h1:a<b
 ·rw[if_pos h1];omega
 ·by_cases h2:b<a
  ·rw[if_neg h1,if_pos h2];omega
  ·rw[if_neg h1,if_neg h2];omega
theorem fM(a b:Int):eD a b=0↔a=b:=by
 unfold eD
 by_cases h1:a<b
 ·rw[if_pos h1];omega
 ·by_cases h2:b<a
  ·rw[if_neg h1,if_pos h2];omega
  ·rw[if_neg h1,if_neg h2];omega
def eK(x y:Nat×Nat):Int:=xd ((x.1:Int),(x.2:Int)) ((y.1:Int),(y.2:Int))
def EY(x y:Nat×Nat):Int:=Ba ((x.1:Int),(x.2:Int)) ((y.1:Int),(y.2:Int))
theorem qr(x y:Nat×Nat):eK x y<0↔Fst x y:=by
 unfold eK xd Fst
 dsimp only
 by_cases e:eD (x.1:Int) (y.1:Int)=0
 ·rw[if_pos e,iL]
  have:=(fM _ _).1 e
  omega
 ·rw[if_neg e,iL]
  have:=mt (fM (x.1:Int) (y.1:Int)).2 e
  omega
theorem Bf(x y:Nat×Nat):EY x y<0↔jS x y:=by
 unfold EY Ba jS
 dsimp only
 by_cases e:eD (y.1:Int) (x.1:Int)=0
 ·rw[if_pos e,iL]
  have:=(fM _ _).1 e
  omega
 ·rw[if_neg e,iL]
  have:=mt (fM (y.1:Int) (x.1:Int)).2 e
  omega
theorem vm(w:World)(B g c:Nat)(T:List (Nat×Nat))(h:dV w g T)(hB:B≤g)(hn:T.length≤1000000)(hd:(T.map Prod.snd).Nodup):
 Calls Tryz.prog 172 #[.slice (some ⟨g,0,none⟩) T.length c,.func (.func 255) #[] #[]] w fun e w'=>e=.returned (.tuple #[])∧∃T',T'.Perm T∧T'.Pairwise Fst∧dV w' g T'∧ai B [g] [] w w':=
 np eK Fst 255 (enters_of Tryz.func255 (by kernel_rfl) rfl) (fun x y w=>iJ _ _ w) qr (fun x=>by unfold Fst;omega) (fun x y z=>Fst.trans) (fun x y z=>by unfold Fst;omega) (fun x y=>sR) w B g c T h hB hn hd
theorem uM(w:World)(B g c:Nat)(T:List (Nat×Nat))(h:dV w g T)(hB:B≤g)(hn:T.length≤1000000)(hd:(T.map Prod.snd).Nodup):
 Calls Tryz.prog 172 #[.slice (some ⟨g,0,none⟩) T.length c,.func (.func 173) #[] #[]] w fun e w'=>e=.returned (.tuple #[])∧∃T',T'.Perm T∧T'.Pairwise jS∧dV w' g T'∧ai B [g] [] w w':=
 np EY jS 173 (enters_of Tryz.func173 (by kernel_rfl) rfl) (fun x y w=>xD _ _ w) Bf (fun x=>by unfold jS;omega) (fun x y z=>by unfold jS;omega) (fun x y z=>by unfold jS;omega) (fun x y=>by unfold jS;omega) w B g c T h hB hn hd
def jr(w:World)(g N:Nat)(T:List (Nat×Nat)):Prop:=
 ∃cs,Blk w g 222 cs∧cs.size=N*2∧∀i,i<T.length→cs[i*2]? =some (.int .i64 (T.getD i (0,0)).1)∧cs[i*2+1]? =some (.int .i64 (T.getD i (0,0)).2)
theorem jr.row{w:World}{g N:Nat}{T:List (Nat×Nat)}(h:jr w g N T):dV w g T:=by
 obtain⟨cs,h1,_,h3⟩:=h
 exact⟨cs,h1,h3⟩
theorem ai.tcap{B:Nat}{ps:List Nat}{w w':World}(h:ai B ps [] w w'){g N:Nat}{T:List (Nat×Nat)}(hr:jr w g N T)(hp:g∉ps):jr w' g N T:=by
 obtain⟨cs,hb,hc⟩:=hr
 exact⟨cs,h.blk hb hp (by simp),hc⟩
theorem jr.there{w:World}{g N:Nat}{T:List (Nat×Nat)}(h:jr w g N T)(j:Nat)(hj:j<N*2):(w.cell? ⟨g,j,none⟩).isSome=true∧w.frozen? ⟨g,j,none⟩=false:=by
 obtain⟨cs,hb,hs,_⟩:=h
 refine⟨?_,ae hb j⟩
 rw[ac hb,Array.getElem?_eq_getElem (by omega)]
 rfl
theorem jr.store{w:World}{g N:Nat}{T:List (Nat×Nat)}(h:jr w g N T)(x:Nat×Nat)(hN:T.length<N):
 jr ((w.setCell ⟨g,T.length*2,none⟩ (.int .i64 x.1)).setCell ⟨g,T.length*2+1,none⟩ (.int .i64 x.2)) g N (T++ [x]):=by
 obtain⟨cs,hb,hs,hc⟩:=h
 refine⟨_,ay (ay hb (T.length*2) (.int .i64 x.1)) (T.length*2+1) (.int .i64 x.2),by simp[hs],fun i hi=> ?_⟩
 rw[List.length_append,List.length_singleton]at hi
 by_cases e:i=T.length
 ·subst e
  have e0:(T++ [x]).getD T.length (0,0)=x:=by simp
  rw[e0]
  constructor
  ·rw[Array.getElem?_setIfInBounds_ne (by omega),Array.getElem?_setIfInBounds_self_of_lt (by omega)]
  ·rw[Array.getElem?_setIfInBounds_self_of_lt (by simp;omega)]
 ·have h0:i<T.length:=by omega
  have e0:(T++ [x]).getD i (0,0)=T.getD i (0,0):=by
   rw[List.getD_eq_getElem?_getD,List.getD_eq_getElem?_getD,List.getElem?_append_left h0]
  rw[e0]
  have h3:=hc i h0
  constructor
  ·rw[Array.getElem?_setIfInBounds_ne (by omega),Array.getElem?_setIfInBounds_ne (by omega)]
   exact h3.1
  ·rw[Array.getElem?_setIfInBounds_ne (by omega),Array.getElem?_setIfInBounds_ne (by omega)]
   exact h3.2
theorem Tryz.infoTree:(Tryz.prog.info? 222).map (fun i=>(i.zero,i.size,i.bytes))=some (some (.agg #[.int .i64 0,.int .i64 0]),2,16):=by kernel_rfl
theorem qH(w:World)(n m:Nat)(hn:n≤m)(hm:m≤1000000):(Instr.makeSlice 218 (.int .i64 n) (.int .i64 m)).run Tryz.prog w=.ok (.slice (some ⟨w.heap.size,0,none⟩) n m) (w.alloc (.cells (madeCells #[.int .i64 0,.int .i64 0] (m*2)) 222)):=by
 obtain⟨i3,h3,h0,h1,h2⟩:=info_parts Tryz.infoTree
 have h:=run_make (P:=Tryz.prog) w 218 222 i3 (.agg #[.int .i64 0,.int .i64 0]) Tryz.underlying218 h3 h0 .i64 .i64 (n:Int) (m:Int) (by omega) (by omega) (by rw[h2];omega) (by omega)
 rw[h1,Int.toNat_natCast,Int.toNat_natCast]at h
 exact h
theorem zU(w:World)(m:Nat):jr (w.alloc (.cells (madeCells #[.int .i64 0,.int .i64 0] (m*2)) 222)) w.heap.size m []:=
 ⟨_,ag w _ _,by rw[size_madeCells],fun i hi=>absurd hi (by simp)⟩
theorem tU(w:World)(A:Option Addr)(n c:Nat)(f:Nat→Nat)(hL:aT w A n ((List.range n).map f))(h1:1≤n)(hn:n≤1000000):
 Calls Tryz.prog 170 #[.slice A n c] w fun e w'=>e=.returned (.slice (some ⟨w.heap.size,0,none⟩) n n)∧jr w' w.heap.size n ((List.range n).map fun i=>(f i,i))∧Below w.heap.size w w':=by
 obtain⟨b,off,rfl,hc⟩:=hL.2 (by omega)
 have h2:∀i,i<n→w.cell? ⟨b,off+i,none⟩=some (.int .i64 (f i)):=fun i hi=>by rw[hc i hi,cI n f i hi]
 have HC:=aa h2
 have h4:=qH w n n (ah _) hn
 have HM:=aa (zU w n)
 clear hL hc h2
 go_enter Tryz.func170,Tryz.ntmps170
 go_wp2_with fail
 have h0:=aa ((Below.refl w.heap.size w).alloc (ah _) (.cells (madeCells #[.int .i64 0,.int .i64 0] (n*2)) 222))
 go_loopw [4,5,11] (fun s4 s5 x wx=>∃i:Nat,i≤n∧x=.int .i64 i∧jr wx w.heap.size n ((List.range i).map fun i=>(f i,i))∧Below w.heap.size w wx) (fun _ _ x _=>n - (intOf x).toNat)
 case atStart=>exact⟨0,Nat.zero_le _,rfl,HM.out,h0.out⟩
 case round=>
  clear HM h0 h4
  obtain⟨i,hi,rfl,ht,hb⟩:=hrel
  by_cases e:i<n
  ·have di:decide ((i:Int)<(n:Int))=true:=aC (by omega)
   have h5:(0:Int)≤(i:Int):=by omega
   have ci:=(hb.cell (p:=⟨b,off+i,none⟩) (World.block_lt_of_cell? w _ (HC.out i e))).trans (HC.out i e)
   have t0:=ht.there (i*2) (by omega)
   have t1:=ht.there (i*2+1) (by omega)
   have hs:=ht.store (f i,i) (by simpa using e)
   have hl:((List.range i).map fun i=>(f i,i)).length=i:=by simp
   rw[hl,show((List.range i).map fun i=>(f i,i))++ [(f i,i)]=(List.range (i+1)).map fun i=>(f i,i) by rw[List.range_succ,List.map_append];rfl]at hs
   have HS:=aa hs
   have h3:=aa ((hb.setCell (p:=⟨w.heap.size,i*2,none⟩) (ah _) (.int .i64 (f i:Nat))).setCell (p:=⟨w.heap.size,i*2+1,none⟩) (ah _) (.int .i64 (i:Nat)))
   obtain⟨u0,h6⟩:=Option.isSome_iff_exists.1 t0.1
   obtain⟨u1,h7⟩:=Option.isSome_iff_exists.1 t1.1
   have f0:=t0.2
   have f1:=t1.2
   dsimp only at HS
   generalize f i=x at*
   clear ht hb hs hl t0 t1
   go_wp2_with fail
   go_roundw
   case rel=>exact⟨i+1,by omega,by go_num,HS.out,h3.out⟩
   case measure=>simp[intOf];omega
  ·obtain rfl:i=n:=by omega
   have di:decide ((i:Int)<(i:Int))=false:=au (by omega)
   have HT:=aa ht
   have HB:=aa hb
   clear ht hb
   go_wp2_with fail
   go_ret
   exact⟨rfl,HT.out,HB.out⟩
def hd:List (Nat×Nat)→Nat×Nat
 | []=>(9223372036854775807,0)
 | x :: _=>x
theorem G0(L:List (Nat×Nat))(p:Nat)(h:p<L.length):hd (L.drop p)=L.getD p (0,0):=by
 rw[List.drop_eq_getElem_cons h,List.getD_eq_getElem?_getD,List.getElem?_eq_getElem h]
 rfl
theorem xn(w:World)(A:Option Addr)(g p c:Nat)(L:List (Nat×Nat))(h:dV w g L)(hA:p<L.length→A=some ⟨g,p*2,none⟩)(hp:p≤L.length)(_hn:L.length≤1000000):
 Calls Tryz.prog 258 #[.slice A (L.length - p) c] w fun e w'=>e=.returned (.agg #[.int .i64 (hd (L.drop p)).1,.int .i64 (hd (L.drop p)).2])∧Below w.heap.size w w':=by
 by_cases e:p<L.length
 ·obtain rfl:=hA e
  rw[G0 L p e]
  have c0:=h.cell0 e
  have c1:=h.cell1 e
  have hz:=h.lt
  generalize L.getD p (0,0)=x at*
  obtain⟨k,hk⟩:∃k,k=L.length - p:=⟨_,rfl⟩
  rw[← hk]
  have d1:((k:Int)==0)=false:=by rw[beq_eq_false_iff_ne];omega
  have h2:(0:Int)<(k:Int):=by omega
  have h3:0<k:=by omega
  have h1:=aa ((Below.refl w.heap.size w).alloc (ah _) (.cells #[.int .i64 0,.int .i64 0] 222))
  clear h hA hk
  go_enter Tryz.func258,Tryz.ntmps258
  go_wp2_with fail
  have q0:=fB w (.int .i64 x.1) (.int .i64 x.2) 222
  have q1:=fF w (.int .i64 x.1) (.int .i64 x.2) 222
  refine bodyPost_ret (v:=.agg #[.int .i64 x.1,.int .i64 x.2]) ?_ rfl ⟨rfl,?_⟩
  ·simp[results,Tryz.results258,go_sem,q0,q1]
  ·exact(Below.refl w.heap.size w).alloc (ah _) _
 ·have h0:p=L.length:=by omega
  subst h0
  rw[List.drop_length,Nat.sub_self]
  clear h hA
  go_enter Tryz.func258,Tryz.ntmps258
  go_wp2_with fail
  have q0:=fB w (.int .i64 9223372036854775807) (.int .i64 0) 222
  have q1:=fF w (.int .i64 9223372036854775807) (.int .i64 0) 222
  refine bodyPost_ret (v:=.agg #[.int .i64 9223372036854775807,.int .i64 0]) ?_ rfl ⟨rfl,?_⟩
  ·simp[results,Tryz.results258,go_sem,q0,q1]
  ·exact(Below.refl w.heap.size w).alloc (ah _) _
theorem Bb(w:World)(a b c d:Value)(t:TypeId):Blk ((w.alloc (.cells #[a,b] t)).alloc (.cells #[c,d] t)) w.heap.size t #[a,b]∧Blk ((w.alloc (.cells #[a,b] t)).alloc (.cells #[c,d] t)) (w.heap.size+1) t #[c,d]:=by
 constructor
 ·exact(heap_alloc_old _ _ (by simp)).trans (heap_alloc_new w _)
 ·have h:=heap_alloc_new (w.alloc (.cells #[a,b] t)) (.cells #[c,d] t)
  simpa [Blk]using h
theorem Dv(B:Nat)(w:World)(q:Nat)(os:Array Obj)(hB:B≤w.heap.size):ai B [] [] w (Go.Sort.grow (w.drewN q) os):=by
 have h0:∀k,k<w.heap.size→(Go.Sort.grow (w.drewN q) os).heap[k]? =w.heap[k]? :=fun k hk=>by
  show(w.heap++os)[k]? =_
  rw[Array.getElem?_append_left hk]
 refine⟨⟨rfl,rfl,rfl,?_,fun k hk=> ?_⟩,fun k cs t fr hh _ _=>(h0 k (Array.getElem?_eq_some_iff.1 hh).1).trans hh⟩
 ·show w.heap.size≤(w.heap++os).size
  simp
 ·exact h0 k (by omega)
def lh(x y:Nat×Nat):Nat×Nat:=if eK y x<0 then y else x
theorem zF(w:World)(b c:Nat)(x y:Nat×Nat)(h9:w.cell? ⟨b,0,none⟩=some (.int .i64 x.1))(hl:w.cell? ⟨b,1,none⟩=some (.int .i64 x.2))(ha:w.cell? ⟨b,2,none⟩=some (.int .i64 y.1))(hc:w.cell? ⟨b,3,none⟩=some (.int .i64 y.2)):
 Calls Tryz.prog 257 #[.slice (some ⟨b,0,none⟩) 2 c,.func (.func 255) #[] #[]] w fun e w'=>e=.returned (.agg #[.int .i64 (lh x y).1,.int .i64 (lh x y).2])∧Below w.heap.size w w':=by
 have hb:=World.block_lt_of_cell? w ⟨b,0,none⟩ h9
 have HR:=aa fun w1:World=>iJ ((y.1:Int),(y.2:Int)) ((x.1:Int),(x.2:Int)) w1
 have hP:Hid (lh x y=if eK y x<0 then y else x):=aa rfl
 have hr:xd ((y.1:Int),(y.2:Int)) ((x.1:Int),(x.2:Int))=eK y x:=rfl
 rw[hr]at HR
 clear hr
 generalize lh x y=z at*
 generalize eK y x=r at*
 obtain⟨x0,x1⟩:=x
 obtain⟨y0,y1⟩:=y
 dsimp only at*
 go_enter Tryz.func257,Tryz.ntmps257
 go_wp2_with fail
 have h7:=aa (Bb w (.int .i64 0) (.int .i64 0) (.int .i64 x0) (.int .i64 x1) 222)
 have hf:=aa (((Below.refl w.heap.size w).alloc (ah _) (.cells #[.int .i64 0,.int .i64 0] 222)).alloc (by simp) (.cells #[.int .i64 x0,.int .i64 x1] 222))
 go_loopw [6] (fun i wx=>(i=.int .i64 1∧Blk wx (w.heap.size+1) 222 #[.int .i64 x0,.int .i64 x1]∨i=.int .i64 2∧Blk wx (w.heap.size+1) 222 #[.int .i64 z.1,.int .i64 z.2])∧Blk wx w.heap.size 222 #[.int .i64 0,.int .i64 0]∧Below w.heap.size w wx) (fun i _=>2 - (intOf i).toNat)
 case atStart=>exact⟨.inl ⟨rfl,h7.out.2⟩,h7.out.1,hf.out⟩
 case round=>
  clear h7 hf
  obtain⟨hi,h1,h2⟩:=hrel
  have h6:=aa h1
  have HB:=aa h2
  rcases hi with⟨rfl,hm⟩ | ⟨rfl,hm⟩
  ·have cy0:=(h2.cell (p:=⟨b,2,none⟩) hb).trans ha
   have cy1:=(h2.cell (p:=⟨b,3,none⟩) hb).trans hc
   have cm0:wr.cell? ⟨w.heap.size+1,0,none⟩=some (.int .i64 x0):=ac hm 0
   have cm1:wr.cell? ⟨w.heap.size+1,1,none⟩=some (.int .i64 x1):=ac hm 1
   have dy0:wr.drew.cell? ⟨b,2,none⟩=some (.int .i64 y0):=cy0
   have dy1:wr.drew.cell? ⟨b,3,none⟩=some (.int .i64 y1):=cy1
   have dm0:wr.drew.cell? ⟨w.heap.size+1,0,none⟩=some (.int .i64 x0):=cm0
   have dm1:wr.drew.cell? ⟨w.heap.size+1,1,none⟩=some (.int .i64 x1):=cm1
   have HM:=aa hm
   have zb:b<wr.heap.size:=World.block_lt_of_cell? wr ⟨b,2,none⟩ cy0
   have zm:w.heap.size+1<wr.heap.size:=World.block_lt_of_cell? wr ⟨w.heap.size+1,0,none⟩ cm0
   clear h9 hl ha hc hm h1 h2
   go_upto_region 7 with fail
   go_region_held3 (fun w'=>w'.cell? ⟨b,2,none⟩=some (.int .i64 y0)∧w'.cell? ⟨b,3,none⟩=some (.int .i64 y1)∧w'.cell? ⟨w.heap.size+1,0,none⟩=some (.int .i64 x0)∧w'.cell? ⟨w.heap.size+1,1,none⟩=some (.int .i64 x1))
    (first | with_reducible exact⟨cy0,cy1,cm0,cm1⟩ | with_reducible exact⟨dy0,dy1,dm0,dm1⟩ | with_reducible exact⟨ey0,ey1,em0,em1⟩)
    (first
      | (go_at_call 255;with_reducible refine(HR.out _).mono ?_;rintro e w2 ⟨rfl,q,os,h8⟩
         have h0:=Dv wr.heap.size wr.drew q os (ah _)
         rw[← h8]at h0
         have ey0:w2.cell? ⟨b,2,none⟩=some (.int .i64 y0):=(h0.below.cell (p:=⟨b,2,none⟩) zb).trans dy0
         have ey1:w2.cell? ⟨b,3,none⟩=some (.int .i64 y1):=(h0.below.cell (p:=⟨b,3,none⟩) zb).trans dy1
         have em0:w2.cell? ⟨w.heap.size+1,0,none⟩=some (.int .i64 x0):=(h0.below.cell (p:=⟨w.heap.size+1,0,none⟩) zm).trans dm0
         have em1:w2.cell? ⟨w.heap.size+1,1,none⟩=some (.int .i64 x1):=(h0.below.cell (p:=⟨w.heap.size+1,1,none⟩) zm).trans dm1
         have ho:=aa h8
         clear h8))
   have h4:Blk w2 (w.heap.size+1) 222 #[.int .i64 x0,.int .i64 x1]:=h0.blk HM.out (by simp) (by simp)
   have hj:Blk w2 w.heap.size 222 #[.int .i64 0,.int .i64 0]:=h0.blk h6.out (by simp) (by simp)
   have hk:Below w.heap.size w w2:=HB.out.trans (Below.mono (w:=wr) ⟨h0.below.os,h0.below.tape,h0.below.output,h0.below.size,h0.below.block⟩ HB.out.size)
   have fm0:=ae h4 0
   have fm1:=ae h4 1
   have he:=aa hj
   have hg:=aa hk
   have hh:=aa h4
   clear cy0 cy1 cm0 cm1 dy0 dy1 dm0 dm1 h0 h4 hj hk HR ho zb zm HM h6 HB
   by_cases e:r<0
   ·have dr:decide (r<0)=true:=decide_eq_true e
    have hz:=hP.out
    rw[if_pos e]at hz
    subst hz
    have HS:=aa (ay (ay hh.out 0 (.int .i64 y0)) 1 (.int .i64 y1))
    have hn:Hid (Blk ((w2.setCell ⟨w.heap.size+1,0,none⟩ (.int .i64 y0)).setCell ⟨w.heap.size+1,1,none⟩ (.int .i64 y1)) w.heap.size 222 #[.int .i64 0,.int .i64 0]):=aa (by
     have h3:ai 0 [w.heap.size+1] [] w2 ((w2.setCell ⟨w.heap.size+1,0,none⟩ (.int .i64 y0)).setCell ⟨w.heap.size+1,1,none⟩ (.int .i64 y1)):=((ai.refl 0 [w.heap.size+1] [] w2).set (p:=⟨w.heap.size+1,0,none⟩) (Nat.zero_le _) (by simp) (.int .i64 y0)).set (p:=⟨w.heap.size+1,1,none⟩) (Nat.zero_le _) (by simp) (.int .i64 y1)
     exact h3.blk he.out (by simp) (by simp))
    have h5:=aa ((hg.out.setCell (p:=⟨w.heap.size+1,0,none⟩) (Nat.le_succ _) (.int .i64 y0)).setCell (p:=⟨w.heap.size+1,1,none⟩) (Nat.le_succ _) (.int .i64 y1))
    clear hP
    go_wp2_with fail
    go_roundw
    case rel=>exact⟨.inr ⟨by go_num,HS.out⟩,hn.out,h5.out⟩
    case measure=>simp[intOf]
   ·have dr:decide (r<0)=false:=decide_eq_false e
    have hz:=hP.out
    rw[if_neg e]at hz
    subst hz
    clear hP
    go_wp2_with fail
    go_roundw
    case rel=>exact⟨.inr ⟨by go_num,hh.out⟩,he.out,hg.out⟩
    case measure=>simp[intOf]
  ·have cm0:wr.cell? ⟨w.heap.size+1,0,none⟩=some (.int .i64 z.1):=ac hm 0
   have cm1:wr.cell? ⟨w.heap.size+1,1,none⟩=some (.int .i64 z.2):=ac hm 1
   have k0:wr.cell? ⟨w.heap.size,0,none⟩=some (.int .i64 0):=ac h1 0
   have k1:wr.cell? ⟨w.heap.size,1,none⟩=some (.int .i64 0):=ac h1 1
   have f0:=ae h1 0
   have f1:=ae h1 1
   have hs:=ay (ay h1 0 (.int .i64 z.1)) 1 (.int .i64 z.2)
   have q0:((wr.setCell ⟨w.heap.size,0,none⟩ (.int .i64 z.1)).setCell ⟨w.heap.size,1,none⟩ (.int .i64 z.2)).cell? ⟨w.heap.size,0,none⟩=some (.int .i64 z.1):=ac hs 0
   have q1:((wr.setCell ⟨w.heap.size,0,none⟩ (.int .i64 z.1)).setCell ⟨w.heap.size,1,none⟩ (.int .i64 z.2)).cell? ⟨w.heap.size,1,none⟩=some (.int .i64 z.2):=ac hs 1
   have h5:=aa ((HB.out.setCell (p:=⟨w.heap.size,0,none⟩) (ah _) (.int .i64 z.1)).setCell (p:=⟨w.heap.size,1,none⟩) (ah _) (.int .i64 z.2))
   clear h9 hl ha hc hm h1 h2 hs HR hP HB h6
   go_wp2_with fail
   (try simp only[Exit.inBlock,Exit.then])
   refine bodyPost_ret (v:=.agg #[.int .i64 z.1,.int .i64 z.2]) ?_ rfl ⟨rfl,h5.out⟩
   simp[results,Tryz.results257,go_sem,q0,q1]
end Go.Proofs.YthakcjehhlpjnaaGreat
