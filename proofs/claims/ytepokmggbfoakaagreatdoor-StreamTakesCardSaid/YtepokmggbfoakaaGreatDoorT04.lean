import Derived.Test.YtepokmggbfoakaaGreatDoorT03
import Derived.Test.YtepokmggbfoakaaGreatDoorLx
import Derived.Shelf.SlSortCmp.WholeK
import Derived.Shelf.Small.Bits
import Derived.Lib.ItoaNum
set_option maxHeartbeats 6400000
set_option maxRecDepth 100000
namespace Go.Proofs.YtepokmggbfoakaaGreatDoor
open _root_.Go.Proofs.Tryz
open Go.RowKit
def vn(x:Nat×Nat):List Value:= [.int .i64 x.1,.int .i64 x.2]
def eY(w:World)(g:Nat)(T:List (Nat×Nat)):Prop:=
 ∃cs,Blk w g 237 cs/\∀i,i<T.length->cs[i*2]? =some (.int .i64 (T.getD i (0,0)).1)/\cs[i*2+1]? =some (.int .i64 (T.getD i (0,0)).2)
theorem eY.cell0{w:World}{g:Nat}{T:List (Nat×Nat)}(h:eY w g T){i:Nat}(hi:i<T.length):w.cell? ⟨g,i*2,none⟩=some (.int .i64 (T.getD i (0,0)).1):=by obtain⟨cs,hb,hc⟩:=h;rw[ac hb,(hc i hi).1]
theorem eY.cell1{w:World}{g:Nat}{T:List (Nat×Nat)}(h:eY w g T){i:Nat}(hi:i<T.length):w.cell? ⟨g,i*2+1,none⟩=some (.int .i64 (T.getD i (0,0)).2):=by obtain⟨cs,hb,hc⟩:=h;rw[ac hb,(hc i hi).2]
theorem eY.frozen{w:World}{g:Nat}{T:List (Nat×Nat)}(h:eY w g T)(i:Nat):w.frozen? ⟨g,i,none⟩=false:=by obtain⟨cs,hb,hc⟩:=h;exact ae hb i
theorem eY.lt{w:World}{g:Nat}{T:List (Nat×Nat)}(h:eY w g T):g<w.heap.size:=by obtain⟨cs,hb,hc⟩:=h;exact az hb
theorem al.trow{B:Nat}{ps:List Nat}{w w':World}(h:al B ps [] w w'){g:Nat}{T:List (Nat×Nat)}(hr:eY w g T)(hp:g∉ps):eY w' g T:=by obtain⟨cs,hb,hc⟩:=hr;exact⟨cs,h.blk hb hp (by simp),hc⟩
theorem MX(T:List (Nat×Nat))(i:Nat)(h:i<T.length):T.toArray[i]! =T.getD i (0,0):=by rw[Nb,Nd h];simp[h]
theorem tY{w:World}{g:Nat}{T:List (Nat×Nat)}(h:eY w g T):Go.Sort.HoldsK vn 2 w g 0 T.toArray:=by
 intro t ht;have h0:t<T.length*2:=by simpa using ht
 have hi:t/2<T.length:=by omega
 refine⟨?_,h.frozen _⟩;rw[Go.Sort.get_flatK vn 2 T.toArray t (by simpa using h0),MX T _ hi,N8];by_cases e:t%2=0;·have h1:=h.cell0 hi;rw[show t/2*2=t by omega]at h1;rw[h1,e];rfl
 ·have h1:=h.cell1 hi;rw[show t/2*2+1=t by omega]at h1;rw[h1,show t%2=1 by omega];rfl
theorem DH{w:World}{g:Nat}{T:List (Nat×Nat)}(h:eY w g T)(n:Nat)(d:Array (Nat×Nat))(os:Array Obj)(hs:d.size=T.length)(B:Nat)(hB:B<=g):
 eY (sortWorldK vn 2 w g 0 n d os) g d.toList/\al B [g] [] w (sortWorldK vn 2 w g 0 n d os):=by have h6:=h.lt;have hH:=holdsK_sortWorldK_c vn 2 w g 0 T.toArray d n os (tY h) h6 (by simpa using hs);have hz:=size_sortWorldK_c vn 2 w g 0 n d os;have h2:∀k,k<w.heap.size->k≠g->(sortWorldK vn 2 w g 0 n d os).heap[k]? =w.heap[k]? :=(by intro k hk h7;unfold sortWorldK Go.Sort.putRowK Go.Sort.putRow Go.Sort.mapBlock Go.Sort.grow Go.Sort.ahead;dsimp only;rw[Q1 (by simpa using hk),QO,Nf (fun e=>h7 e.symm)]);have h3:∃cs',Blk (sortWorldK vn 2 w g 0 n d os) g 237 cs':=(by obtain⟨cs,hb,_⟩:=h;unfold Blk at hb |-;unfold sortWorldK Go.Sort.putRowK Go.Sort.putRow Go.Sort.mapBlock Go.Sort.grow Go.Sort.ahead;dsimp only;rw[Q1 (by simpa using h6),QO,Ng rfl,hb];exact⟨_,rfl⟩);refine⟨?_,⟨⟨rfl,rfl,rfl,hz,fun k hk=>h2 k (by omega) (by omega)⟩,fun k cs t fr hh hk _=>(h2 k (Array.getElem?_eq_some_iff.1 hh).1 (by simpa using hk)).trans hh⟩⟩;obtain⟨cs',h4⟩:=h3;refine⟨cs',h4,fun i hi=> ?_⟩;have h5:i<d.size:=(by simpa using hi);have e:d[i]! =d.toList.getD i (0,0):=(by rw[<- MX d.toList i hi]);have h0:=(Go.Sort.HoldsK.cell hH h5 (c:=0) (by omega)).1;have h1:=(Go.Sort.HoldsK.cell hH h5 (c:=1) (by omega)).1;rw[ac h4,N8,e]at h0 h1;exact⟨h0,h1⟩
theorem Be(cf:Nat×Nat->Nat×Nat->Int)(R:Nat×Nat->Nat×Nat->Prop)(fn:Nat)(eg:∀args w,(callFunc fn args).run prog w=.ok (.enter fn args) w)
 (hc:∀(x y:Nat×Nat) (w:World),Calls prog fn #[.agg #[.int .i64 x.1,.int .i64 x.2],.agg #[.int .i64 y.1,.int .i64 y.2]] w fun e w'=>e=.returned (.int .i64 (cf x y))/\∃q os',w'=Go.Sort.grow (w.drewN q) os')
 (hR:∀x y,cf x y<0↔R x y) (h9:∀x,¬R x x) (hm:∀x y z,R x y->R y z->R x z) (hl:∀x y z,¬R x y->¬R y z->¬R x z) (hb:∀x y,¬R x y->x.2≠y.2->R y x)
 (w:World) (B g c:Nat) (T:List (Nat×Nat)) (h:eY w g T) (hB:B<=g) (hn:T.length<=1000000) (hd:(T.map Prod.snd).Nodup):
 Calls prog 202 #[.slice (some ⟨g,0,none⟩) T.length c,.func (.func fn) #[] #[]] w fun e w'=>e=.returned (.tuple #[])/\∃T',T'.Perm T/\T'.Pairwise R/\eY w' g T'/\al B [g] [] w w':=by
 have h7:∀x y,ltOf cf x y=true↔R x y:=fun x y=>by unfold ltOf;rw[Qa];exact hR x y
 have h6:∀x y,ltOf cf x y=false↔¬R x y:=fun x y=>by rw[<- h7,Bool.not_eq_true]
 have hO:Go.Sort.SWO (ltOf cf):=by refine⟨fun x=>(h6 x x).2 (h9 x),fun x y z h1 h2=>(h7 x z).2 (hm x y z ((h7 x y).1 h1) ((h7 y z).1 h2)),fun x y z h1 h2=>(h6 x z).2 (hl x y z ((h6 x y).1 h1) ((h6 y z).1 h2))⟩
 have hS:=AnyQ.slices_SortFunc Tryz.laysSort 2 Tryz.isAgg237 Tryz.sizeOf237 vn (fun _=>rfl) (fun x v hv=>by simp[vn]at hv;rcases hv with rfl|rfl <;>rfl) cf hO fn #[] g 0 c T.toArray w eg
  (fun m os dk _ x y=>hc x y _) (tY h) h.lt (by simp;omega)
 have ha:T.toArray.size=T.length:=by simp
 rw[ha]at hS;refine hS.mono ?_;rintro e w' ⟨rfl,d',n,os,hp,hs,rfl⟩;have h8:d'.size=T.length:=by rw[hp.1,ha]
 have h0:d'.toList.Perm T:=by have:=hp.2.2;rw[<- h8,Ri,h8,<-ha,Ri]at this;simpa using this
 obtain⟨h1,h2⟩:=DH h n d' os h8 B hB;refine⟨rfl,d'.toList,h0,?_,h1,h2⟩;have hf:(d'.toList.map Prod.snd).Nodup:=(h0.map _).nodup_iff.2 hd;rw[List.pairwise_iff_getElem];intro i j hi hj he;have hg:i<d'.size:=by simpa using hi
 have hh:j<d'.size:=by simpa using hj
 have h3:=hs i j (Nh _) he (by omega);have h4:=(h6 _ _).1 h3;rw[getElem!_pos d' i hg,getElem!_pos d' j hh]at h4;have hk:d'[j].2≠d'[i].2:=by intro e;rw[QW,List.pairwise_iff_getElem]at hf;have:=hf i j (by simpa using hi) (by simpa using hj) he;simp at this;exact this e.symm
 have h5:=hb _ _ h4 hk;simpa using h5
theorem jr(a b:Int):fD a b<0↔a<b:=by
 unfold fD;by_cases h1:a<b;·rw[Ng h1];omega
 ·by_cases h2:b<a;·rw[Nf h1,Ng h2];omega
  ·rw[Nf h1,Nf h2];omega
theorem gR(a b:Int):fD a b=0↔a=b:=by
 unfold fD;by_cases h1:a<b;·rw[Ng h1];omega
 ·by_cases h2:b<a;·rw[Nf h1,Ng h2];omega
  ·rw[Nf h1,Nf h2];omega
def fI(x y:Nat×Nat):Int:=AT ((x.1:Int),(x.2:Int)) ((y.1:Int),(y.2:Int))
def Jc(x y:Nat×Nat):Int:=Ek ((x.1:Int),(x.2:Int)) ((y.1:Int),(y.2:Int))
theorem uI(x y:Nat×Nat):fI x y<0↔Fst x y:=by
 unfold fI AT Fst;dsimp only;by_cases e:fD (x.1:Int) (y.1:Int)=0;·rw[Ng e,jr];have:=(gR _ _).1 e;omega
 ·rw[Nf e,jr];have:=mt (gR (x.1:Int) (y.1:Int)).2 e;omega
theorem FW(x y:Nat×Nat):Jc x y<0↔li x y:=by
 unfold Jc Ek li;dsimp only;by_cases e:fD (y.1:Int) (x.1:Int)=0;·rw[Ng e,jr];have:=(gR _ _).1 e;omega
 ·rw[Nf e,jr];have:=mt (gR (y.1:Int) (x.1:Int)).2 e;omega
theorem Bf(w:World)(B g c:Nat)(T:List (Nat×Nat))(h:eY w g T)(hB:B<=g)(hn:T.length<=1000000)(hd:(T.map Prod.snd).Nodup):
 Calls prog 202 #[.slice (some ⟨g,0,none⟩) T.length c,.func (.func 287) #[] #[]] w fun e w'=>e=.returned (.tuple #[])/\∃T',T'.Perm T/\T'.Pairwise Fst/\eY w' g T'/\al B [g] [] w w':=
 Be fI Fst 287 (enters_of func287 (by kernel_rfl) rfl) (fun x y w=>jE _ _ w) uI (fun x=>by unfold Fst;omega) (fun x y z=>Fst.trans) (fun x y z=>by unfold Fst;omega) (fun x y=>wk) w B g c T h hB hn hd
theorem yy(w:World)(B g c:Nat)(T:List (Nat×Nat))(h:eY w g T)(hB:B<=g)(hn:T.length<=1000000)(hd:(T.map Prod.snd).Nodup):
 Calls prog 202 #[.slice (some ⟨g,0,none⟩) T.length c,.func (.func 203) #[] #[]] w fun e w'=>e=.returned (.tuple #[])/\∃T',T'.Perm T/\T'.Pairwise li/\eY w' g T'/\al B [g] [] w w':=
 Be Jc li 203 (enters_of func203 (by kernel_rfl) rfl) (fun x y w=>zZ _ _ w) FW (fun x=>by unfold li;omega) (fun x y z=>by unfold li;omega) (fun x y z=>by unfold li;omega) (fun x y=>by unfold li;omega) w B g c T h hB hn hd
def ko(w:World)(g N:Nat)(T:List (Nat×Nat)):Prop:=
 ∃cs,Blk w g 237 cs/\cs.size=N*2/\∀i,i<T.length->cs[i*2]? =some (.int .i64 (T.getD i (0,0)).1)/\cs[i*2+1]? =some (.int .i64 (T.getD i (0,0)).2)
theorem ko.row{w:World}{g N:Nat}{T:List (Nat×Nat)}(h:ko w g N T):eY w g T:=by obtain⟨cs,h1,_,h3⟩:=h;exact⟨cs,h1,h3⟩
theorem al.tcap{B:Nat}{ps:List Nat}{w w':World}(h:al B ps [] w w'){g N:Nat}{T:List (Nat×Nat)}(hr:ko w g N T)(hp:g∉ps):ko w' g N T:=by obtain⟨cs,hb,hc⟩:=hr;exact⟨cs,h.blk hb hp (by simp),hc⟩
theorem ko.there{w:World}{g N:Nat}{T:List (Nat×Nat)}(h:ko w g N T)(j:Nat)(hj:j<N*2):(w.cell? ⟨g,j,none⟩).isSome=true/\w.frozen? ⟨g,j,none⟩=false:=by obtain⟨cs,hb,hs,_⟩:=h;refine⟨?_,ae hb j⟩;rw[ac hb,Array.getElem?_eq_getElem (by omega)];rfl
theorem ko.store{w:World}{g N:Nat}{T:List (Nat×Nat)}(h:ko w g N T)(x:Nat×Nat)(hN:T.length<N):
 ko ((w.setCell ⟨g,T.length*2,none⟩ (.int .i64 x.1)).setCell ⟨g,T.length*2+1,none⟩ (.int .i64 x.2)) g N (T++ [x]):=by
 obtain⟨cs,hb,hs,hc⟩:=h;refine⟨_,au (au hb (T.length*2) (.int .i64 x.1)) (T.length*2+1) (.int .i64 x.2),by simp[hs],fun i hi=> ?_⟩;rw[Nc,NM]at hi;by_cases e:i=T.length
 ·subst e;have e0:(T++ [x]).getD T.length (0,0)=x:=by simp
  rw[e0];constructor;·rw[Pn (by omega),QU (by omega)]
  ·rw[QU (by simp;omega)]
 ·have h0:i<T.length:=by omega
  have e0:(T++ [x]).getD i (0,0)=T.getD i (0,0):=by rw[Nb,Nb,NT h0]
  rw[e0];have h3:=hc i h0;constructor;·rw[Pn (by omega),Pn (by omega)];exact h3.1
  ·rw[Pn (by omega),Pn (by omega)];exact h3.2
theorem Tryz.infoTree:(prog.info? 237).map (fun i=>(i.zero,i.size,i.bytes))=some (some (.agg #[.int .i64 0,.int .i64 0]),2,16):=by kernel_rfl
theorem uf(w:World)(n m:Nat)(hn:n<=m)(hm:m<=1000000):(Instr.makeSlice 233 (.int .i64 n) (.int .i64 m)).run prog w=.ok (.slice (some ⟨w.heap.size,0,none⟩) n m) (w.alloc (.cells (madeCells #[.int .i64 0,.int .i64 0] (m*2)) 237)):=by obtain⟨i3,h3,h0,h1,h2⟩:=NY Tryz.infoTree;have h:=QZ (P:=prog) w 233 237 i3 (.agg #[.int .i64 0,.int .i64 0]) underlying233 h3 h0 .i64 .i64 (n:Int) (m:Int) (by omega) (by omega) (by rw[h2];omega) (by omega);rw[h1,Nn,Nn]at h;exact h
theorem C2(w:World)(m:Nat):ko (w.alloc (.cells (madeCells #[.int .i64 0,.int .i64 0] (m*2)) 237)) w.heap.size m []:=
 ⟨_,aj w _ _,by rw[Rr],fun i hi=>absurd hi (by simp)⟩
theorem vK(w:World)(A:Option Addr)(n c:Nat)(f:Nat->Nat)(hL:aw w A n ((List.range n).map f))(h1:1<=n)(hn:n<=1000000):
 Calls prog 200 #[.slice A n c] w fun e w'=>e=.returned (.slice (some ⟨w.heap.size,0,none⟩) n n)/\ko w' w.heap.size n ((List.range n).map fun i=>(f i,i))/\Below w.heap.size w w':=by
 obtain⟨b,off,rfl,hc⟩:=hL.2 (by omega);have h2:∀i,i<n->w.cell? ⟨b,off+i,none⟩=some (.int .i64 (f i)):=fun i hi=>by rw[hc i hi,dB n f i hi]
 have HC:=aa h2;have h4:=uf w n n (ah _) hn;have HM:=aa (C2 w n);clear hL hc h2;go_enter func200,ntmps200;go_wp2_with fail;have h0:=aa ((Nj w.heap.size w).alloc (ah _) (.cells (madeCells #[.int .i64 0,.int .i64 0] (n*2)) 237));go_loopw [4,5,11] (fun s4 s5 x wx=>∃i:Nat,i<=n/\x=.int .i64 i/\ko wx w.heap.size n ((List.range i).map fun i=>(f i,i))/\Below w.heap.size w wx) (fun _ _ x _=>n-(intOf x).toNat)
 case atStart=>exact⟨0,Nh _,rfl,HM.out,h0.out⟩
 case round=>
  clear HM h0 h4;obtain⟨i,hi,rfl,ht,hb⟩:=hrel;by_cases e:i<n
  ·have h5:(0:Int)<=(i:Int):=(by omega);have ci:=(hb.cell (p:=⟨b,off+i,none⟩) (Nr w _ (HC.out i e))).trans (HC.out i e);have t0:=ht.there (i*2) (by omega);have t1:=ht.there (i*2+1) (by omega);have hs:=ht.store (f i,i) (by simpa using e);have hl:((List.range i).map fun i=>(f i,i)).length=i:=(by simp);rw[hl,show((List.range i).map fun i=>(f i,i))++ [(f i,i)]=(List.range (i+1)).map fun i=>(f i,i) by rw[Oi,NF];rfl]at hs;have HS:=aa hs;have h3:=aa ((hb.setCell (p:=⟨w.heap.size,i*2,none⟩) (ah _) (.int .i64 (f i:Nat))).setCell (p:=⟨w.heap.size,i*2+1,none⟩) (ah _) (.int .i64 (i:Nat)));obtain⟨u0,h6⟩:=Option.isSome_iff_exists.1 t0.1;obtain⟨u1,h7⟩:=Option.isSome_iff_exists.1 t1.1;have f0:=t0.2;have f1:=t1.2;dsimp only at HS;generalize f i=x at*;clear ht hb hs hl t0 t1;go_wp2_with fail;go_roundw;case rel=>exact⟨i+1,by omega,by go_num,HS.out,h3.out⟩
   case measure=>simp[intOf];omega
  ·obtain rfl:i=n:=(by omega);have HT:=aa ht;have HB:=aa hb;clear ht hb;go_wp2_with fail;go_ret;exact⟨rfl,HT.out,HB.out⟩
def hd:List (Nat×Nat)->Nat×Nat
 | []=>(9223372036854775807,0)
 | x::_=>x
theorem Lv(L:List (Nat×Nat))(p:Nat)(h:p<L.length):hd (L.drop p)=L.getD p (0,0):=by rw[NP h,Nb,Nd h];rfl
theorem Ag(w:World)(A:Option Addr)(g p c:Nat)(L:List (Nat×Nat))(h:eY w g L)(hA:p<L.length->A=some ⟨g,p*2,none⟩)(hp:p<=L.length)(_hn:L.length<=1000000):
 Calls prog 290 #[.slice A (L.length-p) c] w fun e w'=>e=.returned (.agg #[.int .i64 (hd (L.drop p)).1,.int .i64 (hd (L.drop p)).2])/\Below w.heap.size w w':=by
 by_cases e:p<L.length
 ·obtain rfl:=hA e;rw[Lv L p e];have c0:=h.cell0 e;have c1:=h.cell1 e;have hz:=h.lt;generalize L.getD p (0,0)=x at*;obtain⟨k,hk⟩:∃k,k=L.length-p:=⟨_,rfl⟩;rw[<- hk];have d1:((k:Int)==0)=false:=by rw[NA];omega
  have h1:(0:Int)<(k:Int):=by omega
  have h2:0<k:=by omega
  clear h hA hk;go_enter func290,ntmps290;go_wp2_with fail;have q0:=gL w (.int .i64 x.1) (.int .i64 x.2) 237;have q1:=gQ w (.int .i64 x.1) (.int .i64 x.2) 237;refine ND (v:=.agg #[.int .i64 x.1,.int .i64 x.2]) ?_ rfl ⟨rfl,?_⟩;·simp[results,results290,go_sem,q0,q1]
  ·exact(Nj w.heap.size w).alloc (ah _) _
 ·have h0:p=L.length:=by omega
  subst h0;rw[List.drop_length,Ow];clear h hA;go_enter func290,ntmps290;go_wp2_with fail;have q0:=gL w (.int .i64 9223372036854775807) (.int .i64 0) 237;have q1:=gQ w (.int .i64 9223372036854775807) (.int .i64 0) 237;refine ND (v:=.agg #[.int .i64 9223372036854775807,.int .i64 0]) ?_ rfl ⟨rfl,?_⟩;·simp[results,results290,go_sem,q0,q1]
  ·exact(Nj w.heap.size w).alloc (ah _) _
theorem Eb(w:World)(a b c d:Value)(t:TypeId):Blk ((w.alloc (.cells #[a,b] t)).alloc (.cells #[c,d] t)) w.heap.size t #[a,b]/\Blk ((w.alloc (.cells #[a,b] t)).alloc (.cells #[c,d] t)) (w.heap.size+1) t #[c,d]:=by
 constructor;·exact(heap_alloc_old _ _ (by simp)).trans (P4 w _)
 ·have h:=P4 (w.alloc (.cells #[a,b] t)) (.cells #[c,d] t);simpa [Blk]using h
theorem Ga(B:Nat)(w:World)(q:Nat)(os:Array Obj)(hB:B<=w.heap.size):al B [] [] w (Go.Sort.grow (w.drewN q) os):=by
 have h0:∀k,k<w.heap.size->(Go.Sort.grow (w.drewN q) os).heap[k]? =w.heap[k]? :=fun k hk=>by show(w.heap++os)[k]? =_;rw[Q1 hk]
 refine⟨⟨rfl,rfl,rfl,?_,fun k hk=> ?_⟩,fun k cs t fr hh _ _=>(h0 k (Array.getElem?_eq_some_iff.1 hh).1).trans hh⟩;·show w.heap.size<=(w.heap++os).size;simp
 ·exact h0 k (by omega)
def mF(x y:Nat×Nat):Nat×Nat:=if fI y x<0 then y else x
theorem C4(w:World)(b c:Nat)(x y:Nat×Nat)(h8:w.cell? ⟨b,0,none⟩=some (.int .i64 x.1))(hl:w.cell? ⟨b,1,none⟩=some (.int .i64 x.2))(h9:w.cell? ⟨b,2,none⟩=some (.int .i64 y.1))(ha:w.cell? ⟨b,3,none⟩=some (.int .i64 y.2)):
 Calls prog 289 #[.slice (some ⟨b,0,none⟩) 2 c,.func (.func 287) #[] #[]] w fun e w'=>e=.returned (.agg #[.int .i64 (mF x y).1,.int .i64 (mF x y).2])/\Below w.heap.size w w':=by
 have hb:=Nr w ⟨b,0,none⟩ h8;have HR:=aa fun w1:World=>jE ((y.1:Int),(y.2:Int)) ((x.1:Int),(x.2:Int)) w1;have hP:Hid (mF x y=if fI y x<0 then y else x):=aa rfl;have hr:AT ((y.1:Int),(y.2:Int)) ((x.1:Int),(x.2:Int))=fI y x:=rfl;rw[hr]at HR;clear hr;generalize mF x y=z at*;generalize fI y x=r at*;obtain⟨x0,x1⟩:=x;obtain⟨y0,y1⟩:=y;dsimp only at*;go_enter func289,ntmps289;go_wp2_with fail;have h7:=aa (Eb w (.int .i64 0) (.int .i64 0) (.int .i64 x0) (.int .i64 x1) 237);have he:=aa (((Nj w.heap.size w).alloc (ah _) (.cells #[.int .i64 0,.int .i64 0] 237)).alloc (by simp) (.cells #[.int .i64 x0,.int .i64 x1] 237));go_loopw [6] (fun i wx=>(i=.int .i64 1/\Blk wx (w.heap.size+1) 237 #[.int .i64 x0,.int .i64 x1]\/i=.int .i64 2/\Blk wx (w.heap.size+1) 237 #[.int .i64 z.1,.int .i64 z.2])/\Blk wx w.heap.size 237 #[.int .i64 0,.int .i64 0]/\Below w.heap.size w wx) (fun i _=>2-(intOf i).toNat)
 case atStart=>exact⟨.inl ⟨rfl,h7.out.2⟩,h7.out.1,he.out⟩
 case round=>
  clear h7 he;obtain⟨hi,h1,h2⟩:=hrel;have h6:=aa h1;have HB:=aa h2;rcases hi with⟨rfl,hm⟩|⟨rfl,hm⟩
  ·have cy0:=(h2.cell (p:=⟨b,2,none⟩) hb).trans h9;have cy1:=(h2.cell (p:=⟨b,3,none⟩) hb).trans ha;have cm0:wr.cell? ⟨w.heap.size+1,0,none⟩=some (.int .i64 x0):=ac hm 0;have cm1:wr.cell? ⟨w.heap.size+1,1,none⟩=some (.int .i64 x1):=ac hm 1;have dy0:wr.drew.cell? ⟨b,2,none⟩=some (.int .i64 y0):=cy0;have dy1:wr.drew.cell? ⟨b,3,none⟩=some (.int .i64 y1):=cy1;have dm0:wr.drew.cell? ⟨w.heap.size+1,0,none⟩=some (.int .i64 x0):=cm0;have dm1:wr.drew.cell? ⟨w.heap.size+1,1,none⟩=some (.int .i64 x1):=cm1;have HM:=aa hm;have zb:b<wr.heap.size:=Nr wr ⟨b,2,none⟩ cy0;have zm:w.heap.size+1<wr.heap.size:=Nr wr ⟨w.heap.size+1,0,none⟩ cm0;clear h8 hl h9 ha hm h1 h2;go_upto_region 7 with fail
   go_region_held3 (fun w'=>w'.cell? ⟨b,2,none⟩=some (.int .i64 y0)/\w'.cell? ⟨b,3,none⟩=some (.int .i64 y1)/\w'.cell? ⟨w.heap.size+1,0,none⟩=some (.int .i64 x0)/\w'.cell? ⟨w.heap.size+1,1,none⟩=some (.int .i64 x1))
    (first|with_reducible exact⟨cy0,cy1,cm0,cm1⟩|with_reducible exact⟨dy0,dy1,dm0,dm1⟩|with_reducible exact⟨ey0,ey1,em0,em1⟩)
    (first
      | (go_at_call 287;with_reducible refine(HR.out _).mono ?_;rintro e w2 ⟨rfl,q,os,hk⟩
         have h0:=Ga wr.heap.size wr.drew q os (ah _)
         rw[<- hk]at h0
         have ey0:w2.cell? ⟨b,2,none⟩=some (.int .i64 y0):=(h0.below.cell (p:=⟨b,2,none⟩) zb).trans dy0
         have ey1:w2.cell? ⟨b,3,none⟩=some (.int .i64 y1):=(h0.below.cell (p:=⟨b,3,none⟩) zb).trans dy1
         have em0:w2.cell? ⟨w.heap.size+1,0,none⟩=some (.int .i64 x0):=(h0.below.cell (p:=⟨w.heap.size+1,0,none⟩) zm).trans dm0
         have em1:w2.cell? ⟨w.heap.size+1,1,none⟩=some (.int .i64 x1):=(h0.below.cell (p:=⟨w.heap.size+1,1,none⟩) zm).trans dm1
         clear hk))
   have h4:Blk w2 (w.heap.size+1) 237 #[.int .i64 x0,.int .i64 x1]:=h0.blk HM.out (by simp) (by simp);have hh:Blk w2 w.heap.size 237 #[.int .i64 0,.int .i64 0]:=h0.blk h6.out (by simp) (by simp);have hj:Below w.heap.size w w2:=HB.out.trans (Below.mono (w:=wr) ⟨h0.below.os,h0.below.tape,h0.below.output,h0.below.size,h0.below.block⟩ HB.out.size);have fm0:=ae h4 0;have fm1:=ae h4 1;have hc:=aa hh;have hf:=aa hj;have hg:=aa h4;clear cy0 cy1 cm0 cm1 dy0 dy1 dm0 dm1 h0 h4 hh hj HR zb zm HM h6 HB;by_cases e:r<0
   ·have hz:=hP.out;rw[Ng e]at hz;subst hz;have HS:=aa (au (au hg.out 0 (.int .i64 y0)) 1 (.int .i64 y1))
    have hn:Hid (Blk ((w2.setCell ⟨w.heap.size+1,0,none⟩ (.int .i64 y0)).setCell ⟨w.heap.size+1,1,none⟩ (.int .i64 y1)) w.heap.size 237 #[.int .i64 0,.int .i64 0]):=aa (by
     have h3:al 0 [w.heap.size+1] [] w2 ((w2.setCell ⟨w.heap.size+1,0,none⟩ (.int .i64 y0)).setCell ⟨w.heap.size+1,1,none⟩ (.int .i64 y1)):=((al.refl 0 [w.heap.size+1] [] w2).set (p:=⟨w.heap.size+1,0,none⟩) (Nh _) (by simp) (.int .i64 y0)).set (p:=⟨w.heap.size+1,1,none⟩) (Nh _) (by simp) (.int .i64 y1)
     exact h3.blk hc.out (by simp) (by simp))
    have h5:=aa ((hf.out.setCell (p:=⟨w.heap.size+1,0,none⟩) (Pq _) (.int .i64 y0)).setCell (p:=⟨w.heap.size+1,1,none⟩) (Pq _) (.int .i64 y1));clear hP;go_wp2_with fail;go_roundw;case rel=>exact⟨.inr ⟨by go_num,HS.out⟩,hn.out,h5.out⟩
    case measure=>simp[intOf]
   ·have hz:=hP.out;rw[Nf e]at hz;subst hz;clear hP;go_wp2_with fail;go_roundw;case rel=>exact⟨.inr ⟨by go_num,hg.out⟩,hc.out,hf.out⟩
    case measure=>simp[intOf]
  ·have cm0:wr.cell? ⟨w.heap.size+1,0,none⟩=some (.int .i64 z.1):=ac hm 0;have cm1:wr.cell? ⟨w.heap.size+1,1,none⟩=some (.int .i64 z.2):=ac hm 1;have k0:wr.cell? ⟨w.heap.size,0,none⟩=some (.int .i64 0):=ac h1 0;have k1:wr.cell? ⟨w.heap.size,1,none⟩=some (.int .i64 0):=ac h1 1;have f0:=ae h1 0;have f1:=ae h1 1;have hs:=au (au h1 0 (.int .i64 z.1)) 1 (.int .i64 z.2);have q0:((wr.setCell ⟨w.heap.size,0,none⟩ (.int .i64 z.1)).setCell ⟨w.heap.size,1,none⟩ (.int .i64 z.2)).cell? ⟨w.heap.size,0,none⟩=some (.int .i64 z.1):=ac hs 0;have q1:((wr.setCell ⟨w.heap.size,0,none⟩ (.int .i64 z.1)).setCell ⟨w.heap.size,1,none⟩ (.int .i64 z.2)).cell? ⟨w.heap.size,1,none⟩=some (.int .i64 z.2):=ac hs 1;have h5:=aa ((HB.out.setCell (p:=⟨w.heap.size,0,none⟩) (ah _) (.int .i64 z.1)).setCell (p:=⟨w.heap.size,1,none⟩) (ah _) (.int .i64 z.2));clear h8 hl h9 ha hm h1 h2 hs HR hP HB h6;go_wp2_with fail;(try simp only[Exit.inBlock,Exit.then]);refine ND (v:=.agg #[.int .i64 z.1,.int .i64 z.2]) ?_ rfl ⟨rfl,h5.out⟩;simp[results,results289,go_sem,q0,q1]
def mx(S M:List (Nat×Nat)):Prop:=Fst (hd M) (hd S)
theorem GK{S M:List (Nat×Nat)}(hS:∀t∈S,t.1<4611686018427387904)(h:mx S M):M≠ []/\kU S M=(hd M,S,M.drop 1):=by
 unfold mx Fst at h
 match S,M,hS,h with
 | [], [],_,h=>simp[hd]at h
 | s::S, [],hS,h=>have:=hS s Nl;simp[hd]at h;omega
 | [],m::M,_,_=>exact⟨by simp,rfl⟩
 | s::S,m::M,_,h=>refine⟨by simp,?_⟩;have h2:m.1<s.1\/(m.1=s.1/\m.2<s.2):=h;show(if m.1<s.1\/(m.1=s.1/\m.2<s.2)then(m,s::S,M)else(s,S,m::M))=_;rw[Ng h2];rfl
theorem AK{S M:List (Nat×Nat)}(hM:∀t∈M,t.1<4611686018427387904)(hS:∀t∈S,t.1<4611686018427387904)(h0:S≠ []\/M≠ [])(h1:∀t∈S,∀u∈M,t.2≠u.2)(h:¬mx S M):
 S≠ []/\kU S M=(hd S,S.drop 1,M)/\¬((hd S).1=(hd M).1/\(hd S).2=(hd M).2):=by
 unfold mx Fst at h
 match S,M,hS,hM,h0,h1,h with
 | [], [],_,_,h0,_,_=>simp at h0
 | s::S, [],hS,_,_,_,h=>have:=hS s Nl;refine⟨by simp,rfl,?_⟩;show ¬(s.1=9223372036854775807/\s.2=0);omega
 | [],m::M,_,hM,_,_,h=>have:=hM m Nl;exfalso;simp[hd]at h;omega
 | s::S,m::M,_,_,_,h1,h=>have h0:=h1 s Nl m Nl;refine⟨by simp,?_,fun hc=>h0 hc.2⟩;have h2:¬(m.1<s.1\/(m.1=s.1/\m.2<s.2)):=h;show(if m.1<s.1\/(m.1=s.1/\m.2<s.2)then(m,s::S,M)else(s,S,m::M))=_;rw[Nf h2];rfl
theorem rI{w1 W:World}(h:al w1.heap.size [] [] w1 W)(o:Obj):al w1.heap.size [] [] w1 (W.alloc o):=h.alloc h.size o
theorem fL{w1 W:World}(h:al w1.heap.size [] [] w1 W):al w1.heap.size [] [] w1 W.drew:=h.drew
theorem Ks{w1 W:World}{b o:Nat}(h:al w1.heap.size [] [] w1 W)(hp:w1.heap.size<=b)(v:Value):al w1.heap.size [] [] w1 (W.setCell ⟨b,o,none⟩ v):=
 h.after ((al.refl w1.heap.size [b] [] W).set (p:=⟨b,o,none⟩) hp (by simp) v) (ah _) (fun i hi=>.inr (by rw[List.mem_singleton.1 hi];exact hp)) (fun t ht=>absurd ht (by simp))
theorem Bh{w1 W W2:World}(h:al w1.heap.size [] [] w1 W)(hb:Below W.heap.size W W2):al w1.heap.size [] [] w1 W2:=h.after (an hb) h.size (fun i hi=>absurd hi (by simp)) (fun t ht=>absurd ht (by simp))
theorem eN{W:World}{g:Nat}{t:TypeId}{cs:Array Value}(h:Blk W g t cs)(o:Obj):Blk (W.alloc o) g t cs:=(heap_alloc_old W o (az h)).trans h
theorem kP{W:World}{g:Nat}{t:TypeId}{cs:Array Value}(h:Blk W g t cs):Blk W.drew g t cs:=h
theorem eO{W W2:World}(hb:Below W.heap.size W W2){g:Nat}{t:TypeId}{cs:Array Value}(h:Blk W g t cs):Blk W2 g t cs:=(hb.block g (az h)).trans h
theorem aC(w:World){b g o:Nat}(v:Value)(h:b≠g):(w.setCell ⟨g,o,none⟩ v).heap[b]? =w.heap[b]? :=OZ w ⟨g,o,none⟩ v b h
theorem aM{W:World}{g g2:Nat}{t t2:TypeId}{cs cs2:Array Value}(h:Blk W g t cs)(k:Blk W g2 t2 cs2)(ht:t≠t2)(e:g=g2):False:=by
 subst e;unfold Blk at h k;rw[h]at k;injection k with k
 injection k with _ k2
 exact ht k2
theorem Me:prog.stoodInHeld 237=false:=by kernel_rfl
theorem El:prog.underlying 237=some (.struct (prog.fieldsOf 237)):=by simp[Program.fieldsOf,underlying237]
theorem H9(a b:Int)(w:World):(binOp .eql 237 (.agg #[.int .i64 a,.int .i64 b]) (.agg #[.int .i64 a,.int .i64 b])).run prog w=.ok (.bool true) w:=by rw[run_eql_struct,run_equalIn_agg w 9999 237 _ _ El Me];simp[Program.fieldsOf,underlying237,Op.eqFields,part,go_sem]
theorem DY(a b c d:Int)(h:¬(a=c/\b=d))(w:World):(binOp .eql 237 (.agg #[.int .i64 a,.int .i64 b]) (.agg #[.int .i64 c,.int .i64 d])).run prog w=.ok (.bool false) w:=by
 rw[run_eql_struct,run_equalIn_agg w 9999 237 _ _ El Me];by_cases e:a=c;·have e2:b≠d:=fun e2=>h ⟨e,e2⟩;simp[Program.fieldsOf,underlying237,Op.eqFields,part,go_sem,e,e2]
 ·simp[Program.fieldsOf,underlying237,Op.eqFields,part,go_sem,e]
theorem i9{W:World}{g:Nat}(h:Blk W g 237 #[.int .i64 0,.int .i64 0]):Blk W g 237 #[.int .i64 0,.int .i64 0]:=h
theorem Jj{W:World}{g:Nat}{t:TypeId}{u v:Value}(h:Blk W g t #[u,v]):W.cell? ⟨g,0,none⟩=some u/\W.cell? ⟨g,1,none⟩=some v/\W.frozen? ⟨g,0,none⟩=false/\W.frozen? ⟨g,1,none⟩=false:=
 ⟨(ac h 0).trans rfl,(ac h 1).trans rfl,ae h 0,ae h 1⟩
theorem FY(w:World)(B bS bM gS gM p q N:Nat)(AS:Option Addr)(LS LM:List (Nat×Nat))
 (hS:Blk w bS 233 #[.slice AS (LS.length-p:Nat) (LS.length-p:Nat)]) (hM:Blk w bM 233 #[.slice (some ⟨gM,q*2,none⟩) (LM.length-q:Nat) (N-q:Nat)])
 (tS:eY w gS LS) (tM:eY w gM LM) (hP:p<LS.length->AS=some ⟨gS,p*2,none⟩) (hp:p<=LS.length) (hq:q<=LM.length) (hN:q+2<=N) (H0:LM.length<=N) (hL:LS.length<=1000000) (H1:N<=1000000)
 (hQ:∀t∈LS,t.1<4611686018427387904) (hV:∀t∈LM,t.1<4611686018427387904) (hR:∀t∈LS,∀u∈LM,t.2≠u.2) (hZ:p<LS.length\/q<LM.length) (hD:B<=bS) (hC:B<=bM) (hE:bS≠bM):
 Calls prog 288 #[.pointer (some ⟨bS,0,none⟩),.pointer (some ⟨bM,0,none⟩)] w fun e w'=>∃x:Nat×Nat,e=.returned (.agg #[.int .i64 x.1,.int .i64 x.2])/\al B [bS,bM] [] w w'/\
  ((p<LS.length/\kU (LS.drop p) (LM.drop q)=(x,LS.drop (p+1),LM.drop q)/\(∃ A,Blk w' bS 233 #[.slice A (LS.length-(p+1):Nat) (LS.length-(p+1):Nat)]/\(p+1<LS.length->A=some ⟨gS,(p+1)*2,none⟩))/\Blk w' bM 233 #[.slice (some ⟨gM,q*2,none⟩) (LM.length-q:Nat) (N-q:Nat)])\/
   (q<LM.length/\kU (LS.drop p) (LM.drop q)=(x,LS.drop p,LM.drop (q+1))/\Blk w' bS 233 #[.slice AS (LS.length-p:Nat) (LS.length-p:Nat)]/\Blk w' bM 233 #[.slice (some ⟨gM,(q+1)*2,none⟩) (LM.length-(q+1):Nat) (N-(q+1):Nat)])):=by
 have hy:=aa fun(w1:World) (h:eY w1 gS LS)=>Ag w1 AS gS p (LS.length-p) LS h hP hp hL;have hk:=aa fun(w1:World) (h:eY w1 gM LM)=>Ag w1 (some ⟨gM,q*2,none⟩) gM q (N-q) LM h (fun _=>rfl) hq (by omega);have hl:=aa fun(w1:World) (b:Nat)=>C4 w1 b 2 (hd (LS.drop p)) (hd (LM.drop q));obtain⟨s,hs⟩:∃s,s=hd (LS.drop p):=⟨_,rfl⟩;obtain⟨m,hm⟩:∃m,m=hd (LM.drop q):=⟨_,rfl⟩;obtain⟨z,hz⟩:∃z,z=mF s m:=⟨_,rfl⟩;obtain⟨kS,hJ⟩:∃k,k=LS.length-p:=⟨_,rfl⟩;obtain⟨kM,hI⟩:∃k,k=LM.length-q:=⟨_,rfl⟩;obtain⟨cM,hF⟩:∃k,k=N-q:=⟨_,rfl⟩;rw[<- hs]at hy hl;rw[<- hm]at hk hl;rw[<- hz]at hl;rw[<- hJ]at hy hS;rw[<- hI,<-hF]at hk hM;have TS:=aa tS;have TM:=aa tM;have HS:=aa hS;have HM:=aa hM;have sl0:w.cell? ⟨bS,0,none⟩=some (.slice AS kS kS):=ac hS 0;have ml0:w.cell? ⟨bM,0,none⟩=some (.slice (some ⟨gM,q*2,none⟩) kM cM):=ac hM 0;have zS:=az hS;have zM:=az hM;have hB:Hid (∀ (w1:World) (b:Nat),w1.cell? ⟨b,0,none⟩=some (.int .i64 s.1)->w1.cell? ⟨b,1,none⟩=some (.int .i64 s.2)->w1.cell? ⟨b,2,none⟩=some (.int .i64 m.1)->w1.cell? ⟨b,3,none⟩=some (.int .i64 m.2)->Calls prog 289 #[.slice (some ⟨b,0,none⟩) 2 2,.func (.func 287) #[] #[]] w1 fun e w'=>e=.returned (.agg #[.int .i64 z.1,.int .i64 z.2])/\Below w1.heap.size w1 w'):=aa fun w1 b=>hl.out w1 b;have EQ:Hid (s=hd (LS.drop p)/\m=hd (LM.drop q)/\z=mF s m/\kS=LS.length-p/\kM=LM.length-q/\cM=N-q):=aa ⟨hs,hm,hz,hJ,hI,hF⟩;clear hS hM tS tM hl hs hm hz hJ hI hF;go_enter func288,ntmps288;go_wp2_with fail;obtain⟨w1,hx⟩:∃w1,w1=w.alloc (.cells #[.int .i64 0,.int .i64 0] 237):=⟨_,rfl⟩;have st0:al w.heap.size [] [] w w1:=by rw[hx];exact(al.refl w.heap.size [] [] w).alloc (ah _) _
 have hO:Hid (Blk w1 w.heap.size 237 #[.int .i64 0,.int .i64 0]):=aa (eJ hx);have ST0:=aa st0;have st1:al w1.heap.size [] [] w1 w1:=al.refl _ _ _ _;have z1:w.heap.size<w1.heap.size:=az hO.out;have CS:Hid (∀ W,al w1.heap.size [] [] w1 W->W.cell? ⟨bS,0,none⟩=some (.slice AS kS kS)):=aa fun W h=>(h.below.cell (p:=⟨bS,0,none⟩) (Nat.lt_trans zS z1)).trans ((st0.below.cell (p:=⟨bS,0,none⟩) zS).trans sl0);have CM:Hid (∀ W,al w1.heap.size [] [] w1 W->W.cell? ⟨bM,0,none⟩=some (.slice (some ⟨gM,q*2,none⟩) kM cM)):=aa fun W h=>(h.below.cell (p:=⟨bM,0,none⟩) (Nat.lt_trans zM z1)).trans ((st0.below.cell (p:=⟨bM,0,none⟩) zM).trans ml0);have RS:Hid (∀ W,al w1.heap.size [] [] w1 W->eY W gS LS):=aa fun W h=>h.trow (st0.trow TS.out (by simp)) (by simp);have RM:Hid (∀ W,al w1.heap.size [] [] w1 W->eY W gM LM):=aa fun W h=>h.trow (st0.trow TM.out (by simp)) (by simp);rw[<- hx];clear hx st0 sl0 ml0;go_cut [3]from 4 to 9 (fun s3 wx=>∃h,s3=.pointer (some ⟨h,0,none⟩)/\Blk wx h 237 #[.int .i64 z.1,.int .i64 z.2]/\al w1.heap.size [] [] w1 wx)
 case first=>
  go_region_held3 (fun w'=>w'.cell? ⟨bS,0,none⟩=some (.slice AS kS kS)/\w'.cell? ⟨bM,0,none⟩=some (.slice (some ⟨gM,q*2,none⟩) kM cM))
   (exact⟨CS.out _ (by repeat (first|with_reducible assumption|with_reducible refine fL ?_|with_reducible refine rI ?_ _|with_reducible refine Ks ?_ ?_ _|omega)),CM.out _ (by repeat (first|with_reducible assumption|with_reducible refine fL ?_|with_reducible refine rI ?_ _|with_reducible refine Ks ?_ ?_ _|omega))⟩)
   (first
     | (go_at_call 290;with_reducible refine(hy.out _ (RS.out _ (by repeat (first | with_reducible assumption | with_reducible refine fL ?_ | with_reducible refine rI ?_ _)))).mono ?_;rintro e w2 ⟨rfl,hb⟩
        have st2:al w1.heap.size [] [] w1 w2:=Bh (by repeat (first|with_reducible assumption|with_reducible refine fL ?_|with_reducible refine rI ?_ _)) hb
        have z2:=st2.size
        (try ((first|with_reducible have hT:=i9 (eO hb (aj _ _ _))|with_reducible have hT:=i9 (eO hb (kP (aj _ _ _)))|with_reducible have hT:=i9 (eO hb (eN (aj _ _ _) _))|with_reducible have hT:=i9 (eO hb (kP (eN (aj _ _ _) _)))|with_reducible have hT:=i9 (eO hb (hT))|with_reducible have hT:=i9 (eO hb (kP hT))|with_reducible have hT:=i9 (eO hb (eN hT _))|with_reducible have hT:=i9 (eO hb (kP (eN hT _))));obtain⟨hn,ho,h7,h8⟩:=Jj hT;(try rw[OE]at hn ho h7 h8))))
     | (go_at_call 290;with_reducible refine(hk.out _ (RM.out _ (by repeat (first | with_reducible assumption | with_reducible refine fL ?_ | with_reducible refine rI ?_ _)))).mono ?_;rintro e w3 ⟨rfl,hc⟩
        have st3:al w1.heap.size [] [] w1 w3:=Bh (by repeat (first|with_reducible assumption|with_reducible refine fL ?_|with_reducible refine rI ?_ _)) hc
        have z3:=st3.size
        (try ((first|with_reducible have hT:=i9 (eO hc (aj _ _ _))|with_reducible have hT:=i9 (eO hc (kP (aj _ _ _)))|with_reducible have hT:=i9 (eO hc (eN (aj _ _ _) _))|with_reducible have hT:=i9 (eO hc (kP (eN (aj _ _ _) _)))|with_reducible have hT:=i9 (eO hc (hT))|with_reducible have hT:=i9 (eO hc (kP hT))|with_reducible have hT:=i9 (eO hc (eN hT _))|with_reducible have hT:=i9 (eO hc (kP (eN hT _))));obtain⟨hn,ho,h7,h8⟩:=Jj hT;(try rw[OE]at hn ho h7 h8))))
     | (go_at_call 289;refine(hB.out _ _ (by simp) (by simp) (by simp) (by simp)).mono ?_;rintro e w4 ⟨rfl,he⟩
        have st4:al w1.heap.size [] [] w1 w4:=Bh (by repeat (first|with_reducible assumption|with_reducible refine fL ?_|with_reducible refine rI ?_ _)) he
        (try ((first|with_reducible have hT:=i9 (eO he (aj _ _ _))|with_reducible have hT:=i9 (eO he (kP (aj _ _ _)))|with_reducible have hT:=i9 (eO he (eN (aj _ _ _) _))|with_reducible have hT:=i9 (eO he (kP (eN (aj _ _ _) _)))|with_reducible have hT:=i9 (eO he (hT))|with_reducible have hT:=i9 (eO he (kP hT))|with_reducible have hT:=i9 (eO he (eN hT _))|with_reducible have hT:=i9 (eO he (kP (eN hT _))));obtain⟨hn,ho,h7,h8⟩:=Jj hT;(try rw[OE]at hn ho h7 h8)))))
  all_goals go_wp2_with fail
  all_goals go_meet
  all_goals refine⟨_,rfl,?_,(by repeat (first|with_reducible assumption|with_reducible refine fL ?_|with_reducible refine rI ?_ _|with_reducible refine Ks ?_ ?_ _|omega))⟩
  all_goals (first|exact aj _ _ _|exact au (au hT 0 _) 1 _|(have h9:=au (au hT 0 (.int .i64 z.1)) 1 (.int .i64 z.2);simp only[OE]at h9;exact h9))
 case rest=>
  obtain⟨h,rfl,ht,hr⟩:=hcut;have hv:wc.cell? ⟨h,0,none⟩=some (.int .i64 z.1):=ac ht 0;have hw:wc.cell? ⟨h,1,none⟩=some (.int .i64 z.2):=ac ht 1;have mlc:=CM.out wc hr;have hh:wc.drew.cell? ⟨h,0,none⟩=some (.int .i64 z.1):=hv;have hj:wc.drew.cell? ⟨h,1,none⟩=some (.int .i64 z.2):=hw;have mld:wc.drew.cell? ⟨bM,0,none⟩=some (.slice (some ⟨gM,q*2,none⟩) kM cM):=mlc;have zh:=az ht;have zMc:bM<wc.heap.size:=OM (Nat.lt_trans zM z1) hr.size;have HT:=aa ht;have rMd:eY wc.drew gM LM:=RM.out _ (fL hr);clear ht;obtain⟨e1,e2,e3,e4,e5,e6⟩:=EQ.out;by_cases hf:mx (LS.drop p) (LM.drop q)
  ·have hz:z=m:=(by rw[e3];unfold mF;rw[Ng ((uI m s).2 (by rw[e1,e2];exact hf))]);subst hz;have hg:=GK (fun t ht=>hQ t (O9 ht)) hf;have q13:=H9 (z.1:Int) (z.2:Int);have hY:q<LM.length:=by
    rcases NZ q LM.length with h1|h1;·exact h1
    ·exact absurd (OY h1) hg.1
   have H3:1<=kM:=(by omega);have hW:2<=cM:=(by omega);have PK:=aa hg;have EQ2:Hid (kS=LS.length-p/\kM=LM.length-q/\cM=N-q):=aa ⟨e4,e5,e6⟩;have E0:=aa e2;clear hg hf e1 e2 e3 e4 e5 e6;go_wp2_with fail
   go_region_held3 (fun w'=>w'.cell? ⟨h,0,none⟩=some (.int .i64 z.1)/\w'.cell? ⟨h,1,none⟩=some (.int .i64 z.2)/\w'.cell? ⟨bM,0,none⟩=some (.slice (some ⟨gM,q*2,none⟩) kM cM))
    (first|with_reducible exact⟨hv,hw,mlc⟩|with_reducible exact⟨hh,hj,mld⟩|with_reducible exact⟨hG,hH,mle⟩)
    (first
      | (go_at_call 290;with_reducible refine(hk.out _ rMd).mono ?_;rintro e w5 ⟨rfl,h6⟩
         have hG:w5.cell? ⟨h,0,none⟩=some (.int .i64 z.1):=(h6.cell (p:=⟨h,0,none⟩) zh).trans hh
         have hH:w5.cell? ⟨h,1,none⟩=some (.int .i64 z.2):=(h6.cell (p:=⟨h,1,none⟩) zh).trans hj
         have mle:w5.cell? ⟨bM,0,none⟩=some (.slice (some ⟨gM,q*2,none⟩) kM cM):=(h6.cell (p:=⟨bM,0,none⟩) zMc).trans mld
         have st5:al w1.heap.size [] [] w1 w5:=Bh (fL hr) h6))
   have M5:Blk w5 bM 233 #[.slice (some ⟨gM,q*2,none⟩) kM cM]:=st5.blk (ST0.out.blk HM.out (by simp) (by simp)) (by simp) (by simp);have S5:Blk w5 bS 233 #[.slice AS kS kS]:=st5.blk (ST0.out.blk HS.out (by simp) (by simp)) (by simp) (by simp);have R5:Blk w5 w.heap.size 237 #[.int .i64 0,.int .i64 0]:=st5.blk hO.out (by simp) (by simp);have T5:Blk w5 h 237 #[.int .i64 z.1,.int .i64 z.2]:=eO h6 HT.out;have fM5:=ae M5 0;clear h6 mlc mld hh hj hv hw;obtain⟨w6,h0⟩:∃w6,w6=w5.setCell ⟨bM,0,none⟩ (.slice (some ⟨gM,q*2+2,none⟩) (kM-1) (cM-1)):=⟨_,rfl⟩;have st6:al B [bS,bM] [] w5 w6:=(by rw[h0];exact(al.refl B [bS,bM] [] w5).set (p:=⟨bM,0,none⟩) (by first|exact hD|exact hC) (by simp) _);have N6:Blk w6 bM 233 #[(.slice (some ⟨gM,q*2+2,none⟩) (kM-1) (cM-1))]:=(by rw[h0];exact au M5 0 _);have O6:Blk w6 bS 233 #[.slice AS kS kS]:=(by rw[h0];exact(aC w5 _ hE).trans S5);have ha:h≠bM:=fun e=>aM T5 M5 (by decide) e;have h4:w.heap.size≠bM:=fun e=>aM R5 M5 (by decide) e;have T6:Blk w6 h 237 #[.int .i64 z.1,.int .i64 z.2]:=(by rw[h0];exact(aC w5 _ ha).trans T5);have R6:Blk w6 w.heap.size 237 #[.int .i64 0,.int .i64 0]:=(by rw[h0];exact(aC w5 _ h4).trans R5);have c60:(w5.setCell ⟨bM,0,none⟩ (.slice (some ⟨gM,q*2+2,none⟩) (kM-1) (cM-1))).cell? ⟨h,0,none⟩=some (.int .i64 z.1):=(by rw[<- h0];exact ac T6 0);have c61:(w5.setCell ⟨bM,0,none⟩ (.slice (some ⟨gM,q*2+2,none⟩) (kM-1) (cM-1))).cell? ⟨h,1,none⟩=some (.int .i64 z.2):=(by rw[<- h0];exact ac T6 1);have r60:(w5.setCell ⟨bM,0,none⟩ (.slice (some ⟨gM,q*2+2,none⟩) (kM-1) (cM-1))).cell? ⟨w.heap.size,0,none⟩=some (.int .i64 0):=(by rw[<- h0];exact ac R6 0);have r61:(w5.setCell ⟨bM,0,none⟩ (.slice (some ⟨gM,q*2+2,none⟩) (kM-1) (cM-1))).cell? ⟨w.heap.size,1,none⟩=some (.int .i64 0):=(by rw[<- h0];exact ac R6 1);have f60:(w5.setCell ⟨bM,0,none⟩ (.slice (some ⟨gM,q*2+2,none⟩) (kM-1) (cM-1))).frozen? ⟨w.heap.size,0,none⟩=false:=(by rw[<- h0];exact ae R6 0);have f61:(w5.setCell ⟨bM,0,none⟩ (.slice (some ⟨gM,q*2+2,none⟩) (kM-1) (cM-1))).frozen? ⟨w.heap.size,1,none⟩=false:=(by rw[<- h0];exact ae R6 1);have R7:=au (au R6 0 (.int .i64 z.1)) 1 (.int .i64 z.2)
   have ST:Hid (al B [bS,bM] [] w ((w6.setCell ⟨w.heap.size,0,none⟩ (.int .i64 z.1)).setCell ⟨w.heap.size,1,none⟩ (.int .i64 z.2))):=aa (by
    have a1:al B [bS,bM] [] w w1:=ST0.out.mono (by omega) (by simp) (by simp)
    have a2:al B [bS,bM] [] w w5:=a1.after st5 (by omega) (by simp) (by simp)
    have a3:al B [bS,bM] [] w w6:=a2.trans st6
    exact a3.after (((al.refl B [w.heap.size] [] w6).set (p:=⟨w.heap.size,0,none⟩) (by show B<=w.heap.size;omega) (by simp) _).set (p:=⟨w.heap.size,1,none⟩) (by show B<=w.heap.size;omega) (by simp) _) (ah _) (by intro i hi;rw[List.mem_singleton.1 hi];exact .inr (ah _)) (by simp))
   have N7:Hid (Blk ((w6.setCell ⟨w.heap.size,0,none⟩ (.int .i64 z.1)).setCell ⟨w.heap.size,1,none⟩ (.int .i64 z.2)) bM 233 #[(.slice (some ⟨gM,q*2+2,none⟩) (kM-1) (cM-1))]):=aa ((aC _ _ h4.symm).trans ((aC _ _ h4.symm).trans N6));have h5:bS≠w.heap.size:=fun e=>aM R6 O6 (by decide) e.symm;have O7:Hid (Blk ((w6.setCell ⟨w.heap.size,0,none⟩ (.int .i64 z.1)).setCell ⟨w.heap.size,1,none⟩ (.int .i64 z.2)) bS 233 #[.slice AS kS kS]):=aa ((aC _ _ h5).trans ((aC _ _ h5).trans O6));have q0:=(ac R7 0).trans (rfl:_=some (Value.int .i64 z.1));have q1:=(ac R7 1).trans (rfl:_=some (Value.int .i64 z.2));rw[h0]at ST N7 O7 q0 q1;clear R7 R6 T6 O6 N6 st6 h0 M5 S5 R5 T5;go_wp2_with fail;(try simp only[Exit.inBlock,Exit.then]);refine ND (v:=.agg #[.int .i64 z.1,.int .i64 z.2]) ?_ rfl ?_;·simp[results,results288,go_sem,q0,q1]
   ·obtain⟨e1,e2,e3⟩:=EQ2.out;refine⟨z,rfl,ST.out,.inr ⟨hY,?_,?_,?_⟩⟩;·rw[PK.out.2,P7,<-E0.out]
    ·rw[<- e1];exact O7.out
    ·rw[show LM.length-(q+1)=kM-1 by omega,show N-(q+1)=cM-1 by omega,show(q+1)*2=q*2+2 by omega];exact N7.out
  ·have hz:z=s:=(by rw[e3];unfold mF;rw[Nf (mt (uI m s).1 (by rw[e1,e2];exact hf))]);subst hz
   have hg:=AK (fun t ht=>hV t (O9 ht)) (fun t ht=>hQ t (O9 ht)) (by
    rcases hZ with h1|h1
    ·left
     intro h2
     have:=congrArg List.length h2
     rw[Nq,N5]at this
     omega
    ·right
     intro h2
     have:=congrArg List.length h2
     rw[Nq,N5]at this
     omega) (fun t ht u hu=>hR t (O9 ht) u (O9 hu)) hf
   have hK:p<LS.length:=by
    rcases NZ p LS.length with h1|h1;·exact h1
    ·exact absurd (OY h1) hg.1
   have hA:=hP hK;subst hA
   have q13:=DY (z.1:Int) (z.2:Int) (m.1:Int) (m.2:Int) (by
    have h3:=hg.2.2
    rw[<- e1,<-e2]at h3
    omega)
   have H4:1<=kS:=(by omega);have PK:=aa hg;have EQ2:Hid (kS=LS.length-p/\kM=LM.length-q/\cM=N-q):=aa ⟨e4,e5,e6⟩;have E0:=aa e1;clear hg hf e1 e2 e3 e4 e5 e6;go_wp2_with fail
   go_region_held3 (fun w'=>w'.cell? ⟨h,0,none⟩=some (.int .i64 z.1)/\w'.cell? ⟨h,1,none⟩=some (.int .i64 z.2)/\w'.cell? ⟨bM,0,none⟩=some (.slice (some ⟨gM,q*2,none⟩) kM cM))
    (first|with_reducible exact⟨hv,hw,mlc⟩|with_reducible exact⟨hh,hj,mld⟩|with_reducible exact⟨hG,hH,mle⟩)
    (first
      | (go_at_call 290;with_reducible refine(hk.out _ rMd).mono ?_;rintro e w5 ⟨rfl,h6⟩
         have hG:w5.cell? ⟨h,0,none⟩=some (.int .i64 z.1):=(h6.cell (p:=⟨h,0,none⟩) zh).trans hh
         have hH:w5.cell? ⟨h,1,none⟩=some (.int .i64 z.2):=(h6.cell (p:=⟨h,1,none⟩) zh).trans hj
         have mle:w5.cell? ⟨bM,0,none⟩=some (.slice (some ⟨gM,q*2,none⟩) kM cM):=(h6.cell (p:=⟨bM,0,none⟩) zMc).trans mld
         have st5:al w1.heap.size [] [] w1 w5:=Bh (fL hr) h6))
   have M5:Blk w5 bM 233 #[.slice (some ⟨gM,q*2,none⟩) kM cM]:=st5.blk (ST0.out.blk HM.out (by simp) (by simp)) (by simp) (by simp);have S5:Blk w5 bS 233 #[.slice (some ⟨gS,p*2,none⟩) kS kS]:=st5.blk (ST0.out.blk HS.out (by simp) (by simp)) (by simp) (by simp);have R5:Blk w5 w.heap.size 237 #[.int .i64 0,.int .i64 0]:=st5.blk hO.out (by simp) (by simp);have T5:Blk w5 h 237 #[.int .i64 z.1,.int .i64 z.2]:=eO h6 HT.out;have fS5:=ae S5 0;have sl5:w5.cell? ⟨bS,0,none⟩=some (.slice (some ⟨gS,p*2,none⟩) kS kS):=ac S5 0;clear h6 mlc mld hh hj hv hw;by_cases hX:kS=1
   ·subst hX;obtain⟨w6,h0⟩:∃w6,w6=w5.setCell ⟨bS,0,none⟩ (.slice (some ⟨gS,p*2,none⟩) 0 0):=⟨_,rfl⟩;have st6:al B [bS,bM] [] w5 w6:=(by rw[h0];exact(al.refl B [bS,bM] [] w5).set (p:=⟨bS,0,none⟩) (by first|exact hD|exact hC) (by simp) _);have N6:Blk w6 bS 233 #[(.slice (some ⟨gS,p*2,none⟩) 0 0)]:=(by rw[h0];exact au S5 0 _);have O6:Blk w6 bM 233 #[.slice (some ⟨gM,q*2,none⟩) kM cM]:=(by rw[h0];exact(aC w5 _ hE.symm).trans M5);have ha:h≠bS:=fun e=>aM T5 S5 (by decide) e;have h4:w.heap.size≠bS:=fun e=>aM R5 S5 (by decide) e;have T6:Blk w6 h 237 #[.int .i64 z.1,.int .i64 z.2]:=(by rw[h0];exact(aC w5 _ ha).trans T5);have R6:Blk w6 w.heap.size 237 #[.int .i64 0,.int .i64 0]:=(by rw[h0];exact(aC w5 _ h4).trans R5);have c60:(w5.setCell ⟨bS,0,none⟩ (.slice (some ⟨gS,p*2,none⟩) 0 0)).cell? ⟨h,0,none⟩=some (.int .i64 z.1):=(by rw[<- h0];exact ac T6 0);have c61:(w5.setCell ⟨bS,0,none⟩ (.slice (some ⟨gS,p*2,none⟩) 0 0)).cell? ⟨h,1,none⟩=some (.int .i64 z.2):=(by rw[<- h0];exact ac T6 1);have r60:(w5.setCell ⟨bS,0,none⟩ (.slice (some ⟨gS,p*2,none⟩) 0 0)).cell? ⟨w.heap.size,0,none⟩=some (.int .i64 0):=(by rw[<- h0];exact ac R6 0);have r61:(w5.setCell ⟨bS,0,none⟩ (.slice (some ⟨gS,p*2,none⟩) 0 0)).cell? ⟨w.heap.size,1,none⟩=some (.int .i64 0):=(by rw[<- h0];exact ac R6 1);have f60:(w5.setCell ⟨bS,0,none⟩ (.slice (some ⟨gS,p*2,none⟩) 0 0)).frozen? ⟨w.heap.size,0,none⟩=false:=(by rw[<- h0];exact ae R6 0);have f61:(w5.setCell ⟨bS,0,none⟩ (.slice (some ⟨gS,p*2,none⟩) 0 0)).frozen? ⟨w.heap.size,1,none⟩=false:=(by rw[<- h0];exact ae R6 1);have R7:=au (au R6 0 (.int .i64 z.1)) 1 (.int .i64 z.2)
    have ST:Hid (al B [bS,bM] [] w ((w6.setCell ⟨w.heap.size,0,none⟩ (.int .i64 z.1)).setCell ⟨w.heap.size,1,none⟩ (.int .i64 z.2))):=aa (by
     have a1:al B [bS,bM] [] w w1:=ST0.out.mono (by omega) (by simp) (by simp)
     have a2:al B [bS,bM] [] w w5:=a1.after st5 (by omega) (by simp) (by simp)
     have a3:al B [bS,bM] [] w w6:=a2.trans st6
     exact a3.after (((al.refl B [w.heap.size] [] w6).set (p:=⟨w.heap.size,0,none⟩) (by show B<=w.heap.size;omega) (by simp) _).set (p:=⟨w.heap.size,1,none⟩) (by show B<=w.heap.size;omega) (by simp) _) (ah _) (by intro i hi;rw[List.mem_singleton.1 hi];exact .inr (ah _)) (by simp))
    have N7:Hid (Blk ((w6.setCell ⟨w.heap.size,0,none⟩ (.int .i64 z.1)).setCell ⟨w.heap.size,1,none⟩ (.int .i64 z.2)) bS 233 #[(.slice (some ⟨gS,p*2,none⟩) 0 0)]):=aa ((aC _ _ h4.symm).trans ((aC _ _ h4.symm).trans N6));have h5:bM≠w.heap.size:=fun e=>aM R6 O6 (by decide) e.symm;have O7:Hid (Blk ((w6.setCell ⟨w.heap.size,0,none⟩ (.int .i64 z.1)).setCell ⟨w.heap.size,1,none⟩ (.int .i64 z.2)) bM 233 #[.slice (some ⟨gM,q*2,none⟩) kM cM]):=aa ((aC _ _ h5).trans ((aC _ _ h5).trans O6));have q0:=(ac R7 0).trans (rfl:_=some (Value.int .i64 z.1));have q1:=(ac R7 1).trans (rfl:_=some (Value.int .i64 z.2));rw[h0]at ST N7 O7 q0 q1;clear R7 R6 T6 O6 N6 st6 h0 M5 S5 R5 T5;go_wp2_with fail;(try simp only[Exit.inBlock,Exit.then]);refine ND (v:=.agg #[.int .i64 z.1,.int .i64 z.2]) ?_ rfl ?_;·simp[results,results288,go_sem,q0,q1]
    ·obtain⟨e1,e2,e3⟩:=EQ2.out;refine⟨z,rfl,ST.out,.inl ⟨hK,?_,⟨some ⟨gS,p*2,none⟩,?_,fun h=>by omega⟩,?_⟩⟩;·rw[PK.out.2.1,P7,<-E0.out]
     ·rw[show LS.length-(p+1)=0 by omega];exact N7.out
     ·rw[<- e2,<-e3];exact O7.out
   ·have H2:2<=kS:=(by omega);obtain⟨w6,h0⟩:∃w6,w6=w5.setCell ⟨bS,0,none⟩ (.slice (some ⟨gS,p*2+2,none⟩) (kS-1) (kS-1)):=⟨_,rfl⟩;have st6:al B [bS,bM] [] w5 w6:=(by rw[h0];exact(al.refl B [bS,bM] [] w5).set (p:=⟨bS,0,none⟩) (by first|exact hD|exact hC) (by simp) _);have N6:Blk w6 bS 233 #[(.slice (some ⟨gS,p*2+2,none⟩) (kS-1) (kS-1))]:=(by rw[h0];exact au S5 0 _);have O6:Blk w6 bM 233 #[.slice (some ⟨gM,q*2,none⟩) kM cM]:=(by rw[h0];exact(aC w5 _ hE.symm).trans M5);have ha:h≠bS:=fun e=>aM T5 S5 (by decide) e;have h4:w.heap.size≠bS:=fun e=>aM R5 S5 (by decide) e;have T6:Blk w6 h 237 #[.int .i64 z.1,.int .i64 z.2]:=(by rw[h0];exact(aC w5 _ ha).trans T5);have R6:Blk w6 w.heap.size 237 #[.int .i64 0,.int .i64 0]:=(by rw[h0];exact(aC w5 _ h4).trans R5);have c60:(w5.setCell ⟨bS,0,none⟩ (.slice (some ⟨gS,p*2+2,none⟩) (kS-1) (kS-1))).cell? ⟨h,0,none⟩=some (.int .i64 z.1):=(by rw[<- h0];exact ac T6 0);have c61:(w5.setCell ⟨bS,0,none⟩ (.slice (some ⟨gS,p*2+2,none⟩) (kS-1) (kS-1))).cell? ⟨h,1,none⟩=some (.int .i64 z.2):=(by rw[<- h0];exact ac T6 1);have r60:(w5.setCell ⟨bS,0,none⟩ (.slice (some ⟨gS,p*2+2,none⟩) (kS-1) (kS-1))).cell? ⟨w.heap.size,0,none⟩=some (.int .i64 0):=(by rw[<- h0];exact ac R6 0);have r61:(w5.setCell ⟨bS,0,none⟩ (.slice (some ⟨gS,p*2+2,none⟩) (kS-1) (kS-1))).cell? ⟨w.heap.size,1,none⟩=some (.int .i64 0):=(by rw[<- h0];exact ac R6 1);have f60:(w5.setCell ⟨bS,0,none⟩ (.slice (some ⟨gS,p*2+2,none⟩) (kS-1) (kS-1))).frozen? ⟨w.heap.size,0,none⟩=false:=(by rw[<- h0];exact ae R6 0);have f61:(w5.setCell ⟨bS,0,none⟩ (.slice (some ⟨gS,p*2+2,none⟩) (kS-1) (kS-1))).frozen? ⟨w.heap.size,1,none⟩=false:=(by rw[<- h0];exact ae R6 1);have R7:=au (au R6 0 (.int .i64 z.1)) 1 (.int .i64 z.2)
    have ST:Hid (al B [bS,bM] [] w ((w6.setCell ⟨w.heap.size,0,none⟩ (.int .i64 z.1)).setCell ⟨w.heap.size,1,none⟩ (.int .i64 z.2))):=aa (by
     have a1:al B [bS,bM] [] w w1:=ST0.out.mono (by omega) (by simp) (by simp)
     have a2:al B [bS,bM] [] w w5:=a1.after st5 (by omega) (by simp) (by simp)
     have a3:al B [bS,bM] [] w w6:=a2.trans st6
     exact a3.after (((al.refl B [w.heap.size] [] w6).set (p:=⟨w.heap.size,0,none⟩) (by show B<=w.heap.size;omega) (by simp) _).set (p:=⟨w.heap.size,1,none⟩) (by show B<=w.heap.size;omega) (by simp) _) (ah _) (by intro i hi;rw[List.mem_singleton.1 hi];exact .inr (ah _)) (by simp))
    have N7:Hid (Blk ((w6.setCell ⟨w.heap.size,0,none⟩ (.int .i64 z.1)).setCell ⟨w.heap.size,1,none⟩ (.int .i64 z.2)) bS 233 #[(.slice (some ⟨gS,p*2+2,none⟩) (kS-1) (kS-1))]):=aa ((aC _ _ h4.symm).trans ((aC _ _ h4.symm).trans N6));have h5:bM≠w.heap.size:=fun e=>aM R6 O6 (by decide) e.symm;have O7:Hid (Blk ((w6.setCell ⟨w.heap.size,0,none⟩ (.int .i64 z.1)).setCell ⟨w.heap.size,1,none⟩ (.int .i64 z.2)) bM 233 #[.slice (some ⟨gM,q*2,none⟩) kM cM]):=aa ((aC _ _ h5).trans ((aC _ _ h5).trans O6));have q0:=(ac R7 0).trans (rfl:_=some (Value.int .i64 z.1));have q1:=(ac R7 1).trans (rfl:_=some (Value.int .i64 z.2));rw[h0]at ST N7 O7 q0 q1;clear R7 R6 T6 O6 N6 st6 h0 M5 S5 R5 T5;go_wp2_with fail;(try simp only[Exit.inBlock,Exit.then]);refine ND (v:=.agg #[.int .i64 z.1,.int .i64 z.2]) ?_ rfl ?_;·simp[results,results288,go_sem,q0,q1]
    ·obtain⟨e1,e2,e3⟩:=EQ2.out;refine⟨z,rfl,ST.out,.inl ⟨hK,?_,⟨some ⟨gS,(p+1)*2,none⟩,?_,fun _=>rfl⟩,?_⟩⟩;·rw[PK.out.2.1,P7,<-E0.out]
     ·rw[show LS.length-(p+1)=kS-1 by omega,show(p+1)*2=p*2+2 by omega];exact N7.out
     ·rw[<- e2,<-e3];exact O7.out
theorem np(w:World):w.drew.heap.size=w.heap.size:=rfl
theorem BS{w W:World}(h:Below w.heap.size w W):Below w.heap.size w W.drew:=h.drew
theorem BR{w W:World}(h:Below w.heap.size w W)(o:Obj):Below w.heap.size w (W.alloc o):=h.alloc h.size o
theorem Mr{w W:World}{b o:Nat}(h:Below w.heap.size w W)(hp:w.heap.size<=b)(v:Value):Below w.heap.size w (W.setCell ⟨b,o,none⟩ v):=h.setCell (p:=⟨b,o,none⟩) hp v
theorem Mq{w W W2:World}(h:Below w.heap.size w W)(hb:Below W.heap.size W W2):Below w.heap.size w W2:=ap h hb
theorem Mt{W:World}{g:Nat}{t:TypeId}{cs:Array Value}(h:g=W.heap.size):Blk (W.alloc (.cells cs t)) g t cs:=by subst h;exact aj W t cs
theorem Mu{W:World}{g:Nat}{t:TypeId}(h:Blk W g t #[.slice none 0 0])(v:Value):Blk (W.setCell ⟨g,0,none⟩ v) g t #[v]:=au h 0 v
theorem lr{W:World}{g b o:Nat}{t:TypeId}{cs:Array Value}(h:Blk W g t cs)(h0:g≠b)(v:Value):Blk (W.setCell ⟨b,o,none⟩ v) g t cs:=(aC W v h0).trans h
theorem EK{W:World}{g N:Nat}{T:List (Nat×Nat)}(h:ko W g N T)(o:Obj):ko (W.alloc o) g N T:=by obtain⟨cs,h1,h2⟩:=h;exact⟨cs,eN h1 o,h2⟩
theorem Mg{W:World}{g N b o:Nat}{T:List (Nat×Nat)}(h:ko W g N T)(h0:g≠b)(v:Value):ko (W.setCell ⟨b,o,none⟩ v) g N T:=by obtain⟨cs,h1,h2⟩:=h;exact⟨cs,lr h1 h0 v,h2⟩
theorem M4{W:World}{g m:Nat}(h:Blk W g 237 (madeCells #[.int .i64 0,.int .i64 0] (m*2))):ko W g m []:=⟨_,h,by rw[Rr],fun i hi=>absurd hi (by simp)⟩
theorem Hg{W:World}{g:Nat}{t:TypeId}{v:Value}(h:Blk W g t #[v]):W.cell? ⟨g,0,none⟩=some v/\W.frozen? ⟨g,0,none⟩=false/\(∀ o:Obj,(W.alloc o).cell? ⟨g,0,none⟩=some v)/\(∀ o:Obj,(W.alloc o).frozen? ⟨g,0,none⟩=false)/\(∀ o o2:Obj,((W.alloc o).alloc o2).cell? ⟨g,0,none⟩=some v)/\∀o o2:Obj,((W.alloc o).alloc o2).frozen? ⟨g,0,none⟩=false:=
 ⟨(ac h 0).trans rfl,ae h 0,fun o=>(ac (eN h o) 0).trans rfl,fun o=>ae (eN h o) 0,fun o o2=>(ac (eN (eN h o) o2) 0).trans rfl,fun o o2=>ae (eN (eN h o) o2) 0⟩
theorem ry{W:World}{g b:Nat}{t:TypeId}{u:Value}(h:Blk W g t #[u])(h0:g≠b):(∀ (v:Value) (o:Obj),((W.setCell ⟨b,0,none⟩ v).alloc o).cell? ⟨g,0,none⟩=some u)/\∀(v:Value) (o:Obj),((W.setCell ⟨b,0,none⟩ v).alloc o).frozen? ⟨g,0,none⟩=false:=
 ⟨fun v o=>(ac (eN (lr (b:=b) (o:=0) h h0 v) o) 0).trans rfl,fun v o=>ae (eN (lr (b:=b) (o:=0) h h0 v) o) 0⟩
def Iq(w wx:World)(n:Nat)(T:List (Nat×Nat))(s3 s4:Value):Prop:=∃bS bM gS gM,s3=.pointer (some ⟨bS,0,none⟩)/\s4=.pointer (some ⟨bM,0,none⟩)/\Blk wx bS 233 #[.slice (some ⟨gS,0,none⟩) n n]/\Blk wx bM 233 #[.slice (some ⟨gM,0,none⟩) 0 n]/\
 ko wx gS n T/\ko wx gM n []/\Below w.heap.size w wx/\bS≠bM/\gS≠gM/\w.heap.size<=bS/\w.heap.size<=bM/\w.heap.size<=gS/\w.heap.size<=gM
theorem wh(w:World)(B bS bM gS gM p q N:Nat)(AS:Option Addr)(LS LM:List (Nat×Nat))
 (hS:Blk w bS 233 #[.slice AS (LS.length-p:Nat) (LS.length-p:Nat)]) (hM:Blk w bM 233 #[.slice (some ⟨gM,q*2,none⟩) (LM.length-q:Nat) (N-q:Nat)])
 (tS:eY w gS LS) (tM:eY w gM LM) (h0:p<LS.length->AS=some ⟨gS,p*2,none⟩) (hp:p<=LS.length) (hq:q<=LM.length) (hN:q+2<=N) (h9:LM.length<=N) (hL:LS.length<=1000000) (ha:N<=1000000)
 (hf:∀t∈LS,t.1<4611686018427387904) (hc:∀t∈LM,t.1<4611686018427387904) (hb:∀t∈LS,∀u∈LM,t.2≠u.2) (hh:p<LS.length\/q<LM.length) (h8:B<=bS) (h7:B<=bM) (hg:bS≠bM):
 Calls prog 288 #[.pointer (some ⟨bS,0,none⟩),.pointer (some ⟨bM,0,none⟩)] w fun e w'=>∃(x:Nat×Nat) (p1 q1:Nat) (A1:Option Addr),e=.returned (.agg #[.int .i64 x.1,.int .i64 x.2])/\al B [bS,bM] [] w w'/\
  kU (LS.drop p) (LM.drop q)=(x,LS.drop p1,LM.drop q1)/\p1<=LS.length/\q1<=LM.length/\(p1<LS.length->A1=some ⟨gS,p1*2,none⟩)/\Blk w' bS 233 #[.slice A1 (LS.length-p1:Nat) (LS.length-p1:Nat)]/\Blk w' bM 233 #[.slice (some ⟨gM,q1*2,none⟩) (LM.length-q1:Nat) (N-q1:Nat)]:=by
 refine(FY w B bS bM gS gM p q N AS LS LM hS hM tS tM h0 hp hq hN h9 hL ha hf hc hb hh h8 h7 hg).mono ?_;rintro e w' ⟨x,he,h6,⟨h1,h2,⟨A1,h3,h4⟩,h5⟩|⟨h1,h2,h3,h4⟩⟩;·exact⟨x,p+1,q,A1,he,h6,h2,h1,hq,h4,h3,h5⟩
 ·exact⟨x,p,q+1,AS,he,h6,h2,hp,h1,h0,h3,h4⟩
structure Mk (w wx:World) (W:List Nat) (n bS bM gS gM gI:Nat) (LS LM:List (Nat×Nat)) (k p q b:Nat) (AS:Option Addr) (ws ov:Nat->Nat) (act:List Tr) (len:Nat->Nat):Prop where
 boxS:Blk wx bS 233 #[.slice AS (LS.length-p:Nat) (LS.length-p:Nat)]
 boxM:Blk wx bM 233 #[.slice (some ⟨gM,q*2,none⟩) (LM.length-q:Nat) (n-q:Nat)]
 rowS:eY wx gS LS
 rowM:ko wx gM n LM
 at_:p<LS.length->AS=some ⟨gS,p*2,none⟩
 hp:p<=LS.length
 hq:q<=LM.length
 hm:LM.length+n=k
 hk:k<=2*n-1
 two:Two n k ws ov (LS.drop p) (LM.drop q) b
 grown:jQ n W k ws ov act len
 row:aA wx w.heap.size gI (2*n-1) (2*n-1) ov
 low:∀t∈LM,t.1<=W.sum/\n<=t.2
 below:Below w.heap.size w wx
theorem Jw(w:World)(A:Option Addr)(n c:Nat)(f:Nat->Nat)(hL:aw w A n ((List.range n).map f))(h2:2<=n)(hn:n<=258)(hf:∀i,i<n->1<=f i/\f i<=1073741824):
 Calls prog 268 #[.slice A n c] w fun e w'=>∃g ov ws act len,e=.returned (.slice (some ⟨g,0,none⟩) (2*n-1:Nat) (2*n-1:Nat))/\jQ n ((List.range n).map f) (2*n-1) ws ov act len/\aA w' w.heap.size g (2*n-1) (2*n-1) ov/\Below w.heap.size w w':=by
 have HK:=fun(w1:World) (h:aw w1 A n ((List.range n).map f))=>vK w1 A n c f h (by omega) (by omega);obtain⟨T,hT⟩:∃T,T=(List.range n).map fun i=>(f i,i):=⟨_,rfl⟩;rw[<- hT]at HK;have HA:=aa HK;have HT:=aa hT;have p6:∀w1:World,(Instr.makeSlice 233 (.int .i64 0) (.int .i64 n)).run prog w1=.ok (.slice (some ⟨w1.heap.size,0,none⟩) 0 n) (w1.alloc (.cells (madeCells #[.int .i64 0,.int .i64 0] (n*2)) 237)):=fun w1=>uf w1 0 n (Nh _) (by omega);have HI:=aa fun(w1:World) (hb:Below w.heap.size w w1)=>bN hL hb;have st1:al w.heap.size [] [] w w:=al.refl _ _ _ _;clear hL HK hT;go_enter func268,ntmps268;go_wp2_with fail;go_cut [3,4]from 10 to 14 (fun s3 s4 wx=>Iq w wx n T s3 s4)
 case first=>
  go_region_held3 (fun w'=>True)
   (trivial)
   (first
     | (go_at_call 200;with_reducible refine(HA.out _ (HI.out _ (by repeat (first | with_reducible exact st1.below | with_reducible assumption | with_reducible refine BS ?_ | with_reducible refine BR ?_ _)))).mono ?_;rintro e w2 ⟨rfl,HH,hh⟩
        have bl2:Below w.heap.size w w2:=Mq (by repeat (first|with_reducible exact st1.below|with_reducible assumption|with_reducible refine BS ?_|with_reducible refine BR ?_ _)) hh
        have z2:=HH.row.lt
        (first
          | ((first|with_reducible (have h1:=eO hh (aj _ _ _);have h2:=eO hh (eN (aj _ _ _) _);have h3:=eO hh (eN (eN (aj _ _ _) _) _))|with_reducible (have h1:=eO hh (kP (aj _ _ _));have h2:=eO hh (kP (eN (aj _ _ _) _));have h3:=eO hh (kP (eN (eN (aj _ _ _) _) _))));(try obtain⟨c1,f1,ca1,fa1,cb1,fb1⟩:=Hg h1);(try obtain⟨c2,f2,ca2,fa2,cb2,fb2⟩:=Hg h2);(try obtain⟨c3,f3,ca3,fa3,cb3,fb3⟩:=Hg h3);simp only[OE,np]at *;(try obtain⟨cp12,fp12⟩:=ry (b:=w.heap.size+1) h1 (by omega));(try obtain⟨cp13,fp13⟩:=ry (b:=w.heap.size) h1 (by omega));(try obtain⟨cp21,fp21⟩:=ry (b:=w.heap.size+1+1) h2 (by omega));(try obtain⟨cp23,fp23⟩:=ry (b:=w.heap.size) h2 (by omega));(try obtain⟨cp31,fp31⟩:=ry (b:=w.heap.size+1+1) h3 (by omega));(try obtain⟨cp32,fp32⟩:=ry (b:=w.heap.size+1) h3 (by omega)))
          | ((first|with_reducible (have h1:=eO hh (aj _ _ _);have h2:=eO hh (eN (aj _ _ _) _))|with_reducible (have h1:=eO hh (kP (aj _ _ _));have h2:=eO hh (kP (eN (aj _ _ _) _))));(try obtain⟨c1,f1,ca1,fa1,cb1,fb1⟩:=Hg h1);(try obtain⟨c2,f2,ca2,fa2,cb2,fb2⟩:=Hg h2);simp only[OE,np]at *;(try obtain⟨cp12,fp12⟩:=ry (b:=w.heap.size) h1 (by omega));(try obtain⟨cp21,fp21⟩:=ry (b:=w.heap.size+1) h2 (by omega)))
          | ((first|with_reducible (have h1:=eO hh (aj _ _ _))|with_reducible (have h1:=eO hh (kP (aj _ _ _))));(try obtain⟨c1,f1,ca1,fa1,cb1,fb1⟩:=Hg h1);simp only[OE,np]at *)
          | (simp only[np]at *)
          | skip)))
  all_goals go_wp2_with fail
  all_goals go_meet
  all_goals refine⟨_,_,_,_,rfl,rfl,by(repeat (first|with_reducible assumption|(with_reducible refine Mt ?_;(simp;done))|with_reducible refine eN ?_ _|with_reducible refine Mu ?_ _|(with_reducible refine lr ?_ ?_ _;rotate_left;omega))),by(repeat (first|with_reducible assumption|(with_reducible refine Mt ?_;(simp;done))|with_reducible refine eN ?_ _|with_reducible refine Mu ?_ _|(with_reducible refine lr ?_ ?_ _;rotate_left;omega))),by(repeat (first|with_reducible assumption|with_reducible refine EK ?_ _|(with_reducible refine Mg ?_ ?_ _;rotate_left;omega))),M4 (by(repeat (first|with_reducible assumption|(with_reducible refine Mt ?_;(simp;done))|with_reducible refine eN ?_ _|with_reducible refine Mu ?_ _|(with_reducible refine lr ?_ ?_ _;rotate_left;omega)))),by(repeat (first|with_reducible exact st1.below|with_reducible assumption|with_reducible refine BS ?_|with_reducible refine BR ?_ _|(with_reducible refine Mr ?_ ?_ _;rotate_left;omega))),?_,?_,?_,?_,?_,?_⟩
  all_goals omega
 case rest=>
  obtain⟨bS,bM,gS,gM,rfl,rfl,HU,q9,HX,ql,hb,p7,r3,zbS,zbM,zgS,zgM⟩:=hcut;have qm:T.length=n:=by rw[HT.out];simp
  have s1:(T.map Prod.snd).Nodup:=by rw[HT.out,Ov];have:(Prod.snd ∘ fun i=>(f i,i))=id:=rfl;rw[this,QX];exact OS
  have hG:=Bf wc w.heap.size gS n T HX.row zgS (by omega) s1;rw[qm]at hG;have hS:=aa hG;have cS:=ac HU 0;have cS':wc.cell? ⟨bS,0,none⟩=some (.slice (some ⟨gS,0,none⟩) n n):=cS;have HM:=aa q9;have HO:=aa HU;have q4:=aa ql;have q5:=aa HX;have HB:=aa hb;clear hG cS HU q9 HX ql hb p6 st1 HA;go_wp2_with fail;refine hS.out.mono ?_;rintro e w3 ⟨rfl,LS,ha,hv,H3,hK⟩;obtain⟨N,hN⟩:∃N,N=2*n-1:=⟨_,rfl⟩;have tg:(2:Int)*(n:Int)-1=(N:Int):=by omega
  have ta:3<=N:=by omega
  have te:N<=515:=by omega
  have p6:=bK w3 N (by omega);have qv:=bz w3 w.heap.size N (by have:=HB.out.size;have:=hK.size;omega) (by omega);have HN:=aa hN;have ps:=aa qv;have hI:=aa hK;have hQ:=aa H3;have hs:=aa hv;have hr:=aa ha;have HW:Hid (((List.range n).map f).sum<=1099511627776):=aa (qJ n f hn fun j hj=>(hf j hj).2)
  have HC:Hid (LS.length=n/\(∀ t∈LS,t.1<=1073741824/\t.2<n)):=aa (by
   refine⟨by rw[ha.length_eq,qm],fun t ht=> ?_⟩
   have h3:=ha.mem_iff.1 ht
   rw[HT.out]at h3
   obtain⟨i,hi,rfl⟩:=List.mem_map.1 h3
   exact⟨(hf i (List.mem_range.1 hi)).2,List.mem_range.1 hi⟩)
  have HJ:Hid (Mk w (w3.alloc (.cells (madeCells #[.int .i64 0] N) 3)) ((List.range n).map f) n bS bM gS gM w3.heap.size LS [] n 0 0 0 (some ⟨gS,0,none⟩) (fun j=>((List.range n).map f).getD j 0) (fun _=>0) (kw ((List.range n).map f)) (fun _=>0)):=aa (by
   have r7:∀b,Blk wc b 233 #[.slice (some ⟨gS,0,none⟩) n n]\/Blk wc b 233 #[.slice (some ⟨gM,0,none⟩) 0 n]->b∉ [gS]:=by
    rintro b hb hm
    rw[Ok]at hm
    obtain⟨cs,h1,_⟩:=q5.out
    rcases hb with hb|hb <;>exact aM hb h1 (by decide) hm
   have HD:((List.range n).map f).length=n:=by simp
   constructor
   case boxS=>
    rw[HC.out.1]
    exact eN (hI.out.blk HO.out (r7 bS (.inl HO.out)) (by simp)) _
   case boxM=>exact eN (hI.out.blk HM.out (r7 bM (.inr HM.out)) (by simp)) _
   case rowS=>
    obtain⟨cs,h1,h3⟩:=hQ.out
    exact⟨cs,eN h1 _,h3⟩
   case rowM=>exact EK (hI.out.tcap q4.out (by rw[Ok];exact r3.symm)) _
   case at_=>exact fun _=>rfl
   case hp=>exact Nh _
   case hq=>exact Nh _
   case hm=>simp
   case hk=>omega
   case two=>
    have h3:=Id ((List.range n).map f) LS (by
     rw[HD]
     refine hr.out.trans ?_
     rw[HT.out]
     have:((List.range n).map fun i=>(f i,i))=(List.range n).map fun i=>(((List.range n).map f).getD i 0,i):=Oc fun i hi=>by rw[dB n f i (List.mem_range.1 hi)]
     rw[this]) hs.out
    rw[HD]at h3
    exact h3
   case grown=>
    have h3:=rh ((List.range n).map f) (by rw[HD];omega)
    rw[HD]at h3
    exact h3
   case row=>rw[<- HN.out];exact ps.out
   case low=>exact fun t ht=>absurd ht (by simp)
   case below=>exact(HB.out.trans hI.out.below).alloc (by have:=HB.out.size;have:=hI.out.size;omega) _)
  generalize hWE:(List.range n).map f=W at*;have rO:=aa hWE;clear hWE;clear hN qv hK H3 hv ha;go_wp2_with fail;clear p6 ps hI hQ hs hr hS HB HO HM q4 q5;go_loopw [7,8,9] (fun v s8 s9 wx=>∃(k p q b:Nat) (LM:List (Nat×Nat)) (AS:Option Addr) (ws ov:Nat->Nat) (act:List Tr) (len:Nat->Nat),v=.int .i64 k/\Mk w wx W n bS bM gS gM w3.heap.size LS LM k p q b AS ws ov act len) (fun v _ _ _=>N-(intOf v).toNat)
  case atStart=>exact⟨n,0,0,0, [],_,_,_,_,_,rfl,HJ.out⟩
  case round=>
   clear HJ;rename World=>w4;obtain⟨k,p,q,b,LM,AS,ws,ov,act,len,rfl,J⟩:=hrel;have sb:=J.hk;rw[<- HN.out]at sb;by_cases e:k<N
   ·have qq:k+1<2*n:=(by have:=HN.out;omega);have s0:=HC.out.1;have tl:=J.hm;have tm:=J.hq;obtain⟨a1,a2,HY,s5,s2,hB,HZ⟩:=qi J.grown qq;have pb:p<LS.length\/q<LM.length:=by
     rcases pC J.two HY hB with h|h;·have:=PI h;rw[Nq]at this;omega
     ·have:=PI h;rw[Nq]at this;omega
    (have hw:∀t∈LM,t.1<4611686018427387904:=fun t ht=>by have:=(J.low t ht).1;have:=HW.out;omega);(have hA:∀t∈LS,t.1<4611686018427387904:=fun t ht=>by have:=(HC.out.2 t ht).1;omega);(have p0:∀t∈LS,∀u∈LM,t.2≠u.2:=fun t ht u hu=>by have:=(HC.out.2 t ht).2;have:=(J.low u hu).2;omega);have HF:=aa (wh w4 w.heap.size bS bM gS gM p q n AS LS LM J.boxS J.boxM J.rowS J.rowM.row J.at_ J.hp J.hq (by omega) (by omega) (by omega) (by omega) hA hw p0 pb zbS zbM p7)
    have hR:Hid (∀ (w5:World) (x:Nat×Nat) (p1 q1:Nat) (A1:Option Addr),al w.heap.size [bS,bM] [] w4 w5->kU (LS.drop p) (LM.drop q)=(x,LS.drop p1,LM.drop q1)->p1<=LS.length->q1<=LM.length->(p1<LS.length->A1=some ⟨gS,p1*2,none⟩)->Blk w5 bS 233 #[.slice A1 (LS.length-p1:Nat) (LS.length-p1:Nat)]->Blk w5 bM 233 #[.slice (some ⟨gM,q1*2,none⟩) (LM.length-q1:Nat) (n-q1:Nat)]->
     Calls prog 288 #[.pointer (some ⟨bS,0,none⟩),.pointer (some ⟨bM,0,none⟩)] w5 fun e w'=>∃(y:Nat×Nat) (p2 q2:Nat) (A2:Option Addr),e=.returned (.agg #[.int .i64 y.1,.int .i64 y.2])/\al w.heap.size [bS,bM] [] w5 w'/\
      kU (LS.drop p1) (LM.drop q1)=(y,LS.drop p2,LM.drop q2)/\p2<=LS.length/\q2<=LM.length/\(p2<LS.length->A2=some ⟨gS,p2*2,none⟩)/\Blk w' bS 233 #[.slice A2 (LS.length-p2:Nat) (LS.length-p2:Nat)]/\Blk w' bM 233 #[.slice (some ⟨gM,q2*2,none⟩) (LM.length-q2:Nat) (n-q2:Nat)]):=aa (by
     intro w5 x p1 q1 A1 hK so h1 h3 h4 h5 h6
     have H2:gS∉ [bS,bM]:=by
      intro hm
      obtain⟨cs,hc,_⟩:=J.rowS
      rcases List.mem_cons.1 hm with hm|hm
      ·exact aM hc J.boxS (by decide) hm
      ·exact aM hc J.boxM (by decide) (List.mem_singleton.1 hm)
     have hJ:gM∉ [bS,bM]:=by
      intro hm
      obtain⟨cs,hc,_⟩:=J.rowM
      rcases List.mem_cons.1 hm with hm|hm
      ·exact aM hc J.boxS (by decide) hm
      ·exact aM hc J.boxM (by decide) (List.mem_singleton.1 hm)
     have sa:k≠0:=by omega
     have st:=(vb J.two J.grown.ge sa HY hB so rfl).2.2.2.1
     have pf:p1<LS.length\/q1<LM.length:=by
      obtain⟨i,hi,s7⟩:∃i,i<k/\(fun j=>if j=x.2 then k else ov j) i=0:=by
       by_cases ex:a1=x.2
       ·exact⟨a2,s5,by show(if a2=x.2 then k else ov a2)=0;rw[Nf (by omega)];exact HZ⟩
       ·exact⟨a1,HY,by show(if a1=x.2 then k else ov a1)=0;rw[Nf ex];exact hB⟩
      rcases pC st hi s7 with h|h
      ·have:=PI h
       rw[Nq]at this
       omega
      ·have:=PI h
       rw[Nq]at this
       omega
     exact wh w5 w.heap.size bS bM gS gM p1 q1 n A1 LS LM h5 h6 (hK.trow J.rowS H2) (hK.tcap J.rowM hJ).row h4 h1 h3 (by omega) (by omega) (by omega) (by omega) hA hw p0 pf zbS zbM p7)
    have HJ:=aa J;clear J hw hA p0;go_wp2_with fail;refine HF.out.mono ?_;rintro e5 w5 ⟨x,p1,q1,A1,rfl,hH,hD,sm,sr,q7,hY,hW⟩;have pn:=aa (hR.out w5 x p1 q1 A1 hH hD sm sr q7 hY hW);have pv:=aa hD;have hV:=aa hH;clear hD hH q7 hY hW hR;go_wp2_with fail;refine pn.out.mono ?_;rintro e6 w6 ⟨y,p2,q2,A2,rfl,H5,hE,sn,ss,q8,hZ,hX⟩;have hF:=Ic HJ.out.grown HJ.out.two qq pv.out hE rfl rfl;have h8:al w.heap.size [bS,bM] [] w4 w6:=hV.out.trans H5;have pg:w3.heap.size∉ [bS,bM]:=(by have h1:=dJ HJ.out.row HJ.out.boxS (by decide) w3.heap.size rfl;have h3:=dJ HJ.out.row HJ.out.boxM (by decide) w3.heap.size rfl;simp[h1,h3]);have he:aA w6 w.heap.size w3.heap.size N N ov:=(by have:=HJ.out.row;rw[<- HN.out]at this;exact h8.row this (fun g hg=>by simp[Value.ownBlock]at hg;rw[<- hg];exact pg) (by simp));have H2:gS∉ [bS,bM]:=by
     intro hm;obtain⟨cs,hc,_⟩:=HJ.out.rowS;rcases List.mem_cons.1 hm with hm|hm;·exact aM hc HJ.out.boxS (by decide) hm
     ·exact aM hc HJ.out.boxM (by decide) (List.mem_singleton.1 hm)
    have hJ:gM∉ [bS,bM]:=by
     intro hm;obtain⟨cs,hc,_⟩:=HJ.out.rowM;rcases List.mem_cons.1 hm with hm|hm;·exact aM hc HJ.out.boxS (by decide) hm
     ·exact aM hc HJ.out.boxM (by decide) (List.mem_singleton.1 hm)
    have hC:w3.heap.size≠gM:=(by obtain⟨cs,hc,_⟩:=HJ.out.rowM;exact dJ HJ.out.row hc (by decide) w3.heap.size rfl);have q3:=aa (h8.trow HJ.out.rowS H2);have po:=aa (h8.tcap HJ.out.rowM hJ);have HL:=aa (HJ.out.below.trans h8.below);have z6:w.heap.size<=w6.heap.size:=HL.out.size;have s6:w3.heap.size<w6.heap.size:=he.lt.2;have H1:w.heap.size<=w3.heap.size:=he.lt.1;obtain⟨⟨act2,len2,qo⟩,HH,hx,hy,sT,pj⟩:=hF;have r8:x.2<N:=(by omega);have pl:y.2<N:=(by omega);have rv:=aa qo;have rM:=aa HH;have t5:=aa hE;have hP:=aa hZ;have hO:=aa hX;have rb:=aa q8;have q0:=aa he;clear qo HH hE hZ hX q8 he h8 H5 hV pv HF pn;obtain⟨x0,x1⟩:=x;obtain⟨y0,y1⟩:=y;dsimp only at hx hy sT pj r8 pl;have h7:aA ((w6.alloc (.cells #[.int .i64 x0,.int .i64 x1] 237)).alloc (.cells #[.int .i64 y0,.int .i64 y1] 237)) w.heap.size w3.heap.size N N ov:=(q0.out.alloc _).alloc _;have b7:=Eb w6 (.int .i64 x0) (.int .i64 x1) (.int .i64 y0) (.int .i64 y1) 237;have k0:=(ac b7.1 0).trans (rfl:_=some (Value.int .i64 x0));have k1:=(ac b7.1 1).trans (rfl:_=some (Value.int .i64 x1));have k2:=(ac b7.2 0).trans (rfl:_=some (Value.int .i64 y0));have k3:=(ac b7.2 1).trans (rfl:_=some (Value.int .i64 y1));have c1:=h7.cell x1 r8;have c2:=h7.cell y1 pl;have f1:=h7.frozen x1;have f2:=h7.frozen y1;have sv:(0:Int)<=(x1:Int):=(by omega);have sx:(x1:Int)<(N:Int):=(by omega);have t0:(0:Int)<=(y1:Int):=(by omega);have t1:(y1:Int)<(N:Int):=(by omega);have HQ:=aa h7;have B7:=aa b7;clear h7 b7;go_wp2_with fail;have ST7:Hid (al w.heap.size [] [] w6 ((w6.alloc (.cells #[.int .i64 x0,.int .i64 x1] 237)).alloc (.cells #[.int .i64 y0,.int .i64 y1] 237))):=aa (((al.refl w.heap.size [] [] w6).alloc z6 _).alloc (by simp;omega) _);obtain⟨w7,pk⟩:∃w7,w7=(w6.alloc (.cells #[.int .i64 x0,.int .i64 x1] 237)).alloc (.cells #[.int .i64 y0,.int .i64 y1] 237):=⟨_,rfl⟩;rw[<- pk]at HQ B7 k0 k1 k2 k3 c1 c2 f1 f2 ST7;rw[<- pk];clear pk;have HE:=(HQ.out.drew 1).set x1 k;have r6:=HE.set y1 k;have c2s:=HE.cell y1 pl;have f2s:=HE.frozen y1;have HS2:=aa r6;clear HE r6;change (w7.drew.setCell ⟨w3.heap.size,x1,none⟩ (.int .i64 (k:Nat))).cell? ⟨w3.heap.size,y1,none⟩=_ at c2s;change (w7.drew.setCell ⟨w3.heap.size,x1,none⟩ (.int .i64 (k:Nat))).frozen? ⟨w3.heap.size,y1,none⟩=_ at f2s;change Hid (aA ((w7.drew.setCell ⟨w3.heap.size,x1,none⟩ (.int .i64 (k:Nat))).setCell ⟨w3.heap.size,y1,none⟩ (.int .i64 (k:Nat))) w.heap.size w3.heap.size N N _)at HS2;go_region;obtain⟨w8,hM⟩:∃w8,w8=((w7.setCell ⟨w3.heap.size,x1,none⟩ (.int .i64 (k:Nat))).setCell ⟨w3.heap.size,y1,none⟩ (.int .i64 (k:Nat))).drew:=⟨_,rfl⟩;have rx:Hid (aA w8 w.heap.size w3.heap.size N N fun j=>if j=y1 then k else if j=x1 then k else ov j):=aa (by rw[hM];exact HS2.out);(have rR:bS≠w3.heap.size:=fun h=>by simp[h]at pg);(have qa:bM≠w3.heap.size:=fun h=>by simp[h]at pg);have p4:gS≠w3.heap.size:=(by obtain⟨cs,hc,_⟩:=HJ.out.rowS;exact fun h=>dJ HJ.out.row hc (by decide) w3.heap.size rfl h.symm);have h0:gS≠gM/\gS≠bM/\gM≠bM/\bS≠gM:=(by simp only[PF,ar,or_false,not_or]at H2 hJ;exact⟨r3,H2.2,hJ.2,fun h=>hJ.1 h.symm⟩);(have up8:∀{g:Nat} {t:TypeId} {cs:Array Value},Blk w6 g t cs->g≠w3.heap.size->Blk w8 g t cs:=fun h h3=>by rw[hM];exact kP (lr (lr (ST7.out.blk h (by simp) (by simp)) h3 _) h3 _));(have up78:∀{g:Nat} {t:TypeId} {cs:Array Value},Blk w7 g t cs->g≠w3.heap.size->Blk w8 g t cs:=fun h h3=>by rw[hM];exact kP (lr (lr h h3 _) h3 _));have BS8:=aa (up8 hP.out rR);have bM8:=up8 hO.out qa;have ba8:=up78 B7.out.1 (by omega);have bb8:=up78 B7.out.2 (by omega)
    have RS8:Hid (eY w8 gS LS):=aa (by
     obtain⟨cs,h1,h3⟩:=q3.out
     exact⟨cs,up8 h1 p4,h3⟩)
    have RM8:Hid (ko w8 gM n LM):=aa (by
     obtain⟨cs,h1,h3⟩:=po.out
     exact⟨cs,up8 h1 hC.symm,h3⟩)
    have BE8:Hid (Below w.heap.size w w8):=aa (by
     rw[hM]
     exact(((HL.out.trans ST7.out.below).setCell (p:=⟨w3.heap.size,x1,none⟩) H1 _).setCell (p:=⟨w3.heap.size,y1,none⟩) H1 _).drew)
    rw[<- hM];clear hM up8 up78 HS2 c2s f2s c1 c2 f1 f2 k0 k1 k2 k3 HQ B7 ST7 HL q3 po q0 hP hO;obtain⟨lm,qs⟩:∃lm,lm=LM.length-q2:=⟨_,rfl⟩;obtain⟨cm,p3⟩:∃cm,cm=n-q2:=⟨_,rfl⟩;obtain⟨z,hz⟩:∃z,z=x0+y0:=⟨_,rfl⟩;rw[<- qs,<-p3]at bM8;have tq:(x0:Int)+(y0:Int)=(z:Int):=(by omega);have tn:z<=1099511627776:=(by have:=HW.out;omega);have sl:lm+1<=cm:=(by omega);have ho:q2*2+lm*2=LM.length*2:=(by omega);have HV:LM.length<n:=(by omega);have r0:=(ac ba8 0).trans (rfl:_=some (Value.int .i64 x0));have r1:=(ac bb8 0).trans (rfl:_=some (Value.int .i64 y0));have r2:=(ac bM8 0).trans (rfl:_=some (Value.slice (some ⟨gM,q2*2,none⟩) lm cm));obtain⟨i3,h3,t2,H8,t3⟩:=NY Tryz.infoTree;have H4:(Builtin.append_ #[233,233] 233 #[.slice (some ⟨gM,q2*2,none⟩) lm cm,.slice (some ⟨w8.heap.size,0,none⟩) 1 1]).run prog (w8.alloc (.cells #[.int .i64 z,.int .i64 k] 237))=.ok (.slice (some ⟨gM,q2*2,none⟩) (lm+1) cm) (((w8.alloc (.cells #[.int .i64 z,.int .i64 k] 237)).setCell ⟨gM,LM.length*2,none⟩ (.int .i64 z)).setCell ⟨gM,LM.length*2+1,none⟩ (.int .i64 k)):=by
     have qb:=EK RM8.out (.cells #[.int .i64 z,.int .i64 k] 237)
     have h9:=run_append_room_cells (P:=prog) (w8.alloc (.cells #[.int .i64 z,.int .i64 k] 237)) 233 233 237 i3 underlying233 h3 gM (q2*2) lm cm ⟨w8.heap.size,0,none⟩ 1 1 [.int .i64 z,.int .i64 k] (by rw[H8];rfl) (su w8 _ _ _)
      (fun u hu=>by simp at hu;rcases hu with rfl|rfl <;>rfl) sl
      (fun jj hj=>by rw[H8,ho];exact(qb.there _ (by simp at hj;omega)).1) (fun jj hj=>by rw[H8,ho];exact(qb.there _ (by simp at hj;omega)).2)
     rw[H8,ho]at h9;exact h9
    have HS:=aa H4;have hl:Blk (((w8.alloc (.cells #[.int .i64 z,.int .i64 k] 237)).setCell ⟨gM,LM.length*2,none⟩ (.int .i64 z)).setCell ⟨gM,LM.length*2+1,none⟩ (.int .i64 k)) bM 233 #[.slice (some ⟨gM,q2*2,none⟩) lm cm]:=lr (lr (eN bM8 _) h0.2.2.1.symm _) h0.2.2.1.symm _;have m10:=(ac hl 0).trans (rfl:_=some (Value.slice (some ⟨gM,q2*2,none⟩) lm cm));have f10:=ae hl 0
    have HP:Hid (Mk w ((((w8.alloc (.cells #[.int .i64 z,.int .i64 k] 237)).setCell ⟨gM,LM.length*2,none⟩ (.int .i64 z)).setCell ⟨gM,LM.length*2+1,none⟩ (.int .i64 k)).setCell ⟨bM,0,none⟩ (.slice (some ⟨gM,q2*2,none⟩) (lm+1:Nat) cm)) W n bS bM gS gM w3.heap.size LS (LM++ [(z,k)]) (k+1) p2 q2 y0 A2 (fun j=>if j=k then x0+y0 else ws j) (fun j=>if j=y1 then k else if j=x1 then k else ov j) act2 len2):=aa (by
     have t4:=BE8.out.size
     have H0:(LM++ [(z,k)]).drop q2=LM.drop q2++ [(z,k)]:=OA ss
     constructor
     case boxS=>exact lr (lr (lr (eN BS8.out _) h0.2.2.2 _) h0.2.2.2 _) p7 _
     case boxM=>
      rw[show (LM++ [(z,k)]).length-q2=lm+1 by rw[Nc,NM];omega,<-p3]
      exact au hl 0 _
     case rowS=>
      obtain⟨cs,h1,h4⟩:=RS8.out
      exact⟨cs,lr (lr (lr (eN h1 _) h0.1 _) h0.1 _) h0.2.1 _,h4⟩
     case rowM=>exact Mg ((EK RM8.out _).store (z,k) HV) h0.2.2.1 _
     case at_=>exact rb.out
     case hp=>exact sn
     case hq=>rw[Nc,NM];omega
     case hm=>rw[Nc,NM];omega
     case hk=>omega
     case two=>rw[H0,hz];exact rM.out
     case grown=>exact rv.out
     case row=>
      rw[<- HN.out]
      exact(((rx.out.alloc _).other hC.symm _ _).other hC.symm _ _).other qa _ _
     case low=>
      intro t ht
      rcases List.mem_append.1 ht with ht|ht
      ·exact HJ.out.low t ht
      ·rw[List.mem_singleton.1 ht]
       exact⟨by show z<=_;omega,HJ.out.grown.ge⟩
     case below=>exact((((BE8.out.alloc t4 _).setCell (p:=⟨gM,LM.length*2,none⟩) zgM _).setCell (p:=⟨gM,LM.length*2+1,none⟩) zgM _).setCell (p:=⟨bM,0,none⟩) zbM _))
    clear H4 ba8 bb8 bM8 hl qs p3 hz ho h3 t2 H8 t3;(go_wp2_with (at_builtin;refine Lib.wpList_append_run _ rfl (.tmp 45) (.tmp 53) 233 233 rfl (.slice (some ⟨gM,q2*2,none⟩) lm cm) (.slice (some ⟨w8.heap.size,0,none⟩) 1 1) rfl rfl _ _ HS.out ?_));go_roundw;case rel=>exact⟨k+1,p2,q2,y0,LM++ [(z,k)],A2,_,_,act2,len2,by go_num,HP.out⟩
    case measure=>simp[intOf];omega
   ·have p5:k=N:=(by omega);subst p5;have HG:=aa J.grown;have HR:=aa J.row;have rs:=aa J.below;clear J;go_wp2_with fail;go_ret;rw[<- HN.out];rw[<- HN.out]at HR;refine⟨w3.heap.size,ov,ws,act,len,rfl,?_,HR.out,rs.out⟩;rw[rO.out];exact HG.out
theorem aA.cut{w:World}{B g c N n:Nat}{f:Nat->Nat}(h:aA w B g c N f)(hn:n<=N):aA w B g c n f:=by
 unfold aA at*;rcases h.2 with⟨h',_⟩|⟨g',cap',cur,h',hB,h1,h3,hm,h2,h0⟩;·simp at h'
 ·simp only[Ou,On,Qi,and_true,true_and]at h';obtain⟨rfl,rfl⟩:=h';refine⟨by rw[eB,Of],.inr ⟨g,c,cur,rfl,hB,h1,by omega,hm,h2,?_⟩⟩;rw[Of]at h0 |-;have e:cur.toList.take n=(cur.toList.take N).take n:=(by rw[Rs,Oh hn]);rw[e,h0];unfold cH;rw[<- RI,List.take_range,Oh hn]
theorem Ct(w:World)(A:Option Addr)(n c:Nat)(f:Nat->Nat)(hL:aw w A n ((List.range n).map f))(h2:2<=n)(hn:n<=258)(hf:∀i,i<n->1<=f i/\f i<=1073741824):
 Calls prog 235 #[.slice A n c] w fun e w'=>∃g c2 len,e=.returned (.slice (some ⟨g,0,none⟩) n c2)/\lj ((List.range n).map f) len/\aA w' w.heap.size g c2 n len/\Below w.heap.size w w':=by
 have HJ:=aa (Jw w A n c f hL h2 hn hf);obtain⟨N,hN⟩:∃N,N=2*n-1:=⟨_,rfl⟩;rw[<- hN]at HJ;have HN:=aa hN;have hI:3<=N:=by omega
 have hJ:N<=515:=by omega
 have hD:n<=N:=by omega
 clear hL hf hN;go_enter func235,ntmps235;go_wp2_with fail;refine HJ.out.mono ?_;rintro e w2 ⟨gI,ov,ws,act,len,rfl,hg,hr,hb⟩;obtain⟨dd,hl,ht,hm,h1,hp⟩:=FN (by rw[<- HN.out];exact hg);have ha:=aa hl;have hh:=aa ht;have hc:=aa hm;have h7:=aa h1;have he:=aa hp;have HR:=aa hr;have HB:=aa hb;have hC:=bK w2 N (by omega);have hk:=aa (bz w2 w.heap.size N hb.size (by omega));have hA:gI<w2.heap.size:=hr.lt.2;have hK:(N:Int)-2=((N-2:Nat):Int):=by omega
 clear hg hr hb HJ hl ht hm h1 hp;go_wp2_with fail;clear hC;have h9:Hid (Below w2.heap.size w2 (w2.alloc (.cells (madeCells #[.int .i64 0] N) 3))):=aa ((Nj _ _).alloc (ah _) _);go_loopw [5] (fun x wx=>∃(q:Nat) (i:Int),q+1<=N/\i=(q:Int)-1/\x=.int .i64 i/\aA wx w.heap.size w2.heap.size N N (fun j=>if q<=j then dd j else 0)/\Below w2.heap.size w2 wx) (fun x _=>(intOf x+1).toNat)
 case atStart=>
  refine⟨N-1,_,by omega,?_,rfl,?_,h9.out⟩;·omega
  ·have h3:(w2.alloc (.cells (madeCells #[.int .i64 0] N) 3)).ownsRow w.heap.size 3 1 (.slice (some ⟨w2.heap.size,0,none⟩) N N) N (cH N fun _=>0):=hk.out
   rw[b9 N (fun _=>0) (fun j=>if N-1<=j then dd j else 0) fun j hj=>by
    by_cases e:N-1<=j
    ·rw[Ng e,show j=2*n-2 by have:=HN.out;omega,ha.out]
    ·rw[Nf e]]at h3
   exact h3
 case round=>
  clear hk h9;obtain⟨q,i,hq,hi,rfl,hf,h0⟩:=hrel;rcases PT q with e0|e0;·subst e0;have di:decide ((0:Int)<=i)=false:=aD (by omega);clear hi;have h3:wr.ownsRow w.heap.size 3 1 (.slice (some ⟨w2.heap.size,0,none⟩) N N) N (cH N fun j=>if 0<=j then dd j else 0):=hf;rw[b9 N _ dd fun j hj=>Ng (Nh j)]at h3;have h4:aA wr w.heap.size w2.heap.size N N dd:=h3;have h5:aA wr w.heap.size w2.heap.size N n len:=(by have h6:wr.ownsRow w.heap.size 3 1 (.slice (some ⟨w2.heap.size,0,none⟩) n N) n (cH n dd):=h4.cut hD;rw[b9 n dd len fun j hj=>(he.out j hj).symm]at h6;exact h6);have H5:=aa h5;have hy:=aa (ap HB.out h0);have hM:(0:Int)<=(n:Int):=(by omega);have hE:(n:Int)<=(N:Int):=(by omega);clear hf h0 h3 h4 h5 hh hc he HR ha HB;go_wp2_with fail;go_ret;exact⟨w2.heap.size,N,len,rfl,h7.out,H5.out,hy.out⟩
  ·obtain⟨r,rfl⟩:∃r,q=r+1:=⟨q-1,by omega⟩;have hB:i=(r:Int):=(by omega);subst hB;have hw:r<N:=(by omega);have hP:(0:Int)<=(r:Int):=(by omega);have hH:(r:Int)<(N:Int):=(by omega);have hd:=hh.out r (by have:=HN.out;omega);have ci:=(HR.out.below h0 hA).cell r hw;have h8:=hc.out (ov r);obtain⟨o,ho⟩:∃o,o=ov r:=⟨_,rfl⟩;rw[<- ho]at ci hd h8;have hF:o<N:=(by have:=HN.out;omega);have hO:(0:Int)<=(o:Int):=(by omega);have hG:(o:Int)<(N:Int):=(by omega);have co:=hf.cell o hF;rw[Ng (by omega)]at co;have cr:=hf.cell r hw;have fr:=hf.frozen r;obtain⟨v,hv⟩:∃v,v=dd o:=⟨_,rfl⟩;rw[<- hv]at co hd h8;obtain⟨v1,hx⟩:∃v1,v1=v+1:=⟨_,rfl⟩;have hR:(v:Int)+1=(v1:Int):=(by omega);have hQ:v1<=1000:=(by omega);have hs:=hf.set r v1;have hu:(fun j=>if j=r then v1 else if r+1<=j then dd j else 0)=fun j=>if r<=j then dd j else 0:=by
    funext j;by_cases ej:j=r;·rw[Ng ej,Ng (by omega),ej,hd.2.2,hx]
    ·rw[Nf ej];by_cases ej2:r+1<=j;·rw[Ng ej2,Ng (by omega)]
     ·rw[Nf ej2,Nf (by omega)]
   rw[hu]at hs;have HS:=aa hs;have hz:=aa (h0.setCell (p:=⟨w2.heap.size,r,none⟩) (ah _) (.int .i64 (v1:Nat)));clear hf h0 hs hu hd ho hv hx h8 hi;go_wp2_with fail;go_roundw;case rel=>exact⟨r,(r:Int)-1,by omega,rfl,by go_num,HS.out,hz.out⟩
   case measure=>simp[intOf]
structure Mm (w wx:World) (W0:List Nat) (n most t gA cA gX cX:Nat) (len f:Nat->Nat):Prop where
 ht:t<=31
 rowW:aA wx w.heap.size gA cA n f
 rowL:aA wx w.heap.size gX cX n len
 half:da W0 t=(List.range n).map f
 hlen:lj (da W0 t) len
 hf:∀j,j<n->1<=f j/\f j<=1073741824
 past:∀q,q<t->∃L1,lj (da W0 q) L1/\∃i,i<n/\most<L1 i
 below:Below w.heap.size w wx
theorem K1{w:World}{B g c n:Nat}{f:Nat->Nat}(h:aA w B g c n f):ZIn w (some ⟨g,0,none⟩) n (((List.range n).map f).map fun(x:Nat)=>(x:Int)):=dK h.ints
theorem wn(n:Nat)(f:Nat->Nat)(i:Nat)(h:i<n):(((List.range n).map f).map fun(x:Nat)=>(x:Int)).getD i 0=(f i:Int):=by rw[Nb,Np,Np,NN h];rfl
theorem Fv(w:World)(A:Option Addr)(n c:Nat)(L:List Int)(most:Nat)(hL:ZIn w A n L)(hM:jk L)(hT:12<=most)(hV:most<=20):Calls prog 198 #[.slice A n c,.int .i64 most] w (kJ w L most):=by
 have hv:=hL.1;have hQ:2<=n:=by have:=hM.1;omega
 have hn:n<=258:=by have:=hM.2.1;omega
 have HM:=aa (wI w A n c L hL (by unfold maxLen;omega));rw[show decide (jk L)=true from No hM]at HM;have HC:=aa (rd w A n c L hL (fun x hx=>(hM.2.2 x hx).1) (by omega) (by omega));obtain⟨f0,hb⟩:∃f0,f0=um L:=⟨_,rfl⟩;rw[<- hb]at HC;have hu:∀j,j<n->1<=f0 j/\f0 j<=1073741824:=by intro j hj;rw[hb];have:=(hM.2.2 _ (eF L j (by omega))).2;unfold um;omega
 have ho:jO L=(List.range n).map f0:=by unfold jO;rw[hv,hb]
 have hP:Hid (∀ (v:Value) (len:Nat->Nat) w',iu (jO L) most len->w'.ownsRow w.heap.size 3 1 v n (cH n len)->Below w.heap.size w w'->kJ w L most (.returned (.tuple #[v,.int .i64 0])) w'):=aa fun v len w' h1 h2 h3=>.inr ⟨hM,by omega,by omega,v,len,by rw[Nn];exact h1,rfl,by rw[hv];exact h2,h3⟩;have m1:decide ((most:Int)<12)=false:=aD (by omega);have m2:decide ((20:Int)<(most:Int))=false:=aD (by omega);have hh:=aa hu;have hl:=aa ho;have hA:=aa fun(w1:World) (B g c1:Nat) (f:Nat->Nat) (h:aA w1 B g c1 n f) (hf:∀i,i<n->1<=f i/\f i<=1073741824)=>Ct w1 (some ⟨g,0,none⟩) n c1 f h.ints hQ hn hf;have hO:=aa fun(w1:World) (B g c1:Nat) (f:Nat->Nat) (h:aA w1 B g c1 n f)=>oY w1 (some ⟨g,0,none⟩) n c1 _ (K1 h) (by omega) (by unfold maxLen;omega);have hK:=aa fun(w1:World) (B g c1:Nat) (f:Nat->Nat) (h:aA w1 B g c1 n f) (hf:∀j,j<n->f j<=1073741824)=>Ge w1 B g c1 n f h hf (by omega)
 have h9:Hid ((jO L).length=n/\∀x∈jO L,x<=2^30):=aa (by
  rw[ho]
  refine⟨by simp,fun x hx=> ?_⟩
  obtain⟨j,hj,rfl⟩:=List.mem_map.1 hx
  have:=hu j (List.mem_range.1 hj)
  omega)
 generalize kJ w L most=PO at*;generalize jO L=W0 at*;clear hL hv hM hb hu ho;go_enter func198,ntmps198;go_wp2_with fail;refine HM.out.mono ?_;rintro e w ⟨rfl,rfl⟩;clear HM;go_wp2_with fail;refine HC.out.mono ?_;rintro e w1 ⟨gA,cA,rfl,ht,hC⟩;have hy:=aa (hA.out w1 w.heap.size gA cA f0 ht hh.out);have hg:=aa ht;have hc:=aa hC;clear ht hC HC;go_wp2_with fail;refine hy.out.mono ?_;rintro e w2 ⟨gX,cX,len,rfl,ha,hE,hp⟩
 have h4:Hid (Mm w w2 W0 n most 0 gA cA gX cX len f0):=aa
  ⟨by omega,hg.out.below hp hg.out.lt.2,hE.lower hc.out.size,hl.out,by rw[show da W0 0=W0 from rfl,hl.out];exact ha,hh.out,(fun q hq=>by omega),ap hc.out hp⟩
 clear ha hE hp hy hg hc hh hl;go_wp2_with fail;go_loopg [6] 31 (fun g v wx=>∃(t gY cY:Nat) (len f:Nat->Nat),t+g=31/\v=.slice (some ⟨gY,0,none⟩) n cY/\Mm w wx W0 n most t gA cA gY cY len f)
 case atStart=>exact⟨0,gX,cX,len,f0,rfl,rfl,h4.out⟩
 case round=>
  clear h4;obtain⟨t,gY,cY,len,f,hW,rfl,T⟩:=hrel;have HG:=aa (hO.out wr w.heap.size gY cY len T.rowL);have HT:=aa T;clear T;go_wp2_with fail;refine HG.out.mono ?_;rintro e w7 ⟨g,rfl,h7,rfl⟩;have hI:(∀ j,j<n->(len j:Int)<=g)/\∃j,j<n/\(len j:Int)=g:=by
   refine⟨fun j hj=> ?_,?_⟩;·have h3:=h7.1 j hj;rwa [wn n len j hj]at h3
   ·obtain⟨j,hj,h⟩:=h7.2;rw[wn n len j hj]at h;exact⟨j,hj,h⟩
  have h6:=aa hI;clear h7 hI HG;by_cases e2:(most:Int)<g
  ·have dg:decide ((most:Int)<g)=true:=No e2;obtain⟨jm,hG,hR⟩:=h6.out.2;have hS:t<31:=by
    rcases NZ t 31 with h|h;·exact h
    ·have:=rk h9.out.2 (by rw[h9.out.1];exact hn) t h HT.out.hlen jm (by rw[h9.out.1];exact hG);omega
   have HH:=aa (hK.out w7 w.heap.size gA cA f HT.out.rowW fun j hj=>(HT.out.hf j hj).2);have hN:Hid (∃ i,i<n/\most<len i):=aa ⟨jm,hG,by omega⟩;clear hR;go_wp2_with fail;refine HH.out.mono ?_;rintro e w8 ⟨rfl,hw,hD⟩;(have hs:∀i,i<n->1<=f i/2+1/\f i/2+1<=1073741824:=fun i hi=>by have:=HT.out.hf i hi;omega);have hz:=aa (hA.out w8 w.heap.size gA cA (fun j=>f j/2+1) hw hs);have hk:=aa hw;have he:=aa hD;have hB:=aa hs;clear hw hD hs HH;go_wp2_with fail;refine hz.out.mono ?_;rintro e w9 ⟨gZ,cZ,len2,rfl,h5,hF,hr⟩;have h0:da W0 (t+1)=(List.range n).map fun a=>f a/2+1:=(by rw[da,HT.out.half,tT]);have hJ:w.heap.size<=w8.heap.size:=(HT.out.below.trans he.out).size
   have h4:Hid (Mm w w9 W0 n most (t+1) gA cA gZ cZ len2 (fun j=>f j/2+1)):=aa
    ⟨by omega,hk.out.below hr hk.out.lt.2,hF.lower hJ,h0,by rw[h0];exact h5,hB.out,(fun q hq=>by
      by_cases eq:q=t
      ·subst eq
       exact⟨len,HT.out.hlen,hN.out⟩
      ·exact HT.out.past q (by omega)),(HT.out.below.trans he.out).trans (hr.mono hJ)⟩
   clear h5 hF hr h0 hz hk he hB;go_wp2_with fail;(go_roundg (gk-1));case measure=>omega
   case rel=>exact⟨t+1,gZ,cZ,len2,_,by omega,by go_num,h4.out⟩
  ·have dg:decide ((most:Int)<g)=false:=Nk e2
   have hm:iu (da W0 t) most len:=.done HT.out.hlen (by
    rw[eR,h9.out.1]
    intro i hi
    have:=h6.out.1 i hi
    omega)
   have hH:=nU (w:=W0) t (fun q hq2=>by rw[h9.out.1];exact HT.out.past q hq2) hm;have h8:=aa (hP.out _ len w7 hH HT.out.rowL HT.out.below);clear hm hH HT h6 hP;go_wp2_with fail;exact h8.out
theorem eY.low{w w':World}{C g:Nat}{T:List (Nat×Nat)}(h:eY w g T)(hb:Below C w w')(hg:g<C):eY w' g T:=by obtain⟨cs,h1,h2⟩:=h;exact⟨cs,(hb.block g hg).trans h1,h2⟩
theorem Jn(W:List Nat)(i j:Nat)(hi:i<W.length)(hj:j<W.length)(h:i≠j):eU W i≠eU W j:=by
 rcases OJ (W.getD i 0) (W.getD j 0)with h1|h1|h1;·have:=iC W hj (.inl h1);omega
 ·rcases NZ i j with h2|h2;·have:=iC W hi (.inr ⟨h1,h2⟩);omega
  ·have:=iC W hj (.inr ⟨h1.symm,by omega⟩);omega
 ·have:=iC W hi (.inl h1);omega
theorem Fr(w:World)(A:Option Addr)(n c:Nat)(L:List Int)(hL:ZIn w A n L)(hM:jk L):Calls prog 151 #[.slice A n c] w (sA w L):=by
 have ht:=hL.1;have HE:2<=n:=by have:=hM.1;omega
 have hn:n<=258:=by have:=hM.2.1;omega
 have HM:=aa (wI w A n c L hL (by unfold maxLen;omega));rw[show decide (jk L)=true from No hM]at HM;have HC:=aa (rd w A n c L hL (fun x hx=>(hM.2.2 x hx).1) (by omega) (by omega));obtain⟨f,hf⟩:∃f,f=um L:=⟨_,rfl⟩;rw[<- hf]at HC;have hS:jO L=(List.range n).map f:=by unfold jO;rw[ht,hf]
 have hP:Hid (∀ (v:Value) (k:Nat) w',2^k<=n->n<2^(k+1)->w'.ownsRow w.heap.size 3 1 v n (cH n (bZ k (2^(k+1)-n) (jO L)))->Below w.heap.size w w'->sA w L (.returned (.tuple #[v,.int .i64 0])) w'):=aa fun v k w' h1 h2 h3 h4=>.inr ⟨hM,v,k,by rw[ht];exact h1,by rw[ht];exact h2,rfl,by rw[ht];exact h3,h4⟩;generalize sA w L=PO at*;generalize jO L=W at*;have HA:=aa fun(w1:World) (B g c1:Nat) (h:aA w1 B g c1 n f)=>vK w1 (some ⟨g,0,none⟩) n c1 f h.ints (by omega) (by omega);obtain⟨k,hk⟩:∃k,k=Lib.bitLen n-1:=⟨_,rfl⟩;have hw:=Lib.bitLenAux_bounds 64 n (by omega) (by omega);have hh:1<=Lib.bitLen n:=hw.1;have hm:2^k<=n:=by rw[hk];exact hw.2.1
 have hY:n<2^(k+1):=by rw[hk,Nat.sub_add_cancel hh];exact hw.2.2
 obtain⟨P,hE⟩:∃P:Nat,P=2^(k+1):=⟨_,rfl⟩;have H4:(2:Int)*(2:Int)^k=(P:Int):=by rw[hE,O4];push_cast;omega
 have HI:k<=8:=by
  rcases NZ k 9 with h|h;·omega
  ·have:=Oj (show 0<2 by decide) h;omega
 have HF:P<=512:=by rw[hE];have:2^(k+1)<=2^9:=Oj (by decide) (by omega);exact this
 obtain⟨C,hC⟩:∃C,C=P-n:=⟨_,rfl⟩;have H3:(P:Int)-(n:Int)=(C:Int):=by omega
 have hu:=aa fun w1:World=>Any.bits_Len Tryz.laysBits (n:Int) w1 (by omega) (by omega);rw[Nn]at hu;obtain⟨b,hb⟩:∃b,b=Lib.bitLen n:=⟨_,rfl⟩;rw[<- hb]at hu hk hh;have hZ:(b:Int)-1=(k:Int):=by omega
 have HK:=aa (show 2^k<=n/\n<2^(k+1)/\C=2^(k+1)-n from⟨hm,hY,by omega⟩);have HW:=aa hS;clear hL ht hM hf hS hk hw hh hm hY hE hC hb;go_enter func151,ntmps151;go_wp2_with fail;refine HM.out.mono ?_;rintro e w ⟨rfl,rfl⟩;clear HM;go_wp2_with fail;refine HC.out.mono ?_;rintro e w1 ⟨gA,cA,rfl,hX,hV⟩;have hI:=aa (HA.out w1 w.heap.size gA cA hX);have hA:=aa hV;clear hX hV HC HA;go_wp2_with fail;refine hI.out.mono ?_;rintro e w2 ⟨rfl,hH,hW⟩;obtain⟨T,hT⟩:∃T,T=(List.range n).map fun i=>(f i,i):=⟨_,rfl⟩;rw[<- hT]at hH;have hQ:T.length=n:=by rw[hT];simp
 have hR:(T.map Prod.snd).Nodup:=by rw[hT,Ov];have:(Prod.snd ∘ fun i=>(f i,i))=id:=rfl;rw[this,QX];exact OS
 have HT:=aa hT;have zg:w.heap.size<=w1.heap.size:=hA.out.size;have hl:=yy w2 w.heap.size w1.heap.size n T hH.row zg (by omega) hR;rw[hQ]at hl;have hr:=aa hl;have hK:=aa (hA.out.trans (hW.mono zg));clear hH hW hT hQ hR hl hI hA;go_wp2_with fail;refine hr.out.mono ?_;rintro e w3 ⟨rfl,LS,hc,he,h0,H1⟩;have h8:=aa hc;have h9:=aa he;have hq:=aa h0;have hN:=aa (hK.out.trans H1.below);have zg3:w1.heap.size<w3.heap.size:=h0.lt;have hp:=aa (hu.out w3);clear hc he h0 H1 hr hu hK;go_wp2_with fail;refine hp.out.mono ?_;rintro e w4 ⟨rfl,rfl⟩;have H8:=bK w4 n (by omega);have hO:=aa (bz w4 w.heap.size n hN.out.size (by omega));have hJ:Hid (Below w4.heap.size w4 (w4.alloc (.cells (madeCells #[.int .i64 0] n) 3))):=aa ((Nj w4.heap.size w4).alloc (ah _) (.cells (madeCells #[.int .i64 0] n) 3));go_wp2_with fail;clear H8 H4 H3 hZ hp;have hg:Hid (W.length=n):=aa (by rw[HW.out];simp)
 have hD:Hid (LS.length=n/\∀i x,LS[i]? =some x->x.2<n/\eU W x.2=i):=aa (by
  have H0:LS.Perm ((List.range W.length).map fun i=>(W.getD i 0,i)):=by
   rw[hg.out]
   refine h8.out.trans ?_
   rw[HT.out]
   have:((List.range n).map fun i=>(f i,i))=(List.range n).map fun i=>(W.getD i 0,i):=Oc fun i hi=>by rw[HW.out,dB n f i (List.mem_range.1 hi)]
   rw[this]
  refine⟨by rw[H0.length_eq];simp[hg.out],fun i x hx=> ?_⟩
  have h3:=AM W LS H0 h9.out i x hx
  rw[hg.out]at h3
  exact h3)
 clear h8 h9 HT;go_loopw [8,9,33] (fun s8 s9 x wx=>∃i:Nat,i<=n/\x=.int .i64 i/\aA wx w.heap.size w4.heap.size n n (fun j=>if eU W j<i then bZ k C W j else 0)/\Below w4.heap.size w4 wx) (fun _ _ x _=>n-(intOf x).toNat)
 case atStart=>refine⟨0,Nh _,rfl,?_,hJ.out⟩;have e0:(fun j=>if eU W j<0 then bZ k C W j else 0)=fun _=>0:=(by funext j;rw[Nf (by omega)]);rw[e0];exact hO.out
 case round=>
  clear hO hJ;obtain⟨i,hi,rfl,hf,hj⟩:=hrel;by_cases e:i<n
  ·have HG:(0:Int)<=(i:Int):=(by omega);have hF:i<LS.length:=(by rw[hD.out.1];exact e);have hx:=hD.out.2 i (LS.getD i (0,0)) (by rw[Nb,Nd hF];rfl);have h0:=hq.out.low hj zg3;have l0:=h0.cell0 hF;have l1:=h0.cell1 hF;generalize LS.getD i (0,0)=t at*;obtain⟨t0,j⟩:=t;dsimp only at l0 l1 hx;have hG:=hx.1;have hy:=hx.2;have HH:(0:Int)<=(j:Int):=(by omega);have H5:(j:Int)<(n:Int):=(by omega);have HD:w4.heap.size<=wr.heap.size:=hj.size;have hs:aA (wr.alloc (.cells #[.int .i64 t0,.int .i64 j] 237)) w.heap.size w4.heap.size n n _:=hf.alloc _;have b1:=(ac (aj wr 237 #[.int .i64 t0,.int .i64 j]) 1).trans (rfl:_=some (Value.int .i64 j));have c1:=hs.cell j hG;have g1:=hs.frozen j;have ho:=hs.set j k;have c2:=ho.cell j hG;rw[Ng rfl]at c2;have g2:=ho.frozen j;have HB:wr.heap.size≠w4.heap.size:=(by have:=hf.lt.2;omega);have b2:=(ac (lr (b:=w4.heap.size) (o:=j) (aj wr 237 #[.int .i64 t0,.int .i64 j]) HB (.int .i64 (k:Nat))) 1).trans (rfl:_=some (Value.int .i64 j));obtain⟨k1,hm⟩:∃k1,k1=k+1:=⟨_,rfl⟩;have hZ:(k:Int)+1=(k1:Int):=(by omega);have hz:=ho.set j k1;have h7:=((hj.alloc HD (.cells #[.int .i64 t0,.int .i64 j] 237)).setCell (p:=⟨w4.heap.size,j,none⟩) (ah _) (.int .i64 (k:Nat)));have h6:∀v:Nat,v=bZ k C W j->∀w':World,aA w' w.heap.size w4.heap.size n n (fun a=>if a=j then v else if eU W a<i then bZ k C W a else 0)->aA w' w.heap.size w4.heap.size n n (fun a=>if eU W a<i+1 then bZ k C W a else 0):=by
    intro v hv w' h;have h3:w'.ownsRow w.heap.size 3 1 (.slice (some ⟨w4.heap.size,0,none⟩) n n) n (cH n (fun a=>if a=j then v else if eU W a<i then bZ k C W a else 0)):=h
    rw[b9 n _ (fun a=>if eU W a<i+1 then bZ k C W a else 0) fun a ha=>by
     by_cases ea:a=j
     ·rw[Ng ea,Ng (by rw[ea];omega),hv,ea]
     ·rw[Nf ea]
      have:=Jn W a j (by rw[hg.out];exact ha) (by rw[hg.out];exact hG) ea
      by_cases e2:eU W a<i
      ·rw[Ng e2,Ng (by omega)]
      ·rw[Nf e2,Nf (by omega)]]at h3
    exact h3
   by_cases c:C<=i
   ·have hv:k1=bZ k C W j:=(by unfold bZ;rw[hy,Ng c];exact hm);have e2:(fun a=>if a=j then k1 else if a=j then k else if eU W a<i then bZ k C W a else 0)=fun a=>if a=j then k1 else if eU W a<i then bZ k C W a else 0:=by
     funext a;by_cases ea:a=j;·rw[Ng ea,Ng ea]
     ·rw[Nf ea,Nf ea,Nf ea]
    rw[e2]at hz;have HS:=aa (h6 k1 hv _ hz);have hB:=aa (h7.setCell (p:=⟨w4.heap.size,j,none⟩) (ah _) (.int .i64 (k1:Nat)));clear hf hj hx h0 hs ho hz h7 h6 hv e2 hm hy;go_wp2_with fail;go_roundw;case rel=>exact⟨i+1,by omega,by go_num,HS.out,hB.out⟩
    case measure=>simp[intOf];omega
   ·have hv:k=bZ k C W j:=(by unfold bZ;rw[hy,Nf c]);have HS:=aa (h6 k hv _ ho);have hB:=aa h7;clear hf hj hx h0 hs ho hz h7 h6 hv hm hy;go_wp2_with fail;go_roundw;case rel=>exact⟨i+1,by omega,by go_num,HS.out,hB.out⟩
    case measure=>simp[intOf];omega
  ·obtain rfl:i=n:=(by omega);have h3:wr.ownsRow w.heap.size 3 1 (.slice (some ⟨w4.heap.size,0,none⟩) i i) i (cH i fun a=>if eU W a<i then bZ k C W a else 0):=hf
   rw[b9 i _ (bZ k C W) fun a ha=>by
    have:eU W a<i:=by
     have h5:=(tJ W).mem_iff.1 (List.mem_map.2 ⟨a,List.mem_range.2 (by rw[hg.out];exact ha),rfl⟩)
     rw[hg.out]at h5
     exact List.mem_range.1 h5
    rw[Ng this]]at h3
   rw[HK.out.2.2]at h3;have H2:=aa (hP.out _ k wr HK.out.1 HK.out.2.1 h3 (ap hN.out hj));clear hf hj h3 hP hD hq;go_wp2_with fail;exact H2.out
