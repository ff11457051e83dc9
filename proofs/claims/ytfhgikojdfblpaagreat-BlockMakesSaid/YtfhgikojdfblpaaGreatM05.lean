import Derived.Test.YtfhgikojdfblpaaGreatM04
import Derived.Test.YtfhgikojdfblpaaGreatLx
import Derived.Shelf.SlSortCmp.WholeK
set_option maxHeartbeats 3200000
set_option maxRecDepth 100000
namespace Go.Proofs.YtfhgikojdfblpaaGreat
open _root_.Go.Proofs.Tryz
open Go.RowKit
def vD(x:Nat×Nat):List Value:= [.int .i64 x.1,.int .i64 x.2]
def fb(w:World)(g:Nat)(T:List (Nat×Nat)):Prop:=
 ∃cs,Blk w g 192 cs/\∀i,i<T.length->cs[i*2]? =some (.int .i64 (T.getD i (0,0)).1)/\cs[i*2+1]? =some (.int .i64 (T.getD i (0,0)).2)
theorem fb.cell0{w:World}{g:Nat}{T:List (Nat×Nat)}(h:fb w g T){i:Nat}(hi:i<T.length):w.cell? ⟨g,i*2,none⟩=some (.int .i64 (T.getD i (0,0)).1):=by obtain⟨cs,hb,hc⟩:=h;rw[ac hb,(hc i hi).1]
theorem fb.cell1{w:World}{g:Nat}{T:List (Nat×Nat)}(h:fb w g T){i:Nat}(hi:i<T.length):w.cell? ⟨g,i*2+1,none⟩=some (.int .i64 (T.getD i (0,0)).2):=by obtain⟨cs,hb,hc⟩:=h;rw[ac hb,(hc i hi).2]
theorem fb.frozen{w:World}{g:Nat}{T:List (Nat×Nat)}(h:fb w g T)(i:Nat):w.frozen? ⟨g,i,none⟩=false:=by obtain⟨cs,hb,hc⟩:=h;exact ae hb i
theorem fb.lt{w:World}{g:Nat}{T:List (Nat×Nat)}(h:fb w g T):g<w.heap.size:=by obtain⟨cs,hb,hc⟩:=h;exact aA hb
theorem ak.trow{B:Nat}{ps:List Nat}{w w':World}(h:ak B ps [] w w'){g:Nat}{T:List (Nat×Nat)}(hr:fb w g T)(hp:g∉ps):fb w' g T:=by obtain⟨cs,hb,hc⟩:=hr;exact⟨cs,h.blk hb hp (by simp),hc⟩
theorem MU(T:List (Nat×Nat))(i:Nat)(h:i<T.length):T.toArray[i]! =T.getD i (0,0):=by rw[Na,Nc h];simp[h]
theorem uh{w:World}{g:Nat}{T:List (Nat×Nat)}(h:fb w g T):Go.Sort.HoldsK vD 2 w g 0 T.toArray:=by
 intro t ht;have h0:t<T.length*2:=by simpa using ht
 have hi:t/2<T.length:=by omega
 refine⟨?_,h.frozen _⟩;rw[Go.Sort.get_flatK vD 2 T.toArray t (by simpa using h0),MU T _ hi,N8];by_cases e:t%2=0;·have h1:=h.cell0 hi;rw[show t/2*2=t by omega]at h1;rw[h1,e];rfl
 ·have h1:=h.cell1 hi;rw[show t/2*2+1=t by omega]at h1;rw[h1,show t%2=1 by omega];rfl
theorem DT{w:World}{g:Nat}{T:List (Nat×Nat)}(h:fb w g T)(n:Nat)(d:Array (Nat×Nat))(os:Array Obj)(hs:d.size=T.length)(B:Nat)(hB:B<=g):
 fb (sortWorldK vD 2 w g 0 n d os) g d.toList/\ak B [g] [] w (sortWorldK vD 2 w g 0 n d os):=by have h6:=h.lt;have hH:=holdsK_sortWorldK_c vD 2 w g 0 T.toArray d n os (uh h) h6 (by simpa using hs);have hz:=size_sortWorldK_c vD 2 w g 0 n d os;have h2:∀k,k<w.heap.size->k≠g->(sortWorldK vD 2 w g 0 n d os).heap[k]? =w.heap[k]? :=(by intro k hk h7;unfold sortWorldK Go.Sort.putRowK Go.Sort.putRow Go.Sort.mapBlock Go.Sort.grow Go.Sort.ahead;dsimp only;rw[QX (by simpa using hk),QN,Nd (fun e=>h7 e.symm)]);have h3:∃cs',Blk (sortWorldK vD 2 w g 0 n d os) g 192 cs':=(by obtain⟨cs,hb,_⟩:=h;unfold Blk at hb |-;unfold sortWorldK Go.Sort.putRowK Go.Sort.putRow Go.Sort.mapBlock Go.Sort.grow Go.Sort.ahead;dsimp only;rw[QX (by simpa using h6),QN,Nf rfl,hb];exact⟨_,rfl⟩);refine⟨?_,⟨⟨rfl,rfl,rfl,hz,fun k hk=>h2 k (by omega) (by omega)⟩,fun k cs t fr hh hk _=>(h2 k (Array.getElem?_eq_some_iff.1 hh).1 (by simpa using hk)).trans hh⟩⟩;obtain⟨cs',h4⟩:=h3;refine⟨cs',h4,fun i hi=> ?_⟩;have h5:i<d.size:=(by simpa using hi);have e:d[i]! =d.toList.getD i (0,0):=(by rw[<- MU d.toList i hi]);have h0:=(Go.Sort.HoldsK.cell hH h5 (c:=0) (by omega)).1;have h1:=(Go.Sort.HoldsK.cell hH h5 (c:=1) (by omega)).1;rw[ac h4,N8,e]at h0 h1;exact⟨h0,h1⟩
theorem qw(cf:Nat×Nat->Nat×Nat->Int)(R:Nat×Nat->Nat×Nat->Prop)(fn:Nat)(eg:∀args w,(callFunc fn args).run prog w=.ok (.enter fn args) w)
 (hc:∀(x y:Nat×Nat) (w:World),Calls prog fn #[.agg #[.int .i64 x.1,.int .i64 x.2],.agg #[.int .i64 y.1,.int .i64 y.2]] w fun e w'=>e=.returned (.int .i64 (cf x y))/\∃q os',w'=Go.Sort.grow (w.drewN q) os')
 (hR:∀x y,cf x y<0↔R x y) (h9:∀x,¬R x x) (hm:∀x y z,R x y->R y z->R x z) (hl:∀x y z,¬R x y->¬R y z->¬R x z) (hb:∀x y,¬R x y->x.2≠y.2->R y x)
 (w:World) (B g c:Nat) (T:List (Nat×Nat)) (h:fb w g T) (hB:B<=g) (hn:T.length<=1000000) (hd:(T.map Prod.snd).Nodup):
 Calls prog 145 #[.slice (some ⟨g,0,none⟩) T.length c,.func (.func fn) #[] #[]] w fun e w'=>e=.returned (.tuple #[])/\∃T',T'.Perm T/\T'.Pairwise R/\fb w' g T'/\ak B [g] [] w w':=by
 have h7:∀x y,ltOf cf x y=true↔R x y:=fun x y=>by unfold ltOf;rw[PF];exact hR x y
 have h6:∀x y,ltOf cf x y=false↔¬R x y:=fun x y=>by rw[<- h7,Bool.not_eq_true]
 have hO:Go.Sort.SWO (ltOf cf):=by refine⟨fun x=>(h6 x x).2 (h9 x),fun x y z h1 h2=>(h7 x z).2 (hm x y z ((h7 x y).1 h1) ((h7 y z).1 h2)),fun x y z h1 h2=>(h6 x z).2 (hl x y z ((h6 x y).1 h1) ((h6 y z).1 h2))⟩
 have hS:=AnyQ.slices_SortFunc Tryz.laysSort 2 Tryz.isAgg192 Tryz.sizeOf192 vD (fun _=>rfl) (fun x v hv=>by simp[vD]at hv;rcases hv with rfl|rfl <;>rfl) cf hO fn #[] g 0 c T.toArray w eg
  (fun m os dk _ x y=>hc x y _) (uh h) h.lt (by simp;omega)
 have ha:T.toArray.size=T.length:=by simp
 rw[ha]at hS;refine hS.mono ?_;rintro e w' ⟨rfl,d',n,os,hp,hs,rfl⟩;have h8:d'.size=T.length:=by rw[hp.1,ha]
 have h0:d'.toList.Perm T:=by have:=hp.2.2;rw[<- h8,Ri,h8,<-ha,Ri]at this;simpa using this
 obtain⟨h1,h2⟩:=DT h n d' os h8 B hB;refine⟨rfl,d'.toList,h0,?_,h1,h2⟩;have hf:(d'.toList.map Prod.snd).Nodup:=(h0.map _).nodup_iff.2 hd;rw[List.pairwise_iff_getElem];intro i j hi hj he;have hg:i<d'.size:=by simpa using hi
 have hh:j<d'.size:=by simpa using hj
 have h3:=hs i j (Ng _) he (by omega);have h4:=(h6 _ _).1 h3;rw[getElem!_pos d' i hg,getElem!_pos d' j hh]at h4;have hk:d'[j].2≠d'[i].2:=by intro e;rw[QU,List.pairwise_iff_getElem]at hf;have:=hf i j (by simpa using hi) (by simpa using hj) he;simp at this;exact this e.symm
 have h5:=hb _ _ h4 hk;simpa using h5
theorem jK(a b:Int):fC a b<0↔a<b:=by
 unfold fC;by_cases h1:a<b;·rw[Nf h1];omega
 ·by_cases h2:b<a;·rw[Nd h1,Nf h2];omega
  ·rw[Nd h1,Nd h2];omega
theorem ic(a b:Int):fC a b=0↔a=b:=by
 unfold fC;by_cases h1:a<b;·rw[Nf h1];omega
 ·by_cases h2:b<a;·rw[Nd h1,Nf h2];omega
  ·rw[Nd h1,Nd h2];omega
def fI(x y:Nat×Nat):Int:=Bt ((x.1:Int),(x.2:Int)) ((y.1:Int),(y.2:Int))
def Jl(x y:Nat×Nat):Int:=Ep ((x.1:Int),(x.2:Int)) ((y.1:Int),(y.2:Int))
theorem uT(x y:Nat×Nat):fI x y<0↔Fst x y:=by
 unfold fI Bt Fst;dsimp only;by_cases e:fC (x.1:Int) (y.1:Int)=0;·rw[Nf e,jK];have:=(ic _ _).1 e;omega
 ·rw[Nd e,jK];have:=mt (ic (x.1:Int) (y.1:Int)).2 e;omega
theorem FY(x y:Nat×Nat):Jl x y<0↔lG x y:=by
 unfold Jl Ep lG;dsimp only;by_cases e:fC (y.1:Int) (x.1:Int)=0;·rw[Nf e,jK];have:=(ic _ _).1 e;omega
 ·rw[Nd e,jK];have:=mt (ic (y.1:Int) (x.1:Int)).2 e;omega
theorem BE(w:World)(B g c:Nat)(T:List (Nat×Nat))(h:fb w g T)(hB:B<=g)(hn:T.length<=1000000)(hd:(T.map Prod.snd).Nodup):
 Calls prog 145 #[.slice (some ⟨g,0,none⟩) T.length c,.func (.func 233) #[] #[]] w fun e w'=>e=.returned (.tuple #[])/\∃T',T'.Perm T/\T'.Pairwise Fst/\fb w' g T'/\ak B [g] [] w w':=
 qw fI Fst 233 (enters_of func233 (by kernel_rfl) rfl) (fun x y w=>jY _ _ w) uT (fun x=>by unfold Fst;omega) (fun x y z=>Fst.trans) (fun x y z=>by unfold Fst;omega) (fun x y=>wG) w B g c T h hB hn hd
theorem yD(w:World)(B g c:Nat)(T:List (Nat×Nat))(h:fb w g T)(hB:B<=g)(hn:T.length<=1000000)(hd:(T.map Prod.snd).Nodup):
 Calls prog 145 #[.slice (some ⟨g,0,none⟩) T.length c,.func (.func 146) #[] #[]] w fun e w'=>e=.returned (.tuple #[])/\∃T',T'.Perm T/\T'.Pairwise lG/\fb w' g T'/\ak B [g] [] w w':=
 qw Jl lG 146 (enters_of func146 (by kernel_rfl) rfl) (fun x y w=>Ao _ _ w) FY (fun x=>by unfold lG;omega) (fun x y z=>by unfold lG;omega) (fun x y z=>by unfold lG;omega) (fun x y=>by unfold lG;omega) w B g c T h hB hn hd
def kN(w:World)(g N:Nat)(T:List (Nat×Nat)):Prop:=
 ∃cs,Blk w g 192 cs/\cs.size=N*2/\∀i,i<T.length->cs[i*2]? =some (.int .i64 (T.getD i (0,0)).1)/\cs[i*2+1]? =some (.int .i64 (T.getD i (0,0)).2)
theorem kN.row{w:World}{g N:Nat}{T:List (Nat×Nat)}(h:kN w g N T):fb w g T:=by obtain⟨cs,h1,_,h3⟩:=h;exact⟨cs,h1,h3⟩
theorem ak.tcap{B:Nat}{ps:List Nat}{w w':World}(h:ak B ps [] w w'){g N:Nat}{T:List (Nat×Nat)}(hr:kN w g N T)(hp:g∉ps):kN w' g N T:=by obtain⟨cs,hb,hc⟩:=hr;exact⟨cs,h.blk hb hp (by simp),hc⟩
theorem kN.there{w:World}{g N:Nat}{T:List (Nat×Nat)}(h:kN w g N T)(j:Nat)(hj:j<N*2):(w.cell? ⟨g,j,none⟩).isSome=true/\w.frozen? ⟨g,j,none⟩=false:=by obtain⟨cs,hb,hs,_⟩:=h;refine⟨?_,ae hb j⟩;rw[ac hb,Array.getElem?_eq_getElem (by omega)];rfl
theorem kN.store{w:World}{g N:Nat}{T:List (Nat×Nat)}(h:kN w g N T)(x:Nat×Nat)(hN:T.length<N):
 kN ((w.setCell ⟨g,T.length*2,none⟩ (.int .i64 x.1)).setCell ⟨g,T.length*2+1,none⟩ (.int .i64 x.2)) g N (T++ [x]):=by
 obtain⟨cs,hb,hs,hc⟩:=h;refine⟨_,ay (ay hb (T.length*2) (.int .i64 x.1)) (T.length*2+1) (.int .i64 x.2),by simp[hs],fun i hi=> ?_⟩;rw[Nb,NP]at hi;by_cases e:i=T.length
 ·subst e;have e0:(T++ [x]).getD T.length (0,0)=x:=by simp
  rw[e0];constructor;·rw[Pj (by omega),QT (by omega)]
  ·rw[QT (by simp;omega)]
 ·have h0:i<T.length:=by omega
  have e0:(T++ [x]).getD i (0,0)=T.getD i (0,0):=by rw[Na,Na,NW h0]
  rw[e0];have h3:=hc i h0;constructor;·rw[Pj (by omega),Pj (by omega)];exact h3.1
  ·rw[Pj (by omega),Pj (by omega)];exact h3.2
theorem Tryz.infoTree:(prog.info? 192).map (fun i=>(i.zero,i.size,i.bytes))=some (some (.agg #[.int .i64 0,.int .i64 0]),2,16):=by kernel_rfl
theorem uu(w:World)(n m:Nat)(hn:n<=m)(hm:m<=1000000):(Instr.makeSlice 188 (.int .i64 n) (.int .i64 m)).run prog w=.ok (.slice (some ⟨w.heap.size,0,none⟩) n m) (w.alloc (.cells (madeCells #[.int .i64 0,.int .i64 0] (m*2)) 192)):=by obtain⟨i3,h3,h0,h1,h2⟩:=N4 Tryz.infoTree;have h:=Qv (P:=prog) w 188 192 i3 (.agg #[.int .i64 0,.int .i64 0]) underlying188 h3 h0 .i64 .i64 (n:Int) (m:Int) (by omega) (by omega) (by rw[h2];omega) (by omega);rw[h1,Nv,Nv]at h;exact h
theorem Di(w:World)(m:Nat):kN (w.alloc (.cells (madeCells #[.int .i64 0,.int .i64 0] (m*2)) 192)) w.heap.size m []:=
 ⟨_,aj w _ _,by rw[Ro],fun i hi=>absurd hi (by simp)⟩
theorem vZ(w:World)(A:Option Addr)(n c:Nat)(f:Nat->Nat)(hL:aB w A n ((List.range n).map f))(h1:1<=n)(hn:n<=1000000):
 Calls prog 143 #[.slice A n c] w fun e w'=>e=.returned (.slice (some ⟨w.heap.size,0,none⟩) n n)/\kN w' w.heap.size n ((List.range n).map fun i=>(f i,i))/\Below w.heap.size w w':=by
 obtain⟨b,off,rfl,hc⟩:=hL.2 (by omega);have h2:∀i,i<n->w.cell? ⟨b,off+i,none⟩=some (.int .i64 (f i)):=fun i hi=>by rw[hc i hi,dE n f i hi]
 have HC:=aa h2;have h4:=uu w n n (ag _) hn;have HM:=aa (Di w n);clear hL hc h2;go_enter func143,ntmps143;go_wp2_with fail;have h0:=aa ((Nj w.heap.size w).alloc (ag _) (.cells (madeCells #[.int .i64 0,.int .i64 0] (n*2)) 192));go_loopw [4,5,11] (fun s4 s5 x wx=>∃i:Nat,i<=n/\x=.int .i64 i/\kN wx w.heap.size n ((List.range i).map fun i=>(f i,i))/\Below w.heap.size w wx) (fun _ _ x _=>n-(intOf x).toNat)
 case atStart=>exact⟨0,Ng _,rfl,HM.out,h0.out⟩
 case round=>
  clear HM h0 h4;obtain⟨i,hi,rfl,ht,hb⟩:=hrel;by_cases e:i<n
  ·have h5:(0:Int)<=(i:Int):=(by omega);have ci:=(hb.cell (p:=⟨b,off+i,none⟩) (No w _ (HC.out i e))).trans (HC.out i e);have t0:=ht.there (i*2) (by omega);have t1:=ht.there (i*2+1) (by omega);have hs:=ht.store (f i,i) (by simpa using e);have hl:((List.range i).map fun i=>(f i,i)).length=i:=(by simp);rw[hl,show((List.range i).map fun i=>(f i,i))++ [(f i,i)]=(List.range (i+1)).map fun i=>(f i,i) by rw[Oh,Nz];rfl]at hs;have HS:=aa hs;have h3:=aa ((hb.setCell (p:=⟨w.heap.size,i*2,none⟩) (ag _) (.int .i64 (f i:Nat))).setCell (p:=⟨w.heap.size,i*2+1,none⟩) (ag _) (.int .i64 (i:Nat)));obtain⟨u0,h6⟩:=Option.isSome_iff_exists.1 t0.1;obtain⟨u1,h7⟩:=Option.isSome_iff_exists.1 t1.1;have f0:=t0.2;have f1:=t1.2;dsimp only at HS;generalize f i=x at*;clear ht hb hs hl t0 t1;go_wp2_with fail;go_roundw;case rel=>exact⟨i+1,by omega,by go_num,HS.out,h3.out⟩
   case measure=>simp[intOf];omega
  ·obtain rfl:i=n:=(by omega);have HT:=aa ht;have HB:=aa hb;clear ht hb;go_wp2_with fail;go_ret;exact⟨rfl,HT.out,HB.out⟩
def hd:List (Nat×Nat)->Nat×Nat
 | []=>(9223372036854775807,0)
 | x::_=>x
theorem Ly(L:List (Nat×Nat))(p:Nat)(h:p<L.length):hd (L.drop p)=L.getD p (0,0):=by rw[NN h,Na,Nc h];rfl
theorem Az(w:World)(A:Option Addr)(g p c:Nat)(L:List (Nat×Nat))(h:fb w g L)(hA:p<L.length->A=some ⟨g,p*2,none⟩)(hp:p<=L.length)(_hn:L.length<=1000000):
 Calls prog 236 #[.slice A (L.length-p) c] w fun e w'=>e=.returned (.agg #[.int .i64 (hd (L.drop p)).1,.int .i64 (hd (L.drop p)).2])/\Below w.heap.size w w':=by
 by_cases e:p<L.length
 ·obtain rfl:=hA e;rw[Ly L p e];have c0:=h.cell0 e;have c1:=h.cell1 e;have hz:=h.lt;generalize L.getD p (0,0)=x at*;obtain⟨k,hk⟩:∃k,k=L.length-p:=⟨_,rfl⟩;rw[<- hk];have d1:((k:Int)==0)=false:=by rw[NC];omega
  have h1:(0:Int)<(k:Int):=by omega
  have h2:0<k:=by omega
  clear h hA hk;go_enter func236,ntmps236;go_wp2_with fail;have q0:=ia w (.int .i64 x.1) (.int .i64 x.2) 192;have q1:=ib w (.int .i64 x.1) (.int .i64 x.2) 192;refine NH (v:=.agg #[.int .i64 x.1,.int .i64 x.2]) ?_ rfl ⟨rfl,?_⟩;·simp[results,results236,go_sem,q0,q1]
  ·exact(Nj w.heap.size w).alloc (ag _) _
 ·have h0:p=L.length:=by omega
  subst h0;rw[List.drop_length,Oz];clear h hA;go_enter func236,ntmps236;go_wp2_with fail;have q0:=ia w (.int .i64 9223372036854775807) (.int .i64 0) 192;have q1:=ib w (.int .i64 9223372036854775807) (.int .i64 0) 192;refine NH (v:=.agg #[.int .i64 9223372036854775807,.int .i64 0]) ?_ rfl ⟨rfl,?_⟩;·simp[results,results236,go_sem,q0,q1]
  ·exact(Nj w.heap.size w).alloc (ag _) _
theorem Ef(w:World)(a b c d:Value)(t:TypeId):Blk ((w.alloc (.cells #[a,b] t)).alloc (.cells #[c,d] t)) w.heap.size t #[a,b]/\Blk ((w.alloc (.cells #[a,b] t)).alloc (.cells #[c,d] t)) (w.heap.size+1) t #[c,d]:=by
 constructor;·exact(RU _ _ (by simp)).trans (PC w _)
 ·have h:=PC (w.alloc (.cells #[a,b] t)) (.cells #[c,d] t);simpa [Blk]using h
theorem Ga(B:Nat)(w:World)(q:Nat)(os:Array Obj)(hB:B<=w.heap.size):ak B [] [] w (Go.Sort.grow (w.drewN q) os):=by
 have h0:∀k,k<w.heap.size->(Go.Sort.grow (w.drewN q) os).heap[k]? =w.heap[k]? :=fun k hk=>by show(w.heap++os)[k]? =_;rw[QX hk]
 refine⟨⟨rfl,rfl,rfl,?_,fun k hk=> ?_⟩,fun k cs t fr hh _ _=>(h0 k (Array.getElem?_eq_some_iff.1 hh).1).trans hh⟩;·show w.heap.size<=(w.heap++os).size;simp
 ·exact h0 k (by omega)
def mW(x y:Nat×Nat):Nat×Nat:=if fI y x<0 then y else x
theorem Dj(w:World)(b c:Nat)(x y:Nat×Nat)(h8:w.cell? ⟨b,0,none⟩=some (.int .i64 x.1))(hl:w.cell? ⟨b,1,none⟩=some (.int .i64 x.2))(h9:w.cell? ⟨b,2,none⟩=some (.int .i64 y.1))(ha:w.cell? ⟨b,3,none⟩=some (.int .i64 y.2)):
 Calls prog 235 #[.slice (some ⟨b,0,none⟩) 2 c,.func (.func 233) #[] #[]] w fun e w'=>e=.returned (.agg #[.int .i64 (mW x y).1,.int .i64 (mW x y).2])/\Below w.heap.size w w':=by
 have hb:=No w ⟨b,0,none⟩ h8;have HR:=aa fun w1:World=>jY ((y.1:Int),(y.2:Int)) ((x.1:Int),(x.2:Int)) w1;have hP:Hid (mW x y=if fI y x<0 then y else x):=aa rfl;have hr:Bt ((y.1:Int),(y.2:Int)) ((x.1:Int),(x.2:Int))=fI y x:=rfl;rw[hr]at HR;clear hr;generalize mW x y=z at*;generalize fI y x=r at*;obtain⟨x0,x1⟩:=x;obtain⟨y0,y1⟩:=y;dsimp only at*;go_enter func235,ntmps235;go_wp2_with fail;have h7:=aa (Ef w (.int .i64 0) (.int .i64 0) (.int .i64 x0) (.int .i64 x1) 192);have he:=aa (((Nj w.heap.size w).alloc (ag _) (.cells #[.int .i64 0,.int .i64 0] 192)).alloc (by simp) (.cells #[.int .i64 x0,.int .i64 x1] 192));go_loopw [6] (fun i wx=>(i=.int .i64 1/\Blk wx (w.heap.size+1) 192 #[.int .i64 x0,.int .i64 x1]\/i=.int .i64 2/\Blk wx (w.heap.size+1) 192 #[.int .i64 z.1,.int .i64 z.2])/\Blk wx w.heap.size 192 #[.int .i64 0,.int .i64 0]/\Below w.heap.size w wx) (fun i _=>2-(intOf i).toNat)
 case atStart=>exact⟨.inl ⟨rfl,h7.out.2⟩,h7.out.1,he.out⟩
 case round=>
  clear h7 he;obtain⟨hi,h1,h2⟩:=hrel;have h6:=aa h1;have HB:=aa h2;rcases hi with⟨rfl,hm⟩|⟨rfl,hm⟩
  ·have cy0:=(h2.cell (p:=⟨b,2,none⟩) hb).trans h9;have cy1:=(h2.cell (p:=⟨b,3,none⟩) hb).trans ha;have cm0:wr.cell? ⟨w.heap.size+1,0,none⟩=some (.int .i64 x0):=ac hm 0;have cm1:wr.cell? ⟨w.heap.size+1,1,none⟩=some (.int .i64 x1):=ac hm 1;have dy0:wr.drew.cell? ⟨b,2,none⟩=some (.int .i64 y0):=cy0;have dy1:wr.drew.cell? ⟨b,3,none⟩=some (.int .i64 y1):=cy1;have dm0:wr.drew.cell? ⟨w.heap.size+1,0,none⟩=some (.int .i64 x0):=cm0;have dm1:wr.drew.cell? ⟨w.heap.size+1,1,none⟩=some (.int .i64 x1):=cm1;have HM:=aa hm;have zb:b<wr.heap.size:=No wr ⟨b,2,none⟩ cy0;have zm:w.heap.size+1<wr.heap.size:=No wr ⟨w.heap.size+1,0,none⟩ cm0;clear h8 hl h9 ha hm h1 h2;go_upto_region 7 with fail
   go_region_held3 (fun w'=>w'.cell? ⟨b,2,none⟩=some (.int .i64 y0)/\w'.cell? ⟨b,3,none⟩=some (.int .i64 y1)/\w'.cell? ⟨w.heap.size+1,0,none⟩=some (.int .i64 x0)/\w'.cell? ⟨w.heap.size+1,1,none⟩=some (.int .i64 x1))
    (first|with_reducible exact⟨cy0,cy1,cm0,cm1⟩|with_reducible exact⟨dy0,dy1,dm0,dm1⟩|with_reducible exact⟨ey0,ey1,em0,em1⟩)
    (first
      | (go_at_call 233;with_reducible refine(HR.out _).mono ?_;rintro e w2 ⟨rfl,q,os,hk⟩
         have h0:=Ga wr.heap.size wr.drew q os (ag _)
         rw[<- hk]at h0
         have ey0:w2.cell? ⟨b,2,none⟩=some (.int .i64 y0):=(h0.below.cell (p:=⟨b,2,none⟩) zb).trans dy0
         have ey1:w2.cell? ⟨b,3,none⟩=some (.int .i64 y1):=(h0.below.cell (p:=⟨b,3,none⟩) zb).trans dy1
         have em0:w2.cell? ⟨w.heap.size+1,0,none⟩=some (.int .i64 x0):=(h0.below.cell (p:=⟨w.heap.size+1,0,none⟩) zm).trans dm0
         have em1:w2.cell? ⟨w.heap.size+1,1,none⟩=some (.int .i64 x1):=(h0.below.cell (p:=⟨w.heap.size+1,1,none⟩) zm).trans dm1
         clear hk))
   have h4:Blk w2 (w.heap.size+1) 192 #[.int .i64 x0,.int .i64 x1]:=h0.blk HM.out (by simp) (by simp);have hh:Blk w2 w.heap.size 192 #[.int .i64 0,.int .i64 0]:=h0.blk h6.out (by simp) (by simp);have hj:Below w.heap.size w w2:=HB.out.trans (Below.mono (w:=wr) ⟨h0.below.os,h0.below.tape,h0.below.output,h0.below.size,h0.below.block⟩ HB.out.size);have fm0:=ae h4 0;have fm1:=ae h4 1;have hc:=aa hh;have hf:=aa hj;have hg:=aa h4;clear cy0 cy1 cm0 cm1 dy0 dy1 dm0 dm1 h0 h4 hh hj HR zb zm HM h6 HB;by_cases e:r<0
   ·have hz:=hP.out;rw[Nf e]at hz;subst hz;have HS:=aa (ay (ay hg.out 0 (.int .i64 y0)) 1 (.int .i64 y1))
    have hn:Hid (Blk ((w2.setCell ⟨w.heap.size+1,0,none⟩ (.int .i64 y0)).setCell ⟨w.heap.size+1,1,none⟩ (.int .i64 y1)) w.heap.size 192 #[.int .i64 0,.int .i64 0]):=aa (by
     have h3:ak 0 [w.heap.size+1] [] w2 ((w2.setCell ⟨w.heap.size+1,0,none⟩ (.int .i64 y0)).setCell ⟨w.heap.size+1,1,none⟩ (.int .i64 y1)):=((ak.refl 0 [w.heap.size+1] [] w2).set (p:=⟨w.heap.size+1,0,none⟩) (Ng _) (by simp) (.int .i64 y0)).set (p:=⟨w.heap.size+1,1,none⟩) (Ng _) (by simp) (.int .i64 y1)
     exact h3.blk hc.out (by simp) (by simp))
    have h5:=aa ((hf.out.setCell (p:=⟨w.heap.size+1,0,none⟩) (Pa _) (.int .i64 y0)).setCell (p:=⟨w.heap.size+1,1,none⟩) (Pa _) (.int .i64 y1));clear hP;go_wp2_with fail;go_roundw;case rel=>exact⟨.inr ⟨by go_num,HS.out⟩,hn.out,h5.out⟩
    case measure=>simp[intOf]
   ·have hz:=hP.out;rw[Nd e]at hz;subst hz;clear hP;go_wp2_with fail;go_roundw;case rel=>exact⟨.inr ⟨by go_num,hg.out⟩,hc.out,hf.out⟩
    case measure=>simp[intOf]
  ·have cm0:wr.cell? ⟨w.heap.size+1,0,none⟩=some (.int .i64 z.1):=ac hm 0;have cm1:wr.cell? ⟨w.heap.size+1,1,none⟩=some (.int .i64 z.2):=ac hm 1;have k0:wr.cell? ⟨w.heap.size,0,none⟩=some (.int .i64 0):=ac h1 0;have k1:wr.cell? ⟨w.heap.size,1,none⟩=some (.int .i64 0):=ac h1 1;have f0:=ae h1 0;have f1:=ae h1 1;have hs:=ay (ay h1 0 (.int .i64 z.1)) 1 (.int .i64 z.2);have q0:((wr.setCell ⟨w.heap.size,0,none⟩ (.int .i64 z.1)).setCell ⟨w.heap.size,1,none⟩ (.int .i64 z.2)).cell? ⟨w.heap.size,0,none⟩=some (.int .i64 z.1):=ac hs 0;have q1:((wr.setCell ⟨w.heap.size,0,none⟩ (.int .i64 z.1)).setCell ⟨w.heap.size,1,none⟩ (.int .i64 z.2)).cell? ⟨w.heap.size,1,none⟩=some (.int .i64 z.2):=ac hs 1;have h5:=aa ((HB.out.setCell (p:=⟨w.heap.size,0,none⟩) (ag _) (.int .i64 z.1)).setCell (p:=⟨w.heap.size,1,none⟩) (ag _) (.int .i64 z.2));clear h8 hl h9 ha hm h1 h2 hs HR hP HB h6;go_wp2_with fail;(try simp only[Exit.inBlock,Exit.then]);refine NH (v:=.agg #[.int .i64 z.1,.int .i64 z.2]) ?_ rfl ⟨rfl,h5.out⟩;simp[results,results235,go_sem,q0,q1]
