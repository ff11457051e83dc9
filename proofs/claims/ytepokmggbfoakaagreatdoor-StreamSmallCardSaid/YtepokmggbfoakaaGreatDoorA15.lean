import Derived.Test.YtepokmggbfoakaaGreatDoorA14
set_option maxHeartbeats 1600000
set_option maxRecDepth 1000000
namespace Go.Proofs.YtepokmggbfoakaaGreatDoor.S05
def I8(s:List UInt8)(b:Nat):List Nat:=(List.range s.length).filter fun i=>(s.getD i 0).toNat==b
def aO(s:List UInt8):List Nat:=(List.range 256).flatMap (I8 s)
def bA(s:List UInt8)(b:Nat):Nat:=s.countP fun x=>x.toNat==b
def bB(s:List UInt8):Nat→Nat
 | 0=>0
 | b+1=>bB s b+bA s b
def jT(s:List UInt8)(i:Nat):Nat:=bB s (s.getD i 0).toNat+bA (s.take i) (s.getD i 0).toNat
theorem xD(s:List UInt8)(b:Nat):∀n,n≤s.length→((List.range n).filter fun i=>(s.getD i 0).toNat==b).length=bA (s.take n) b:=by
 intro n
 induction n with
 | zero=>intro _;simp[bA]
 | succ n ih=>intro h;rw[MQ,PQ,LR,ih (by omega),List.take_add_one,bA,bA,PP,LV (by omega)];have e:s.getD n 0=s[n]:=(by rw[LU,LV (by omega)];rfl);simp only[Option.toList_some,P5,List.filter_cons,List.filter_nil,e];split <;>simp
theorem Aj(s:List UInt8)(b:Nat):(I8 s b).length=bA s b:=by have:=xD s b s.length (ag _);rwa [O3]at this
theorem I9(s:List UInt8)(i:Nat)(h:i<s.length):(I8 s (s.getD i 0).toNat)[bA (s.take i) (s.getD i 0).toNat]? =some i:=by unfold I8;have e:List.range s.length=List.range i++i :: (List.range (s.length - i - 1)).map (i+1+ ·):=(by (conv=>lhs;rw[show s.length=i+((s.length - i - 1)+1) by omega,List.range_add,List.range_succ_eq_map]);simp only[M8,MX,MM];congr 2;apply MJ;intro j _;simp only[Function.comp];omega);rw[e,PQ,MC (by rw[xD s _ i (by omega)];exact L5 _),xD s _ i (by omega),Ng,List.filter_cons_of_pos (by simp)];rfl
theorem jP(s:List UInt8):∀b,((List.range b).flatMap (I8 s)).length=bB s b
 | 0=>rfl
 | b+1=>by rw[MQ,M9,LR,jP s b,bB];simp[Aj]
theorem jy(s:List UInt8)(i:Nat)(h:i<s.length):(aO s)[jT s i]? =some i:=by
 unfold aO jT;have hb:(s.getD i 0).toNat<256:=Oq _;have hg:=I9 s i h;generalize (s.getD i 0).toNat=b at*;have e:List.range 256=List.range b++b :: (List.range (256 - b - 1)).map (b+1+ ·):=by (conv=>lhs;rw[show 256=b+((256 - b - 1)+1) by omega,List.range_add,List.range_succ_eq_map]);simp only[M8,MX,MM];congr 2;apply MJ;intro j _;simp only[Function.comp];omega
 rw[e,M9,MD,MC (by rw[jP];omega),jP,Ny,ME];·exact hg
 ·exact(List.getElem?_eq_some_iff.1 hg).1
theorem gK(s:List UInt8)(i:Nat):i∈aO s↔i<s.length:=by
 constructor;·intro h;obtain⟨b,_,hb⟩:=List.mem_flatMap.1 h;exact List.mem_range.1 (List.mem_filter.1 hb).1
 ·intro h;exact Oo (jy s i h)
def PLt(s:List UInt8)(i j:Nat):Prop:=s.getD i 0<s.getD j 0∨(s.getD i 0=s.getD j 0∧i<j)
theorem PLt.ne{s:List UInt8}{i j:Nat}(h:PLt s i j):i≠j:=by
 rintro rfl;rcases h with h | ⟨_,h⟩;·exact Qo _ h
 ·omega
theorem kh(s:List UInt8):(aO s).Pairwise (PLt s):=by
 unfold aO;rw[List.pairwise_flatMap];refine⟨fun b _=> ?_,?_⟩;·refine Nj ?_ (List.pairwise_lt_range.filter _);intro i j hi hj h0;have h1:=(List.mem_filter.1 hi).2;have h2:=(List.mem_filter.1 hj).2;simp only[NV]at h1 h2;exact .inr ⟨UInt8.toNat_inj.1 (h1.trans h2.symm),h0⟩
 ·refine List.pairwise_lt_range.imp fun {a b} hab i hi j hj=> ?_;have h1:=(List.mem_filter.1 hi).2;have h2:=(List.mem_filter.1 hj).2;simp only[NV]at h1 h2;exact .inl (UInt8.lt_iff_toNat_lt.2 (by omega))
theorem rc(s:List UInt8):(aO s).Perm (List.range s.length):=
 (NP ((kh s).imp PLt.ne) Nk).2 fun i=>by rw[gK,Po]
theorem cD(s:List UInt8):(aO s).length=s.length:=by rw[(rc s).length_eq,Mt]
theorem DM(s:List UInt8)(i:Nat)(h:i<s.length):jT s i<s.length:=by rw[← cD s];exact(List.getElem?_eq_some_iff.1 (jy s i h)).1
theorem Jb(s:List UInt8)(i j:Nat)(h:i<s.length)(k:j<s.length)(e:jT s i=jT s j):i=j:=by have h1:=jy s i h;rw[e,jy s j k]at h1;exact(My h1).symm
theorem ro(s:List UInt8)(P:List Nat)(hl:P.length=s.length)(h:∀i,i<s.length→P[jT s i]? =some i):P=aO s:=by
 refine ML fun k=> ?_;by_cases hk:k<s.length
 ·have h0:k<(aO s).length:=by rw[cD];exact hk
  obtain⟨j,hj⟩:∃j,(aO s)[k]? =some j:=⟨_,LV h0⟩;have h2:j<s.length:=(gK s j).1 (Oo hj);have hr:jT s j=k:=by
   have h1:=jy s j h2;have h4:jT s j<(aO s).length:=(by rw[cD];exact DM s j h2);have hp:=List.pairwise_iff_getElem.1 (kh s);rw[LV h4]at h1;rw[LV h0]at hj;have h1:=My h1;have hj:=My hj;rcases Nf (jT s j) k with h3 | h3 | h3;·have:=PLt.ne (hp _ _ h4 h0 h3);exact absurd (h1.trans hj.symm) this
   ·exact h3
   ·have:=PLt.ne (hp _ _ h0 h4 h3);exact absurd (hj.trans h1.symm) this
  rw[hj,←hr,h j h2]
 ·rw[Mf (by omega),Mf (by rw[cD];omega)]
def bf(s:List UInt8)(L:List Nat):List UInt8:=L.map fun i=>rat s (i+(s.length - 1))
theorem bq(s:List UInt8)(L:List Nat):(bf s L).length=L.length:=Mi _
theorem lz(s:List UInt8)(L:List Nat)(k:Nat)(h:k<L.length):(bf s L).getD k 0=rat s (L.getD k 0+(s.length - 1)):=by rw[bf,LU,Me,LU,LV h];rfl
def itr(Q:List Nat)(row:Nat):Nat→Nat
 | 0=>row
 | k+1=>Q.getD (itr Q row k) 0
def jl(last:List UInt8)(row:Nat):List UInt8:=(List.range last.length).map fun k=>last.getD (itr (aO last) row (k+1)) 0
def nh(n i:Nat):Nat:=(i+(n - 1)) % n
theorem xE(n i:Nat)(h:0<n):nh n i<n:=OG _ h
theorem nQ(n i:Nat)(h:i<n):nh n i=if i=0 then n - 1 else i - 1:=by
 unfold nh;split;·rename_i e;subst e;rw[MG,Ms (by omega)]
 ·rw[show i+(n - 1)=(i - 1)+n by omega,Nat.add_mod_right,Ms (by omega)]
theorem FY(n:Nat):((List.range n).map (nh n)).Perm (List.range n):=by
 refine(NP ?_ Nk).2 fun i=> ?_;·rw[Pp,Od];refine Nj ?_ Nk;intro a b ha hb h0 e;have ha:=List.mem_range.1 ha;have hb:=List.mem_range.1 hb;rw[nQ n a ha,nQ n b hb]at e;split at e <;>split at e <;>omega
 ·rw[List.mem_map,Po];constructor;·rintro⟨a,ha,rfl⟩;exact xE n a (by have:=List.mem_range.1 ha;omega)
  ·intro h;refine⟨if i=n - 1 then 0 else i+1,List.mem_range.2 (by split <;>omega),?_⟩;rw[nQ n _ (by split <;>omega)];split <;>split <;>omega
theorem uQ(s:List UInt8)(i:Nat)(_:i<s.length)(k:Nat):(dN s (nh s.length i))[k]? =if k<s.length then some (rat s (i+(s.length - 1)+k))else none:=by
 split;·rename_i h;rw[gg s _ k (MB (xE _ _ (by omega))) h];congr 1;unfold nh rat;rw[Nat.mod_add_mod]
 ·rw[Mf (by rw[dY];omega)]
theorem vV(s:List UInt8)(i:Nat)(hi:i<s.length):dN s (nh s.length i)=rat s (i+(s.length - 1)) :: (dN s i).take (s.length - 1):=by
 refine ML fun k=> ?_;rw[uQ s i hi]
 cases k with
 | zero=>rw[LX (by omega)];rfl
 | succ k=>
  rw[PT,Pd];by_cases h:k<s.length - 1;·rw[LX (by omega),LX h,gg s i k (by omega) (by omega)];have:=m3 s (i+k);rw[← this,show i+(s.length - 1)+(k+1)=i+k+s.length by omega]
  ·rw[LW (by omega),LW h]
theorem KO{a b:List UInt8}(m:Nat)(hl:a.length=b.length)(h:a≤b):a.take m≤b.take m:=by
 refine List.not_lt.1 fun h0=> ?_;rcases List.lt_iff_exists.1 h0 with⟨_,h1⟩ | ⟨i,h1,h2,h3,h4⟩;·simp only[Mj]at h1;omega
 ·simp only[Mj]at h1 h2;refine absurd (List.lt_iff_exists.2 (.inr ⟨i,by omega,by omega,fun j hj=> ?_,?_⟩)) (List.not_lt.2 h);·have:=h3 j hj;rwa [Pi,Pi]at this
  ·rwa [Pi,Pi]at h4
theorem RLt.le{s:List UInt8}{i j:Nat}(h:RLt s i j):dN s i≤dN s j:=by
 rcases h with h | ⟨h,_⟩;·exact List.le_of_lt h
 ·rw[h];exact List.le_refl _
theorem tr{s:List UInt8}{L:List Nat}(h:eD s L):L.Perm (List.range s.length):=
 (NP (jR h) Nk).2 fun i=>by rw[h.2 i,Po]
theorem mn{s:List UInt8}{L:List Nat}(h:eD s L)(k:Nat)(hk:k<s.length):L.getD k 0<s.length:=by have h0:k<L.length:=(by rw[dH h];exact hk);rw[LU,LV h0];exact(h.2 _).1 (Mu h0)
theorem tC{α:Type}(L:List Nat)(f:Nat→α):(List.range L.length).map (fun k=>f (L.getD k 0))=L.map f:=by
 refine ML fun k=> ?_;rw[Me,Me];by_cases h:k<L.length;·rw[Mx h,LV h,Nn,Nn,LU,LV h];rfl
 ·rw[Mf (by rw[Mt];omega),Mf (by omega)];rfl
theorem F9{s:List UInt8}{L:List Nat}(h:eD s L):L.map (dN s)=(aO (bf s L)).map fun k=>dN s (nh s.length (L.getD k 0)):=by
 have hl:=dH h;have hp:=tr h;refine List.Perm.eq_of_pairwise (le:=(· ≤ ·)) (fun a b _ _ h1 h2=>List.le_antisymm h1 h2) ?_ ?_ ?_;·rw[Od];exact h.1.imp RLt.le
 ·rw[Od];refine Nj ?_ (kh (bf s L));intro a b ha hb h0;have ha:a<L.length:=by have:=(gK _ a).1 ha;rwa [bq]at this
  have hb:b<L.length:=by have:=(gK _ b).1 hb;rwa [bq]at this
  unfold PLt at h0;rw[lz s L a ha,lz s L b hb]at h0;rw[vV s _ (mn h a (by omega)),vV s _ (mn h b (by omega)),List.cons_le_cons_iff];rcases h0 with h1 | ⟨h1,h2⟩;·exact .inl h1
  ·refine .inr ⟨h1,KO _ (by rw[dY,dY]) ?_⟩;have:=List.pairwise_iff_getElem.1 h.1 a b ha hb h2;rw[LU,LV ha,LU,LV hb];exact this.le
 ·refine(hp.map (dN s)).trans (List.Perm.symm ?_);refine((rc (bf s L)).map _).trans ?_;rw[bq,tC L fun i=>dN s (nh s.length i)];refine(hp.map _).trans ?_;have:=(FY s.length).map (dN s);rwa [MX]at this
theorem fq{s:List UInt8}{L:List Nat}(h:eD s L)(r:Nat)(hr:r<s.length):(aO (bf s L)).getD r 0<s.length:=by have hl:=dH h;have hk:r<(aO (bf s L)).length:=(by rw[cD,bq];omega);rw[LU,LV hk];have:=(gK (bf s L) _).1 (Mu hk);rwa [bq,hl]at this
theorem Jl{s:List UInt8}{L:List Nat}(h:eD s L)(r:Nat)(hr:r<s.length)(j:Nat):rat s (L.getD r 0+j)=rat s (L.getD ((aO (bf s L)).getD r 0) 0+(s.length - 1)+j):=by have hl:=dH h;have e:=congrArg (fun l=>l[r]?) (F9 h);simp only[Me]at e;have hk:r<(aO (bf s L)).length:=(by rw[cD,bq];omega);have hq:=fq h r hr;rw[LV (by omega),LV hk,Nn,Nn]at e;have e:=My e;have h1:L[r]=L.getD r 0:=(by rw[LU,LV (by omega)];rfl);have h0:(aO (bf s L))[r]=(aO (bf s L)).getD r 0:=(by rw[LU,LV hk];rfl);rw[h1,h0]at e;have:=(DP s _ _ (MB (mn h r hr)) (MB (xE _ _ (by omega)))).1 e j;rw[this];unfold nh rat;rw[Nat.mod_add_mod]
theorem Cj{s:List UInt8}{L:List Nat}(h:eD s L)(r:Nat)(hr:r<s.length):∀k,itr (aO (bf s L)) r k<s.length
 | 0=>hr
 | k+1=>fq h _ (Cj h r hr k)
theorem Kt{s:List UInt8}{L:List Nat}(h:eD s L)(r:Nat)(hr:r<s.length):∀k j,rat s (L.getD (itr (aO (bf s L)) r k) 0+j)=rat s (L.getD r 0+k+j):=by
 intro k
 induction k with
 | zero=>intro j;rfl
 | succ k ih=>intro j;have h1:=Jl h _ (Cj h r hr k) (j+1);rw[ih (j+1)]at h1;rw[show L.getD r 0+(k+1)+j=L.getD r 0+k+(j+1) by omega,h1];have h2:=m3 s (L.getD (itr (aO (bf s L)) r (k+1)) 0+j);rw[← h2];congr 1;show _=L.getD (itr (aO (bf s L)) r (k+1)) 0+(s.length - 1)+(j+1);omega
theorem G2{s:List UInt8}{L:List Nat}(h:eD s L)(r:Nat)(hr:r<s.length):jl (bf s L) r=dN s (L.getD r 0):=by
 have hl:=dH h;refine ML fun k=> ?_;unfold jl;rw[Me,bq,hl];by_cases hk:k<s.length;·rw[Mx hk,Nn,gg s _ k (MB (mn h r hr)) hk];have h1:=Cj h r hr (k+1);rw[lz s L _ (by omega)];have h2:=Kt h r hr (k+1) (s.length - 1);rw[h2,show L.getD r 0+(k+1)+(s.length - 1)=L.getD r 0+k+s.length by omega,m3]
 ·rw[Mf (by rw[Mt];omega),Mf (by rw[dY];omega)];rfl
theorem xt{s:List UInt8}{L:List Nat}(h:eD s L):(bf s L).Perm s:=by
 refine((tr h).map _).trans ?_;rcases NF s.length with h0 | h0;·have:s= []:=Mg h0;subst this;exact QA _
 ·have e:((List.range s.length).map fun i=>rat s (i+(s.length - 1)))=dN s (s.length - 1):=by
   refine ML fun k=> ?_;by_cases hk:k<s.length;·rw[Me,Mx hk,Nn,gg s _ k (by omega) hk,Qx]
   ·rw[Mf (by rw[Mi,Mt];omega),Mf (by rw[dY];omega)]
  rw[e,dN];refine List.perm_append_comm.trans ?_;rw[MY]
open Go.RowKit
def jk(f:Nat→Nat):Array Value:=(Array.range 256).map fun i=>.int .i64 (f i)
theorem pB(f:Nat→Nat):(jk f).size=256:=by simp[jk]
theorem Ee:jk (fun _=>0)=Array.replicate 256 (.int .i64 0):=by
 apply PU;·simp[jk]
 ·intro i h1 h2;simp[jk]
theorem D2:(∀ w,(zeroValue 304).run Tryz.prog w=.ok (.agg (jk fun _=>0)) w)∧(Tryz.prog.info? 304).map (·.size)=some 256:=by rw[Ee];exact Qy (by kernel_rfl)
theorem ym(f:Nat→Nat)(b x:Nat):(jk f).setIfInBounds b (.int .i64 x)=jk fun i=>if i=b then x else f i:=by
 apply PU;·simp[jk]
 ·intro i h1 h2;rw[Oz (by simpa [jk]using h2)];by_cases e:b=i;·subst e;simp[jk]
  ·rw[LW e];have e2:¬i=b:=fun h=>e h.symm;simp[jk,e2]
theorem yl(f:Nat→Nat):(jk f).all (·.oneCell')=true:=by rw[Pj];intro i h;simp[jk,Value.oneCell']
theorem yk(f:Nat→Nat)(i:Nat)(h:i<256):(jk f)[i]? =some (.int .i64 (f i:Nat)):=by simp[jk,h]
theorem Ed(f g:Nat→Nat)(h:∀i,i<256→f i=g i):jk f=jk g:=by
 apply PU;·simp[jk]
 ·intro i h1 h2;have hi:i<256:=(by rw[pB]at h1;exact h1);simp[jk,h i hi]
theorem yM(s:List UInt8)(i b:Nat)(h:i<s.length):bA (s.take (i+1)) b=if b=(s.getD i 0).toNat then bA (s.take i) (s.getD i 0).toNat+1 else bA (s.take i) b:=by
 have e:s.getD i 0=s[i]:=by rw[LU,LV h];rfl
 rw[Mn h,bA,PP,P5,e];by_cases hb:b=s[i].toNat;·subst hb;rw[LX rfl];simp[bA]
 ·rw[LW hb];have:(s[i].toNat==b)=false:=(by simp only[Mr,ne_eq];exact fun h=>hb h.symm);simp[bA,this]
theorem wS(s:List UInt8)(i b:Nat):bA (s.take i) b≤s.length:=by have:=OL (p:=fun x:UInt8=>x.toNat==b) (l:=s.take i);rw[Mj]at this;unfold bA;omega
theorem sR(s:List UInt8)(b:Nat)(hb:b≤256):bB s b≤s.length:=by rw[← jP,←cD s];(have e:List.range 256=List.range b++(List.range (256 - b)).map (b+ ·):=by conv=>lhs;rw[show 256=b+(256 - b) by omega,List.range_add]);unfold aO;rw[e,M9,LR];omega
theorem kK(s:ByteArray)(i:Nat)(h:i<s.size):s.data.toList.getD i 0=s[i]:=by rw[LU,LV (by simpa using h)];rfl
theorem GF(w:World)(a b c:Array Value)(t:TypeId):Blk (((w.alloc (.cells a t)).alloc (.cells b t)).alloc (.cells c t)) w.heap.size t a∧Blk (((w.alloc (.cells a t)).alloc (.cells b t)).alloc (.cells c t)) (w.heap.size+1) t b∧Blk (((w.alloc (.cells a t)).alloc (.cells b t)).alloc (.cells c t)) (w.heap.size+1+1) t c:=by
 have e1:(w.alloc (.cells a t)).heap.size=w.heap.size+1:=by simp
 have e2:((w.alloc (.cells a t)).alloc (.cells b t)).heap.size=w.heap.size+1+1:=by simp
 refine⟨?_,?_,?_⟩;·show(World.alloc _ _).heap[_]? =_;rw[bw _ _ _ (by simp;omega),bw _ _ _ (by simp)];exact ah w t a
 ·show(World.alloc _ _).heap[_]? =_;rw[bw _ _ _ (by simp),←e1];exact ah _ t b
 ·rw[← e2];exact ah _ t c
theorem aK{w:World}{g k:Nat}{t:TypeId}{cs:Array Value}(h:Blk w g t cs)(h0:g≠k)(i:Nat)(u:Value):Blk (w.setCell ⟨k,i,none⟩ u) g t cs:=by show(w.setCell ⟨k,i,none⟩ u).heap[g]? =_;rw[NE w ⟨k,i,none⟩ u g h0];exact h
theorem uT(w:World)(cs:Array Value)(q c:Nat)(h:q<256)(hc:cs[q]? =some (.int .i64 c)):(Instr.index 304 (.agg cs) (.int .i64 q)).run Tryz.prog w=.ok (.int .i64 c) w:=by obtain⟨i3,h3,h2,h0,h5⟩:=MT Tryz.info3;have h1:(0:Int)≤(q:Int):=(by omega);have h4:¬256≤q:=(by omega);unfold Instr.index;simp[OE Tryz.underlying304,go_sem,h1,sizeOf,typeInfo,h3,h0,part,hc,h4]
theorem C0(w:World)(s:ByteArray)(hs:s.size≤1000000):Calls Tryz.prog 279 #[.string s] w fun e w'=>e=.returned (.agg (jk (bB s.data.toList)))∧Below w.heap.size w w':=by
 obtain⟨hz,hi⟩:=D2;have HI:=aa hi;have HS:=aa pB;have he:=aa ym;have HO:=aa yl;have HG:=aa yk;have ha:=aa Ed;have hy:s.data.toList.length=s.size:=rfl;have hg:=aa hy;have hF:=aa (show(fun b=>bA (s.data.toList.take 0) b)=fun _=>0 from by funext b;simp[bA]);generalize jk=T at*;clear hi hy;have hD:=aa (wS s.data.toList);have hE:=aa (yM s.data.toList);go_enter Tryz.func279,Tryz.ntmps279;go_wp2;go_loopw [11] (fun i wx=>∃q:Nat,q≤s.size∧i=.int .i64 q∧Blk wx w.heap.size 304 (T fun _=>0)∧Blk wx (w.heap.size+1) 304 (T fun b=>bA (s.data.toList.take q) b)∧Blk wx (w.heap.size+1+1) 304 (T fun _=>0)∧Below w.heap.size w wx) (fun i _=>s.size - (intOf i).toNat)
 case atStart=>obtain⟨h1,h2,h3⟩:=GF w (T fun _=>0) (T fun _=>0) (T fun _=>0) 304;exact⟨0,LY _,rfl,h1,by rw[hF.out];exact h2,h3,(((L6 _ w).alloc (ag _) _).alloc (by simp) _).alloc (by simp;omega) _⟩
 case round=>
  obtain⟨q,hq,rfl,h7,h8,h0,hb⟩:=hrel;have H0:=aa h7;have H1:=aa h8;have H2:=aa h0;have HB:=aa hb;by_cases e:q<s.size
  ·have h5:=Oq s[q];have hr:=kK s q e;obtain⟨b,hh⟩:∃b,b=s[q].toNat:=⟨_,rfl⟩;rw[← hh]at h5;have hc:=ac h8 b;have hf:=ae h8 b;rw[HG.out _ b h5]at hc;have ht:=hD.out q b;obtain⟨c,h9⟩:∃c,c=bA (s.data.toList.take q) b:=⟨_,rfl⟩;rw[hg.out]at ht;rw[← h9]at hc ht;have hJ:s[q].toNat=b:=hh.symm;have hj:=aa h9;have hC:=aa hr;have hB:=aa hh;have hA:=HS.out fun b=>bA (s.data.toList.take q) b;clear h7 h8 h0 hb h9 hr hh hz;go_wp2_with fail;go_roundw;case rel=>refine⟨q+1,by omega,by go_num,aK H0.out (by omega) _ _,?_,aK H2.out (by omega) _ _,HB.out.setCell (by show _≤w.heap.size+1;omega) _⟩;have h1:=az H1.out b (.int .i64 ((c+1:Nat):Int));rw[he.out]at h1;have e2:(fun i=>if i=b then c+1 else bA (s.data.toList.take q) i)=fun b=>bA (s.data.toList.take (q+1)) b:=(by funext i;rw[hE.out q i (by rw[hg.out];omega),hC.out,←hB.out,←hj.out]);rw[e2]at h1;exact h1
   case measure=>simp[intOf];omega
  ·obtain rfl:q=s.size:=(by omega);have hT:s.data.toList.take s.size=s.data.toList:=Mh (Nr hg.out);rw[hT]at h8;have hw:(Tryz.prog.info? 304).map (·.size)=some (T fun b=>bA s.data.toList b).size:=(by rw[HS.out];exact HI.out);have hG:=aa hw;have H1:=aa h8;have hA:=HS.out fun b=>bA s.data.toList b;clear h7 h8 h0 hb hz hT hw;go_wp2_with fail;refine jZ rfl rfl H1.out Tryz.underlying304 hG.out ?_;go_wp2_with fail;have ho:=aa (sR s.data.toList);(go_loopw [6,23] (fun l i wx=>∃q:Nat,q≤256∧i=.int .i64 q∧l=.int .i64 (bB s.data.toList q:Nat)∧Blk wx w.heap.size 304 (T fun _=>0)∧Blk wx (w.heap.size+1+1) 304 (T fun i=>if i<q then bB s.data.toList i else 0)∧Below w.heap.size w wx) (fun _ i _=>256 - (intOf i).toNat));case atStart=>have e0:(fun i=>if i<0 then bB s.data.toList i else 0)=fun _=>0:=(by funext i;rw[LW (by omega)]);exact⟨0,by omega,rfl,rfl,H0.out,by rw[e0];exact H2.out,HB.out⟩
   case round=>
    clear H0 H1 H2 HB;obtain⟨q,hq,rfl,rfl,h7,h0,hb⟩:=hrel;have H0:=aa h7;have H2:=aa h0;have HB:=aa hb;by_cases e:q<256
    ·have hu:=HG.out (fun b=>bA s.data.toList b) q e;have hc:=ac h0 q;have hf:=ae h0 q;rw[HG.out _ q e]at hc;obtain⟨v,hv⟩:∃v,v=(if q<q then bB s.data.toList q else 0):=⟨_,rfl⟩;rw[← hv]at hc;have hx:=ho.out q hq;have h4:=ho.out (q+1) (by omega);have hm:bB s.data.toList (q+1)=bB s.data.toList q+bA s.data.toList q:=rfl;rw[hg.out]at hx h4;rw[hm]at h4;have hH:=aa hm;obtain⟨c,h9⟩:∃c,c=bA s.data.toList q:=⟨_,rfl⟩;obtain⟨f,hk⟩:∃f,f=bB s.data.toList q:=⟨_,rfl⟩;rw[← h9]at hu h4;rw[← hk]at hx h4 ⊢;have hj:=aa h9;have hn:=aa hk;clear h7 h0 hb hm h9 hk hv;have hI:=uT wr (T fun b=>bA s.data.toList b) q c e hu;go_wp2_with fail;go_roundw;case rel=>
      refine⟨q+1,by omega,by go_num,?_,aK H0.out (by omega) _ _,?_,HB.out.setCell (by show _≤w.heap.size+1+1;omega) _⟩;·rw[hH.out,←hj.out,←hn.out];go_num
      ·have h1:=az H2.out q (.int .i64 ((f:Nat):Int));rw[he.out]at h1;have e2:(fun i=>if i=q then f else if i<q then bB s.data.toList i else 0)=fun i=>if i<q+1 then bB s.data.toList i else 0:=by
        funext i;by_cases h:i=q;·subst h;rw[LX rfl,LX (by omega),hn.out]
        ·rw[LW h];by_cases h2:i<q;·rw[LX h2,LX (by omega)]
         ·rw[LW h2,LW (by omega)]
       rw[e2]at h1;exact h1
     case measure=>simp[intOf];omega
    ·obtain rfl:q=256:=(by omega);have h6:T (fun i=>if i<256 then bB s.data.toList i else 0)=T (bB s.data.toList):=ha.out _ _ fun i hi=>LX hi;rw[h6]at h0;have hl:(Tryz.prog.info? 304).map (·.size)=some (T (bB s.data.toList)).size:=(by rw[HS.out];exact HI.out);have H2:=aa h0;have hp:=aa hl;have hK:=cu (P:=Tryz.prog) H0.out hl (by rw[HS.out,HS.out]) (HO.out _);have hA:=HS.out (bB s.data.toList);clear h7 h0 hb h6 hl;go_wp2_with fail;refine jZ rfl rfl H2.out Tryz.underlying304 hp.out ?_;go_wp2_with fail;refine Mm (v:=.agg (T (bB s.data.toList))) (iT rfl rfl (O9 _ _ _ _ _ _ H0.out) Tryz.underlying304 hp.out) rfl ⟨rfl,?_⟩;exact below_setRow HB.out (ag _) _
end Go.Proofs.YtepokmggbfoakaaGreatDoor.S05
