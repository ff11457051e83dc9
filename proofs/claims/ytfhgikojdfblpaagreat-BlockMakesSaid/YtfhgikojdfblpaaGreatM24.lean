import Derived.Test.YtfhgikojdfblpaaGreatM23
set_option maxHeartbeats 1600000
set_option maxRecDepth 1000000
namespace Go.Proofs.YtfhgikojdfblpaaGreat.S05
open _root_.Go.Proofs.Tryz
def J6(s:List UInt8)(b:Nat):List Nat:=(List.range s.length).filter fun i=>(s.getD i 0).toNat==b
def aZ(s:List UInt8):List Nat:=(List.range 256).flatMap (J6 s)
def ct(s:List UInt8)(b:Nat):Nat:=s.countP fun x=>x.toNat==b
def cu(s:List UInt8):Nat->Nat
 | 0=>0
 | b+1=>cu s b+ct s b
def kH(s:List UInt8)(i:Nat):Nat:=cu s (s.getD i 0).toNat+ct (s.take i) (s.getD i 0).toNat
theorem yu(s:List UInt8)(b:Nat):∀n,n<=s.length->((List.range n).filter fun i=>(s.getD i 0).toNat==b).length=ct (s.take n) b:=by
 intro n
 induction n with
 | zero=>intro _;simp[ct]
 | succ n ih=>intro h;rw[Oh,QI,Nb,ih (by omega),Rq,ct,ct,QE,Nc (by omega)];have e:s.getD n 0=s[n]:=(by rw[Na,Nc (by omega)];rfl);simp only[Option.toList_some,QM,List.filter_cons,List.filter_nil,e];split <;>simp
theorem Bk(s:List UInt8)(b:Nat):(J6 s b).length=ct s b:=by have:=yu s b s.length (ag _);rwa [Q0]at this
theorem J7(s:List UInt8)(i:Nat)(h:i<s.length):(J6 s (s.getD i 0).toNat)[ct (s.take i) (s.getD i 0).toNat]? =some i:=by unfold J6;have e:List.range s.length=List.range i++i::(List.range (s.length-i-1)).map (i+1+ ·):=(by (conv=>lhs;rw[show s.length=i+((s.length-i-1)+1) by omega,List.range_add,List.range_succ_eq_map]);simp only[Ow,Ou,NY];congr 2;apply Oe;intro j _;simp only[Function.comp];omega);rw[e,QI,NO (by rw[yu s _ i (by omega)];exact Nk _),yu s _ i (by omega),Oz,List.filter_cons_of_pos (by simp)];rfl
theorem kB(s:List UInt8):∀b,((List.range b).flatMap (J6 s)).length=cu s b
 | 0=>rfl
 | b+1=>by rw[Oh,OF,Nb,kB s b,cu];simp[Bk]
theorem jW(s:List UInt8)(i:Nat)(h:i<s.length):(aZ s)[kH s i]? =some i:=by
 unfold aZ kH;have hb:(s.getD i 0).toNat<256:=PZ _;have hg:=J7 s i h;generalize (s.getD i 0).toNat=b at*;have e:List.range 256=List.range b++b::(List.range (256-b-1)).map (b+1+ ·):=by (conv=>lhs;rw[show 256=b+((256-b-1)+1) by omega,List.range_add,List.range_succ_eq_map]);simp only[Ow,Ou,NY];congr 2;apply Oe;intro j _;simp only[Function.comp];omega
 rw[e,OF,Oa,NO (by rw[kB];omega),kB,Py,NW];·exact hg
 ·exact(List.getElem?_eq_some_iff.1 hg).1
theorem iq(s:List UInt8)(i:Nat):i∈aZ s↔i<s.length:=by
 constructor;·intro h;obtain⟨b,_,hb⟩:=List.mem_flatMap.1 h;exact List.mem_range.1 (List.mem_filter.1 hb).1
 ·intro h;exact PV (jW s i h)
def PLt(s:List UInt8)(i j:Nat):Prop:=s.getD i 0<s.getD j 0\/(s.getD i 0=s.getD j 0/\i<j)
theorem PLt.ne{s:List UInt8}{i j:Nat}(h:PLt s i j):i≠j:=by
 rintro rfl;rcases h with h|⟨_,h⟩;·exact RH _ h
 ·omega
theorem kQ(s:List UInt8):(aZ s).Pairwise (PLt s):=by
 unfold aZ;rw[List.pairwise_flatMap];refine⟨fun b _=> ?_,?_⟩;·refine OG ?_ (List.pairwise_lt_range.filter _);intro i j hi hj h0;have h1:=(List.mem_filter.1 hi).2;have h2:=(List.mem_filter.1 hj).2;simp only[Pn]at h1 h2;exact .inr ⟨UInt8.toNat_inj.1 (h1.trans h2.symm),h0⟩
 ·refine List.pairwise_lt_range.imp fun {a b} hab i hi j hj=> ?_;have h1:=(List.mem_filter.1 hi).2;have h2:=(List.mem_filter.1 hj).2;simp only[Pn]at h1 h2;exact .inl (UInt8.lt_iff_toNat_lt.2 (by omega))
theorem sd(s:List UInt8):(aZ s).Perm (List.range s.length):=
 (Pm ((kQ s).imp PLt.ne) OD).2 fun i=>by rw[iq,Qu]
theorem db(s:List UInt8):(aZ s).length=s.length:=by rw[(sd s).length_eq,NE]
theorem EH(s:List UInt8)(i:Nat)(h:i<s.length):kH s i<s.length:=by rw[<- db s];exact(List.getElem?_eq_some_iff.1 (jW s i h)).1
theorem J9(s:List UInt8)(i j:Nat)(h:i<s.length)(k:j<s.length)(e:kH s i=kH s j):i=j:=by have h1:=jW s i h;rw[e,jW s j k]at h1;exact(On h1).symm
theorem sy(s:List UInt8)(P:List Nat)(hl:P.length=s.length)(h:∀i,i<s.length->P[kH s i]? =some i):P=aZ s:=by
 refine Ob fun k=> ?_;by_cases hk:k<s.length
 ·have h0:k<(aZ s).length:=by rw[db];exact hk
  obtain⟨j,hj⟩:∃j,(aZ s)[k]? =some j:=⟨_,Nc h0⟩;have h2:j<s.length:=(iq s j).1 (PV hj);have hr:kH s j=k:=by
   have h1:=jW s j h2;have h4:kH s j<(aZ s).length:=(by rw[db];exact EH s j h2);have hp:=List.pairwise_iff_getElem.1 (kQ s);rw[Nc h4]at h1;rw[Nc h0]at hj;have h1:=On h1;have hj:=On hj;rcases OI (kH s j) k with h3|h3|h3;·have:=PLt.ne (hp _ _ h4 h0 h3);exact absurd (h1.trans hj.symm) this
   ·exact h3
   ·have:=PLt.ne (hp _ _ h0 h4 h3);exact absurd (hj.trans h1.symm) this
  rw[hj,<-hr,h j h2]
 ·rw[Nw (by omega),Nw (by rw[db];omega)]
def bz(s:List UInt8)(L:List Nat):List UInt8:=L.map fun i=>rat s (i+(s.length-1))
theorem bD(s:List UInt8)(L:List Nat):(bz s L).length=L.length:=Nu _
theorem lZ(s:List UInt8)(L:List Nat)(k:Nat)(h:k<L.length):(bz s L).getD k 0=rat s (L.getD k 0+(s.length-1)):=by rw[bz,Na,Np,Na,Nc h];rfl
def itr(Q:List Nat)(row:Nat):Nat->Nat
 | 0=>row
 | k+1=>Q.getD (itr Q row k) 0
def jG(last:List UInt8)(row:Nat):List UInt8:=(List.range last.length).map fun k=>last.getD (itr (aZ last) row (k+1)) 0
def oh(n i:Nat):Nat:=(i+(n-1))%n
theorem yv(n i:Nat)(h:0<n):oh n i<n:=Po _ h
theorem oU(n i:Nat)(h:i<n):oh n i=if i=0 then n-1 else i-1:=by
 unfold oh;split;·rename_i e;subst e;rw[N8,NL (by omega)]
 ·rw[show i+(n-1)=(i-1)+n by omega,Nat.add_mod_right,NL (by omega)]
theorem GP(n:Nat):((List.range n).map (oh n)).Perm (List.range n):=by
 refine(Pm ?_ OD).2 fun i=> ?_;·rw[QU,PE];refine OG ?_ OD;intro a b ha hb h0 e;have ha:=List.mem_range.1 ha;have hb:=List.mem_range.1 hb;rw[oU n a ha,oU n b hb]at e;split at e <;>split at e <;>omega
 ·rw[List.mem_map,Qu];constructor;·rintro⟨a,ha,rfl⟩;exact yv n a (by have:=List.mem_range.1 ha;omega)
  ·intro h;refine⟨if i=n-1 then 0 else i+1,List.mem_range.2 (by split <;>omega),?_⟩;rw[oU n _ (by split <;>omega)];split <;>split <;>omega
theorem vJ(s:List UInt8)(i:Nat)(_:i<s.length)(k:Nat):(dU s (oh s.length i))[k]? =if k<s.length then some (rat s (i+(s.length-1)+k))else none:=by
 split;·rename_i h;rw[eF s _ k (NT (yv _ _ (by omega))) h];congr 1;unfold oh rat;rw[Nat.mod_add_mod]
 ·rw[Nw (by rw[cQ];omega)]
theorem xk(s:List UInt8)(i:Nat)(hi:i<s.length):dU s (oh s.length i)=rat s (i+(s.length-1))::(dU s i).take (s.length-1):=by
 refine Ob fun k=> ?_;rw[vJ s i hi]
 cases k with
 | zero=>rw[Nf];rfl
 | succ k=>
  rw[Rl,PN];by_cases h:k<s.length-1;·rw[Nf,Nf h,eF s i k (by omega) (by omega)];have:=nR s (i+k);rw[<- this,show i+(s.length-1)+(k+1)=i+k+s.length by omega]
  ·rw[Nd,Nd h]
theorem LZ{a b:List UInt8}(m:Nat)(hl:a.length=b.length)(h:a<=b):a.take m<=b.take m:=by
 refine List.not_lt.1 fun h0=> ?_;rcases List.lt_iff_exists.1 h0 with⟨_,h1⟩|⟨i,h1,h2,h3,h4⟩;·simp only[NB]at h1;omega
 ·simp only[NB]at h1 h2;refine absurd (List.lt_iff_exists.2 (.inr ⟨i,by omega,by omega,fun j hj=> ?_,?_⟩)) (List.not_lt.2 h);·have:=h3 j hj;rwa [QR,QR]at this
  ·rwa [QR,QR]at h4
theorem RLt.le{s:List UInt8}{i j:Nat}(h:RLt s i j):dU s i<=dU s j:=by
 rcases h with h|⟨h,_⟩;·exact List.le_of_lt h
 ·rw[h];exact List.le_refl _
theorem uj{s:List UInt8}{L:List Nat}(h:ep s L):L.Perm (List.range s.length):=
 (Pm (iL h) OD).2 fun i=>by rw[h.2 i,Qu]
theorem lr{s:List UInt8}{L:List Nat}(h:ep s L)(k:Nat)(hk:k<s.length):L.getD k 0<s.length:=by have h0:k<L.length:=(by rw[dM h];exact hk);rw[Na,Nc h0];exact(h.2 _).1 (NM h0)
theorem uv{α:Type}(L:List Nat)(f:Nat->α):(List.range L.length).map (fun k=>f (L.getD k 0))=L.map f:=by
 refine Ob fun k=> ?_;rw[Np,Np];by_cases h:k<L.length;·rw[NJ h,Nc h,Ov,Ov,Na,Nc h];rfl
 ·rw[Nw (by rw[NE];omega),Nw (by omega)];rfl
theorem G3{s:List UInt8}{L:List Nat}(h:ep s L):L.map (dU s)=(aZ (bz s L)).map fun k=>dU s (oh s.length (L.getD k 0)):=by
 have hl:=dM h;have hp:=uj h;refine List.Perm.eq_of_pairwise (le:=(· <= ·)) (fun a b _ _ h1 h2=>List.le_antisymm h1 h2) ?_ ?_ ?_;·rw[PE];exact h.1.imp RLt.le
 ·rw[PE];refine OG ?_ (kQ (bz s L));intro a b ha hb h0;have ha:a<L.length:=by have:=(iq _ a).1 ha;rwa [bD]at this
  have hb:b<L.length:=by have:=(iq _ b).1 hb;rwa [bD]at this
  unfold PLt at h0;rw[lZ s L a ha,lZ s L b hb]at h0;rw[xk s _ (lr h a (by omega)),xk s _ (lr h b (by omega)),List.cons_le_cons_iff];rcases h0 with h1|⟨h1,h2⟩;·exact .inl h1
  ·refine .inr ⟨h1,LZ _ (by rw[cQ,cQ]) ?_⟩;have:=List.pairwise_iff_getElem.1 h.1 a b ha hb h2;rw[Na,Nc ha,Na,Nc hb];exact this.le
 ·refine(hp.map (dU s)).trans (List.Perm.symm ?_);refine((sd (bz s L)).map _).trans ?_;rw[bD,uv L fun i=>dU s (oh s.length i)];refine(hp.map _).trans ?_;have:=(GP s.length).map (dU s);rwa [Ou]at this
theorem fh{s:List UInt8}{L:List Nat}(h:ep s L)(r:Nat)(hr:r<s.length):(aZ (bz s L)).getD r 0<s.length:=by have hl:=dM h;have hk:r<(aZ (bz s L)).length:=(by rw[db,bD];omega);rw[Na,Nc hk];have:=(iq (bz s L) _).1 (NM hk);rwa [bD,hl]at this
theorem Kr{s:List UInt8}{L:List Nat}(h:ep s L)(r:Nat)(hr:r<s.length)(j:Nat):rat s (L.getD r 0+j)=rat s (L.getD ((aZ (bz s L)).getD r 0) 0+(s.length-1)+j):=by have hl:=dM h;have e:=congrArg (fun l=>l[r]?) (G3 h);simp only[Np]at e;have hk:r<(aZ (bz s L)).length:=(by rw[db,bD];omega);have hq:=fh h r hr;rw[Nc (by omega),Nc hk,Ov,Ov]at e;have e:=On e;have h1:L[r]=L.getD r 0:=(by rw[Na,Nc (by omega)];rfl);have h0:(aZ (bz s L))[r]=(aZ (bz s L)).getD r 0:=(by rw[Na,Nc hk];rfl);rw[h1,h0]at e;have:=(yA s _ _ (NT (lr h r hr)) (NT (yv _ _ (by omega)))).1 e j;rw[this];unfold oh rat;rw[Nat.mod_add_mod]
theorem De{s:List UInt8}{L:List Nat}(h:ep s L)(r:Nat)(hr:r<s.length):∀k,itr (aZ (bz s L)) r k<s.length
 | 0=>hr
 | k+1=>fh h _ (De h r hr k)
theorem LA{s:List UInt8}{L:List Nat}(h:ep s L)(r:Nat)(hr:r<s.length):∀k j,rat s (L.getD (itr (aZ (bz s L)) r k) 0+j)=rat s (L.getD r 0+k+j):=by
 intro k
 induction k with
 | zero=>intro j;rfl
 | succ k ih=>intro j;have h1:=Kr h _ (De h r hr k) (j+1);rw[ih (j+1)]at h1;rw[show L.getD r 0+(k+1)+j=L.getD r 0+k+(j+1) by omega,h1];have h2:=nR s (L.getD (itr (aZ (bz s L)) r (k+1)) 0+j);rw[<- h2];congr 1;show _=L.getD (itr (aZ (bz s L)) r (k+1)) 0+(s.length-1)+(j+1);omega
theorem IB{s:List UInt8}{L:List Nat}(h:ep s L)(r:Nat)(hr:r<s.length):jG (bz s L) r=dU s (L.getD r 0):=by
 have hl:=dM h;refine Ob fun k=> ?_;unfold jG;rw[Np,bD,hl];by_cases hk:k<s.length;·rw[NJ hk,Ov,eF s _ k (NT (lr h r hr)) hk];have h1:=De h r hr (k+1);rw[lZ s L _ (by omega)];have h2:=LA h r hr (k+1) (s.length-1);rw[h2,show L.getD r 0+(k+1)+(s.length-1)=L.getD r 0+k+s.length by omega,nR]
 ·rw[Nw (by rw[NE];omega),Nw (by rw[cQ];omega)];rfl
theorem yh{s:List UInt8}{L:List Nat}(h:ep s L):(bz s L).Perm s:=by
 refine((uj h).map _).trans ?_;rcases OL s.length with h0|h0;·have:s= []:=Nq h0;subst this;exact PW _
 ·have e:((List.range s.length).map fun i=>rat s (i+(s.length-1)))=dU s (s.length-1):=by
   refine Ob fun k=> ?_;by_cases hk:k<s.length;·rw[Np,NJ hk,Ov,eF s _ k (by omega) hk,RN]
   ·rw[Nw (by rw[Nu,NE];omega),Nw (by rw[cQ];omega)]
  rw[e,dU];refine List.perm_append_comm.trans ?_;rw[OW]
open Go.RowKit
def jF(f:Nat->Nat):Array Value:=(Array.range 256).map fun i=>.int .i64 (f i)
theorem qI(f:Nat->Nat):(jF f).size=256:=by simp[jF]
theorem E7:jF (fun _=>0)=Array.replicate 256 (.int .i64 0):=by
 apply Rm;·simp[jF]
 ·intro i h1 h2;simp[jF]
theorem ES:(∀ w,(zeroValue 235).run prog w=.ok (.agg (jF fun _=>0)) w)/\(prog.info? 235).map (·.size)=some 256:=by rw[E7];exact RO (by kernel_rfl)
theorem zk(f:Nat->Nat)(b x:Nat):(jF f).setIfInBounds b (.int .i64 x)=jF fun i=>if i=b then x else f i:=by
 apply Rm;·simp[jF]
 ·intro i h1 h2;rw[Qb (by simpa [jF]using h2)];by_cases e:b=i;·subst e;simp[jF]
  ·rw[Nd e];have e2:¬i=b:=fun h=>e h.symm;simp[jF,e2]
theorem zi(f:Nat->Nat):(jF f).all (·.oneCell')=true:=by rw[QS];intro i h;simp[jF,Value.oneCell']
theorem zf(f:Nat->Nat)(i:Nat)(h:i<256):(jF f)[i]? =some (.int .i64 (f i:Nat)):=by simp[jF,h]
theorem E6(f g:Nat->Nat)(h:∀i,i<256->f i=g i):jF f=jF g:=by
 apply Rm;·simp[jF]
 ·intro i h1 h2;have hi:i<256:=(by rw[qI]at h1;exact h1);simp[jF,h i hi]
theorem zQ(s:List UInt8)(i b:Nat)(h:i<s.length):ct (s.take (i+1)) b=if b=(s.getD i 0).toNat then ct (s.take i) (s.getD i 0).toNat+1 else ct (s.take i) b:=by
 have e:s.getD i 0=s[i]:=by rw[Na,Nc h];rfl
 rw[NF h,ct,QE,QM,e];by_cases hb:b=s[i].toNat;·subst hb;rw[Nf rfl];simp[ct]
 ·rw[Nd hb];have:(s[i].toNat==b)=false:=(by simp only[NC,R8];exact fun h=>hb h.symm);simp[ct,this]
theorem xQ(s:List UInt8)(i b:Nat):ct (s.take i) b<=s.length:=by have:=PJ (p:=fun x:UInt8=>x.toNat==b) (l:=s.take i);rw[NB]at this;unfold ct;omega
theorem tU(s:List UInt8)(b:Nat)(hb:b<=256):cu s b<=s.length:=by rw[<- kB,<-db s];(have e:List.range 256=List.range b++(List.range (256-b)).map (b+ ·):=by conv=>lhs;rw[show 256=b+(256-b) by omega,List.range_add]);unfold aZ;rw[e,OF,Nb];omega
theorem ij(s:ByteArray)(i:Nat)(h:i<s.size):s.data.toList.getD i 0=s[i]:=by rw[Na,Nc (by simpa using h)];rfl
theorem Ib(w:World)(a b c:Array Value)(t:TypeId):Blk (((w.alloc (.cells a t)).alloc (.cells b t)).alloc (.cells c t)) w.heap.size t a/\Blk (((w.alloc (.cells a t)).alloc (.cells b t)).alloc (.cells c t)) (w.heap.size+1) t b/\Blk (((w.alloc (.cells a t)).alloc (.cells b t)).alloc (.cells c t)) (w.heap.size+1+1) t c:=by
 have e1:(w.alloc (.cells a t)).heap.size=w.heap.size+1:=by simp
 have e2:((w.alloc (.cells a t)).alloc (.cells b t)).heap.size=w.heap.size+1+1:=by simp
 refine⟨?_,?_,?_⟩;·show(World.alloc _ _).heap[_]? =_;rw[bZ _ _ _ (by simp;omega),bZ _ _ _ (by simp)];exact aj w t a
 ·show(World.alloc _ _).heap[_]? =_;rw[bZ _ _ _ (by simp),<-e1];exact aj _ t b
 ·rw[<- e2];exact aj _ t c
theorem aW{w:World}{g k:Nat}{t:TypeId}{cs:Array Value}(h:Blk w g t cs)(h0:g≠k)(i:Nat)(u:Value):Blk (w.setCell ⟨k,i,none⟩ u) g t cs:=by show(w.setCell ⟨k,i,none⟩ u).heap[g]? =_;rw[OK w ⟨k,i,none⟩ u g h0];exact h
theorem vM(w:World)(cs:Array Value)(q c:Nat)(h:q<256)(hc:cs[q]? =some (.int .i64 c)):(Instr.index 235 (.agg cs) (.int .i64 q)).run prog w=.ok (.int .i64 c) w:=by obtain⟨i3,h3,h2,h0,h5⟩:=N4 Tryz.info3;have h1:(0:Int)<=(q:Int):=(by omega);have h4:¬256<=q:=(by omega);unfold Instr.index;simp[Pk underlying235,go_sem,h1,sizeOf,typeInfo,h3,h0,part,hc,h4]
theorem DV(w:World)(s:ByteArray)(hs:s.size<=1000000):Calls prog 199 #[.string s] w fun e w'=>e=.returned (.agg (jF (cu s.data.toList)))/\Below w.heap.size w w':=by
 obtain⟨hz,hi⟩:=ES;have HI:=aa hi;have HS:=aa qI;have he:=aa zk;have HO:=aa zi;have HG:=aa zf;have ha:=aa E6;have hy:s.data.toList.length=s.size:=rfl;have hg:=aa hy;have hF:=aa (show(fun b=>ct (s.data.toList.take 0) b)=fun _=>0 from by funext b;simp[ct]);generalize jF=T at*;clear hi hy;have hD:=aa (xQ s.data.toList);have hE:=aa (zQ s.data.toList);go_enter func199,ntmps199;go_wp2;go_loopw [11] (fun i wx=>∃q:Nat,q<=s.size/\i=.int .i64 q/\Blk wx w.heap.size 235 (T fun _=>0)/\Blk wx (w.heap.size+1) 235 (T fun b=>ct (s.data.toList.take q) b)/\Blk wx (w.heap.size+1+1) 235 (T fun _=>0)/\Below w.heap.size w wx) (fun i _=>s.size-(intOf i).toNat)
 case atStart=>obtain⟨h1,h2,h3⟩:=Ib w (T fun _=>0) (T fun _=>0) (T fun _=>0) 235;exact⟨0,Ng _,rfl,h1,by rw[hF.out];exact h2,h3,(((Nj _ w).alloc (ag _) _).alloc (by simp) _).alloc (by simp;omega) _⟩
 case round=>
  obtain⟨q,hq,rfl,h7,h8,h0,hb⟩:=hrel;have H0:=aa h7;have H1:=aa h8;have H2:=aa h0;have HB:=aa hb;by_cases e:q<s.size
  ·have h5:=PZ s[q];have hr:=ij s q e;obtain⟨b,hh⟩:∃b,b=s[q].toNat:=⟨_,rfl⟩;rw[<- hh]at h5;have hc:=ac h8 b;have hf:=ae h8 b;rw[HG.out _ b h5]at hc;have ht:=hD.out q b;obtain⟨c,h9⟩:∃c,c=ct (s.data.toList.take q) b:=⟨_,rfl⟩;rw[hg.out]at ht;rw[<- h9]at hc ht;have hJ:s[q].toNat=b:=hh.symm;have hj:=aa h9;have hC:=aa hr;have hB:=aa hh;have hA:=HS.out fun b=>ct (s.data.toList.take q) b;clear h7 h8 h0 hb h9 hr hh hz;go_wp2_with fail;go_roundw;case rel=>refine⟨q+1,by omega,by go_num,aW H0.out (by omega) _ _,?_,aW H2.out (by omega) _ _,HB.out.setCell (by show _<=w.heap.size+1;omega) _⟩;have h1:=ay H1.out b (.int .i64 ((c+1:Nat):Int));rw[he.out]at h1;have e2:(fun i=>if i=b then c+1 else ct (s.data.toList.take q) i)=fun b=>ct (s.data.toList.take (q+1)) b:=(by funext i;rw[hE.out q i (by rw[hg.out];omega),hC.out,<-hB.out,<-hj.out]);rw[e2]at h1;exact h1
   case measure=>simp[intOf];omega
  ·obtain rfl:q=s.size:=(by omega);have hT:s.data.toList.take s.size=s.data.toList:=Nr (Oi hg.out);rw[hT]at h8;have hw:(prog.info? 235).map (·.size)=some (T fun b=>ct s.data.toList b).size:=(by rw[HS.out];exact HI.out);have hG:=aa hw;have H1:=aa h8;have hA:=HS.out fun b=>ct s.data.toList b;clear h7 h8 h0 hb hz hT hw;go_wp2_with fail;refine kL rfl rfl H1.out underlying235 hG.out ?_;go_wp2_with fail;have ho:=aa (tU s.data.toList);(go_loopw [6,23] (fun l i wx=>∃q:Nat,q<=256/\i=.int .i64 q/\l=.int .i64 (cu s.data.toList q:Nat)/\Blk wx w.heap.size 235 (T fun _=>0)/\Blk wx (w.heap.size+1+1) 235 (T fun i=>if i<q then cu s.data.toList i else 0)/\Below w.heap.size w wx) (fun _ i _=>256-(intOf i).toNat));case atStart=>have e0:(fun i=>if i<0 then cu s.data.toList i else 0)=fun _=>0:=(by funext i;rw[Nd]);exact⟨0,by omega,rfl,rfl,H0.out,by rw[e0];exact H2.out,HB.out⟩
   case round=>
    clear H0 H1 H2 HB;obtain⟨q,hq,rfl,rfl,h7,h0,hb⟩:=hrel;have H0:=aa h7;have H2:=aa h0;have HB:=aa hb;by_cases e:q<256
    ·have hu:=HG.out (fun b=>ct s.data.toList b) q e;have hc:=ac h0 q;have hf:=ae h0 q;rw[HG.out _ q e]at hc;obtain⟨v,hv⟩:∃v,v=(if q<q then cu s.data.toList q else 0):=⟨_,rfl⟩;rw[<- hv]at hc;have hx:=ho.out q hq;have h4:=ho.out (q+1) (by omega);have hm:cu s.data.toList (q+1)=cu s.data.toList q+ct s.data.toList q:=rfl;rw[hg.out]at hx h4;rw[hm]at h4;have hH:=aa hm;obtain⟨c,h9⟩:∃c,c=ct s.data.toList q:=⟨_,rfl⟩;obtain⟨f,hk⟩:∃f,f=cu s.data.toList q:=⟨_,rfl⟩;rw[<- h9]at hu h4;rw[<- hk]at hx h4 |-;have hj:=aa h9;have hn:=aa hk;clear h7 h0 hb hm h9 hk hv;have hI:=vM wr (T fun b=>ct s.data.toList b) q c e hu;go_wp2_with fail;go_roundw;case rel=>
      refine⟨q+1,by omega,by go_num,?_,aW H0.out (by omega) _ _,?_,HB.out.setCell (by show _<=w.heap.size+1+1;omega) _⟩;·rw[hH.out,<-hj.out,<-hn.out];go_num
      ·have h1:=ay H2.out q (.int .i64 ((f:Nat):Int));rw[he.out]at h1;have e2:(fun i=>if i=q then f else if i<q then cu s.data.toList i else 0)=fun i=>if i<q+1 then cu s.data.toList i else 0:=by
        funext i;by_cases h:i=q;·subst h;rw[Nf rfl,Nf,hn.out]
        ·rw[Nd h];by_cases h2:i<q;·rw[Nf h2,Nf]
         ·rw[Nd h2,Nd]
       rw[e2]at h1;exact h1
     case measure=>simp[intOf];omega
    ·obtain rfl:q=256:=(by omega);have h6:T (fun i=>if i<256 then cu s.data.toList i else 0)=T (cu s.data.toList):=ha.out _ _ fun i hi=>Nf hi;rw[h6]at h0;have hl:(prog.info? 235).map (·.size)=some (T (cu s.data.toList)).size:=(by rw[HS.out];exact HI.out);have H2:=aa h0;have hp:=aa hl;have hK:=cT (P:=prog) H0.out hl (by rw[HS.out,HS.out]) (HO.out _);have hA:=HS.out (cu s.data.toList);clear h7 h0 hb h6 hl;go_wp2_with fail;refine kL rfl rfl H2.out underlying235 hp.out ?_;go_wp2_with fail;refine NH (v:=.agg (T (cu s.data.toList))) (jf rfl rfl (QB _ _ _ _ _ _ H0.out) underlying235 hp.out) rfl ⟨rfl,?_⟩;exact below_setRow HB.out (ag _) _
