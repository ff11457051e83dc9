import Derived.Test.YtepokmggbfoakaaGreatDoorT14
set_option maxHeartbeats 1600000
set_option maxRecDepth 1000000
namespace Go.Proofs.YtepokmggbfoakaaGreatDoor.S05
open _root_.Go.Proofs.Tryz
def Dg(s:List UInt8)(b:Nat):List Nat:=(List.range s.length).filter fun i=>(s.getD i 0).toNat==b
def aH(s:List UInt8):List Nat:=(List.range 256).flatMap (Dg s)
def bI(s:List UInt8)(b:Nat):Nat:=s.countP fun x=>x.toNat==b
def bJ(s:List UInt8):Nat->Nat
 | 0=>0
 | b+1=>bJ s b+bI s b
def j6(s:List UInt8)(i:Nat):Nat:=bJ s (s.getD i 0).toNat+bI (s.take i) (s.getD i 0).toNat
theorem sj(s:List UInt8)(b:Nat):∀n,n<=s.length->((List.range n).filter fun i=>(s.getD i 0).toNat==b).length=bI (s.take n) b:=by
 intro n
 induction n with
 | zero=>intro _;simp[bI]
 | succ n ih=>intro h;rw[Oi,PX,Nc,ih (by omega),List.take_add_one,bI,bI,Rj,Nd (by omega)];have e:s.getD n 0=s[n]:=(by rw[Nb,Nd (by omega)];rfl);simp only[Option.toList_some,RB,RF,RU,e];split <;>simp
theorem AN(s:List UInt8)(b:Nat):(Dg s b).length=bI s b:=by have:=sj s b s.length (ah _);rwa [Qm]at this
theorem J4(s:List UInt8)(i:Nat)(h:i<s.length):(Dg s (s.getD i 0).toNat)[bI (s.take i) (s.getD i 0).toNat]? =some i:=by unfold Dg;have e:List.range s.length=List.range i++i::(List.range (s.length-i-1)).map (i+1+ ·):=(by (conv=>lhs;rw[show s.length=i+((s.length-i-1)+1) by omega,List.range_add,List.range_succ_eq_map]);simp only[OB,Ov,Og];congr 2;apply Oc;intro j _;simp only[Function.comp];omega);rw[e,PX,NU (by rw[sj s _ i (by omega)];exact Nm _),sj s _ i (by omega),Ow,List.filter_cons_of_pos (by simp)];rfl
theorem iB(s:List UInt8):∀b,((List.range b).flatMap (Dg s)).length=bJ s b
 | 0=>rfl
 | b+1=>by rw[Oi,OO,Nc,iB s b,bJ];simp[AN]
theorem jB(s:List UInt8)(i:Nat)(h:i<s.length):(aH s)[j6 s i]? =some i:=by
 unfold aH j6;have hb:(s.getD i 0).toNat<256:=Pr _;have hg:=J4 s i h;generalize (s.getD i 0).toNat=b at*;have e:List.range 256=List.range b++b::(List.range (256-b-1)).map (b+1+ ·):=by (conv=>lhs;rw[show 256=b+((256-b-1)+1) by omega,List.range_add,List.range_succ_eq_map]);simp only[OB,Ov,Og];congr 2;apply Oc;intro j _;simp only[Function.comp];omega
 rw[e,OO,N9,NU (by rw[iB];omega),iB,O5,NT];·exact hg
 ·exact(List.getElem?_eq_some_iff.1 hg).1
theorem ig(s:List UInt8)(i:Nat):i∈aH s↔i<s.length:=by
 constructor;·intro h;obtain⟨b,_,hb⟩:=List.mem_flatMap.1 h;exact List.mem_range.1 (List.mem_filter.1 hb).1
 ·intro h;exact P5 (jB s i h)
def PLt(s:List UInt8)(i j:Nat):Prop:=s.getD i 0<s.getD j 0\/(s.getD i 0=s.getD j 0/\i<j)
theorem PLt.ne{s:List UInt8}{i j:Nat}(h:PLt s i j):i≠j:=by
 rintro rfl;rcases h with h|⟨_,h⟩;·exact RV _ h
 ·omega
theorem ky(s:List UInt8):(aH s).Pairwise (PLt s):=by
 unfold aH;rw[List.pairwise_flatMap];refine⟨fun b _=> ?_,?_⟩;·refine OQ ?_ (List.pairwise_lt_range.filter _);intro i j hi hj h0;have h1:=(List.mem_filter.1 hi).2;have h2:=(List.mem_filter.1 hj).2;simp only[O0]at h1 h2;exact .inr ⟨UInt8.toNat_inj.1 (h1.trans h2.symm),h0⟩
 ·refine List.pairwise_lt_range.imp fun {a b} hab i hi j hj=> ?_;have h1:=(List.mem_filter.1 hi).2;have h2:=(List.mem_filter.1 hj).2;simp only[O0]at h1 h2;exact .inl (UInt8.lt_iff_toNat_lt.2 (by omega))
theorem rC(s:List UInt8):(aH s).Perm (List.range s.length):=
 (Pp ((ky s).imp PLt.ne) OS).2 fun i=>by rw[ig,QV]
theorem cu(s:List UInt8):(aH s).length=s.length:=by rw[(rC s).length_eq,NK]
theorem EB(s:List UInt8)(i:Nat)(h:i<s.length):j6 s i<s.length:=by rw[<- cu s];exact(List.getElem?_eq_some_iff.1 (jB s i h)).1
theorem J6(s:List UInt8)(i j:Nat)(h:i<s.length)(k:j<s.length)(e:j6 s i=j6 s j):i=j:=by have h1:=jB s i h;rw[e,jB s j k]at h1;exact(Om h1).symm
theorem rV(s:List UInt8)(P:List Nat)(hl:P.length=s.length)(h:∀i,i<s.length->P[j6 s i]? =some i):P=aH s:=by
 refine Oa fun k=> ?_;by_cases hk:k<s.length
 ·have h0:k<(aH s).length:=by rw[cu];exact hk
  obtain⟨j,hj⟩:∃j,(aH s)[k]? =some j:=⟨_,Nd h0⟩;have h2:j<s.length:=(ig s j).1 (P5 hj);have hr:j6 s j=k:=by
   have h1:=jB s j h2;have h4:j6 s j<(aH s).length:=(by rw[cu];exact EB s j h2);have hp:=List.pairwise_iff_getElem.1 (ky s);rw[Nd h4]at h1;rw[Nd h0]at hj;have h1:=Om h1;have hj:=Om hj;rcases OJ (j6 s j) k with h3|h3|h3;·have:=PLt.ne (hp _ _ h4 h0 h3);exact absurd (h1.trans hj.symm) this
   ·exact h3
   ·have:=PLt.ne (hp _ _ h0 h4 h3);exact absurd (hj.trans h1.symm) this
  rw[hj,<-hr,h j h2]
 ·rw[Ny (by omega),Ny (by rw[cu];omega)]
def bw(s:List UInt8)(L:List Nat):List UInt8:=L.map fun i=>rat s (i+(s.length-1))
theorem bE(s:List UInt8)(L:List Nat):(bw s L).length=L.length:=NC _
theorem lC(s:List UInt8)(L:List Nat)(k:Nat)(h:k<L.length):(bw s L).getD k 0=rat s (L.getD k 0+(s.length-1)):=by rw[bw,Nb,Np,Nb,Nd h];rfl
def itr(Q:List Nat)(row:Nat):Nat->Nat
 | 0=>row
 | k+1=>Q.getD (itr Q row k) 0
def f5(last:List UInt8)(row:Nat):List UInt8:=(List.range last.length).map fun k=>last.getD (itr (aH last) row (k+1)) 0
def nD(n i:Nat):Nat:=(i+(n-1))%n
theorem yl(n i:Nat)(h:0<n):nD n i<n:=PV _ h
theorem oc(n i:Nat)(h:i<n):nD n i=if i=0 then n-1 else i-1:=by
 unfold nD;split;·rename_i e;subst e;rw[N8,NJ (by omega)]
 ·rw[show i+(n-1)=(i-1)+n by omega,Nat.add_mod_right,NJ (by omega)]
theorem GN(n:Nat):((List.range n).map (nD n)).Perm (List.range n):=by
 refine(Pp ?_ OS).2 fun i=> ?_;·rw[QW,PJ];refine OQ ?_ OS;intro a b ha hb h0 e;have ha:=List.mem_range.1 ha;have hb:=List.mem_range.1 hb;rw[oc n a ha,oc n b hb]at e;split at e <;>split at e <;>omega
 ·rw[List.mem_map,QV];constructor;·rintro⟨a,ha,rfl⟩;exact yl n a (by have:=List.mem_range.1 ha;omega)
  ·intro h;refine⟨if i=n-1 then 0 else i+1,List.mem_range.2 (by split <;>omega),?_⟩;rw[oc n _ (by split <;>omega)];split <;>split <;>omega
theorem vt(s:List UInt8)(i:Nat)(_:i<s.length)(k:Nat):(ee s (nD s.length i))[k]? =if k<s.length then some (rat s (i+(s.length-1)+k))else none:=by
 split;·rename_i h;rw[gB s _ k (NV (yl _ _ (by omega))) h];congr 1;unfold nD rat;rw[Nat.mod_add_mod]
 ·rw[Ny (by rw[eA];omega)]
theorem wT(s:List UInt8)(i:Nat)(hi:i<s.length):ee s (nD s.length i)=rat s (i+(s.length-1))::(ee s i).take (s.length-1):=by
 refine Oa fun k=> ?_;rw[vt s i hi]
 cases k with
 | zero=>rw[Ng (by omega)];rfl
 | succ k=>
  rw[Rn,PR];by_cases h:k<s.length-1;·rw[Ng (by omega),Ng h,gB s i k (by omega) (by omega)];have:=nk s (i+k);rw[<- this,show i+(s.length-1)+(k+1)=i+k+s.length by omega]
  ·rw[Nf (by omega),Nf h]
theorem L4{a b:List UInt8}(m:Nat)(hl:a.length=b.length)(h:a<=b):a.take m<=b.take m:=by
 refine List.not_lt.1 fun h0=> ?_;rcases List.lt_iff_exists.1 h0 with⟨_,h1⟩|⟨i,h1,h2,h3,h4⟩;·simp only[Nz]at h1;omega
 ·simp only[Nz]at h1 h2;refine absurd (List.lt_iff_exists.2 (.inr ⟨i,by omega,by omega,fun j hj=> ?_,?_⟩)) (List.not_lt.2 h);·have:=h3 j hj;rwa [QR,QR]at this
  ·rwa [QR,QR]at h4
theorem RLt.le{s:List UInt8}{i j:Nat}(h:RLt s i j):ee s i<=ee s j:=by
 rcases h with h|⟨h,_⟩;·exact List.le_of_lt h
 ·rw[h];exact List.le_refl _
theorem t7{s:List UInt8}{L:List Nat}(h:eT s L):L.Perm (List.range s.length):=
 (Pp (jZ h) OS).2 fun i=>by rw[h.2 i,QV]
theorem mE{s:List UInt8}{L:List Nat}(h:eT s L)(k:Nat)(hk:k<s.length):L.getD k 0<s.length:=by have h0:k<L.length:=(by rw[dN h];exact hk);rw[Nb,Nd h0];exact(h.2 _).1 (NL h0)
theorem ug{α:Type}(L:List Nat)(f:Nat->α):(List.range L.length).map (fun k=>f (L.getD k 0))=L.map f:=by
 refine Oa fun k=> ?_;rw[Np,Np];by_cases h:k<L.length;·rw[NN h,Nd h,Oy,Oy,Nb,Nd h];rfl
 ·rw[Ny (by rw[NK];omega),Ny (by omega)];rfl
theorem G3{s:List UInt8}{L:List Nat}(h:eT s L):L.map (ee s)=(aH (bw s L)).map fun k=>ee s (nD s.length (L.getD k 0)):=by
 have hl:=dN h;have hp:=t7 h;refine List.Perm.eq_of_pairwise (le:=(· <= ·)) (fun a b _ _ h1 h2=>List.le_antisymm h1 h2) ?_ ?_ ?_;·rw[PJ];exact h.1.imp RLt.le
 ·rw[PJ];refine OQ ?_ (ky (bw s L));intro a b ha hb h0;have ha:a<L.length:=by have:=(ig _ a).1 ha;rwa [bE]at this
  have hb:b<L.length:=by have:=(ig _ b).1 hb;rwa [bE]at this
  unfold PLt at h0;rw[lC s L a ha,lC s L b hb]at h0;rw[wT s _ (mE h a (by omega)),wT s _ (mE h b (by omega)),List.cons_le_cons_iff];rcases h0 with h1|⟨h1,h2⟩;·exact .inl h1
  ·refine .inr ⟨h1,L4 _ (by rw[eA,eA]) ?_⟩;have:=List.pairwise_iff_getElem.1 h.1 a b ha hb h2;rw[Nb,Nd ha,Nb,Nd hb];exact this.le
 ·refine(hp.map (ee s)).trans (List.Perm.symm ?_);refine((rC (bw s L)).map _).trans ?_;rw[bE,ug L fun i=>ee s (nD s.length i)];refine(hp.map _).trans ?_;have:=(GN s.length).map (ee s);rwa [Ov]at this
theorem fH{s:List UInt8}{L:List Nat}(h:eT s L)(r:Nat)(hr:r<s.length):(aH (bw s L)).getD r 0<s.length:=by have hl:=dN h;have hk:r<(aH (bw s L)).length:=(by rw[cu,bE];omega);rw[Nb,Nd hk];have:=(ig (bw s L) _).1 (NL hk);rwa [bE,hl]at this
theorem Kj{s:List UInt8}{L:List Nat}(h:eT s L)(r:Nat)(hr:r<s.length)(j:Nat):rat s (L.getD r 0+j)=rat s (L.getD ((aH (bw s L)).getD r 0) 0+(s.length-1)+j):=by have hl:=dN h;have e:=congrArg (fun l=>l[r]?) (G3 h);simp only[Np]at e;have hk:r<(aH (bw s L)).length:=(by rw[cu,bE];omega);have hq:=fH h r hr;rw[Nd (by omega),Nd hk,Oy,Oy]at e;have e:=Om e;have h1:L[r]=L.getD r 0:=(by rw[Nb,Nd (by omega)];rfl);have h0:(aH (bw s L))[r]=(aH (bw s L)).getD r 0:=(by rw[Nb,Nd hk];rfl);rw[h1,h0]at e;have:=(EE s _ _ (NV (mE h r hr)) (NV (yl _ _ (by omega)))).1 e j;rw[this];unfold nD rat;rw[Nat.mod_add_mod]
theorem CY{s:List UInt8}{L:List Nat}(h:eT s L)(r:Nat)(hr:r<s.length):∀k,itr (aH (bw s L)) r k<s.length
 | 0=>hr
 | k+1=>fH h _ (CY h r hr k)
theorem Lx{s:List UInt8}{L:List Nat}(h:eT s L)(r:Nat)(hr:r<s.length):∀k j,rat s (L.getD (itr (aH (bw s L)) r k) 0+j)=rat s (L.getD r 0+k+j):=by
 intro k
 induction k with
 | zero=>intro j;rfl
 | succ k ih=>intro j;have h1:=Kj h _ (CY h r hr k) (j+1);rw[ih (j+1)]at h1;rw[show L.getD r 0+(k+1)+j=L.getD r 0+k+(j+1) by omega,h1];have h2:=nk s (L.getD (itr (aH (bw s L)) r (k+1)) 0+j);rw[<- h2];congr 1;show _=L.getD (itr (aH (bw s L)) r (k+1)) 0+(s.length-1)+(j+1);omega
theorem Iv{s:List UInt8}{L:List Nat}(h:eT s L)(r:Nat)(hr:r<s.length):f5 (bw s L) r=ee s (L.getD r 0):=by
 have hl:=dN h;refine Oa fun k=> ?_;unfold f5;rw[Np,bE,hl];by_cases hk:k<s.length;·rw[NN hk,Oy,gB s _ k (NV (mE h r hr)) hk];have h1:=CY h r hr (k+1);rw[lC s L _ (by omega)];have h2:=Lx h r hr (k+1) (s.length-1);rw[h2,show L.getD r 0+(k+1)+(s.length-1)=L.getD r 0+k+s.length by omega,nk]
 ·rw[Ny (by rw[NK];omega),Ny (by rw[eA];omega)];rfl
theorem x8{s:List UInt8}{L:List Nat}(h:eT s L):(bw s L).Perm s:=by
 refine((t7 h).map _).trans ?_;rcases PT s.length with h0|h0;·have:s= []:=Nw h0;subst this;exact R9 _
 ·have e:((List.range s.length).map fun i=>rat s (i+(s.length-1)))=ee s (s.length-1):=by
   refine Oa fun k=> ?_;by_cases hk:k<s.length;·rw[Np,NN hk,Oy,gB s _ k (by omega) hk,R0]
   ·rw[Ny (by rw[NC,NK];omega),Ny (by rw[eA];omega)]
  rw[e,ee];refine List.perm_append_comm.trans ?_;rw[OF]
open Go.RowKit
def jo(f:Nat->Nat):Array Value:=(Array.range 256).map fun i=>.int .i64 (f i)
theorem pQ(f:Nat->Nat):(jo f).size=256:=by simp[jo]
theorem E6:jo (fun _=>0)=Array.replicate 256 (.int .i64 0):=by
 apply Ro;·simp[jo]
 ·intro i h1 h2;simp[jo]
theorem EP:(∀ w,(zeroValue 304).run prog w=.ok (.agg (jo fun _=>0)) w)/\(prog.info? 304).map (·.size)=some 256:=by rw[E6];exact R2 (by kernel_rfl)
theorem yX(f:Nat->Nat)(b x:Nat):(jo f).setIfInBounds b (.int .i64 x)=jo fun i=>if i=b then x else f i:=by
 apply Ro;·simp[jo]
 ·intro i h1 h2;rw[Qh (by simpa [jo]using h2)];by_cases e:b=i;·subst e;simp[jo]
  ·rw[Nf e];have e2:¬i=b:=fun h=>e h.symm;simp[jo,e2]
theorem yW(f:Nat->Nat):(jo f).all (·.oneCell')=true:=by rw[QS];intro i h;simp[jo,Value.oneCell']
theorem yV(f:Nat->Nat)(i:Nat)(h:i<256):(jo f)[i]? =some (.int .i64 (f i:Nat)):=by simp[jo,h]
theorem E5(f g:Nat->Nat)(h:∀i,i<256->f i=g i):jo f=jo g:=by
 apply Ro;·simp[jo]
 ·intro i h1 h2;have hi:i<256:=(by rw[pQ]at h1;exact h1);simp[jo,h i hi]
theorem zt(s:List UInt8)(i b:Nat)(h:i<s.length):bI (s.take (i+1)) b=if b=(s.getD i 0).toNat then bI (s.take i) (s.getD i 0).toNat+1 else bI (s.take i) b:=by
 have e:s.getD i 0=s[i]:=by rw[Nb,Nd h];rfl
 rw[NI h,bI,Rj,RB,e];by_cases hb:b=s[i].toNat;·subst hb;rw[Ng rfl];simp[bI]
 ·rw[Nf hb];have:(s[i].toNat==b)=false:=(by simp only[NA,Sh];exact fun h=>hb h.symm);simp[bI,this]
theorem tf(s:List UInt8)(i b:Nat):bI (s.take i) b<=s.length:=by have:=Qt (p:=fun x:UInt8=>x.toNat==b) (l:=s.take i);rw[Nz]at this;unfold bI;omega
theorem oU(s:List UInt8)(b:Nat)(hb:b<=256):bJ s b<=s.length:=by rw[<- iB,<-cu s];(have e:List.range 256=List.range b++(List.range (256-b)).map (b+ ·):=by conv=>lhs;rw[show 256=b+(256-b) by omega,List.range_add]);unfold aH;rw[e,OO,Nc];omega
theorem fz(s:ByteArray)(i:Nat)(h:i<s.size):s.data.toList.getD i 0=s[i]:=by rw[Nb,Nd (by simpa using h)];rfl
theorem Hz(w:World)(a b c:Array Value)(t:TypeId):Blk (((w.alloc (.cells a t)).alloc (.cells b t)).alloc (.cells c t)) w.heap.size t a/\Blk (((w.alloc (.cells a t)).alloc (.cells b t)).alloc (.cells c t)) (w.heap.size+1) t b/\Blk (((w.alloc (.cells a t)).alloc (.cells b t)).alloc (.cells c t)) (w.heap.size+1+1) t c:=by
 have e1:(w.alloc (.cells a t)).heap.size=w.heap.size+1:=by simp
 have e2:((w.alloc (.cells a t)).alloc (.cells b t)).heap.size=w.heap.size+1+1:=by simp
 refine⟨?_,?_,?_⟩;·show(World.alloc _ _).heap[_]? =_;rw[bH _ _ _ (by simp;omega),bH _ _ _ (by simp)];exact aj w t a
 ·show(World.alloc _ _).heap[_]? =_;rw[bH _ _ _ (by simp),<-e1];exact aj _ t b
 ·rw[<- e2];exact aj _ t c
theorem aM{w:World}{g k:Nat}{t:TypeId}{cs:Array Value}(h:Blk w g t cs)(h0:g≠k)(i:Nat)(u:Value):Blk (w.setCell ⟨k,i,none⟩ u) g t cs:=by show(w.setCell ⟨k,i,none⟩ u).heap[g]? =_;rw[OZ w ⟨k,i,none⟩ u g h0];exact h
theorem vw(w:World)(cs:Array Value)(q c:Nat)(h:q<256)(hc:cs[q]? =some (.int .i64 c)):(Instr.index 304 (.agg cs) (.int .i64 q)).run prog w=.ok (.int .i64 c) w:=by obtain⟨i3,h3,h2,h0,h5⟩:=NY Tryz.info3;have h1:(0:Int)<=(q:Int):=(by omega);have h4:¬256<=q:=(by omega);unfold Instr.index;simp[PH underlying304,go_sem,h1,sizeOf,typeInfo,h3,h0,part,hc,h4]
theorem DK(w:World)(s:ByteArray)(hs:s.size<=1000000):Calls prog 279 #[.string s] w fun e w'=>e=.returned (.agg (jo (bJ s.data.toList)))/\Below w.heap.size w w':=by
 obtain⟨hz,hi⟩:=EP;have HI:=aa hi;have HS:=aa pQ;have he:=aa yX;have HO:=aa yW;have HG:=aa yV;have ha:=aa E5;have hy:s.data.toList.length=s.size:=rfl;have hg:=aa hy;have hF:=aa (show(fun b=>bI (s.data.toList.take 0) b)=fun _=>0 from by funext b;simp[bI]);generalize jo=T at*;clear hi hy;have hD:=aa (tf s.data.toList);have hE:=aa (zt s.data.toList);go_enter func279,ntmps279;go_wp2;go_loopw [11] (fun i wx=>∃q:Nat,q<=s.size/\i=.int .i64 q/\Blk wx w.heap.size 304 (T fun _=>0)/\Blk wx (w.heap.size+1) 304 (T fun b=>bI (s.data.toList.take q) b)/\Blk wx (w.heap.size+1+1) 304 (T fun _=>0)/\Below w.heap.size w wx) (fun i _=>s.size-(intOf i).toNat)
 case atStart=>obtain⟨h1,h2,h3⟩:=Hz w (T fun _=>0) (T fun _=>0) (T fun _=>0) 304;exact⟨0,Nh _,rfl,h1,by rw[hF.out];exact h2,h3,(((Nj _ w).alloc (ah _) _).alloc (by simp) _).alloc (by simp;omega) _⟩
 case round=>
  obtain⟨q,hq,rfl,h7,h8,h0,hb⟩:=hrel;have H0:=aa h7;have H1:=aa h8;have H2:=aa h0;have HB:=aa hb;by_cases e:q<s.size
  ·have h5:=Pr s[q];have hr:=fz s q e;obtain⟨b,hh⟩:∃b,b=s[q].toNat:=⟨_,rfl⟩;rw[<- hh]at h5;have hc:=ac h8 b;have hf:=ae h8 b;rw[HG.out _ b h5]at hc;have ht:=hD.out q b;obtain⟨c,h9⟩:∃c,c=bI (s.data.toList.take q) b:=⟨_,rfl⟩;rw[hg.out]at ht;rw[<- h9]at hc ht;have hJ:s[q].toNat=b:=hh.symm;have hj:=aa h9;have hC:=aa hr;have hB:=aa hh;have hA:=HS.out fun b=>bI (s.data.toList.take q) b;clear h7 h8 h0 hb h9 hr hh hz;go_wp2_with fail;go_roundw;case rel=>refine⟨q+1,by omega,by go_num,aM H0.out (by omega) _ _,?_,aM H2.out (by omega) _ _,HB.out.setCell (by show _<=w.heap.size+1;omega) _⟩;have h1:=au H1.out b (.int .i64 ((c+1:Nat):Int));rw[he.out]at h1;have e2:(fun i=>if i=b then c+1 else bI (s.data.toList.take q) i)=fun b=>bI (s.data.toList.take (q+1)) b:=(by funext i;rw[hE.out q i (by rw[hg.out];omega),hC.out,<-hB.out,<-hj.out]);rw[e2]at h1;exact h1
   case measure=>simp[intOf];omega
  ·obtain rfl:q=s.size:=(by omega);have hT:s.data.toList.take s.size=s.data.toList:=Nt (Ox hg.out);rw[hT]at h8;have hw:(prog.info? 304).map (·.size)=some (T fun b=>bI s.data.toList b).size:=(by rw[HS.out];exact HI.out);have hG:=aa hw;have H1:=aa h8;have hA:=HS.out fun b=>bI s.data.toList b;clear h7 h8 h0 hb hz hT hw;go_wp2_with fail;refine kh rfl rfl H1.out underlying304 hG.out ?_;go_wp2_with fail;have ho:=aa (oU s.data.toList);(go_loopw [6,23] (fun l i wx=>∃q:Nat,q<=256/\i=.int .i64 q/\l=.int .i64 (bJ s.data.toList q:Nat)/\Blk wx w.heap.size 304 (T fun _=>0)/\Blk wx (w.heap.size+1+1) 304 (T fun i=>if i<q then bJ s.data.toList i else 0)/\Below w.heap.size w wx) (fun _ i _=>256-(intOf i).toNat));case atStart=>have e0:(fun i=>if i<0 then bJ s.data.toList i else 0)=fun _=>0:=(by funext i;rw[Nf (by omega)]);exact⟨0,by omega,rfl,rfl,H0.out,by rw[e0];exact H2.out,HB.out⟩
   case round=>
    clear H0 H1 H2 HB;obtain⟨q,hq,rfl,rfl,h7,h0,hb⟩:=hrel;have H0:=aa h7;have H2:=aa h0;have HB:=aa hb;by_cases e:q<256
    ·have hu:=HG.out (fun b=>bI s.data.toList b) q e;have hc:=ac h0 q;have hf:=ae h0 q;rw[HG.out _ q e]at hc;obtain⟨v,hv⟩:∃v,v=(if q<q then bJ s.data.toList q else 0):=⟨_,rfl⟩;rw[<- hv]at hc;have hx:=ho.out q hq;have h4:=ho.out (q+1) (by omega);have hm:bJ s.data.toList (q+1)=bJ s.data.toList q+bI s.data.toList q:=rfl;rw[hg.out]at hx h4;rw[hm]at h4;have hH:=aa hm;obtain⟨c,h9⟩:∃c,c=bI s.data.toList q:=⟨_,rfl⟩;obtain⟨f,hk⟩:∃f,f=bJ s.data.toList q:=⟨_,rfl⟩;rw[<- h9]at hu h4;rw[<- hk]at hx h4 |-;have hj:=aa h9;have hn:=aa hk;clear h7 h0 hb hm h9 hk hv;have hI:=vw wr (T fun b=>bI s.data.toList b) q c e hu;go_wp2_with fail;go_roundw;case rel=>
      refine⟨q+1,by omega,by go_num,?_,aM H0.out (by omega) _ _,?_,HB.out.setCell (by show _<=w.heap.size+1+1;omega) _⟩;·rw[hH.out,<-hj.out,<-hn.out];go_num
      ·have h1:=au H2.out q (.int .i64 ((f:Nat):Int));rw[he.out]at h1;have e2:(fun i=>if i=q then f else if i<q then bJ s.data.toList i else 0)=fun i=>if i<q+1 then bJ s.data.toList i else 0:=by
        funext i;by_cases h:i=q;·subst h;rw[Ng rfl,Ng (by omega),hn.out]
        ·rw[Nf h];by_cases h2:i<q;·rw[Ng h2,Ng (by omega)]
         ·rw[Nf h2,Nf (by omega)]
       rw[e2]at h1;exact h1
     case measure=>simp[intOf];omega
    ·obtain rfl:q=256:=(by omega);have h6:T (fun i=>if i<256 then bJ s.data.toList i else 0)=T (bJ s.data.toList):=ha.out _ _ fun i hi=>Ng hi;rw[h6]at h0;have hl:(prog.info? 304).map (·.size)=some (T (bJ s.data.toList)).size:=(by rw[HS.out];exact HI.out);have H2:=aa h0;have hp:=aa hl;have hK:=cE (P:=prog) H0.out hl (by rw[HS.out,HS.out]) (HO.out _);have hA:=HS.out (bJ s.data.toList);clear h7 h0 hb h6 hl;go_wp2_with fail;refine kh rfl rfl H2.out underlying304 hp.out ?_;go_wp2_with fail;refine ND (v:=.agg (T (bJ s.data.toList))) (i6 rfl rfl (QJ _ _ _ _ _ _ H0.out) underlying304 hp.out) rfl ⟨rfl,?_⟩;exact below_setRow HB.out (ah _) _
