import Derived.Test.YtepokmggbfoakaaGreatDoorT08
import Derived.Lib.AppendZerosOnto
import Derived.Deep.Onto
set_option maxHeartbeats 1600000
set_option maxRecDepth 100000
namespace Go.Proofs.YtepokmggbfoakaaGreatDoor.S02
open _root_.Go.Proofs.Tryz
def pL:List Nat:=ag 4374732215 33
theorem ng:pL.length=33:=af _ _
theorem LJ:am pL:=aB _ _
def kA(D:List Nat)(i:Nat):Nat->List Nat
 | 0=>D
 | m+1=>(kA D i m).set (i+m) (((kA D i m).getD (i+m) 0+pL.getD m 0)%2)
def fL(D:List Nat)(i:Nat):List Nat:=if D.getD i 0=1 then kA D i 33 else D
def gD(D:List Nat):Nat->List Nat
 | 0=>D
 | i+1=>fL (gD D i) i
def rD(D:List Nat):List Nat:=(gD D (D.length-32)).drop (D.length-32)
theorem rF(D:List Nat)(i m:Nat):(kA D i m).length=D.length:=by
 induction m with
 | zero=>rfl
 | succ m ih=>rw[kA,Qb,ih]
theorem wV(D:List Nat)(i m:Nat)(h:am D):am (kA D i m):=by
 induction m with
 | zero=>exact h
 | succ m ih=>
  intro b hb;rw[kA]at hb;rcases List.mem_or_eq_of_mem_set hb with h1|h1;·exact ih b h1
  ·rw[h1];exact PV _ (by omega)
theorem yz(D:List Nat)(i:Nat):(fL D i).length=D.length:=by
 unfold fL;split;·exact rF _ _ _
 ·rfl
theorem DL(D:List Nat)(i:Nat)(h:am D):am (fL D i):=by
 unfold fL;split;·exact wV _ _ _ h
 ·exact h
theorem fq(D:List Nat)(i:Nat):(gD D i).length=D.length:=by
 induction i with
 | zero=>rfl
 | succ i ih=>rw[gD,yz,ih]
theorem qE(D:List Nat)(i:Nat)(h:am D):am (gD D i):=by
 induction i with
 | zero=>exact h
 | succ i ih=>exact DL _ _ ih
theorem yn(D:List Nat)(h:32<=D.length):(rD D).length=32:=by unfold rD;rw[Nq,fq];omega
theorem uG(D:List Nat)(h:am D):am (rD D):=(qE D _ h).drop _
open Go.RowKit
theorem J3(w:World):Calls prog 175 #[] w fun e w'=>∃g cap,e=.returned (.slice (some ⟨g,0,none⟩) 33 cap)/\w'.ownsRow w.heap.size 3 1 (.slice (some ⟨g,0,none⟩) 33 cap) 33 (pL.map iv)/\Below w.heap.size w w':=by have hc:Calls prog 30 #[.int .u64 4374732215,.int .i64 33] w (pJ w 4374732215 33):=qB w 4374732215 33 (by decide) (by decide);have HC:=aa hc;clear hc;go_enter func175,ntmps175;go_wp2_with fail;refine HC.out.mono ?_;rintro e w1 ⟨g,cap,rfl,ho,hb⟩;go_wp2_with fail;go_ret;exact⟨g,cap,rfl,ho,hb⟩
theorem He(D:List Nat)(i m:Nat):((kA D i m).map iv).set (i+m) (.int .i64 (((kA D i m).getD (i+m) 0+pL.getD m 0)%2:Nat))=(kA D i (m+1)).map iv:=by rw[kA,List.map_set];rfl
theorem Kc(w:World)(A:Option Addr)(n c:Nat)(L:List Nat)(hi:aw w A n L)(hb:am L)(hn:n<=100000000)(hX:32<=n):
 Calls prog 125 #[.slice A n c] w fun e w'=>∃A' c',e=.returned (.slice A' 32 c')/\aw w' A' 32 (rD L)/\Below w.heap.size w w':=by
 have hl:=hi.1;have HI:=aa hi;have HL:=aa hl;clear hi hl;go_enter func125,ntmps125;go_wp2_with fail;refine(J3 w).mono ?_;rintro e w1 ⟨gp,cp,rfl,hA,ho⟩;obtain⟨b,off,rfl,hc⟩:=HI.out.2 (by omega);have h8:∀j u,(L.map iv)[j]? =some u->(w1.alloc (.cells #[] 3)).cell? ((⟨b,off,none⟩:Addr).add j)=some u:=by intro j u hu;have hx:j<n:=(by have:=(List.getElem?_eq_some_iff.1 hu).1;rw[NC,HL.out]at this;exact this);have hP:=Nr w ⟨b,off+j,none⟩ (hc j hx);have hy:b<w.heap.size:=hP;have hz:=ho.size;rw[OX];have h1:=(((ho.alloc hz (.cells #[] 3)).cell (p:=⟨b,off+j,none⟩) hy)).trans (hc j hx);rw[h1,<-hu,Np,Nb,Nd (by rw[HL.out];exact hx)];rfl
 have hH:=ho.size;have h9:(w1.alloc (.cells #[] 3)).ownsRow w.heap.size 3 1 (.slice (some ⟨w1.heap.size,0,none⟩) 0 0) 0 []:=by have:=World.ownsRow_lit (base:=w.heap.size) (e:=3) (size:=1) w1 #[] 0 hH (by unfold maxLen;omega) (by simp);simpa using this
 have hB:(w1.alloc (.cells #[] 3)).ownsRow w.heap.size 3 1 (.slice (some ⟨gp,0,none⟩) 33 cp) 33 (pL.map iv):=hA.alloc _;have hr:Below w.heap.size w (w1.alloc (.cells #[] 3)):=ho.alloc hH _;have hN:gp≠w1.heap.size:=by have:=(hA.lt gp rfl).2;omega
 obtain⟨i3,h3,hV,hD,hW⟩:=NY Tryz.info3;have HC:=aa h8;clear h8 hc;go_wp2_with (at_builtin;refine wpList_append_lies _ rfl _ _ 57 rfl w.heap.size 3 i3 (.int .i64 0) 1 8 underlying57 h3 hV hD hW rfl (by decide) _ _ _ rfl h9 ⟨b,off,none⟩ n c (L.map iv) rfl ?c1 HC.out ?c2 ?c6 ?c3 ?c4 ?c5 (w1.heap.size+1) ?c7 ?_)
 case c1=>rw[NC,HL.out,Of]
 case c2=>intro u hu;obtain⟨q,_,rfl⟩:=List.mem_map.1 hu;rfl
 case c6=>omega
 case c3=>unfold maxLen;omega
 case c4=>omega
 case c5=>simp;omega
 case c7=>simp
 intro gd cd w2 ha h5 hF _;have h4:w2.ownsRow w.heap.size 3 1 (.slice (some ⟨gd,0,none⟩) n cd) n ((gD L 0).map iv):=by rw[gD];simpa using ha
 have hC:w2.ownsRow w.heap.size 3 1 (.slice (some ⟨gp,0,none⟩) 33 cp) 33 (pL.map iv):=hB.kept h5 (.inr (by simpa [Value.ownBlock]using hN));have hM:Below w.heap.size w w2:=hr.grown h5 (by simp;omega) (fun k hk=>(h9.lt k hk).1);have hS:gd≠gp:=by have h1:=(hA.lt gp rfl).2;have hL:w1.heap.size=gd\/gd=w1.heap.size+1:=(by simpa [Value.ownBlock]using hF);omega
 obtain⟨_,_,hh,_,hv,_⟩:=ak h4;have hR:n<=cd:=by obtain⟨_,_,hh,h,_,_⟩:=ak h4;simp only[Ou]at hh;omega
 have ht:cd<=maxLen:=by obtain⟨_,_,hh,_,h,_⟩:=ak h4;simp only[Ou]at hh;omega
 unfold maxLen at ht;clear h5 ha hF hh hv;go_wp2_with fail;go_loopw [5] (fun i wr=>∃j:Nat,j<=n-32/\i=.int .i64 j/\wr.ownsRow w.heap.size 3 1 (.slice (some ⟨gd,0,none⟩) n cd) n ((gD L j).map iv)/\wr.ownsRow w.heap.size 3 1 (.slice (some ⟨gp,0,none⟩) 33 cp) 33 (pL.map iv)/\Below w.heap.size w wr) (fun i _=>n-32-(intOf i).toNat)
 case atStart=>exact⟨0,Nh _,rfl,h4,hC,hM⟩
 case round=>
  obtain⟨j,hj,rfl,h6,hG,hs⟩:=hrel;by_cases h:j<n-32
  ·have c1:=h6.cellAt j (by omega);rw[Np,Nd (by rw[fq,HL.out];omega)]at c1;have hY:=pU (gD L j) j (qE L j hb);have hw:(gD L j)[j]'(by rw[fq,HL.out];omega)=(gD L j).getD j 0:=(by rw[Nb,Nd (by rw[fq,HL.out];omega)];rfl);have c2:wr.cell? ⟨gd,j,none⟩=some (.int .i64 ((gD L j).getD j 0:Nat)):=(by rw[c1,<-hw];rfl);by_cases h1:(gD L j).getD j 0=1
   ·rw[h1]at c2;have H1:=aa h1;clear h1 c1 hw;go_wp2_with fail;(go_loopw [6] (fun x wx=>∃m:Nat,m<=33/\x=.int .i64 m/\wx.ownsRow w.heap.size 3 1 (.slice (some ⟨gd,0,none⟩) n cd) n ((kA (gD L j) j m).map iv)/\wx.ownsRow w.heap.size 3 1 (.slice (some ⟨gp,0,none⟩) 33 cp) 33 (pL.map iv)/\Below w.heap.size w wx) (fun x _=>33-(intOf x).toNat));case atStart=>exact⟨0,by omega,rfl,h6,hG,hs⟩
    case round=>
     obtain⟨m,hm,rfl,h2,he,hg⟩:=hrel;have hq:(kA (gD L j) j m).length=n:=(by rw[rF,fq,HL.out]);have hK:=wV (gD L j) j m (qE L j hb);by_cases hQ:m<33
     ·have k1:wr.cell? ⟨gd,j+m,none⟩=some (.int .i64 ((kA (gD L j) j m).getD (j+m) 0:Nat)):=(by rw[h2.cellAt (j+m) (by omega),Np,Nb,Nd (by rw[hq];omega)];rfl);have k2:wr.cell? ⟨gp,m,none⟩=some (.int .i64 (pL.getD m 0:Nat)):=(by rw[he.cellAt m (by omega),Np,Nb,Nd (by rw[ng];omega)];rfl);have k3:=h2.frozenAt (j+m);have b1:=pU (kA (gD L j) j m) (j+m) hK;have b2:=pU pL m LJ;have hp:=h2.stored (j+m) (.int .i64 (((kA (gD L j) j m).getD (j+m) 0+pL.getD m 0)%2:Nat));rw[He]at hp;generalize (kA (gD L j) j m).getD (j+m) 0=x at*;generalize pL.getD m 0=y at*;have h7:(((x+y)%2:Nat):Int)=((x:Int)+y)%2:=(by omega);rw[h7]at hp;clear h7 hq c2;go_upto_region 10 with fail;go_region;go_wp2_with fail;go_roundw;case rel=>
       have hO:w.heap.size<=gd:=(h2.lt gd rfl).1
       have hT:(wr.setCell ⟨gd,j+m,none⟩ (.int .i64 (((x:Int)+y)%2))).ownsRow w.heap.size 3 1 (.slice (some ⟨gp,0,none⟩) 33 cp) 33 (pL.map iv):=
        he.kept hp.2 (.inr (by simpa [Value.ownBlock]using fun e=>hS e.symm))
       exact⟨m+1,by omega,by go_num,hp.1,hT,(hg.setCell (p:=⟨gd,j+m,none⟩) hO _).drew⟩
      case measure=>simp[intOf];omega
     ·obtain rfl:m=33:=(by omega);have hf:gD L (j+1)=kA (gD L j) j 33:=(by rw[gD,fL,Ng H1.out]);rw[<- hf]at h2;have hE:=aa hf;clear hf hq c2;go_wp2_with fail;go_roundw;case rel=>exact⟨j+1,by omega,by go_num,h2,he,hg⟩
      case measure=>simp[intOf];omega
   ·have h0:(gD L j).getD j 0=0:=(by omega);rw[h0]at c2;have H1:=aa h1;clear h1 h0 c1 hw;have hf:gD L (j+1)=gD L j:=(by rw[gD,fL,Nf H1.out]);have hE:=aa hf;clear hf;go_wp2_with fail;go_roundw;case rel=>exact⟨j+1,by omega,by go_num,by rw[hE.out];exact h6,hG,hs⟩
    case measure=>simp[intOf];omega
  ·obtain rfl:j=n-32:=(by omega);have hI:=(aN h6).cut (a:=n-32) (k:=32) (by omega);have hJ:=aa hI;clear hI;have e32:n-(n-32)=32:=(by omega);have E32:=aa e32;clear e32;go_wp2_with fail;go_ret;refine⟨some ⟨gd,n-32,none⟩,cd-(n-32),?_,?_,hs⟩;·show Ending.returned (Value.slice (some ⟨gd,n-32,none⟩) (n-(n-32)) (cd-(n-32)))=_;rw[E32.out]
   ·have h1:=hJ.out;rw[Oy,OX,N8,Nt (by rw[Nq,fq,HL.out];omega)]at h1;unfold rD;rw[HL.out];exact h1
theorem jN(m:Nat):(Builtin.zeroCells (Value.int .i64 0).cells m).toList=List.replicate m (.int .i64 0):=by
 apply Oa;intro j;by_cases hj:j<m;·simp[Builtin.zeroCells,hj,Nat.mod_one,Value.cells]
 ·simp[Builtin.zeroCells,hj,Value.cells]
theorem ij{P:Program}(w:World)(t tn ty e:TypeId)(i:TypeInfo)(kq kn:IntKind)(ht:P.underlying t=some (.slice e))(h8:P.underlying tn=some (.int kn))(hi:P.info? e=some i)(hz:i.zero=some (.int .i64 0))(hs:i.size=1)(h5:i.bytes=8)
 (g sLen sCap:Nat) (cur:Array Value) (hg:w.heap[g]? =some (.cells cur e (0,0)))
 (k:Nat) (h0:0<k) (hk:k<=1000000000) (h1:sLen+k<=sCap) (h6:sLen+k<=cur.size):
 (Builtin.append_ #[t,tn] ty #[.slice (some ⟨g,0,none⟩) sLen sCap,.int kq k]).run P w=
   .ok (.slice (some ⟨g,0,none⟩) (sLen+k) sCap) (w.setRow g (cur.toList.take sLen++List.replicate k (Value.int .i64 0)++cur.toList.drop (sLen+k)).toArray):=by have h7:k≠0:=(by omega);have hw:IntKind.i64.wrap (k:Int)=k:=(by rw[Oe];omega);have h2:¬(281474976710656<(k:Int)*8):=(by omega);have h3:¬((k:Int)<0):=(by omega);have h4:=run_storeCells_at P g sLen e (List.replicate k (Value.int .i64 0)) 0 cur w hg (by simp;omega) (by intro u hu;rw[QD hu];rfl);simp only[Og,NE]at h4;simp[Builtin.append_,PH ht,PH h8,sizeOf,typeInfo,zeroValue,hi,hz,hs,h5,asInt,asIntOf,hw,h1,h3,h7,h2,OX,jN,h4]
theorem fP{P:Program}(w:World)(base:Nat)(t tn ty e:TypeId)(i:TypeInfo)(kq kn:IntKind)(ht:P.underlying t=some (.slice e))(hb:P.underlying tn=some (.int kn))(hi:P.info? e=some i)(hz:i.zero=some (.int .i64 0))(hs:i.size=1)(h8:i.bytes=8)
 (v:Value) (n:Nat) (xs:List Value) (h1:w.ownsRow base e 1 v n xs) (k:Nat) (h0:0<k) (hk:k<=1000000000) (hn:n<=1000000000) (h6:base<=w.heap.size):
 ∃v' w',(Builtin.append_ #[t,tn] ty #[v,.int kq k]).run P w=.ok v' w'/\w'.ownsRow base e 1 v' (n+k) (xs++List.replicate k (Value.int .i64 0))/\w.grownBy w' v.ownBlock/\(v'.ownBlock=v.ownBlock\/v'.ownBlock=some w.heap.size):=by
 have h2:(xs++List.replicate k (Value.int .i64 0)).length=(n+k)*1:=by rw[Nc,h1.1,NE];omega
 have grown:∀(old:Nat),old<n+k->∀(row:Option Nat),
  (w.drew.alloc (.cells (xs.toArray++Builtin.zeroCells (Value.int .i64 0).cells k++Builtin.zeroCells (Value.int .i64 0).cells (grownCap w (n+k) old e - (n+k))) e)).ownsRow base e 1
    (.slice (some ⟨w.heap.size,0,none⟩) (n+k) (grownCap w (n+k) old e)) (n+k) (xs++List.replicate k (Value.int .i64 0))/\
  w.grownBy (w.drew.alloc (.cells (xs.toArray++Builtin.zeroCells (Value.int .i64 0).cells k++Builtin.zeroCells (Value.int .i64 0).cells (grownCap w (n+k) old e-(n+k))) e)) row:=by
  intro old ho row
  have hf:=grownCap_ge w (n+k) old e
  have h9:grownCap w (n+k) old e<=maxLen:=Sc w (n+k) old e (by unfold maxLen;omega)
  have hh:xs.length=n:=by rw[h1.1,Of]
  refine⟨⟨h2,.inr ⟨w.heap.size,_,_,rfl,h6,_root_.Go.heap_alloc_new w.drew _,hf,h9,?_,?_⟩⟩,⟨rfl,rfl,rfl,by simp,fun q hq _=>_root_.Go.heap_alloc_old w.drew _ hq⟩⟩
  ·simp only[Rv,PM,Sd,Value.cells,hh]
   simp
   omega
  ·simp only[Pu,Ni,jN]
   rw[<- Ni,<-h2]
   exact Rw
 rcases h1.2 with⟨rfl,rfl⟩|⟨g,cap,cur,rfl,hc,hg,hj,h9,he,h4⟩;·have hx:xs= []:=Nw (by simpa using h1.1);subst hx;have hr:=Lib.run_append_nil_zeros (P:=P) w t tn ty e i (.int .i64 0) kq kn ht hb hi hz k h0 (by omega) (by omega) (by rw[h8];omega);have h5:=grown 0 (by omega) (Value.ownBlock (.slice none 0 0));simp only[N8,NX,Array.empty_append]at h5 |-;exact⟨_,_,hr,h5.1,h5.2,Or.inr rfl⟩
 ·rw[Of]at he;by_cases h3:n+k<=cap
  ·have hr:=ij (P:=P) w t tn ty e i kq kn ht hb hi hz hs h8 g n cap cur hg k h0 hk h3 (by omega);refine⟨_,_,hr,⟨h2,.inr ⟨g,cap,_,rfl,hc,_root_.Go.setRow_heap w g cur _ e _ hg,h3,h9,?_,?_⟩⟩,⟨rfl,rfl,rfl,by simp,fun q _ hq=>_root_.Go.setRow_other w g q _ (fun e=>hq (by simp[Value.ownBlock,e]))⟩,Or.inl rfl⟩;·simp only[PM,Nc,Nz,Nq,Ra,NE];omega
   ·rw[Of]at h4;rw[h4,<-h2];exact Rw
  ·have h7:∀j u,xs[j]? =some u->w.cell? ((⟨g,0,none⟩:Addr).add j)=some u:=h1.cells (g:=g) rfl;have ha:=run_firstCells_some (P:=P) w.drew i.size n ⟨g,0,none⟩ n cap xs (by rw[h1.1,hs]) (by simpa using h7);have hr:=Lib.run_append_grow_zeros (P:=P) w t tn ty e i (.int .i64 0) kq kn ht hb hi hz (some ⟨g,0,none⟩) n cap xs ha k h0 (by omega) (by omega) (by omega) (by rw[h8];omega) (by rw[h8];exact growslice_fits (by omega) (by omega));have h5:=grown cap (by omega) (Value.ownBlock (.slice (some ⟨g,0,none⟩) n cap));exact⟨_,_,hr,h5.1,h5.2,Or.inr rfl⟩
def iL(D R:List Nat):Nat->List Nat
 | 0=>D
 | m+1=>(iL D R m).set m (((iL D R m).getD m 0+R.getD m 0)%2)
theorem jS(D R:List Nat)(m:Nat):(iL D R m).length=D.length:=by
 induction m with
 | zero=>rfl
 | succ m ih=>rw[iL,Qb,ih]
theorem vI(D R:List Nat)(m:Nat)(h:am D):am (iL D R m):=by
 induction m with
 | zero=>exact h
 | succ m ih=>
  intro b hb;rw[iL]at hb;rcases List.mem_or_eq_of_mem_set hb with h1|h1;·exact ih b h1
  ·rw[h1];exact PV _ (by omega)
theorem EX(D R:List Nat)(m:Nat):((iL D R m).map iv).set m (.int .i64 (((iL D R m).getD m 0+R.getD m 0)%2:Nat))=(iL D R (m+1)).map iv:=by rw[iL,List.map_set];rfl
def wJ(r:Nat)(l:List UInt8):List Nat:=rD (iL (ai l++List.replicate 32 0) (ag r 32) 32)
theorem jU(n:Nat):am (List.replicate n 0):=by intro b hb;rw[QD hb];omega
theorem wK(r:Nat)(l:List UInt8):am (iL (ai l++List.replicate 32 0) (ag r 32) 32):=vI _ _ _ ((aG l).append (jU 32))
theorem wL(r:Nat)(l:List UInt8):(iL (ai l++List.replicate 32 0) (ag r 32) 32).length=8*l.length+32:=by rw[jS,Nc,aq,NE]
theorem yc(r:Nat)(l:List UInt8):(wJ r l).length=32:=yn _ (by rw[wL];omega)
theorem C5(r:Nat)(l:List UInt8):am (wJ r l):=uG _ (wK r l)
def ro(r:Nat)(l:List UInt8):Nat:=val (wJ r l)
theorem Ay(r:Nat)(l:List UInt8):ro r l<4294967296:=by have h:=fu (wJ r l) (C5 r l);rw[yc]at h;exact h
theorem JO(w:World)(r:Nat)(s:ByteArray)(hr:r<4294967296)(hs:s.size<=1000000):
 Calls prog 71 #[.int .u32 r,.string s] w fun e w'=>e=.returned (.int .u32 (ro r s.data.toList))/\Below w.heap.size w w':=by
 obtain⟨i3,h3,hQ,hv,hR⟩:=NY Tryz.info3;go_enter func71,ntmps71;go_wp2_with fail;refine(JR w s hs).mono ?_;rintro e w1 ⟨v,rfl,ht,hx⟩;have hC:=hx.size;obtain⟨v2,w2,h9,h8,h4,hJ⟩:=fP (P:=prog) w1 w.heap.size 57 3 57 3 i3 .i64 .i64 underlying57 underlying3 h3 hQ hv hR v (8*s.size) _ ht 32 (by omega) (by omega) (by omega) hC;have hy:Below w.heap.size w w2:=hx.grown h4 hC (fun k hk=>(ht.lt k hk).1);have h0:w2.ownsRow w.heap.size 3 1 v2 (8*s.size+32) ((ai s.data.toList++List.replicate 32 0).map iv):=by rw[NF,PW];exact h8
 have hf:=aa h9;clear h9;go_wp2_with (at_builtin;refine Lib.wpList_append_run _ rfl _ _ 57 3 rfl v (.int .i64 32) rfl rfl v2 w2 hf.out ?_)
 obtain⟨A2,c2,rfl,hq,hp,hG⟩:=ak h0;obtain⟨g,rfl⟩:=hG (by omega);clear h8 hJ h4 ht;have hc:Calls prog 30 #[.int .u64 r,.int .i64 32] w2 (pJ w2 r 32):=qB w2 r 32 (by omega) (by decide);have HC:=aa hc;clear hc;go_wp2_with fail;refine HC.out.mono ?_;rintro e w3 ⟨gr,cr,rfl,hb,hz⟩;have ha:=hy.size;have hm:Below w.heap.size w w3:=hy.trans (hz.mono ha)
 have h6:w3.ownsRow w.heap.size 3 1 (.slice (some ⟨g,0,none⟩) (8*s.size+32) c2) (8*s.size+32) ((iL (ai s.data.toList++List.replicate 32 0) (ag r 32) 0).map iv):=
  (an hz).row h0 (fun _ _=>ar) ar
 have hu:=hb.mono ha;have hN:g≠gr:=by have h1:=(h0.lt g rfl).2;have h2:=(hb.lt gr rfl).1;omega
 have hL:32<=cr/\cr<=maxLen:=by obtain⟨_,_,hP,h,h',_⟩:=ak hb;simp only[Ou]at hP;omega
 unfold maxLen at hL hp;clear h0 hb;have HL:=aa (wL r s.data.toList);have HB:=aa (wK r s.data.toList);have hh:∀m,(iL (ai s.data.toList++List.replicate 32 0) (ag r 32) m).length=8*s.size+32:=by intro m;rw[jS,Nc,aq,NE];rfl
 have hg:∀m,am (iL (ai s.data.toList++List.replicate 32 0) (ag r 32) m):=fun m=>vI _ _ _ ((aG _).append (jU 32));obtain⟨D,hD⟩:∃D,D=ai s.data.toList++List.replicate 32 0:=⟨_,rfl⟩;rw[<- hD]at h6 HL HB hh hg;have HD:=aa hD;have hw:=aa hh;have hE:=aa hg;clear hD hh hg;obtain⟨n,hn⟩:∃n,n=8*s.size+32:=⟨_,rfl⟩;have hV:32<=n/\n<=8000032:=by omega
 rw[<- hn]at h6 hw hq |-;clear hn HL HB;go_wp2_with fail;go_loopw [8] (fun i wr=>∃j:Nat,j<=32/\i=.int .i64 j/\wr.ownsRow w.heap.size 3 1 (.slice (some ⟨g,0,none⟩) n c2) n ((iL D (ag r 32) j).map iv)/\wr.ownsRow w.heap.size 3 1 (.slice (some ⟨gr,0,none⟩) 32 cr) 32 ((ag r 32).map iv)/\Below w.heap.size w wr) (fun i _=>32-(intOf i).toNat)
 case atStart=>exact⟨0,Nh _,rfl,h6,hu,hm⟩
 case round=>
  obtain⟨j,hj,rfl,h5,hB,ho⟩:=hrel;have hl:=hw.out j;have hi:=hE.out j;by_cases h:j<32
  ·have k1:wr.cell? ⟨g,j,none⟩=some (.int .i64 ((iL D (ag r 32) j).getD j 0:Nat)):=(by rw[h5.cellAt j (by omega),Np,Nb,Nd (by rw[hl];omega)];rfl);have k2:wr.cell? ⟨gr,j,none⟩=some (.int .i64 ((ag r 32).getD j 0:Nat)):=(by rw[hB.cellAt j (by omega),Np,Nb,Nd (by rw[af];omega)];rfl);have k3:=h5.frozenAt j;have b1:=pU (iL D (ag r 32) j) j hi;have b2:=pU (ag r 32) j (aB 32 r);have he:=h5.stored j (.int .i64 (((iL D (ag r 32) j).getD j 0+(ag r 32).getD j 0)%2:Nat));rw[EX]at he;generalize (iL D (ag r 32) j).getD j 0=x at*;generalize (ag r 32).getD j 0=y at*;have h7:(((x+y)%2:Nat):Int)=((x:Int)+y)%2:=(by omega);rw[h7]at he;clear h7 hl;go_upto_region 6 with fail;go_region;go_wp2_with fail;go_roundw;case rel=>
    have hM:w.heap.size<=g:=(h5.lt g rfl).1
    have hO:(wr.setCell ⟨g,j,none⟩ (.int .i64 (((x:Int)+y)%2))).ownsRow w.heap.size 3 1 (.slice (some ⟨gr,0,none⟩) 32 cr) 32 ((ag r 32).map iv):=
     hB.kept he.2 (.inr (by simpa [Value.ownBlock]using fun e=>hN e.symm))
    exact⟨j+1,by omega,by go_num,he.1,hO,(ho.setCell (p:=⟨g,j,none⟩) hM _).drew⟩
   case measure=>simp[intOf];omega
  ·obtain rfl:j=32:=(by omega);have hI:=aN h5;have hF:=aa hI;clear hI hl;have hS:=ho.size;go_wp2_with fail;refine(Kc _ _ _ _ _ hF.out hi (by omega) (by omega)).mono ?_;rintro e w5 ⟨A5,c5,rfl,hH,hK⟩;go_wp2_with fail;refine(lD _ _ _ _ _ hH (uG _ hi) (by omega)).mono ?_;rintro e w6 ⟨rfl,rfl⟩;have hT:=Ay r s.data.toList;have hA:val (rD (iL D (ag r 32) 32))=ro r s.data.toList:=(by rw[HD.out];rfl);rw[hA];clear hA;go_wp2_with fail;go_ret;exact⟨rfl,ho.trans (hK.mono hS)⟩
def bW(l:List UInt8):Nat:=4294967295-ro 4294967295 l
theorem oE(l:List UInt8):bW l<4294967296:=by unfold bW;omega
theorem IA(w:World)(s:ByteArray)(hs:s.size<=1000000):
 Calls prog 29 #[.string s] w fun e w'=>e=.returned (.int .u32 (bW s.data.toList))/\Below w.heap.size w w':=by go_enter func29,ntmps29;go_wp2_with fail;refine(JO w 4294967295 s (by decide) hs).mono ?_;rintro e w1 ⟨rfl,hb⟩;have h1:=Ay 4294967295 s.data.toList;have h0:((bW s.data.toList:Nat):Int)=4294967295-(ro 4294967295 s.data.toList:Int):=(by unfold bW;omega);have HS:=aa h0;clear h0;generalize ro 4294967295 s.data.toList=x at*;go_wp2_with fail;go_ret;refine⟨?_,hb⟩;show Ending.returned (Value.int .u32 (4294967295-(x:Int)))=_;rw[HS.out]
def xz(w:World)(A:Option Addr)(n:Nat)(L:List Nat):Prop:=
 L.length=n/\(0<n->∃b off,A=some ⟨b,off,none⟩/\∀i,i<n->w.cell? ⟨b,off+i,none⟩=some (.int .u32 (L.getD i 0)))
def fs(c x:Nat):Nat:=(c%2147483648*2+c/2147483648) ^^^ x
def cn(L:List Nat):Nat:=L.foldl fs 0
theorem kC(c x:Nat)(hc:c<4294967296)(hx:x<4294967296):fs c x<4294967296:=by unfold fs;exact Qp (n:=32) (by omega) hx
theorem rU(L:List Nat)(h:∀x∈L,x<4294967296):∀c,c<4294967296->L.foldl fs c<4294967296:=by
 induction L with
 | nil=>intro c hc;exact hc
 | cons x L ih=>intro c hc;exact ih (fun y hy=>h y (Nu _ hy)) _ (kC c x hc (h x Nl))
theorem lK(L:List Nat)(h:∀x∈L,x<4294967296):cn L<4294967296:=rU L h 0 (by omega)
theorem yA(L:List Nat)(x:Nat):cn (L++ [x])=fs (cn L) x:=by simp[cn]
theorem pA(L:List Nat)(j:Nat)(h:j<L.length):cn (L.take (j+1))=fs (cn (L.take j)) (L.getD j 0):=by rw[NI h,yA,Nb,Nd h];rfl
theorem DN(w:World)(A:Option Addr)(n c:Nat)(L:List Nat)(hi:xz w A n L)(hb:∀x∈L,x<4294967296)(hn:n<=9223372036854775807):
 Calls prog 31 #[.slice A n c] w fun e w'=>e=.returned (.int .u32 (cn L))/\w=w':=by
 have HI:=aa hi;have HB:=aa hb;clear hi hb;go_enter func31,ntmps31;go_wp2_with fail;go_loop [3,4] (fun v i=>∃j x:Nat,j<=n/\i=.int .i64 j/\v=.int .u32 x/\x=cn (L.take j)/\x<4294967296) (fun _ i=>n-(intOf i).toNat)
 case atStart=>exact⟨0,0,Nh _,rfl,rfl,by simp[cn],by omega⟩
 case round=>
  obtain⟨j,x,hj,rfl,rfl,hx,h6⟩:=hrel;by_cases h:j<n;·obtain⟨hl,hc⟩:=HI.out;obtain⟨b,off,rfl,h2⟩:=hc (by omega);have g:=h2 j h;have hy:L.getD j 0<4294967296:=(by rw[Nb,Nd (by omega)];exact HB.out _ (NL _));have h1:=pA L j (by omega);rw[<- hx]at h1;have h3:=kC x (L.getD j 0) h6 hy;have h5:=aa h1;have HX:=aa hx;have h4:=aa h3;have HL:=aa hl;clear hl hc h2 h1 hx h3;generalize L.getD j 0=y at*;go_wp2_with fail;refine⟨⟨j+1,fs x y,by omega,by go_num,?_,h5.out.symm,h4.out⟩,by simp[intOf];omega⟩;have h0:((x:Int)%2147483648*2+(x:Int)/2147483648)=((x%2147483648*2+x/2147483648:Nat):Int):=(by omega);rw[h0,Sg _ _ (by omega) hy];rfl
  ·obtain rfl:j=n:=(by omega);have hl:=HI.out.1;rw[Nt (by omega)]at hx;have HX:=aa hx;clear hx hl;go_wp2_with fail;go_ret;rw[<- HX.out];exact⟨rfl,rfl⟩
def cF:List Nat->List Nat->List Nat
 | x::xs,y::ys=>(x+y)%2::cF xs ys
 | xs,_=>xs
theorem cz(X:List Nat):cF X []=X:=by cases X <;>rfl
theorem kK(Y:List Nat):cF [] Y= []:=by cases Y <;>rfl
theorem yQ(X:List Nat):∀Y,(cF X Y).length=X.length:=by
 induction X with
 | nil=>intro Y;rw[kK]
 | cons x xs ih=>
  intro Y
  cases Y with
  | nil=>rw[cz]
  | cons y ys=>simp[cF,ih]
theorem EY(X:List Nat):∀Y,am X->am (cF X Y):=by
 induction X with
 | nil=>intro Y h;rw[kK];exact h
 | cons x xs ih=>
  intro Y h
  cases Y with
  | nil=>rw[cz];exact h
  | cons y ys=>
   intro b hb;rw[cF]at hb;rcases List.mem_cons.1 hb with rfl|hb;·exact PV _ (by omega)
   ·exact ih ys (fun c hc=>h c (Nu _ hc)) b hb
theorem vJ(X:List Nat):∀(Y:List Nat) (m:Nat),m<Y.length->m<X.length->cF X (Y.take (m+1))=(cF X (Y.take m)).set m (((cF X (Y.take m)).getD m 0+Y.getD m 0)%2):=by
 induction X with
 | nil=>intro Y m _ h;cases h
 | cons x xs ih=>
  intro Y m hy hx
  cases Y with
  | nil=>cases hy
  | cons y ys=>
   cases m with
   | zero=>simp[cF,cz]
   | succ m=>simp only[Ph,cF,ON,Qd];rw[ih ys m (by simpa using hy) (by simpa using hx)]
theorem EZ(X:List Nat):∀Y Z,cF (cF X Y) Z=cF (cF X Z) Y:=by
 induction X with
 | nil=>intro Y Z;simp[kK]
 | cons x xs ih=>
  intro Y Z
  cases Y with
  | nil=>rw[cz,cz]
  | cons y ys=>
   cases Z with
   | nil=>rw[cz,cz]
   | cons z zs=>simp only[cF];rw[ih ys zs];congr 1;omega
theorem BK(X:List Nat):∀Y Z,X.length<=Y.length\/Z.length<=Y.length->cF (cF X Y) Z=cF X (cF Y Z):=by
 induction X with
 | nil=>intro Y Z _;simp[kK]
 | cons x xs ih=>
  intro Y Z h
  cases Y with
  | nil=>
   rcases h with h|h;·simp at h
   ·have:Z= []:=Nw (by simpa using h);subst this;simp only[cz]
  | cons y ys=>
   cases Z with
   | nil=>rw[cz,cz]
   | cons z zs=>simp only[cF];rw[ih ys zs (by simpa using h)];congr 1;omega
theorem yR(X:List Nat):∀(Y:List Nat) (k:Nat),am X->cF X (Y++List.replicate k 0)=cF X Y:=by
 induction X with
 | nil=>intro Y k _;simp[kK]
 | cons x xs ih=>
  intro Y k h;have hx:x<2:=h x Nl;have hs:am xs:=fun c hc=>h c (Nu _ hc)
  cases Y with
  | nil=>
   cases k with
   | zero=>rfl
   | succ k=>have h1:=ih [] k hs;rw[NX,cz]at h1;rw[NX,Pg,cF,cz,h1];congr 1;omega
  | cons y ys=>rw[Od,cF,cF,ih ys k hs]
theorem BL(Y:List Nat):am Y->cF (List.replicate Y.length 0) Y=Y:=by
 induction Y with
 | nil=>intro _;rfl
 | cons y ys ih=>intro h;have hy:y<2:=h y Nl;rw[Nv,Pg,cF,ih (fun c hc=>h c (Nu _ hc))];congr 1;omega
theorem yP(X:List Nat):∀(X' Y:List Nat),Y.length<=X.length->cF (X++X') Y=cF X Y++X':=by
 induction X with
 | nil=>intro X' Y h;have:Y= []:=Nw (by simpa using h);subst this;rw[cz,cz]
 | cons x xs ih=>
  intro X' Y h
  cases Y with
  | nil=>rw[cz,cz]
  | cons y ys=>rw[Od,cF,cF,ih X' ys (by simpa using h),Od]
theorem EW(D R:List Nat)(m:Nat)(hR:m<=R.length)(hD:m<=D.length):iL D R m=cF D (R.take m):=by
 induction m with
 | zero=>rw[iL,Qq,cz]
 | succ m ih=>rw[iL,ih (by omega) (by omega),vJ D R m (by omega) (by omega)]
theorem Hd(D:List Nat)(i m:Nat)(hm:m<=33)(hD:i+m<=D.length):kA D i m=D.take i++cF (D.drop i) (pL.take m):=by
 induction m with
 | zero=>rw[kA,Qq,cz,OF]
 | succ m ih=>have hl:(D.take i).length=i:=(by rw[Nz];omega);rw[kA,ih (by omega) (by omega),vJ (D.drop i) pL m (by rw[ng];omega) (by rw[Nq];omega)];rw[List.set_append,Nf (by omega),hl,O5];congr 2;rw[Nb,NU (by omega),hl,O5,<-Nb]
def xc:List Nat->List Nat
 | []=> []
 | x::xs=>if x=1 then cF xs (pL.drop 1)else xs
def rn:Nat->List Nat->List Nat
 | 0,X=>X
 | n+1,X=>rn n (xc X)
theorem CW(n:Nat):∀X,rn (n+1) X=xc (rn n X):=by
 induction n with
 | zero=>intro X;rfl
 | succ n ih=>intro X;rw[rn,ih];rfl
theorem LK:pL=1::pL.drop 1:=by decide
theorem K9(T:List Nat):cF (1::T) pL=0::cF T (pL.drop 1):=by
 conv=>
  lhs
  rw[LK,cF]
theorem DM(D:List Nat)(i:Nat)(h:i+33<=D.length):(fL D i).drop (i+1)=xc (D.drop i):=by
 have hc:D.drop i=D.getD i 0::D.drop (i+1):=by rw[NP (by omega),Nb,Nd (by omega)];rfl
 unfold fL;rw[hc,xc];split;·rename_i h1;have hl:(D.take i).length=i:=(by rw[Nz];omega);have hp:pL.take 33=pL:=Nt (by rw[ng];omega);have hd:(D.take i).drop (i+1)= []:=NW (by omega);rw[Hd D i 33 (by omega) (by omega),hp,hc,h1,K9,List.drop_append,hl,hd,O5,NX];rfl
 ·rfl
theorem G8(D:List Nat)(i:Nat)(h:i+32<=D.length):(gD D i).drop i=rn i D:=by
 induction i with
 | zero=>rfl
 | succ i ih=>rw[gD,DM _ _ (by rw[fq];omega),ih (by omega),CW]
theorem AR(D:List Nat)(h:32<=D.length):rD D=rn (D.length-32) D:=G8 D _ (by omega)
def vg:List Nat->Nat->List Nat
 | [],_=> []
 | x::xs,m=>if(x+m)%2=1 then cF (xs++ [0]) (pL.drop 1)else xs++ [0]
theorem kO(x:Nat)(xs:List Nat)(m:Nat):vg (x::xs) m=if(x+m)%2=1 then cF (xs++ [0]) (pL.drop 1)else xs++ [0]:=rfl
theorem qT(r:List Nat)(m:Nat):(vg r m).length=r.length:=by
 cases r with
 | nil=>rfl
 | cons x xs=>
  rw[kO];split;·rw[yQ,Nc];rfl
  ·rw[Nc];rfl
theorem Fe(r:List Nat)(m:Nat)(h:am r):am (vg r m):=by
 cases r with
 | nil=>exact h
 | cons x xs=>
  have h1:am (xs++ [0]):=am.append (fun c hc=>h c (Nu _ hc)) (jU 1);rw[kO];split;·exact EY _ _ h1
  ·exact h1
def zU(r:List Nat)(M:List Nat):List Nat:=M.foldl vg r
theorem CV(M:List Nat):∀r:List Nat,r.length=32->am r->am M->rn M.length (cF (M++List.replicate 32 0) r)=zU r M:=by
 induction M with
 | nil=>intro r hl hr _;have h:=BL r hr;rw[hl]at h;exact h
 | cons m M ih=>
  intro r hl hr hM;have h0:am M:=fun c hc=>hM c (Nu _ hc);have hY:am (M++List.replicate 32 0):=h0.append (jU 32)
  cases r with
  | nil=>cases hl
  | cons x xs=>
   have h1:xs.length=31:=(by simpa using hl);have e1:cF (M++List.replicate 32 0) xs=cF (M++List.replicate 32 0) (xs++ [0]):=(yR _ xs 1 hY).symm;have e2:xc (cF ((m::M)++List.replicate 32 0) (x::xs))=cF (M++List.replicate 32 0) (vg (x::xs) m):=by
    rw[Od,cF,xc,vg,R0 x m,e1];split;·exact BK _ _ _ (.inr (by rw[Nq,ng,Nc,h1];decide))
    ·rfl
   rw[Nv,rn,e2,ih _ (by rw[qT];exact hl) (Fe _ _ hr) h0];rfl
theorem C6(r:Nat)(l:List UInt8):wJ r l=zU (ag r 32) (ai l):=by have h1:(ai l++List.replicate 32 0).length=(ai l).length+32:=(by rw[Nc,NE]);unfold wJ;rw[AR _ (by rw[jS,h1];omega),jS,h1,Sb,EW _ _ _ (by rw[af];omega) (by rw[h1];omega),Nt (by rw[af];omega)];exact CV _ _ (af _ _) (aB _ _) (aG _)
def fX(c:Nat):Nat:=(2*c%4294967296) ^^^ (if 2147483648<=c then 79764919 else 0)
def cV:Nat->Nat->Nat
 | 0,c=>c
 | n+1,c=>cV n (fX c)
def jY(c b:Nat):Nat:=cV 8 (c ^^^ (b*16777216))
theorem KU(a b:Nat):(a ^^^ b)%2=(a%2+b%2)%2:=by have h:(a ^^^ b)%2=(a%2) ^^^ (b%2):=Nat.xor_mod_two_pow (n:=1);have ha:a%2=0\/a%2=1:=(by omega);have hb:b%2=0\/b%2=1:=(by omega);rw[h];rcases ha with ha|ha <;>rcases hb with hb|hb <;>rw[ha,hb] <;>rfl
theorem KT(a b:Nat):(a ^^^ b)/2=a/2 ^^^ b/2:=by apply QA;intro i;rw[RT,RX,RX,RX,RT]
theorem E1(X:List Nat):∀(Y:List Nat) (x y:Nat),X.length=Y.length->cF (X++ [x]) (Y++ [y])=cF X Y++ [(x+y)%2]:=by
 induction X with
 | nil=>intro Y x y h;have:Y= []:=Nw h.symm;subst this;rfl
 | cons z X ih=>
  intro Y x y h
  cases Y with
  | nil=>cases h
  | cons w Y=>rw[Od,Od,cF,cF,ih Y x y (by simpa using h),Od]
theorem vR(n:Nat):∀a b,ag (a ^^^ b) n=cF (ag a n) (ag b n):=by
 induction n with
 | zero=>intro a b;rfl
 | succ n ih=>intro a b;rw[ag,ag,ag,E1 _ _ _ _ (by rw[af,af]),KT,ih,KU]
theorem Fi(n v:Nat):ag (v%2^n) n=ag v n:=by have h1:val (ag v n)=v%2^n:=dm n v;have h2:=fy (ag v n) (aB n v);rw[af,h1]at h2;exact h2
theorem LL:pL.drop 1=ag 79764919 32:=by decide
theorem gU(c:Nat):fX c<4294967296:=by unfold fX;exact Qp (n:=32) (PV _ (by omega)) (by split <;>omega)
theorem tr(n:Nat):∀c,c<4294967296->cV n c<4294967296:=by
 induction n with
 | zero=>intro c h;exact h
 | succ n ih=>intro c _;exact ih _ (gU c)
theorem nO(c b:Nat):jY c b<4294967296:=tr 7 _ (gU _)
theorem Fj(v:Nat):ag v 1= [v%2]:=rfl
theorem L7(c:Nat)(h:c<4294967296):ag c 32=(c/2147483648)::ag c 31:=by have h2:ag c (1+31)=ag (c/2147483648) 1++ag c 31:=ja 31 c 1;have h3:c/2147483648%2=c/2147483648:=NJ (by omega);rw[Fj,h3,List.singleton_append]at h2;exact h2
theorem MN(c:Nat):ag c 31++ [0]=ag (2*c%4294967296) 32:=by have h3:ag (c*2) (31+1)=ag c 31++ [0]:=mg c 1 31;have h4:ag (2*c%4294967296) 32=ag (2*c) 32:=Fi 32 (2*c);rw[h4,<-h3,Oq]
theorem BU(c:Nat)(h:c<4294967296):vg (ag c 32) 0=ag (fX c) 32:=by
 rw[L7 c h,kO,MN,LL,fX];by_cases hc:2147483648<=c;·rw[Ng (by omega),Ng hc,vR]
 ·rw[Nf (by omega),Nf hc,Nat.xor_zero]
def An:Nat->List Nat->List Nat
 | 0,r=>r
 | n+1,r=>An n (vg r 0)
theorem Ao(n:Nat):∀c,c<4294967296->An n (ag c 32)=ag (cV n c) 32:=by
 induction n with
 | zero=>intro c _;rfl
 | succ n ih=>intro c h;rw[An,BU c h,ih _ (gU c)];rfl
theorem Cv(M:List Nat):∀r:List Nat,r.length=32->M.length<=32->zU r M=An M.length (cF r M):=by
 induction M with
 | nil=>intro r _ _;rw[cz];rfl
 | cons m M ih=>
  intro r hl hM
  cases r with
  | nil=>cases hl
  | cons x xs=>
   have h1:xs.length=31:=(by simpa using hl);have h0:M.length<=31:=(by simpa using hM);have e1:vg (cF (x::xs) (m::M)) 0=cF (vg (x::xs) m) M:=by
    rw[cF,kO,kO,Og,Nat.mod_mod,<-yP xs [0] M (by omega)];split;·exact EZ _ _ _
    ·rfl
   rw[Nv,An,e1,<-ih _ (by rw[qT];exact hl) (by omega)];rfl
theorem FO(c b:Nat)(hc:c<4294967296)(hb:b<256):zU (ag c 32) (ag b 8)=ag (jY c b) 32:=by have h1:cF (ag c 32) (ag b 8)=ag (c ^^^ (b*16777216)) 32:=(by rw[vR,show b*16777216=b*2^24 from rfl,mg b 24 8,yR _ _ _ (aB 32 c)]);rw[Cv _ _ (af _ _) (by rw[af];omega),af,h1,Ao _ _ (Qp (n:=32) hc (by omega))];rfl
theorem Cu(l:List UInt8):∀c,c<4294967296->zU (ag c 32) (ai l)=ag (l.foldl (fun c b=>jY c b.toNat) c) 32:=by
 induction l with
 | nil=>intro c _;rfl
 | cons b l ih=>intro c hc;rw[eC,zU,List.foldl_append];show zU (zU (ag c 32) (ag b.toNat 8)) (ai l)=_;rw[FO c b.toNat hc b.toNat_lt,ih _ (nO _ _)];rfl
def gn(c:Nat)(l:List UInt8):Nat:=l.foldl (fun c b=>jY c b.toNat) c
theorem tp(l:List UInt8):∀c,c<4294967296->gn c l<4294967296:=by
 induction l with
 | nil=>intro c h;exact h
 | cons b l ih=>intro c _;exact ih _ (nO _ _)
theorem uh(c:Nat)(l:List UInt8)(hc:c<4294967296):ro c l=gn c l:=by unfold ro;rw[C6,Cu l c hc,dm];exact NJ (tp l c hc)
theorem tk(c:Nat)(a b:List UInt8):gn c (a++b)=gn (gn c a) b:=List.foldl_append
theorem Ig(a b:Nat):2*(a ^^^ b)=(2*a) ^^^ (2*b):=by have h:=Nat.shiftLeft_xor_distrib (a:=a) (b:=b) (i:=1);rw[Qn,Qn,Qn]at h;rw[Oq 2,Oq 2 a,Oq 2 b];exact h
theorem If(a b n:Nat):(a ^^^ b)*2^n=(a*2^n) ^^^ (b*2^n):=by have h:=Nat.shiftLeft_xor_distrib (a:=a) (b:=b) (i:=n);rw[Qn,Qn,Qn]at h;exact h
theorem KW(a b n:Nat):(a ^^^ b)/2^n=(a/2^n) ^^^ (b/2^n):=by have h:=Nat.shiftRight_xor_distrib (a:=a) (b:=b) (i:=n);rw[Qv,Qv,Qv]at h;exact h
theorem BE(a b:Nat):(a ^^^ b)*16777216=(a*16777216) ^^^ (b*16777216):=by have h:=If a b 24;rw[show (2:Nat)^24=16777216 from rfl]at h;exact h
theorem KX(a b c d:Nat):(a ^^^ b) ^^^ (c ^^^ d)=(a ^^^ c) ^^^ (b ^^^ d):=by rw[RJ,<-RJ b c d,Nat.xor_comm b c,RJ c b d,<-RJ]
theorem Cn(a b:Nat)(ha:a<4294967296)(hb:b<4294967296):fX (a ^^^ b)=fX a ^^^ fX b:=by
 have h1:2*(a ^^^ b)%4294967296=(2*a%4294967296) ^^^ (2*b%4294967296):=by rw[Ig];exact Nat.xor_mod_two_pow (n:=32)
 have h2:(a ^^^ b)/2147483648=(a/2147483648) ^^^ (b/2147483648):=KW a b 31;have hx:a ^^^ b<4294967296:=Qp (n:=32) ha hb;have h3:(if 2147483648<=a ^^^ b then 79764919 else 0)=(if 2147483648<=a then 79764919 else 0) ^^^ (if 2147483648<=b then 79764919 else 0):=by
  have h0:a/2147483648=0\/a/2147483648=1:=by omega
  have h4:b/2147483648=0\/b/2147483648=1:=by omega
  rcases h0 with h0|h0 <;>rcases h4 with h4|h4 <;>rw[h0,h4]at h2;·have:(a ^^^ b)/2147483648=0:=h2;rw[Nf (by omega),Nf (by omega),Nf (by omega)];rfl
  ·have:(a ^^^ b)/2147483648=1:=h2;rw[Ng (by omega),Nf (by omega),Ng (by omega)];rfl
  ·have:(a ^^^ b)/2147483648=1:=h2;rw[Ng (by omega),Ng (by omega),Nf (by omega)];rfl
  ·have:(a ^^^ b)/2147483648=0:=h2;rw[Nf (by omega),Ng (by omega),Ng (by omega)];rfl
 unfold fX;rw[h1,h3];exact KX _ _ _ _
theorem zI(n:Nat):∀a b,a<4294967296->b<4294967296->cV n (a ^^^ b)=cV n a ^^^ cV n b:=by
 induction n with
 | zero=>intro a b _ _;rfl
 | succ n ih=>intro a b ha hb;rw[cV,cV,cV,Cn a b ha hb,ih _ _ (gU a) (gU b)]
theorem fd(d:Nat)(h:d<2147483648):fX d=2*d:=by unfold fX;rw[Nf (by omega),Nat.xor_zero,NJ (by omega)]
theorem zH(d:Nat)(h:d<16777216):cV 8 d=d*256:=by simp only[cV];rw[fd d (by omega),fd (2*d) (by omega),fd (2*(2*d)) (by omega),fd (2*(2*(2*d))) (by omega),fd (2*(2*(2*(2*d)))) (by omega),fd (2*(2*(2*(2*(2*d))))) (by omega),fd (2*(2*(2*(2*(2*(2*d)))))) (by omega),fd (2*(2*(2*(2*(2*(2*(2*d))))))) (by omega)];omega
theorem Hh(c:Nat):c=(c/16777216*16777216) ^^^ (c%16777216):=by
 have hd:c/16777216*16777216=(c >>> 24) <<< 24:=by rw[Qn,Qv]
 have hm:c%16777216=c%2^24:=rfl;apply QA;intro i;rw[hd,hm,RT,Nat.testBit_shiftLeft,Nat.testBit_shiftRight,Nat.testBit_mod_two_pow];by_cases h:i<24;·simp[h,show ¬(24<=i) by omega]
 ·simp[h,show 24<=i by omega,show 24+(i-24)=i by omega]
def kt(i:Nat):Nat:=cV 8 (i*16777216)
theorem FB(i:Nat):kt i<4294967296:=by unfold kt;rw[cV];exact tr 7 _ (gU _)
theorem zG(c b:Nat)(hc:c<4294967296)(hb:b<256):jY c b=(c%16777216*256) ^^^ kt ((c/16777216) ^^^ b):=by have h1:c ^^^ (b*16777216)=(c%16777216) ^^^ (((c/16777216) ^^^ b)*16777216):=(by have h2:((c/16777216) ^^^ b)*16777216=(c/16777216*16777216) ^^^ (b*16777216):=BE (c/16777216) b;rw[h2,<-RJ,Nat.xor_comm (c%16777216),<-Hh]);have h3:(c/16777216) ^^^ b<256:=Qp (n:=8) (by omega) hb;have h4:c%16777216<16777216:=PV _ (by omega);unfold jY kt;rw[h1,zI 8 _ _ (by omega) (by omega),zH _ h4]
