import Derived.Test.YtfhgikojdfblpaaGreatM13
import Derived.Lib.AppendZerosOnto
import Derived.Deep.Onto
set_option maxHeartbeats 1600000
set_option maxRecDepth 100000
namespace Go.Proofs.YtfhgikojdfblpaaGreat.S02
open _root_.Go.Proofs.Tryz
def pL:List Nat:=ah 4374732215 33
theorem nO:pL.length=33:=af _ _
theorem LK:au pL:=aQ _ _
def kR(D:List Nat)(i:Nat):Nat->List Nat
 | 0=>D
 | m+1=>(kR D i m).set (i+m) (((kR D i m).getD (i+m) 0+pL.getD m 0)%2)
def fK(D:List Nat)(i:Nat):List Nat:=if D.getD i 0=1 then kR D i 33 else D
def gB(D:List Nat):Nat->List Nat
 | 0=>D
 | i+1=>fK (gB D i) i
def sf(D:List Nat):List Nat:=(gB D (D.length-32)).drop (D.length-32)
theorem sh(D:List Nat)(i m:Nat):(kR D i m).length=D.length:=by
 induction m with
 | zero=>rfl
 | succ m ih=>rw[kR,P5,ih]
theorem xm(D:List Nat)(i m:Nat)(h:au D):au (kR D i m):=by
 induction m with
 | zero=>exact h
 | succ m ih=>
  intro b hb;rw[kR]at hb;rcases List.mem_or_eq_of_mem_set hb with h1|h1;·exact ih b h1
  ·rw[h1];exact Po _ (by omega)
theorem yE(D:List Nat)(i:Nat):(fK D i).length=D.length:=by
 unfold fK;split;·exact sh _ _ _
 ·rfl
theorem DW(D:List Nat)(i:Nat)(h:au D):au (fK D i):=by
 unfold fK;split;·exact xm _ _ _ h
 ·exact h
theorem fm(D:List Nat)(i:Nat):(gB D i).length=D.length:=by
 induction i with
 | zero=>rfl
 | succ i ih=>rw[gB,yE,ih]
theorem rn(D:List Nat)(i:Nat)(h:au D):au (gB D i):=by
 induction i with
 | zero=>exact h
 | succ i ih=>exact DW _ _ ih
theorem yx(D:List Nat)(h:32<=D.length):(sf D).length=32:=by unfold sf;rw[Ny,fm];omega
theorem uS(D:List Nat)(h:au D):au (sf D):=(rn D _ h).drop _
open Go.RowKit
theorem J5(w:World):Calls prog 195 #[] w fun e w'=>∃g cap,e=.returned (.slice (some ⟨g,0,none⟩) 33 cap)/\w'.ownsRow w.heap.size 3 1 (.slice (some ⟨g,0,none⟩) 33 cap) 33 (pL.map iv)/\Below w.heap.size w w':=by have hc:Calls prog 64 #[.int .u64 4374732215,.int .i64 33] w (jq w 4374732215 33):=fu w 4374732215 33 (by decide) (by decide);have HC:=aa hc;clear hc;go_enter func195,ntmps195;go_wp2_with fail;refine HC.out.mono ?_;rintro e w1 ⟨g,cap,rfl,ho,hb⟩;go_wp2_with fail;go_ret;exact⟨g,cap,rfl,ho,hb⟩
theorem He(D:List Nat)(i m:Nat):((kR D i m).map iv).set (i+m) (.int .i64 (((kR D i m).getD (i+m) 0+pL.getD m 0)%2:Nat))=(kR D i (m+1)).map iv:=by rw[kR,List.map_set];rfl
theorem Kg(w:World)(A:Option Addr)(n c:Nat)(L:List Nat)(hi:aB w A n L)(hb:au L)(hn:n<=100000000)(hX:32<=n):
 Calls prog 164 #[.slice A n c] w fun e w'=>∃A' c',e=.returned (.slice A' 32 c')/\aB w' A' 32 (sf L)/\Below w.heap.size w w':=by
 have hl:=hi.1;have HI:=aa hi;have HL:=aa hl;clear hi hl;go_enter func164,ntmps164;go_wp2_with fail;refine(J5 w).mono ?_;rintro e w1 ⟨gp,cp,rfl,hA,ho⟩;obtain⟨b,off,rfl,hc⟩:=HI.out.2 (by omega);have h8:∀j u,(L.map iv)[j]? =some u->(w1.alloc (.cells #[] 3)).cell? ((⟨b,off,none⟩:Addr).add j)=some u:=by intro j u hu;have hx:j<n:=(by have:=(List.getElem?_eq_some_iff.1 hu).1;rw[Nu,HL.out]at this;exact this);have hP:=No w ⟨b,off+j,none⟩ (hc j hx);have hy:b<w.heap.size:=hP;have hz:=ho.size;rw[OT];have h1:=(((ho.alloc hz (.cells #[] 3)).cell (p:=⟨b,off+j,none⟩) hy)).trans (hc j hx);rw[h1,<-hu,Np,Na,Nc (by rw[HL.out];exact hx)];rfl
 have hH:=ho.size;have h9:(w1.alloc (.cells #[] 3)).ownsRow w.heap.size 3 1 (.slice (some ⟨w1.heap.size,0,none⟩) 0 0) 0 []:=by have:=World.ownsRow_lit (base:=w.heap.size) (e:=3) (size:=1) w1 #[] 0 hH (by unfold maxLen;omega) (by simp);simpa using this
 have hB:(w1.alloc (.cells #[] 3)).ownsRow w.heap.size 3 1 (.slice (some ⟨gp,0,none⟩) 33 cp) 33 (pL.map iv):=hA.alloc _;have hr:Below w.heap.size w (w1.alloc (.cells #[] 3)):=ho.alloc hH _;have hN:gp≠w1.heap.size:=by have:=(hA.lt gp rfl).2;omega
 obtain⟨i3,h3,hV,hD,hW⟩:=N4 Tryz.info3;have HC:=aa h8;clear h8 hc;go_wp2_with (at_builtin;refine wpList_append_lies _ rfl _ _ 37 rfl w.heap.size 3 i3 (.int .i64 0) 1 8 underlying37 h3 hV hD hW rfl (by decide) _ _ _ rfl h9 ⟨b,off,none⟩ n c (L.map iv) rfl ?c1 HC.out ?c2 ?c6 ?c3 ?c4 ?c5 (w1.heap.size+1) ?c7 ?_)
 case c1=>rw[Nu,HL.out,Oc]
 case c2=>intro u hu;obtain⟨q,_,rfl⟩:=List.mem_map.1 hu;rfl
 case c6=>omega
 case c3=>unfold maxLen;omega
 case c4=>omega
 case c5=>simp;omega
 case c7=>simp
 intro gd cd w2 ha h5 hF _;have h4:w2.ownsRow w.heap.size 3 1 (.slice (some ⟨gd,0,none⟩) n cd) n ((gB L 0).map iv):=by rw[gB];simpa using ha
 have hC:w2.ownsRow w.heap.size 3 1 (.slice (some ⟨gp,0,none⟩) 33 cp) 33 (pL.map iv):=hB.kept h5 (.inr (by simpa [Value.ownBlock]using hN));have hM:Below w.heap.size w w2:=hr.grown h5 (by simp;omega) (fun k hk=>(h9.lt k hk).1);have hS:gd≠gp:=by have h1:=(hA.lt gp rfl).2;have hL:w1.heap.size=gd\/gd=w1.heap.size+1:=(by simpa [Value.ownBlock]using hF);omega
 obtain⟨_,_,hh,_,hv,_⟩:=ai h4;have hR:n<=cd:=by obtain⟨_,_,hh,h,_,_⟩:=ai h4;simp only[Ol]at hh;omega
 have ht:cd<=maxLen:=by obtain⟨_,_,hh,_,h,_⟩:=ai h4;simp only[Ol]at hh;omega
 unfold maxLen at ht;clear h5 ha hF hh hv;go_wp2_with fail;go_loopw [5] (fun i wr=>∃j:Nat,j<=n-32/\i=.int .i64 j/\wr.ownsRow w.heap.size 3 1 (.slice (some ⟨gd,0,none⟩) n cd) n ((gB L j).map iv)/\wr.ownsRow w.heap.size 3 1 (.slice (some ⟨gp,0,none⟩) 33 cp) 33 (pL.map iv)/\Below w.heap.size w wr) (fun i _=>n-32-(intOf i).toNat)
 case atStart=>exact⟨0,Ng _,rfl,h4,hC,hM⟩
 case round=>
  obtain⟨j,hj,rfl,h6,hG,hs⟩:=hrel;by_cases h:j<n-32
  ·have c1:=h6.cellAt j (by omega);rw[Np,Nc (by rw[fm,HL.out];omega)]at c1;have hY:=oz (gB L j) j (rn L j hb);have hw:(gB L j)[j]'(by rw[fm,HL.out];omega)=(gB L j).getD j 0:=(by rw[Na,Nc (by rw[fm,HL.out];omega)];rfl);have c2:wr.cell? ⟨gd,j,none⟩=some (.int .i64 ((gB L j).getD j 0:Nat)):=(by rw[c1,<-hw];rfl);by_cases h1:(gB L j).getD j 0=1
   ·rw[h1]at c2;have H1:=aa h1;clear h1 c1 hw;go_wp2_with fail;(go_loopw [6] (fun x wx=>∃m:Nat,m<=33/\x=.int .i64 m/\wx.ownsRow w.heap.size 3 1 (.slice (some ⟨gd,0,none⟩) n cd) n ((kR (gB L j) j m).map iv)/\wx.ownsRow w.heap.size 3 1 (.slice (some ⟨gp,0,none⟩) 33 cp) 33 (pL.map iv)/\Below w.heap.size w wx) (fun x _=>33-(intOf x).toNat));case atStart=>exact⟨0,by omega,rfl,h6,hG,hs⟩
    case round=>
     obtain⟨m,hm,rfl,h2,he,hg⟩:=hrel;have hq:(kR (gB L j) j m).length=n:=(by rw[sh,fm,HL.out]);have hK:=xm (gB L j) j m (rn L j hb);by_cases hQ:m<33
     ·have k1:wr.cell? ⟨gd,j+m,none⟩=some (.int .i64 ((kR (gB L j) j m).getD (j+m) 0:Nat)):=(by rw[h2.cellAt (j+m) (by omega),Np,Na,Nc (by rw[hq];omega)];rfl);have k2:wr.cell? ⟨gp,m,none⟩=some (.int .i64 (pL.getD m 0:Nat)):=(by rw[he.cellAt m (by omega),Np,Na,Nc (by rw[nO];omega)];rfl);have k3:=h2.frozenAt (j+m);have b1:=oz (kR (gB L j) j m) (j+m) hK;have b2:=oz pL m LK;have hp:=h2.stored (j+m) (.int .i64 (((kR (gB L j) j m).getD (j+m) 0+pL.getD m 0)%2:Nat));rw[He]at hp;generalize (kR (gB L j) j m).getD (j+m) 0=x at*;generalize pL.getD m 0=y at*;have h7:(((x+y)%2:Nat):Int)=((x:Int)+y)%2:=(by omega);rw[h7]at hp;clear h7 hq c2;go_upto_region 10 with fail;go_region;go_wp2_with fail;go_roundw;case rel=>
       have hO:w.heap.size<=gd:=(h2.lt gd rfl).1
       have hT:(wr.setCell ⟨gd,j+m,none⟩ (.int .i64 (((x:Int)+y)%2))).ownsRow w.heap.size 3 1 (.slice (some ⟨gp,0,none⟩) 33 cp) 33 (pL.map iv):=
        he.kept hp.2 (.inr (by simpa [Value.ownBlock]using fun e=>hS e.symm))
       exact⟨m+1,by omega,by go_num,hp.1,hT,(hg.setCell (p:=⟨gd,j+m,none⟩) hO _).drew⟩
      case measure=>simp[intOf];omega
     ·obtain rfl:m=33:=(by omega);have hf:gB L (j+1)=kR (gB L j) j 33:=(by rw[gB,fK,Nf H1.out]);rw[<- hf]at h2;have hE:=aa hf;clear hf hq c2;go_wp2_with fail;go_roundw;case rel=>exact⟨j+1,by omega,by go_num,h2,he,hg⟩
      case measure=>simp[intOf];omega
   ·have h0:(gB L j).getD j 0=0:=(by omega);rw[h0]at c2;have H1:=aa h1;clear h1 h0 c1 hw;have hf:gB L (j+1)=gB L j:=(by rw[gB,fK,Nd H1.out]);have hE:=aa hf;clear hf;go_wp2_with fail;go_roundw;case rel=>exact⟨j+1,by omega,by go_num,by rw[hE.out];exact h6,hG,hs⟩
    case measure=>simp[intOf];omega
  ·obtain rfl:j=n-32:=(by omega);have hI:=(aE h6).cut (a:=n-32) (k:=32) (by omega);have hJ:=aa hI;clear hI;have e32:n-(n-32)=32:=(by omega);have E32:=aa e32;clear e32;go_wp2_with fail;go_ret;refine⟨some ⟨gd,n-32,none⟩,cd-(n-32),?_,?_,hs⟩;·show Ending.returned (Value.slice (some ⟨gd,n-32,none⟩) (n-(n-32)) (cd-(n-32)))=_;rw[E32.out]
   ·have h1:=hJ.out;rw[Ov,OT,N8,Nr (by rw[Ny,fm,HL.out];omega)]at h1;unfold sf;rw[HL.out];exact h1
theorem kp(m:Nat):(Builtin.zeroCells (Value.int .i64 0).cells m).toList=List.replicate m (.int .i64 0):=by
 apply Ob;intro j;by_cases hj:j<m;·simp[Builtin.zeroCells,hj,Nat.mod_one,Value.cells]
 ·simp[Builtin.zeroCells,hj,Value.cells]
theorem iu{P:Program}(w:World)(t tn ty e:TypeId)(i:TypeInfo)(kq kn:IntKind)(ht:P.underlying t=some (.slice e))(h8:P.underlying tn=some (.int kn))(hi:P.info? e=some i)(hz:i.zero=some (.int .i64 0))(hs:i.size=1)(h5:i.bytes=8)
 (g sLen sCap:Nat) (cur:Array Value) (hg:w.heap[g]? =some (.cells cur e (0,0)))
 (k:Nat) (h0:0<k) (hk:k<=1000000000) (h1:sLen+k<=sCap) (h6:sLen+k<=cur.size):
 (Builtin.append_ #[t,tn] ty #[.slice (some ⟨g,0,none⟩) sLen sCap,.int kq k]).run P w=
   .ok (.slice (some ⟨g,0,none⟩) (sLen+k) sCap) (w.setRow g (cur.toList.take sLen++List.replicate k (Value.int .i64 0)++cur.toList.drop (sLen+k)).toArray):=by have h7:k≠0:=(by omega);have hw:IntKind.i64.wrap (k:Int)=k:=(by rw[Of];omega);have h2:¬(281474976710656<(k:Int)*8):=(by omega);have h3:¬((k:Int)<0):=(by omega);have h4:=run_storeCells_at P g sLen e (List.replicate k (Value.int .i64 0)) 0 cur w hg (by simp;omega) (by intro u hu;rw[Qr hu];rfl);simp only[NY,NA]at h4;simp[Builtin.append_,Pk ht,Pk h8,sizeOf,typeInfo,zeroValue,hi,hz,hs,h5,asInt,asIntOf,hw,h1,h3,h7,h2,OT,kp,h4]
theorem iV{P:Program}(w:World)(base:Nat)(t tn ty e:TypeId)(i:TypeInfo)(kq kn:IntKind)(ht:P.underlying t=some (.slice e))(hb:P.underlying tn=some (.int kn))(hi:P.info? e=some i)(hz:i.zero=some (.int .i64 0))(hs:i.size=1)(h8:i.bytes=8)
 (v:Value) (n:Nat) (xs:List Value) (h1:w.ownsRow base e 1 v n xs) (k:Nat) (h0:0<k) (hk:k<=1000000000) (hn:n<=1000000000) (h6:base<=w.heap.size):
 ∃v' w',(Builtin.append_ #[t,tn] ty #[v,.int kq k]).run P w=.ok v' w'/\w'.ownsRow base e 1 v' (n+k) (xs++List.replicate k (Value.int .i64 0))/\w.grownBy w' v.ownBlock/\(v'.ownBlock=v.ownBlock\/v'.ownBlock=some w.heap.size):=by
 have h2:(xs++List.replicate k (Value.int .i64 0)).length=(n+k)*1:=by rw[Nb,h1.1,NA];omega
 have grown:∀(old:Nat),old<n+k->∀(row:Option Nat),
  (w.drew.alloc (.cells (xs.toArray++Builtin.zeroCells (Value.int .i64 0).cells k++Builtin.zeroCells (Value.int .i64 0).cells (grownCap w (n+k) old e - (n+k))) e)).ownsRow base e 1
    (.slice (some ⟨w.heap.size,0,none⟩) (n+k) (grownCap w (n+k) old e)) (n+k) (xs++List.replicate k (Value.int .i64 0))/\
  w.grownBy (w.drew.alloc (.cells (xs.toArray++Builtin.zeroCells (Value.int .i64 0).cells k++Builtin.zeroCells (Value.int .i64 0).cells (grownCap w (n+k) old e-(n+k))) e)) row:=by
  intro old ho row
  have hf:=grownCap_ge w (n+k) old e
  have h9:grownCap w (n+k) old e<=maxLen:=RX w (n+k) old e (by unfold maxLen;omega)
  have hh:xs.length=n:=by rw[h1.1,Oc]
  refine⟨⟨h2,.inr ⟨w.heap.size,_,_,rfl,h6,_root_.Go.heap_alloc_new w.drew _,hf,h9,?_,?_⟩⟩,⟨rfl,rfl,rfl,by simp,fun q hq _=>_root_.Go.heap_alloc_old w.drew _ hq⟩⟩
  ·simp only[Rr,P3,RY,Value.cells,hh]
   simp
   omega
  ·simp only[Pd,Ni,kp]
   rw[<- Ni,<-h2]
   exact QZ
 rcases h1.2 with⟨rfl,rfl⟩|⟨g,cap,cur,rfl,hc,hg,hj,h9,he,h4⟩;·have hx:xs= []:=Nq (by simpa using h1.1);subst hx;have hr:=Lib.run_append_nil_zeros (P:=P) w t tn ty e i (.int .i64 0) kq kn ht hb hi hz k h0 (by omega) (by omega) (by rw[h8];omega);have h5:=grown 0 (by omega) (Value.ownBlock (.slice none 0 0));simp only[N8,Ok,Array.empty_append]at h5 |-;exact⟨_,_,hr,h5.1,h5.2,Or.inr rfl⟩
 ·rw[Oc]at he;by_cases h3:n+k<=cap
  ·have hr:=iu (P:=P) w t tn ty e i kq kn ht hb hi hz hs h8 g n cap cur hg k h0 hk h3 (by omega);refine⟨_,_,hr,⟨h2,.inr ⟨g,cap,_,rfl,hc,_root_.Go.setRow_heap w g cur _ e _ hg,h3,h9,?_,?_⟩⟩,⟨rfl,rfl,rfl,by simp,fun q _ hq=>_root_.Go.setRow_other w g q _ (fun e=>hq (by simp[Value.ownBlock,e]))⟩,Or.inl rfl⟩;·simp only[P3,Nb,NB,Ny,Q8,NA];omega
   ·rw[Oc]at h4;rw[h4,<-h2];exact QZ
  ·have h7:∀j u,xs[j]? =some u->w.cell? ((⟨g,0,none⟩:Addr).add j)=some u:=h1.cells (g:=g) rfl;have ha:=run_firstCells_some (P:=P) w.drew i.size n ⟨g,0,none⟩ n cap xs (by rw[h1.1,hs]) (by simpa using h7);have hr:=Lib.run_append_grow_zeros (P:=P) w t tn ty e i (.int .i64 0) kq kn ht hb hi hz (some ⟨g,0,none⟩) n cap xs ha k h0 (by omega) (by omega) (by omega) (by rw[h8];omega) (by rw[h8];exact growslice_fits (by omega) (by omega));have h5:=grown cap (by omega) (Value.ownBlock (.slice (some ⟨g,0,none⟩) n cap));exact⟨_,_,hr,h5.1,h5.2,Or.inr rfl⟩
def iS(D R:List Nat):Nat->List Nat
 | 0=>D
 | m+1=>(iS D R m).set m (((iS D R m).getD m 0+R.getD m 0)%2)
theorem kt(D R:List Nat)(m:Nat):(iS D R m).length=D.length:=by
 induction m with
 | zero=>rfl
 | succ m ih=>rw[iS,P5,ih]
theorem vX(D R:List Nat)(m:Nat)(h:au D):au (iS D R m):=by
 induction m with
 | zero=>exact h
 | succ m ih=>
  intro b hb;rw[iS]at hb;rcases List.mem_or_eq_of_mem_set hb with h1|h1;·exact ih b h1
  ·rw[h1];exact Po _ (by omega)
theorem EZ(D R:List Nat)(m:Nat):((iS D R m).map iv).set m (.int .i64 (((iS D R m).getD m 0+R.getD m 0)%2:Nat))=(iS D R (m+1)).map iv:=by rw[iS,List.map_set];rfl
def wT(r:Nat)(l:List UInt8):List Nat:=sf (iS (ao l++List.replicate 32 0) (ah r 32) 32)
theorem kw(n:Nat):au (List.replicate n 0):=by intro b hb;rw[Qr hb];omega
theorem wU(r:Nat)(l:List UInt8):au (iS (ao l++List.replicate 32 0) (ah r 32) 32):=vX _ _ _ ((bh l).append (kw 32))
theorem wV(r:Nat)(l:List UInt8):(iS (ao l++List.replicate 32 0) (ah r 32) 32).length=8*l.length+32:=by rw[kt,Nb,aC,NA]
theorem yl(r:Nat)(l:List UInt8):(wT r l).length=32:=yx _ (by rw[wV];omega)
theorem Dk(r:Nat)(l:List UInt8):au (wT r l):=uS _ (wU r l)
def rW(r:Nat)(l:List UInt8):Nat:=val (wT r l)
theorem AT(r:Nat)(l:List UInt8):rW r l<4294967296:=by have h:=gH (wT r l) (Dk r l);rw[yl]at h;exact h
theorem JP(w:World)(r:Nat)(s:ByteArray)(hr:r<4294967296)(hs:s.size<=1000000):
 Calls prog 115 #[.int .u32 r,.string s] w fun e w'=>e=.returned (.int .u32 (rW r s.data.toList))/\Below w.heap.size w w':=by
 obtain⟨i3,h3,hQ,hv,hR⟩:=N4 Tryz.info3;go_enter func115,ntmps115;go_wp2_with fail;refine(JU w s hs).mono ?_;rintro e w1 ⟨v,rfl,ht,hx⟩;have hC:=hx.size;obtain⟨v2,w2,h9,h8,h4,hJ⟩:=iV (P:=prog) w1 w.heap.size 37 3 37 3 i3 .i64 .i64 underlying37 underlying3 h3 hQ hv hR v (8*s.size) _ ht 32 (by omega) (by omega) (by omega) hC;have hy:Below w.heap.size w w2:=hx.grown h4 hC (fun k hk=>(ht.lt k hk).1);have h0:w2.ownsRow w.heap.size 3 1 v2 (8*s.size+32) ((ao s.data.toList++List.replicate 32 0).map iv):=by rw[Nz,Qh];exact h8
 have hf:=aa h9;clear h9;go_wp2_with (at_builtin;refine Lib.wpList_append_run _ rfl _ _ 37 3 rfl v (.int .i64 32) rfl rfl v2 w2 hf.out ?_)
 obtain⟨A2,c2,rfl,hq,hp,hG⟩:=ai h0;obtain⟨g,rfl⟩:=hG (by omega);clear h8 hJ h4 ht;have hc:Calls prog 64 #[.int .u64 r,.int .i64 32] w2 (jq w2 r 32):=fu w2 r 32 (by omega) (by decide);have HC:=aa hc;clear hc;go_wp2_with fail;refine HC.out.mono ?_;rintro e w3 ⟨gr,cr,rfl,hb,hz⟩;have ha:=hy.size;have hm:Below w.heap.size w w3:=hy.trans (hz.mono ha)
 have h6:w3.ownsRow w.heap.size 3 1 (.slice (some ⟨g,0,none⟩) (8*s.size+32) c2) (8*s.size+32) ((iS (ao s.data.toList++List.replicate 32 0) (ah r 32) 0).map iv):=
  (an hz).row h0 (fun _ _=>aw) aw
 have hu:=hb.mono ha;have hN:g≠gr:=by have h1:=(h0.lt g rfl).2;have h2:=(hb.lt gr rfl).1;omega
 have hL:32<=cr/\cr<=maxLen:=by obtain⟨_,_,hP,h,h',_⟩:=ai hb;simp only[Ol]at hP;omega
 unfold maxLen at hL hp;clear h0 hb;have HL:=aa (wV r s.data.toList);have HB:=aa (wU r s.data.toList);have hh:∀m,(iS (ao s.data.toList++List.replicate 32 0) (ah r 32) m).length=8*s.size+32:=by intro m;rw[kt,Nb,aC,NA];rfl
 have hg:∀m,au (iS (ao s.data.toList++List.replicate 32 0) (ah r 32) m):=fun m=>vX _ _ _ ((bh _).append (kw 32));obtain⟨D,hD⟩:∃D,D=ao s.data.toList++List.replicate 32 0:=⟨_,rfl⟩;rw[<- hD]at h6 HL HB hh hg;have HD:=aa hD;have hw:=aa hh;have hE:=aa hg;clear hD hh hg;obtain⟨n,hn⟩:∃n,n=8*s.size+32:=⟨_,rfl⟩;have hV:32<=n/\n<=8000032:=by omega
 rw[<- hn]at h6 hw hq |-;clear hn HL HB;go_wp2_with fail;go_loopw [8] (fun i wr=>∃j:Nat,j<=32/\i=.int .i64 j/\wr.ownsRow w.heap.size 3 1 (.slice (some ⟨g,0,none⟩) n c2) n ((iS D (ah r 32) j).map iv)/\wr.ownsRow w.heap.size 3 1 (.slice (some ⟨gr,0,none⟩) 32 cr) 32 ((ah r 32).map iv)/\Below w.heap.size w wr) (fun i _=>32-(intOf i).toNat)
 case atStart=>exact⟨0,Ng _,rfl,h6,hu,hm⟩
 case round=>
  obtain⟨j,hj,rfl,h5,hB,ho⟩:=hrel;have hl:=hw.out j;have hi:=hE.out j;by_cases h:j<32
  ·have k1:wr.cell? ⟨g,j,none⟩=some (.int .i64 ((iS D (ah r 32) j).getD j 0:Nat)):=(by rw[h5.cellAt j (by omega),Np,Na,Nc (by rw[hl];omega)];rfl);have k2:wr.cell? ⟨gr,j,none⟩=some (.int .i64 ((ah r 32).getD j 0:Nat)):=(by rw[hB.cellAt j (by omega),Np,Na,Nc (by rw[af];omega)];rfl);have k3:=h5.frozenAt j;have b1:=oz (iS D (ah r 32) j) j hi;have b2:=oz (ah r 32) j (aQ 32 r);have he:=h5.stored j (.int .i64 (((iS D (ah r 32) j).getD j 0+(ah r 32).getD j 0)%2:Nat));rw[EZ]at he;generalize (iS D (ah r 32) j).getD j 0=x at*;generalize (ah r 32).getD j 0=y at*;have h7:(((x+y)%2:Nat):Int)=((x:Int)+y)%2:=(by omega);rw[h7]at he;clear h7 hl;go_upto_region 6 with fail;go_region;go_wp2_with fail;go_roundw;case rel=>
    have hM:w.heap.size<=g:=(h5.lt g rfl).1
    have hO:(wr.setCell ⟨g,j,none⟩ (.int .i64 (((x:Int)+y)%2))).ownsRow w.heap.size 3 1 (.slice (some ⟨gr,0,none⟩) 32 cr) 32 ((ah r 32).map iv):=
     hB.kept he.2 (.inr (by simpa [Value.ownBlock]using fun e=>hN e.symm))
    exact⟨j+1,by omega,by go_num,he.1,hO,(ho.setCell (p:=⟨g,j,none⟩) hM _).drew⟩
   case measure=>simp[intOf];omega
  ·obtain rfl:j=32:=(by omega);have hI:=aE h5;have hF:=aa hI;clear hI hl;have hS:=ho.size;go_wp2_with fail;refine(Kg _ _ _ _ _ hF.out hi (by omega) (by omega)).mono ?_;rintro e w5 ⟨A5,c5,rfl,hH,hK⟩;go_wp2_with fail;refine(Dm _ _ _ _ _ hH (uS _ hi) (by omega)).mono ?_;rintro e w6 ⟨rfl,rfl⟩;have hT:=AT r s.data.toList;have hA:val (sf (iS D (ah r 32) 32))=rW r s.data.toList:=(by rw[HD.out];rfl);rw[hA];clear hA;go_wp2_with fail;go_ret;exact⟨rfl,ho.trans (hK.mono hS)⟩
def dQ(l:List UInt8):Nat:=4294967295-rW 4294967295 l
theorem pD(l:List UInt8):dQ l<4294967296:=by unfold dQ;omega
theorem II(w:World)(s:ByteArray)(hs:s.size<=1000000):
 Calls prog 65 #[.string s] w fun e w'=>e=.returned (.int .u32 (dQ s.data.toList))/\Below w.heap.size w w':=by go_enter func65,ntmps65;go_wp2_with fail;refine(JP w 4294967295 s (by decide) hs).mono ?_;rintro e w1 ⟨rfl,hb⟩;have h1:=AT 4294967295 s.data.toList;have h0:((dQ s.data.toList:Nat):Int)=4294967295-(rW 4294967295 s.data.toList:Int):=(by unfold dQ;omega);have HS:=aa h0;clear h0;generalize rW 4294967295 s.data.toList=x at*;go_wp2_with fail;go_ret;refine⟨?_,hb⟩;show Ending.returned (Value.int .u32 (4294967295-(x:Int)))=_;rw[HS.out]
def cU:List Nat->List Nat->List Nat
 | x::xs,y::ys=>(x+y)%2::cU xs ys
 | xs,_=>xs
theorem cL(X:List Nat):cU X []=X:=by cases X <;>rfl
theorem ld(Y:List Nat):cU [] Y= []:=by cases Y <;>rfl
theorem yY(X:List Nat):∀Y,(cU X Y).length=X.length:=by
 induction X with
 | nil=>intro Y;rw[ld]
 | cons x xs ih=>
  intro Y
  cases Y with
  | nil=>rw[cL]
  | cons y ys=>simp[cU,ih]
theorem E1(X:List Nat):∀Y,au X->au (cU X Y):=by
 induction X with
 | nil=>intro Y h;rw[ld];exact h
 | cons x xs ih=>
  intro Y h
  cases Y with
  | nil=>rw[cL];exact h
  | cons y ys=>
   intro b hb;rw[cU]at hb;rcases List.mem_cons.1 hb with rfl|hb;·exact Po _ (by omega)
   ·exact ih ys (fun c hc=>h c (Nm _ hc)) b hb
theorem vY(X:List Nat):∀(Y:List Nat) (m:Nat),m<Y.length->m<X.length->cU X (Y.take (m+1))=(cU X (Y.take m)).set m (((cU X (Y.take m)).getD m 0+Y.getD m 0)%2):=by
 induction X with
 | nil=>intro Y m _ h;cases h
 | cons x xs ih=>
  intro Y m hy hx
  cases Y with
  | nil=>cases hy
  | cons y ys=>
   cases m with
   | zero=>simp[cU,cL]
   | succ m=>simp only[Qt,cU,NZ,P7];rw[ih ys m (by simpa using hy) (by simpa using hx)]
theorem E3(X:List Nat):∀Y Z,cU (cU X Y) Z=cU (cU X Z) Y:=by
 induction X with
 | nil=>intro Y Z;simp[ld]
 | cons x xs ih=>
  intro Y Z
  cases Y with
  | nil=>rw[cL,cL]
  | cons y ys=>
   cases Z with
   | nil=>rw[cL,cL]
   | cons z zs=>simp only[cU];rw[ih ys zs];congr 1;omega
theorem Cd(X:List Nat):∀Y Z,X.length<=Y.length\/Z.length<=Y.length->cU (cU X Y) Z=cU X (cU Y Z):=by
 induction X with
 | nil=>intro Y Z _;simp[ld]
 | cons x xs ih=>
  intro Y Z h
  cases Y with
  | nil=>
   rcases h with h|h;·simp at h
   ·have:Z= []:=Nq (by simpa using h);subst this;simp only[cL]
  | cons y ys=>
   cases Z with
   | nil=>rw[cL,cL]
   | cons z zs=>simp only[cU];rw[ih ys zs (by simpa using h)];congr 1;omega
theorem yZ(X:List Nat):∀(Y:List Nat) (k:Nat),au X->cU X (Y++List.replicate k 0)=cU X Y:=by
 induction X with
 | nil=>intro Y k _;simp[ld]
 | cons x xs ih=>
  intro Y k h;have hx:x<2:=h x Nh;have hs:au xs:=fun c hc=>h c (Nm _ hc)
  cases Y with
  | nil=>
   cases k with
   | zero=>rfl
   | succ k=>have h1:=ih [] k hs;rw[Ok,cL]at h1;rw[Ok,Pb,cU,cL,h1];congr 1;omega
  | cons y ys=>rw[Oq,cU,cU,ih ys k hs]
theorem Ce(Y:List Nat):au Y->cU (List.replicate Y.length 0) Y=Y:=by
 induction Y with
 | nil=>intro _;rfl
 | cons y ys ih=>intro h;have hy:y<2:=h y Nh;rw[Ns,Pb,cU,ih (fun c hc=>h c (Nm _ hc))];congr 1;omega
theorem yX(X:List Nat):∀(X' Y:List Nat),Y.length<=X.length->cU (X++X') Y=cU X Y++X':=by
 induction X with
 | nil=>intro X' Y h;have:Y= []:=Nq (by simpa using h);subst this;rw[cL,cL]
 | cons x xs ih=>
  intro X' Y h
  cases Y with
  | nil=>rw[cL,cL]
  | cons y ys=>rw[Oq,cU,cU,ih X' ys (by simpa using h),Oq]
theorem EY(D R:List Nat)(m:Nat)(hR:m<=R.length)(hD:m<=D.length):iS D R m=cU D (R.take m):=by
 induction m with
 | zero=>rw[iS,Rs,cL]
 | succ m ih=>rw[iS,ih (by omega) (by omega),vY D R m (by omega) (by omega)]
theorem Hd(D:List Nat)(i m:Nat)(hm:m<=33)(hD:i+m<=D.length):kR D i m=D.take i++cU (D.drop i) (pL.take m):=by
 induction m with
 | zero=>rw[kR,Rs,cL,OW]
 | succ m ih=>have hl:(D.take i).length=i:=(by rw[NB];omega);rw[kR,ih (by omega) (by omega),vY (D.drop i) pL m (by rw[nO];omega) (by rw[Ny];omega)];rw[List.set_append,Nd,hl,Py];congr 2;rw[Na,NO (by omega),hl,Py,<-Na]
def xr:List Nat->List Nat
 | []=> []
 | x::xs=>if x=1 then cU xs (pL.drop 1)else xs
def rV:Nat->List Nat->List Nat
 | 0,X=>X
 | n+1,X=>rV n (xr X)
theorem Dd(n:Nat):∀X,rV (n+1) X=xr (rV n X):=by
 induction n with
 | zero=>intro X;rfl
 | succ n ih=>intro X;rw[rV,ih];rfl
theorem LL:pL=1::pL.drop 1:=by decide
theorem Le(T:List Nat):cU (1::T) pL=0::cU T (pL.drop 1):=by
 conv=>
  lhs
  rw[LL,cU]
theorem DX(D:List Nat)(i:Nat)(h:i+33<=D.length):(fK D i).drop (i+1)=xr (D.drop i):=by
 have hc:D.drop i=D.getD i 0::D.drop (i+1):=by rw[NN (by omega),Na,Nc (by omega)];rfl
 unfold fK;rw[hc,xr];split;·rename_i h1;have hl:(D.take i).length=i:=(by rw[NB];omega);have hp:pL.take 33=pL:=Nr (by rw[nO];omega);have hd:(D.take i).drop (i+1)= []:=N9 (by omega);rw[Hd D i 33 (by omega) (by omega),hp,hc,h1,Le,List.drop_append,hl,hd,Py,Ok];rfl
 ·rfl
theorem G8(D:List Nat)(i:Nat)(h:i+32<=D.length):(gB D i).drop i=rV i D:=by
 induction i with
 | zero=>rfl
 | succ i ih=>rw[gB,DX _ _ (by rw[fm];omega),ih (by omega),Dd]
theorem Bq(D:List Nat)(h:32<=D.length):sf D=rV (D.length-32) D:=G8 D _ (by omega)
def vy:List Nat->Nat->List Nat
 | [],_=> []
 | x::xs,m=>if(x+m)%2=1 then cU (xs++ [0]) (pL.drop 1)else xs++ [0]
theorem lh(x:Nat)(xs:List Nat)(m:Nat):vy (x::xs) m=if(x+m)%2=1 then cU (xs++ [0]) (pL.drop 1)else xs++ [0]:=rfl
theorem rD(r:List Nat)(m:Nat):(vy r m).length=r.length:=by
 cases r with
 | nil=>rfl
 | cons x xs=>
  rw[lh];split;·rw[yY,Nb];rfl
  ·rw[Nb];rfl
theorem Ff(r:List Nat)(m:Nat)(h:au r):au (vy r m):=by
 cases r with
 | nil=>exact h
 | cons x xs=>
  have h1:au (xs++ [0]):=au.append (fun c hc=>h c (Nm _ hc)) (kw 1);rw[lh];split;·exact E1 _ _ h1
  ·exact h1
def Am(r:List Nat)(M:List Nat):List Nat:=M.foldl vy r
theorem Dc(M:List Nat):∀r:List Nat,r.length=32->au r->au M->rV M.length (cU (M++List.replicate 32 0) r)=Am r M:=by
 induction M with
 | nil=>intro r hl hr _;have h:=Ce r hr;rw[hl]at h;exact h
 | cons m M ih=>
  intro r hl hr hM;have h0:au M:=fun c hc=>hM c (Nm _ hc);have hY:au (M++List.replicate 32 0):=h0.append (kw 32)
  cases r with
  | nil=>cases hl
  | cons x xs=>
   have h1:xs.length=31:=(by simpa using hl);have e1:cU (M++List.replicate 32 0) xs=cU (M++List.replicate 32 0) (xs++ [0]):=(yZ _ xs 1 hY).symm;have e2:xr (cU ((m::M)++List.replicate 32 0) (x::xs))=cU (M++List.replicate 32 0) (vy (x::xs) m):=by
    rw[Oq,cU,xr,vy,RN x m,e1];split;·exact Cd _ _ _ (.inr (by rw[Ny,nO,Nb,h1];decide))
    ·rfl
   rw[Ns,rV,e2,ih _ (by rw[rD];exact hl) (Ff _ _ hr) h0];rfl
theorem Dl(r:Nat)(l:List UInt8):wT r l=Am (ah r 32) (ao l):=by have h1:(ao l++List.replicate 32 0).length=(ao l).length+32:=(by rw[Nb,NA]);unfold wT;rw[Bq _ (by rw[kt,h1];omega),kt,h1,RV,EY _ _ _ (by rw[af];omega) (by rw[h1];omega),Nr (by rw[af];omega)];exact Dc _ _ (af _ _) (aQ _ _) (bh _)
def fS(c:Nat):Nat:=(2*c%4294967296) ^^^ (if 2147483648<=c then 79764919 else 0)
def dJ:Nat->Nat->Nat
 | 0,c=>c
 | n+1,c=>dJ n (fS c)
def kz(c b:Nat):Nat:=dJ 8 (c ^^^ (b*16777216))
theorem KY(a b:Nat):(a ^^^ b)%2=(a%2+b%2)%2:=by have h:(a ^^^ b)%2=(a%2) ^^^ (b%2):=Nat.xor_mod_two_pow (n:=1);have ha:a%2=0\/a%2=1:=(by omega);have hb:b%2=0\/b%2=1:=(by omega);rw[h];rcases ha with ha|ha <;>rcases hb with hb|hb <;>rw[ha,hb] <;>rfl
theorem KX(a b:Nat):(a ^^^ b)/2=a/2 ^^^ b/2:=by apply Qq;intro i;rw[RG,RJ,RJ,RJ,RG]
theorem E4(X:List Nat):∀(Y:List Nat) (x y:Nat),X.length=Y.length->cU (X++ [x]) (Y++ [y])=cU X Y++ [(x+y)%2]:=by
 induction X with
 | nil=>intro Y x y h;have:Y= []:=Nq h.symm;subst this;rfl
 | cons z X ih=>
  intro Y x y h
  cases Y with
  | nil=>cases h
  | cons w Y=>rw[Oq,Oq,cU,cU,ih Y x y (by simpa using h),Oq]
theorem wj(n:Nat):∀a b,ah (a ^^^ b) n=cU (ah a n) (ah b n):=by
 induction n with
 | zero=>intro a b;rfl
 | succ n ih=>intro a b;rw[ah,ah,ah,E4 _ _ _ _ (by rw[af,af]),KX,ih,KY]
theorem Fk(n v:Nat):ah (v%2^n) n=ah v n:=by have h1:val (ah v n)=v%2^n:=eG n v;have h2:=js (ah v n) (aQ n v);rw[af,h1]at h2;exact h2
theorem LN:pL.drop 1=ah 79764919 32:=by decide
theorem ig(c:Nat):fS c<4294967296:=by unfold fS;exact QH (n:=32) (Po _ (by omega)) (by split <;>omega)
theorem tH(n:Nat):∀c,c<4294967296->dJ n c<4294967296:=by
 induction n with
 | zero=>intro c h;exact h
 | succ n ih=>intro c _;exact ih _ (ig c)
theorem oE(c b:Nat):kz c b<4294967296:=tH 7 _ (ig _)
theorem Fl(v:Nat):ah v 1= [v%2]:=rfl
theorem L5(c:Nat)(h:c<4294967296):ah c 32=(c/2147483648)::ah c 31:=by have h2:ah c (1+31)=ah (c/2147483648) 1++ah c 31:=jr 31 c 1;have h3:c/2147483648%2=c/2147483648:=NL (by omega);rw[Fl,h3,List.singleton_append]at h2;exact h2
theorem MK(c:Nat):ah c 31++ [0]=ah (2*c%4294967296) 32:=by have h3:ah (c*2) (31+1)=ah c 31++ [0]:=mL c 1 31;have h4:ah (2*c%4294967296) 32=ah (2*c) 32:=Fk 32 (2*c);rw[h4,<-h3,Om]
theorem Cl(c:Nat)(h:c<4294967296):vy (ah c 32) 0=ah (fS c) 32:=by
 rw[L5 c h,lh,MK,LN,fS];by_cases hc:2147483648<=c;·rw[Nf,Nf hc,wj]
 ·rw[Nd,Nd hc,Nat.xor_zero]
def AF:Nat->List Nat->List Nat
 | 0,r=>r
 | n+1,r=>AF n (vy r 0)
theorem AG(n:Nat):∀c,c<4294967296->AF n (ah c 32)=ah (dJ n c) 32:=by
 induction n with
 | zero=>intro c _;rfl
 | succ n ih=>intro c h;rw[AF,Cl c h,ih _ (ig c)];rfl
theorem CU(M:List Nat):∀r:List Nat,r.length=32->M.length<=32->Am r M=AF M.length (cU r M):=by
 induction M with
 | nil=>intro r _ _;rw[cL];rfl
 | cons m M ih=>
  intro r hl hM
  cases r with
  | nil=>cases hl
  | cons x xs=>
   have h1:xs.length=31:=(by simpa using hl);have h0:M.length<=31:=(by simpa using hM);have e1:vy (cU (x::xs) (m::M)) 0=cU (vy (x::xs) m) M:=by
    rw[cU,lh,lh,NY,Nat.mod_mod,<-yX xs [0] M (by omega)];split;·exact E3 _ _ _
    ·rfl
   rw[Ns,AF,e1,<-ih _ (by rw[rD];exact hl) (by omega)];rfl
theorem FQ(c b:Nat)(hc:c<4294967296)(hb:b<256):Am (ah c 32) (ah b 8)=ah (kz c b) 32:=by have h1:cU (ah c 32) (ah b 8)=ah (c ^^^ (b*16777216)) 32:=(by rw[wj,show b*16777216=b*2^24 from rfl,mL b 24 8,yZ _ _ _ (aQ 32 c)]);rw[CU _ _ (af _ _) (by rw[af];omega),af,h1,AG _ _ (QH (n:=32) hc (by omega))];rfl
theorem CT(l:List UInt8):∀c,c<4294967296->Am (ah c 32) (ao l)=ah (l.foldl (fun c b=>kz c b.toNat) c) 32:=by
 induction l with
 | nil=>intro c _;rfl
 | cons b l ih=>intro c hc;rw[fd,Am,List.foldl_append];show Am (Am (ah c 32) (ah b.toNat 8)) (ao l)=_;rw[FQ c b.toNat hc b.toNat_lt,ih _ (oE _ _)];rfl
def gi(c:Nat)(l:List UInt8):Nat:=l.foldl (fun c b=>kz c b.toNat) c
theorem tG(l:List UInt8):∀c,c<4294967296->gi c l<4294967296:=by
 induction l with
 | nil=>intro c h;exact h
 | cons b l ih=>intro c _;exact ih _ (oE _ _)
theorem uy(c:Nat)(l:List UInt8)(hc:c<4294967296):rW c l=gi c l:=by unfold rW;rw[Dl,CT l c hc,eG];exact NL (tG l c hc)
theorem tF(c:Nat)(a b:List UInt8):gi c (a++b)=gi (gi c a) b:=List.foldl_append
theorem Im(a b:Nat):2*(a ^^^ b)=(2*a) ^^^ (2*b):=by have h:=Nat.shiftLeft_xor_distrib (a:=a) (b:=b) (i:=1);rw[Qg,Qg,Qg]at h;rw[Om 2,Om 2 a,Om 2 b];exact h
theorem Il(a b n:Nat):(a ^^^ b)*2^n=(a*2^n) ^^^ (b*2^n):=by have h:=Nat.shiftLeft_xor_distrib (a:=a) (b:=b) (i:=n);rw[Qg,Qg,Qg]at h;exact h
theorem K0(a b n:Nat):(a ^^^ b)/2^n=(a/2^n) ^^^ (b/2^n):=by have h:=Nat.shiftRight_xor_distrib (a:=a) (b:=b) (i:=n);rw[Qn,Qn,Qn]at h;exact h
theorem BY(a b:Nat):(a ^^^ b)*16777216=(a*16777216) ^^^ (b*16777216):=by have h:=Il a b 24;rw[show (2:Nat)^24=16777216 from rfl]at h;exact h
theorem K1(a b c d:Nat):(a ^^^ b) ^^^ (c ^^^ d)=(a ^^^ c) ^^^ (b ^^^ d):=by rw[Rz,<-Rz b c d,Nat.xor_comm b c,Rz c b d,<-Rz]
theorem CJ(a b:Nat)(ha:a<4294967296)(hb:b<4294967296):fS (a ^^^ b)=fS a ^^^ fS b:=by
 have h1:2*(a ^^^ b)%4294967296=(2*a%4294967296) ^^^ (2*b%4294967296):=by rw[Im];exact Nat.xor_mod_two_pow (n:=32)
 have h2:(a ^^^ b)/2147483648=(a/2147483648) ^^^ (b/2147483648):=K0 a b 31;have hx:a ^^^ b<4294967296:=QH (n:=32) ha hb;have h3:(if 2147483648<=a ^^^ b then 79764919 else 0)=(if 2147483648<=a then 79764919 else 0) ^^^ (if 2147483648<=b then 79764919 else 0):=by
  have h0:a/2147483648=0\/a/2147483648=1:=by omega
  have h4:b/2147483648=0\/b/2147483648=1:=by omega
  rcases h0 with h0|h0 <;>rcases h4 with h4|h4 <;>rw[h0,h4]at h2;·have:(a ^^^ b)/2147483648=0:=h2;rw[Nd,Nd,Nd];rfl
  ·have:(a ^^^ b)/2147483648=1:=h2;rw[Nf,Nd,Nf];rfl
  ·have:(a ^^^ b)/2147483648=1:=h2;rw[Nf,Nf,Nd];rfl
  ·have:(a ^^^ b)/2147483648=0:=h2;rw[Nd,Nf,Nf];rfl
 unfold fS;rw[h1,h3];exact K1 _ _ _ _
theorem Ae(n:Nat):∀a b,a<4294967296->b<4294967296->dJ n (a ^^^ b)=dJ n a ^^^ dJ n b:=by
 induction n with
 | zero=>intro a b _ _;rfl
 | succ n ih=>intro a b ha hb;rw[dJ,dJ,dJ,CJ a b ha hb,ih _ _ (ig a) (ig b)]
theorem ff(d:Nat)(h:d<2147483648):fS d=2*d:=by unfold fS;rw[Nd,Nat.xor_zero,NL (by omega)]
theorem Ad(d:Nat)(h:d<16777216):dJ 8 d=d*256:=by simp only[dJ];rw[ff d (by omega),ff (2*d) (by omega),ff (2*(2*d)) (by omega),ff (2*(2*(2*d))) (by omega),ff (2*(2*(2*(2*d)))) (by omega),ff (2*(2*(2*(2*(2*d))))) (by omega),ff (2*(2*(2*(2*(2*(2*d)))))) (by omega),ff (2*(2*(2*(2*(2*(2*(2*d))))))) (by omega)];omega
theorem Hh(c:Nat):c=(c/16777216*16777216) ^^^ (c%16777216):=by
 have hd:c/16777216*16777216=(c >>> 24) <<< 24:=by rw[Qg,Qn]
 have hm:c%16777216=c%2^24:=rfl;apply Qq;intro i;rw[hd,hm,RG,Nat.testBit_shiftLeft,Nat.testBit_shiftRight,Nat.testBit_mod_two_pow];by_cases h:i<24;·simp[h,show ¬(24<=i) by omega]
 ·simp[h,show 24<=i by omega,show 24+(i-24)=i by omega]
def kO(i:Nat):Nat:=dJ 8 (i*16777216)
theorem FF(i:Nat):kO i<4294967296:=by unfold kO;rw[dJ];exact tH 7 _ (ig _)
theorem Ac(c b:Nat)(hc:c<4294967296)(hb:b<256):kz c b=(c%16777216*256) ^^^ kO ((c/16777216) ^^^ b):=by have h1:c ^^^ (b*16777216)=(c%16777216) ^^^ (((c/16777216) ^^^ b)*16777216):=(by have h2:((c/16777216) ^^^ b)*16777216=(c/16777216*16777216) ^^^ (b*16777216):=BY (c/16777216) b;rw[h2,<-Rz,Nat.xor_comm (c%16777216),<-Hh]);have h3:(c/16777216) ^^^ b<256:=QH (n:=8) (by omega) hb;have h4:c%16777216<16777216:=Po _ (by omega);unfold kz kO;rw[h1,Ae 8 _ _ (by omega) (by omega),Ad _ h4]
