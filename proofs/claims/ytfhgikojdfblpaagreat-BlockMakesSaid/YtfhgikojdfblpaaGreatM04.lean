import Derived.Test.YtfhgikojdfblpaaGreatM03
import Derived.Sort.Grow
import Derived.Lib.SliceRun
set_option maxHeartbeats 1600000
set_option maxRecDepth 100000
namespace Go.Proofs.YtfhgikojdfblpaaGreat
open _root_.Go.Proofs.Tryz
open Go.RowKit
theorem fg(w:World)(n:Nat)(hn:n<=maxLen):Calls prog 184 #[.int .i64 n] w fun e w'=>e=.returned (.bool (decide (2<=n)&&decide (n<=258)))/\w'=w:=by
 unfold maxLen at hn;by_cases h1:2<=n
 ·have d1:decide ((2:Int)<=(n:Int))=true:=bE;by_cases h2:n<=258;·have d2:decide ((n:Int)<=258)=true:=bE;rw[Nn h1,Nn h2];go_enter func184,ntmps184;go_wp2_with fail;go_ret;exact⟨rfl,rfl⟩
  ·have d2:decide ((n:Int)<=258)=false:=aR;rw[Nn h1,Nl h2];go_enter func184,ntmps184;go_wp2_with fail;go_ret;exact⟨rfl,rfl⟩
 ·have d1:decide ((2:Int)<=(n:Int))=false:=aR;rw[Nl h1];go_enter func184,ntmps184;go_wp2_with fail;go_ret;exact⟨rfl,rfl⟩
theorem sI(w:World)(A:Option Addr)(n c:Nat)(L:List Int)(hL:ZIn w A n L)(h1:1<=n)(hn:n<=maxLen):
 Calls prog 93 #[.slice A n c] w fun e w'=>∃m:Int,e=.returned (.int .i64 m)/\((∀ i,i<n->m<=L.getD i 0)/\∃i,i<n/\L.getD i 0=m)/\w'=w:=by
 unfold maxLen at hn;obtain⟨b,off,rfl,hc⟩:=hL.2 (by omega);obtain⟨f,hf⟩:∃f:Nat->Int,f=fun i=>L.getD i 0:=⟨_,rfl⟩;have h0:∀i,i<n->w.cell? ⟨b,off+i,none⟩=some (.int .i64 (f i)):=by rw[hf];exact hc
 have hP:Hid (∀ m:Int,((∀ i,i<n->m<=f i)/\∃i,i<n/\f i=m)->(fun e w'=>∃m:Int,e=Ending.returned (.int .i64 m)/\((∀ i,i<n->m<=L.getD i 0)/\∃i,i<n/\L.getD i 0=m)/\w'=w) (.returned (.int .i64 m)) w):=
  aa fun m h=>⟨m,rfl,by rw[hf]at h;exact h,rfl⟩
 generalize (fun e w'=>∃m:Int,e=Ending.returned (.int .i64 m)/\((∀ i,i<n->m<=L.getD i 0)/\∃i,i<n/\L.getD i 0=m)/\w'=w)=PO at*;have HC:=aa h0;have c0:=h0 0 (by omega);rw[NY]at c0;obtain⟨y,hy⟩:∃y,y=f 0:=⟨_,rfl⟩;rw[<- hy]at c0;have HY:=aa hy;have h2:(0:Int)<(n:Int):=by omega
 have d0:decide ((n:Int)<1)=false:=aR;clear hL hc hf h0 hy;go_enter func93,ntmps93;go_wp2_with fail;go_loopw [3,4] (fun v i wx=>∃(q:Nat) (g:Int),1<=q/\q<=n/\i=.int .i64 q/\v=.int .i64 g/\Hid ((∀ i,i<q->g<=f i)/\∃i,i<n/\f i=g)/\wx=w) (fun _ i _=>n-(intOf i).toNat)
 case atStart=>exact⟨1,y,Nk _,h1,rfl,rfl,⟨fun i hi=>by rw[show i=0 by omega,<-HY.out];exact QW _,0,by omega,HY.out.symm⟩,rfl⟩
 case round=>
  obtain⟨q,g,h3,hq,rfl,rfl,hm,rfl⟩:=hrel;by_cases e:q<n
  ·have cq:=HC.out q e;obtain⟨x,hx⟩:∃x,x=f q:=⟨_,rfl⟩;rw[<- hx]at cq;have HX:=aa hx;clear hx;by_cases e2:x<g
   ·have HM:Hid ((∀ i,i<q+1->x<=f i)/\∃i,i<n/\f i=x):=aa ⟨fun i hi=>by
     by_cases ei:i=q
     ·rw[ei,<-HX.out]
      exact QW _
     ·have:=hm.out.1 i (by omega)
      omega,q,e,HX.out.symm⟩
    clear hm;go_wp2_with fail;go_roundw;case rel=>exact⟨q+1,x,by omega,by omega,by go_num,by go_num,HM,trivial⟩
    case measure=>simp[intOf];omega
   ·have HM:Hid ((∀ i,i<q+1->g<=f i)/\∃i,i<n/\f i=g):=aa ⟨fun i hi=>by
     by_cases ei:i=q
     ·rw[ei,<-HX.out]
      omega
     ·exact hm.out.1 i (by omega),hm.out.2⟩
    clear hm;go_wp2_with fail;go_roundw;case rel=>exact⟨q+1,g,by omega,by omega,by go_num,by go_num,HM,trivial⟩
    case measure=>simp[intOf];omega
  ·obtain rfl:q=n:=(by omega);have HM:=aa hm.out;clear hm;go_wp2_with fail;exact hP.out g HM.out
theorem pV(w:World)(A:Option Addr)(n c:Nat)(L:List Int)(hL:ZIn w A n L)(h1:1<=n)(hn:n<=maxLen):
 Calls prog 94 #[.slice A n c] w fun e w'=>∃m:Int,e=.returned (.int .i64 m)/\((∀ i,i<n->L.getD i 0<=m)/\∃i,i<n/\L.getD i 0=m)/\w'=w:=by
 unfold maxLen at hn;obtain⟨b,off,rfl,hc⟩:=hL.2 (by omega);obtain⟨f,hf⟩:∃f:Nat->Int,f=fun i=>L.getD i 0:=⟨_,rfl⟩;have h0:∀i,i<n->w.cell? ⟨b,off+i,none⟩=some (.int .i64 (f i)):=by rw[hf];exact hc
 have hP:Hid (∀ m:Int,((∀ i,i<n->f i<=m)/\∃i,i<n/\f i=m)->(fun e w'=>∃m:Int,e=Ending.returned (.int .i64 m)/\((∀ i,i<n->L.getD i 0<=m)/\∃i,i<n/\L.getD i 0=m)/\w'=w) (.returned (.int .i64 m)) w):=
  aa fun m h=>⟨m,rfl,by rw[hf]at h;exact h,rfl⟩
 generalize (fun e w'=>∃m:Int,e=Ending.returned (.int .i64 m)/\((∀ i,i<n->L.getD i 0<=m)/\∃i,i<n/\L.getD i 0=m)/\w'=w)=PO at*;have HC:=aa h0;have c0:=h0 0 (by omega);rw[NY]at c0;obtain⟨y,hy⟩:∃y,y=f 0:=⟨_,rfl⟩;rw[<- hy]at c0;have HY:=aa hy;have h2:(0:Int)<(n:Int):=by omega
 have d0:decide ((n:Int)<1)=false:=aR;clear hL hc hf h0 hy;go_enter func94,ntmps94;go_wp2_with fail;go_loopw [3,4] (fun v i wx=>∃(q:Nat) (g:Int),1<=q/\q<=n/\i=.int .i64 q/\v=.int .i64 g/\Hid ((∀ i,i<q->f i<=g)/\∃i,i<n/\f i=g)/\wx=w) (fun _ i _=>n-(intOf i).toNat)
 case atStart=>exact⟨1,y,Nk _,h1,rfl,rfl,⟨fun i hi=>by rw[show i=0 by omega,<-HY.out];exact QW _,0,by omega,HY.out.symm⟩,rfl⟩
 case round=>
  obtain⟨q,g,h3,hq,rfl,rfl,hm,rfl⟩:=hrel;by_cases e:q<n
  ·have cq:=HC.out q e;obtain⟨x,hx⟩:∃x,x=f q:=⟨_,rfl⟩;rw[<- hx]at cq;have HX:=aa hx;clear hx;by_cases e2:g<x
   ·have HM:Hid ((∀ i,i<q+1->f i<=x)/\∃i,i<n/\f i=x):=aa ⟨fun i hi=>by
     by_cases ei:i=q
     ·rw[ei,<-HX.out]
      exact QW _
     ·have:=hm.out.1 i (by omega)
      omega,q,e,HX.out.symm⟩
    clear hm;go_wp2_with fail;go_roundw;case rel=>exact⟨q+1,x,by omega,by omega,by go_num,by go_num,HM,trivial⟩
    case measure=>simp[intOf];omega
   ·have HM:Hid ((∀ i,i<q+1->f i<=g)/\∃i,i<n/\f i=g):=aa ⟨fun i hi=>by
     by_cases ei:i=q
     ·rw[ei,<-HX.out]
      omega
     ·exact hm.out.1 i (by omega),hm.out.2⟩
    clear hm;go_wp2_with fail;go_roundw;case rel=>exact⟨q+1,g,by omega,by omega,by go_num,by go_num,HM,trivial⟩
    case measure=>simp[intOf];omega
  ·obtain rfl:q=n:=(by omega);have HM:=aa hm.out;clear hm;go_wp2_with fail;exact hP.out g HM.out
theorem wS(w:World)(A:Option Addr)(n c:Nat)(L:List Int)(hL:ZIn w A n L)(hn:n<=maxLen):
 Calls prog 142 #[.slice A n c] w fun e w'=>e=.returned (.bool (decide (gU L)))/\w'=w:=by
 have hb:=hL.1;have h9:Hid (∀ i,i<n->(L.getD i 0<0\/1073741824<L.getD i 0)->decide (gU L)=false):=aa fun i hi h=>Nl fun hm=>by have:=hm.2.2 _ (dK L i (by omega));omega
 have ha:Hid (¬ (2<=n/\n<=258)->decide (gU L)=false):=aa fun h=>Nl fun hm=>h ⟨by have:=hm.1;omega,by have:=hm.2.1;omega⟩
 have h6:Hid (2<=n->n<=258->(∀ i,i<n->0<=L.getD i 0/\L.getD i 0<=1073741824)->decide (gU L)=true):=aa fun h1 h2 h=>Nn ⟨by omega,by omega,fun x hx=>by
  obtain⟨i,hi,rfl⟩:=Pr hx
  have:=h i (by omega)
  rwa [Na,Nc hi]at this⟩
 have HE:=aa (fg w n hn);generalize decide (gU L)=ans at*;by_cases hN:2<=n/\n<=258
 ·have he:=aa (sI w A n c L hL (by omega) hn);have hc:=aa (pV w A n c L hL (by omega) hn);rw[Nn hN.1,Nn hN.2]at HE;clear hL hb ha;unfold maxLen at hn;go_enter func142,ntmps142;go_wp2_with fail;refine HE.out.mono ?_;rintro e w' ⟨rfl,rfl⟩;go_wp2_with fail;refine he.out.mono ?_;rintro e w2 ⟨m,rfl,hm,rfl⟩;have h7:=aa hm;clear hm;by_cases h0:0<=m
  ·have d0:decide (0<=m)=true:=Nn h0;go_wp2_with fail;refine hc.out.mono ?_;rintro e w3 ⟨M,rfl,hM,rfl⟩;have h8:=aa hM;clear hM;by_cases h2:M<=1073741824;·have d2:decide (M<=1073741824)=true:=Nn h2;(have h5:=h6.out hN.1 hN.2 fun i hi=>by have h3:=h7.out.1 i hi;have h4:=h8.out.1 i hi;omega);subst h5;go_wp2_with fail;go_ret;exact⟨rfl,rfl⟩
   ·have d2:decide (M<=1073741824)=false:=Nl h2;obtain⟨i,hi,hf⟩:=h8.out.2;have h5:=h9.out i hi (.inr (by omega));subst h5;clear hf;go_wp2_with fail;go_ret;exact⟨rfl,rfl⟩
  ·have d0:decide (0<=m)=false:=Nl h0;obtain⟨i,hi,hg⟩:=h7.out.2;have h5:=h9.out i hi (.inl (by omega));subst h5;clear hg;go_wp2_with fail;go_ret;exact⟨rfl,rfl⟩
 ·have h5:=ha.out hN;subst h5;rw[show (decide (2<=n)&&decide (n<=258))=false by rw[<- Bool.decide_and];exact Nl hN]at HE;clear hL hb;unfold maxLen at hn;go_enter func142,ntmps142;go_wp2_with fail;refine HE.out.mono ?_;rintro e w' ⟨rfl,rfl⟩;go_wp2_with fail;go_ret;exact⟨rfl,rfl⟩
def pd(L:List Int):Prop:=2<=L.length/\L.length<=258/\∀x∈L,1<=x/\x<=20
instance (L:List Int):Decidable (pd L):=inferInstanceAs (Decidable (_/\_))
def iQ(L:List Int):Nat×Bool:=if pd L then(bR L,true)else(0,false)
theorem Ky(y:Nat)(h:y<=20):1048576/2^y=2^(20-y):=by have h1:(1048576:Nat)=2^(20-y)*2^y:=(by rw[<- Pw,show 20-y+y=20 by omega]);rw[h1,RP _ (Nat.pow_pos (by omega))]
theorem H9(w:World)(A:Option Addr)(n c:Nat)(L:List Int)(hL:ZIn w A n L)(hn:n<=maxLen):
 Calls prog 189 #[.slice A n c] w fun e w'=>e=.returned (.tuple #[.int .i64 (iQ L).1,.bool (iQ L).2])/\w'=w:=by
 have hg:=hL.1;have hf:Hid (∀ i,i<n->(L.getD i 0<1\/20<L.getD i 0)->iQ L=(0,false)):=aa fun i hi h=>Nd fun hm=>by have:=hm.2.2 _ (dK L i (by omega));omega
 have ho:Hid (¬ (2<=n/\n<=258)->iQ L=(0,false)):=aa fun h=>Nd fun hm=>h ⟨by have:=hm.1;omega,by have:=hm.2.1;omega⟩
 have h8:Hid (2<=n->n<=258->(∀ i,i<n->1<=L.getD i 0/\L.getD i 0<=20)->iQ L=(bR L,true)):=aa fun h1 h2 h=>Nf ⟨by omega,by omega,fun x hx=>by
  obtain⟨i,hi,rfl⟩:=Pr hx
  have:=h i (by omega)
  rwa [Na,Nc hi]at this⟩
 have HE:=aa (fg w n hn);generalize iQ L=ans at*;by_cases hN:2<=n/\n<=258
 ·have hl:=aa (sI w A n c L hL (by omega) hn);have hk:=aa (pV w A n c L hL (by omega) hn);rw[Nn hN.1,Nn hN.2]at HE;have HL:=aa hL;have hj:=aa hg;clear hL hg ho;unfold maxLen at hn;go_enter func189,ntmps189;go_wp2_with fail;refine HE.out.mono ?_;rintro e w' ⟨rfl,rfl⟩;go_wp2_with fail;refine hl.out.mono ?_;rintro e w2 ⟨m,rfl,hm,rfl⟩;have hb:=aa hm;clear hm;by_cases h0:m<1;·have d0:decide (m<1)=true:=Nn h0;obtain⟨i,hi,hw⟩:=hb.out.2;have h5:=hf.out i hi (.inl (by omega));subst h5;clear hw;go_wp2_with fail;go_ret2;exact⟨rfl,rfl⟩
  ·have d0:decide (m<1)=false:=Nl h0;go_wp2_with fail;refine hk.out.mono ?_;rintro e w3 ⟨M,rfl,hM,rfl⟩;have he:=aa hM;clear hM;by_cases h2:20<M;·have d2:decide (20<M)=true:=Nn h2;obtain⟨i,hi,hv⟩:=he.out.2;have h5:=hf.out i hi (.inr (by omega));subst h5;clear hv;go_wp2_with fail;go_ret2;exact⟨rfl,rfl⟩
   ·have d2:decide (20<M)=false:=Nl h2;(have h7:∀i,i<n->1<=L.getD i 0/\L.getD i 0<=20:=fun i hi=>by have h3:=hb.out.1 i hi;have h4:=he.out.1 i hi;omega);have h6:=aa h7;have h5:=h8.out hN.1 hN.2 h7;subst h5;clear h7 hf h8 hb he hl hk HE h0;go_wp2_with fail;(go_loopw [4,6,23] (fun s v i wx=>∃(q z:Nat),q<=n/\i=.int .i64 q/\s=.int .i64 z/\Hid (z=bR (L.take q))/\z<=q*524288/\wx=w3) (fun _ _ i _=>n-(intOf i).toNat));case atStart=>exact⟨0,0,Ng _,rfl,rfl,rfl,Ng _,rfl⟩
    case round=>
     obtain⟨q,z,hq,rfl,rfl,hz,hp,rfl⟩:=hrel;by_cases e:q<n
     ·obtain⟨b,off,rfl,hc⟩:=HL.out.2 (by omega);have hu:=hc q e;have hh:=cK L q (by rw[hj.out];exact e);have hA:=h6.out q e;obtain⟨x,hx⟩:∃x,x=L.getD q 0:=⟨_,rfl⟩;rw[<- hx]at hu hh hA;obtain⟨y,rfl⟩:∃y:Nat,x=y:=⟨x.toNat,by omega⟩;obtain⟨t,ht⟩:∃t:Nat,t=2^(20-y):=⟨_,rfl⟩;have hD:(1048576:Int)/(2:Int)^y=(t:Int):=(by have h1:((1048576/2^y:Nat):Int)=(t:Int):=(by rw[Ky y (by omega),ht]);rw[<- h1];simp);have hC:t<=524288:=(by rw[ht];have:2^(20-y)<=2^19:=Od (by decide) (by omega);exact this);obtain⟨z2,h9⟩:∃z2:Nat,z2=z+t:=⟨_,rfl⟩;have hE:(z:Int)+(t:Int)=(z2:Int):=(by omega);have hs:Hid (z2=bR (L.take (q+1))):=aa (by rw[hh,um,h9,<-hz.out,ht,Nv]);have ha:z2<=(q+1)*524288:=(by rw[PU];omega);have hy:q*524288<=258*524288:=Qp _ (by omega);have hB:z2<=258*524288+524288:=(by omega);have w2:IntKind.i64.wrap (z2:Int)=(z2:Int):=(by rw[Of];omega);have hr:=aa ha;clear hc hx ht hh hz h9 hp hy h6 ha;go_wp2_with fail;go_roundw;case rel=>exact⟨q+1,z2,by omega,by go_num,by go_num,hs,hr.out,trivial⟩
      case measure=>simp[intOf];omega
     ·obtain rfl:q=n:=(by omega);have h9:=hz.out;rw[Nr (Oi hj.out)]at h9;subst h9;clear hz hp h6 HL;go_wp2_with fail;go_ret2;exact⟨rfl,rfl⟩
 ·have h5:=ho.out hN;subst h5;rw[show (decide (2<=n)&&decide (n<=258))=false by rw[<- Bool.decide_and];exact Nl hN]at HE;clear hL hg;unfold maxLen at hn;go_enter func189,ntmps189;go_wp2_with fail;refine HE.out.mono ?_;rintro e w' ⟨rfl,rfl⟩;go_wp2_with fail;go_ret2;exact⟨rfl,rfl⟩
theorem oK{L:List Int}:bK L↔pd L/\bR L<=1048576:=by
 unfold bK pd;constructor;·rintro⟨h1,h2,h3,h4⟩;exact⟨⟨h1,h2,h3⟩,h4⟩
 ·rintro⟨⟨h1,h2,h3⟩,h4⟩;exact⟨h1,h2,h3,h4⟩
theorem lS(w:World)(A:Option Addr)(n c:Nat)(L:List Int)(hL:ZIn w A n L)(hn:n<=maxLen):
 Calls prog 149 #[.slice A n c] w fun e w'=>e=.returned (.int .i64 (if bK L then 0 else 80))/\w'=w:=by
 have HT:=aa (H9 w A n c L hL hn);by_cases h1:pd L
 ·have ht:iQ L=(bR L,true):=Nf h1;rw[ht]at HT;have h0:(if bK L then(0:Int)else 80)=if bR L<=1048576 then 0 else 80:=by
   by_cases e:bR L<=1048576;·rw[Nf e,Nf (oK.2 ⟨h1,e⟩)]
   ·rw[Nd e,Nd fun h=>e (oK.1 h).2]
  rw[h0];generalize bR L=z at*;clear hL ht h0 h1;by_cases e:z<=1048576;·have d1:decide ((1048576:Int)<(z:Int))=false:=aR;rw[Nf e];go_enter func149,ntmps149;go_wp2_with fail;refine HT.out.mono ?_;rintro e w' ⟨rfl,rfl⟩;go_wp2_with fail;go_ret;exact⟨rfl,rfl⟩
  ·have d1:decide ((1048576:Int)<(z:Int))=true:=bE;rw[Nd e];go_enter func149,ntmps149;go_wp2_with fail;refine HT.out.mono ?_;rintro e w' ⟨rfl,rfl⟩;go_wp2_with fail;go_ret;exact⟨rfl,rfl⟩
 ·have ht:iQ L=(0,false):=Nd h1;rw[ht]at HT;rw[Nd fun h=>h1 (oK.1 h).1];clear hL ht h1;go_enter func149,ntmps149;go_wp2_with fail;refine HT.out.mono ?_;rintro e w' ⟨rfl,rfl⟩;go_wp2_with fail;go_ret;exact⟨rfl,rfl⟩
open Go.RowKit Go.Sort
def fC(a b:Int):Int:=if a<b then -1 else if b<a then 1 else 0
theorem fQ(w:World)(a b:Int):Calls prog 180 #[.int .i64 a,.int .i64 b] w fun e w'=>e=.returned (.int .i64 (fC a b))/\w=w':=by
 obtain⟨v,hv⟩:∃v,v=fC a b:=⟨_,rfl⟩;have HV:=aa hv;unfold fC at hv;by_cases h1:a<b;·rw[Nf h1]at hv;have HW:=aa hv;clear hv;go_enter func180,ntmps180;go_wp2;go_ret;exact⟨by rw[<- HV.out,HW.out];rfl,rfl⟩
 ·by_cases h2:b<a;·rw[Nd h1,Nf h2]at hv;have HW:=aa hv;clear hv;go_enter func180,ntmps180;go_wp2;go_ret;exact⟨by rw[<- HV.out,HW.out];rfl,rfl⟩
  ·rw[Nd h1,Nd h2]at hv;have HW:=aa hv;clear hv;go_enter func180,ntmps180;go_wp2;go_ret;exact⟨by rw[<- HV.out,HW.out];rfl,rfl⟩
theorem ia(w:World)(u v:Value)(t:TypeId):(w.alloc (.cells #[u,v] t)).cell? ⟨w.heap.size,0,none⟩=some u:=by rw[ac (aj w t _)];rfl
theorem ib(w:World)(u v:Value)(t:TypeId):(w.alloc (.cells #[u,v] t)).cell? ⟨w.heap.size,1,none⟩=some v:=by rw[ac (aj w t _)];rfl
theorem bY(w:World)(o:Obj)(p:Addr)(h:p.block<w.heap.size):(w.alloc o).cell? p=w.cell? p:=((Nj w.heap.size w).alloc (ag _) o).cell h
theorem JW(w:World)(b off c:Nat)(u v:Int)(h0:w.cell? ⟨b,off,none⟩=some (.int .i64 u))(h1:w.cell? ⟨b,off+1,none⟩=some (.int .i64 v)):
 Calls prog 186 #[.slice (some ⟨b,off,none⟩) 2 c] w fun e w'=>e=.returned (.int .i64 (if u=0 then v else u))/\w=w':=by
 by_cases e:u=0
 ·rw[Nf e];have d1:(u != 0)=false:=by rw[e];rfl
  have d1':(u==0)=true:=by rw[e];rfl
  clear e;by_cases e2:v=0
  ·have d2:(v != 0)=false:=(by rw[e2];rfl);have d2':(v==0)=true:=(by rw[e2];rfl);have E2:=aa e2;clear e2;go_enter func186,ntmps186;go_wp2_with fail;(go_loopw [5,8] (fun x i wx=>∃q:Nat,q<=2/\i=.int .i64 q/\wx=w) (fun _ i _=>2-(intOf i).toNat));case atStart=>exact⟨0,by omega,rfl,rfl⟩
   case round=>
    obtain⟨q,hq,rfl,rfl⟩:=hrel
    match q,hq with
    | 0,_=>
     go_wp2_with fail;go_roundw;case rel=>exact⟨1,by omega,by go_num,trivial⟩
     case measure=>simp[intOf]
    | 1,_=>
     go_wp2_with fail;go_roundw;case rel=>exact⟨2,by omega,by go_num,trivial⟩
     case measure=>simp[intOf]
    | 2,_=>go_wp2_with fail;go_ret;exact⟨by rw[E2.out];rfl,rfl⟩
  ·have d2:(v != 0)=true:=(by simpa using e2);have d2':(v==0)=false:=(by simpa using e2);clear e2;go_enter func186,ntmps186;go_wp2_with fail;(go_loopw [5,8] (fun x i wx=>∃q:Nat,q<=1/\i=.int .i64 q/\wx=w) (fun _ i _=>2-(intOf i).toNat));case atStart=>exact⟨0,by omega,rfl,rfl⟩
   case round=>
    obtain⟨q,hq,rfl,rfl⟩:=hrel
    match q,hq with
    | 0,_=>
     go_wp2_with fail;go_roundw;case rel=>exact⟨1,by omega,by go_num,trivial⟩
     case measure=>simp[intOf]
    | 1,_=>go_wp2_with fail;go_ret;exact⟨rfl,rfl⟩
 ·rw[Nd e];have d1:(u != 0)=true:=by simpa using e
  have d1':(u==0)=false:=by simpa using e
  clear e;go_enter func186,ntmps186;go_wp2_with fail;go_loopw [5,8] (fun x i wx=>i=.int .i64 0/\wx=w) (fun _ i _=>2-(intOf i).toNat)
  case atStart=>exact⟨rfl,rfl⟩
  case round=>obtain⟨rfl,rfl⟩:=hrel;go_wp2_with fail;go_ret;exact⟨rfl,rfl⟩
def Bt(x y:Int×Int):Int:=if fC x.1 y.1=0 then fC x.2 y.2 else fC x.1 y.1
def Ep(x y:Int×Int):Int:=if fC y.1 x.1=0 then fC x.2 y.2 else fC y.1 x.1
theorem jY(x y:Int×Int)(w:World):Calls prog 233 #[.agg #[.int .i64 x.1,.int .i64 x.2],.agg #[.int .i64 y.1,.int .i64 y.2]] w fun e w'=>e=.returned (.int .i64 (Bt x y))/\∃q os',w'=grow (w.drewN q) os':=by
 have HC:=aa fun w1:World=>fQ w1 x.1 y.1;have HD:=aa fun w1:World=>fQ w1 x.2 y.2;unfold Bt;generalize fC x.1 y.1=a at*;generalize fC x.2 y.2=b at*;have HO:=aa fun(w1:World) (g:Nat)=>JW w1 g 0 2 a b;generalize (if a=0 then b else a)=r at*;obtain⟨x1,x2⟩:=x;obtain⟨y1,y2⟩:=y;dsimp only at*;go_enter func233,ntmps233;go_wp2_with fail;obtain⟨w1,h0⟩:∃w1,w1=(w.alloc (.cells #[.int .i64 x1,.int .i64 x2] 192)).alloc (.cells #[.int .i64 y1,.int .i64 y2] 192):=⟨_,rfl⟩;have q0:w1.cell? ⟨w.heap.size,0,none⟩=some (.int .i64 x1):=by rw[h0];exact(bY _ _ _ (by simp)).trans (ia _ _ _ _)
 have q1:w1.cell? ⟨w.heap.size,1,none⟩=some (.int .i64 x2):=by rw[h0];exact(bY _ _ _ (by simp)).trans (ib _ _ _ _)
 have q2:w1.cell? ⟨w.heap.size+1,0,none⟩=some (.int .i64 y1):=by rw[h0];simp
 have q3:w1.cell? ⟨w.heap.size+1,1,none⟩=some (.int .i64 y2):=by rw[h0];simp
 have HW:Hid (∃ os',w1=grow w os'):=aa ⟨_,by rw[h0,alloc_eq_grow,alloc_eq_grow,grow_grow]⟩;have hz:w1.heap.size=w.heap.size+2:=by rw[h0];simp
 have z0:w.heap.size<w1.heap.size:=by omega
 have z1:w.heap.size+1<w1.heap.size:=by omega
 have o0:w1.drew.cell? ⟨w.heap.size,0,none⟩=some (.int .i64 x1):=q0;have o1:w1.drew.cell? ⟨w.heap.size,1,none⟩=some (.int .i64 x2):=q1;have o2:w1.drew.cell? ⟨w.heap.size+1,0,none⟩=some (.int .i64 y1):=q2;have o3:w1.drew.cell? ⟨w.heap.size+1,1,none⟩=some (.int .i64 y2):=q3;have p0:(w1.alloc (.cells #[.int .i64 a,.int .i64 b] 3)).drew.cell? ⟨w.heap.size,0,none⟩=some (.int .i64 x1):=(bY w1 _ ⟨w.heap.size,0,none⟩ z0).trans q0;have p1:(w1.alloc (.cells #[.int .i64 a,.int .i64 b] 3)).drew.cell? ⟨w.heap.size,1,none⟩=some (.int .i64 x2):=(bY w1 _ ⟨w.heap.size,1,none⟩ z0).trans q1;have p2:(w1.alloc (.cells #[.int .i64 a,.int .i64 b] 3)).drew.cell? ⟨w.heap.size+1,0,none⟩=some (.int .i64 y1):=(bY w1 _ ⟨w.heap.size+1,0,none⟩ z1).trans q2;have p3:(w1.alloc (.cells #[.int .i64 a,.int .i64 b] 3)).drew.cell? ⟨w.heap.size+1,1,none⟩=some (.int .i64 y2):=(bY w1 _ ⟨w.heap.size+1,1,none⟩ z1).trans q3;have r0:(w1.alloc (.cells #[.int .i64 a,.int .i64 b] 3)).drew.cell? ⟨w1.heap.size,0,none⟩=some (.int .i64 a):=ia w1 _ _ _;have r1:(w1.alloc (.cells #[.int .i64 a,.int .i64 b] 3)).drew.cell? ⟨w1.heap.size,0+1,none⟩=some (.int .i64 b):=ib w1 _ _ _;rw[<- h0];clear h0 hz
 go_region_held3 (fun w'=>w'.cell? ⟨w.heap.size,0,none⟩=some (.int .i64 x1)/\w'.cell? ⟨w.heap.size,1,none⟩=some (.int .i64 x2)/\w'.cell? ⟨w.heap.size+1,0,none⟩=some (.int .i64 y1)/\w'.cell? ⟨w.heap.size+1,1,none⟩=some (.int .i64 y2))
  (first|with_reducible exact⟨q0,q1,q2,q3⟩|with_reducible exact⟨o0,o1,o2,o3⟩|with_reducible exact⟨p0,p1,p2,p3⟩)
  (first
    | (go_at_call 180;with_reducible refine(HC.out _).mono ?_;rintro e w2 ⟨rfl,rfl⟩)
    | (go_at_call 180;with_reducible refine(HD.out _).mono ?_;rintro e w2 ⟨rfl,rfl⟩)
    | (go_at_call 186;with_reducible refine(HO.out _ _ r0 r1).mono ?_;rintro e w2 ⟨rfl,rfl⟩))
 clear o0 o1 o2 o3 p0 p1 p2 p3 r0 r1 q0 q1 q2 q3 HO HC HD;go_wp2_with fail;go_ret;obtain⟨os',rfl⟩:=HW.out;exact⟨rfl,1,_,by rw[alloc_eq_grow,drew_grow,drew_grow,grow_grow];rfl⟩
theorem Ao(x y:Int×Int)(w:World):Calls prog 146 #[.agg #[.int .i64 x.1,.int .i64 x.2],.agg #[.int .i64 y.1,.int .i64 y.2]] w fun e w'=>e=.returned (.int .i64 (Ep x y))/\∃q os',w'=grow (w.drewN q) os':=by
 have HC:=aa fun w1:World=>fQ w1 y.1 x.1;have HD:=aa fun w1:World=>fQ w1 x.2 y.2;unfold Ep;generalize fC y.1 x.1=a at*;generalize fC x.2 y.2=b at*;have HO:=aa fun(w1:World) (g:Nat)=>JW w1 g 0 2 a b;generalize (if a=0 then b else a)=r at*;obtain⟨x1,x2⟩:=x;obtain⟨y1,y2⟩:=y;dsimp only at*;go_enter func146,ntmps146;go_wp2_with fail;obtain⟨w1,h0⟩:∃w1,w1=(w.alloc (.cells #[.int .i64 x1,.int .i64 x2] 192)).alloc (.cells #[.int .i64 y1,.int .i64 y2] 192):=⟨_,rfl⟩;have q0:w1.cell? ⟨w.heap.size,0,none⟩=some (.int .i64 x1):=by rw[h0];exact(bY _ _ _ (by simp)).trans (ia _ _ _ _)
 have q1:w1.cell? ⟨w.heap.size,1,none⟩=some (.int .i64 x2):=by rw[h0];exact(bY _ _ _ (by simp)).trans (ib _ _ _ _)
 have q2:w1.cell? ⟨w.heap.size+1,0,none⟩=some (.int .i64 y1):=by rw[h0];simp
 have q3:w1.cell? ⟨w.heap.size+1,1,none⟩=some (.int .i64 y2):=by rw[h0];simp
 have HW:Hid (∃ os',w1=grow w os'):=aa ⟨_,by rw[h0,alloc_eq_grow,alloc_eq_grow,grow_grow]⟩;have hz:w1.heap.size=w.heap.size+2:=by rw[h0];simp
 have z0:w.heap.size<w1.heap.size:=by omega
 have z1:w.heap.size+1<w1.heap.size:=by omega
 have o0:w1.drew.cell? ⟨w.heap.size,0,none⟩=some (.int .i64 x1):=q0;have o1:w1.drew.cell? ⟨w.heap.size,1,none⟩=some (.int .i64 x2):=q1;have o2:w1.drew.cell? ⟨w.heap.size+1,0,none⟩=some (.int .i64 y1):=q2;have o3:w1.drew.cell? ⟨w.heap.size+1,1,none⟩=some (.int .i64 y2):=q3;have p0:(w1.alloc (.cells #[.int .i64 a,.int .i64 b] 3)).drew.cell? ⟨w.heap.size,0,none⟩=some (.int .i64 x1):=(bY w1 _ ⟨w.heap.size,0,none⟩ z0).trans q0;have p1:(w1.alloc (.cells #[.int .i64 a,.int .i64 b] 3)).drew.cell? ⟨w.heap.size,1,none⟩=some (.int .i64 x2):=(bY w1 _ ⟨w.heap.size,1,none⟩ z0).trans q1;have p2:(w1.alloc (.cells #[.int .i64 a,.int .i64 b] 3)).drew.cell? ⟨w.heap.size+1,0,none⟩=some (.int .i64 y1):=(bY w1 _ ⟨w.heap.size+1,0,none⟩ z1).trans q2;have p3:(w1.alloc (.cells #[.int .i64 a,.int .i64 b] 3)).drew.cell? ⟨w.heap.size+1,1,none⟩=some (.int .i64 y2):=(bY w1 _ ⟨w.heap.size+1,1,none⟩ z1).trans q3;have r0:(w1.alloc (.cells #[.int .i64 a,.int .i64 b] 3)).drew.cell? ⟨w1.heap.size,0,none⟩=some (.int .i64 a):=ia w1 _ _ _;have r1:(w1.alloc (.cells #[.int .i64 a,.int .i64 b] 3)).drew.cell? ⟨w1.heap.size,0+1,none⟩=some (.int .i64 b):=ib w1 _ _ _;rw[<- h0];clear h0 hz
 go_region_held3 (fun w'=>w'.cell? ⟨w.heap.size,0,none⟩=some (.int .i64 x1)/\w'.cell? ⟨w.heap.size,1,none⟩=some (.int .i64 x2)/\w'.cell? ⟨w.heap.size+1,0,none⟩=some (.int .i64 y1)/\w'.cell? ⟨w.heap.size+1,1,none⟩=some (.int .i64 y2))
  (first|with_reducible exact⟨q0,q1,q2,q3⟩|with_reducible exact⟨o0,o1,o2,o3⟩|with_reducible exact⟨p0,p1,p2,p3⟩)
  (first
    | (go_at_call 180;with_reducible refine(HC.out _).mono ?_;rintro e w2 ⟨rfl,rfl⟩)
    | (go_at_call 180;with_reducible refine(HD.out _).mono ?_;rintro e w2 ⟨rfl,rfl⟩)
    | (go_at_call 186;with_reducible refine(HO.out _ _ r0 r1).mono ?_;rintro e w2 ⟨rfl,rfl⟩))
 clear o0 o1 o2 o3 p0 p1 p2 p3 r0 r1 q0 q1 q2 q3 HO HC HD;go_wp2_with fail;go_ret;obtain⟨os',rfl⟩:=HW.out;exact⟨rfl,1,_,by rw[alloc_eq_grow,drew_grow,drew_grow,grow_grow];rfl⟩
def Fst(x y:Nat×Nat):Prop:=x.1<y.1\/(x.1=y.1/\x.2<y.2)
theorem Fst.trans{x y z:Nat×Nat}(h:Fst x y)(k:Fst y z):Fst x z:=by unfold Fst at*;omega
theorem wG{x y:Nat×Nat}(h:¬Fst x y)(hn:x.2≠y.2):Fst y x:=by unfold Fst at*;omega
structure Two (n k:Nat) (ws ov:Nat->Nat) (S M:List (Nat×Nat)) (b:Nat):Prop where
 sm:∀t∈S,t.2<n/\ov t.2=0/\t.1=ws t.2
 sa:∀j,j<n->ov j=0->(ws j,j)∈S
 so:S.Pairwise Fst
 mm:∀t∈M,n<=t.2/\t.2<k/\ov t.2=0/\t.1=ws t.2
 ma:∀j,n<=j->j<k->ov j=0->(ws j,j)∈M
 mo:M.Pairwise Fst
 low:∀t,t∈S\/t∈M->b<=t.1
 top:∀t∈M,t.1<=2*b
def lq:List (Nat×Nat)->List (Nat×Nat)->(Nat×Nat)×List (Nat×Nat)×List (Nat×Nat)
 | [], []=>((0,0), [], [])
 | s::S, []=>(s,S, [])
 | [],m::M=>(m, [],M)
 | s::S,m::M=>if m.1<s.1\/(m.1=s.1/\m.2<s.2)then(m,s::S,M)else(s,S,m::M)
theorem qz{n k:Nat}{ws ov:Nat->Nat}{S M:List (Nat×Nat)}{b:Nat}(h:Two n k ws ov S M b){j:Nat}(hj:j<k)(h0:ov j=0):(ws j,j)∈S\/(ws j,j)∈M:=by
 by_cases e:j<n;·exact .inl (h.sa j e h0)
 ·exact .inr (h.ma j (by omega) hj h0)
theorem vr{n k:Nat}{ws ov ov1:Nat->Nat}{S M:List (Nat×Nat)}{b:Nat}(h:Two n k ws ov S M b)(hn:n<=k)(hk:k≠0){j:Nat}(hj:j<k)(h0:ov j=0){a:Nat×Nat}{S2 M2:List (Nat×Nat)}(hp:lq S M=(a,S2,M2))
 (h1:ov1=fun j=>if j=a.2 then k else ov j):
 mp k ws ov a.2/\a.1=ws a.2/\b<=a.1/\Two n k ws ov1 S2 M2 a.1/\(∀ t∈M,t.1<=2*b)/\(∀ t∈M2,t∈M):=by
 have h7:=h.sm;have h2:=h.mm
 have key:∀(S0 M0:List (Nat×Nat)) (_:∀t,t∈S↔t∈S0\/(t=a/\a∈S)) (_:∀t,t∈M↔t∈M0\/(t=a/\a∈M)) (_:S0.Pairwise Fst) (_:M0.Pairwise Fst) (_:a∈S\/a∈M) (_:∀t,t∈S0\/t∈M0->Fst a t),
  mp k ws ov a.2/\a.1=ws a.2/\b<=a.1/\Two n k ws ov1 S0 M0 a.1/\(∀ t∈M,t.1<=2*b)/\(∀ t∈M0,t∈M):=by
  intro S0 M0 hS hM hg hf ha hF
  have hb:a.2<k/\ov a.2=0/\a.1=ws a.2:=by
   rcases ha with ha|ha
   ·have:=h7 a ha
    exact⟨by omega,this.2.1,this.2.2⟩
   ·have:=h2 a ha
    exact⟨this.2.1,this.2.2.1,this.2.2.2⟩
  have he:∀t,t∈S0\/t∈M0->t.2≠a.2:=by
   intro t ht e
   have hc:=hF t ht
   have hl:t.1=ws t.2:=by
    rcases ht with ht|ht
    ·exact(h7 t ((hS t).2 (.inl ht))).2.2
    ·exact(h2 t ((hM t).2 (.inl ht))).2.2.2
   unfold Fst at hc
   rw[hl,hb.2.2,e]at hc
   omega
  refine⟨⟨hb.1,hb.2.1,fun i hi h0 hia=> ?_⟩,hb.2.2,?_,⟨?_,?_,hg,?_,?_,hf,?_,?_⟩,h.top,fun t ht=>(hM t).2 (.inl ht)⟩
  ·have h3:(ws i,i)∈S0\/(ws i,i)∈M0:=by
    rcases qz h hi h0 with h4|h4
    ·rcases(hS _).1 h4 with h5|h5
     ·exact .inl h5
     ·exact absurd (congrArg Prod.snd h5.1) hia
    ·rcases(hM _).1 h4 with h5|h5
     ·exact .inr h5
     ·exact absurd (congrArg Prod.snd h5.1) hia
   have h6:=hF _ h3
   unfold Fst at h6
   rw[hb.2.2]at h6
   exact h6
  ·exact h.low a ha
  ·intro t ht
   have h3:=h7 t ((hS t).2 (.inl ht))
   refine⟨h3.1,?_,h3.2.2⟩
   rw[h1]
   simp[he t (.inl ht),h3.2.1]
  ·intro i hi h0
   rw[h1]at h0
   by_cases e:i=a.2
   ·simp[e]at h0
    exact absurd h0 hk
   ·simp[e]at h0
    rcases(hS _).1 (h.sa i hi h0)with h5|h5
    ·exact h5
    ·exact absurd (congrArg Prod.snd h5.1) e
  ·intro t ht
   have h3:=h2 t ((hM t).2 (.inl ht))
   refine⟨h3.1,h3.2.1,?_,h3.2.2.2⟩
   rw[h1]
   simp[he t (.inr ht),h3.2.2.1]
  ·intro i hi hh h0
   rw[h1]at h0
   by_cases e:i=a.2
   ·simp[e]at h0
    exact absurd h0 hk
   ·simp[e]at h0
    rcases(hM _).1 (h.ma i hi hh h0)with h5|h5
    ·exact h5
    ·exact absurd (congrArg Prod.snd h5.1) e
  ·intro t ht
   have:=hF t ht
   unfold Fst at this
   omega
  ·intro t ht
   have h3:=h.top t ((hM t).2 (.inl ht))
   have h4:=h.low a ha
   omega
 match S,M,h,hp,h7,h2,key with
 | [], [],h,hp,_,_,_=>exfalso;rcases qz h hj h0 with h5|h5 <;>exact absurd h5 aw
 | s::S, [],h,hp,h7,h2,key=>
  simp only[lq,Ps]at hp;obtain⟨rfl,rfl,rfl⟩:=hp;have h9:=List.pairwise_cons.1 h.so;refine key S [] (fun t=> ?_) (fun t=> ?_) h9.2 List.Pairwise.nil (.inl Nh) (fun t ht=> ?_)
  ·rw[PA];constructor
   ·rintro(rfl|h3);·exact .inr ⟨rfl,Nh⟩
    ·exact .inl h3
   ·rintro(h3|h3);·exact .inr h3
    ·exact .inl h3.1
  ·simp
  ·rcases ht with ht|ht;·exact h9.1 t ht
   ·exact absurd ht aw
 | [],m::M,h,hp,h7,h2,key=>
  simp only[lq,Ps]at hp;obtain⟨rfl,rfl,rfl⟩:=hp;have h8:=List.pairwise_cons.1 h.mo;refine key [] M (fun t=> ?_) (fun t=> ?_) List.Pairwise.nil h8.2 (.inr Nh) (fun t ht=> ?_);·simp
  ·rw[PA];constructor
   ·rintro(rfl|h3);·exact .inr ⟨rfl,Nh⟩
    ·exact .inl h3
   ·rintro(h3|h3);·exact .inr h3
    ·exact .inl h3.1
  ·rcases ht with ht|ht;·exact absurd ht aw
   ·exact h8.1 t ht
 | s::S,m::M,h,hp,h7,h2,key=>
  have h9:=List.pairwise_cons.1 h.so;have h8:=List.pairwise_cons.1 h.mo;have ho:=h7 s Nh;have hm:=h2 m Nh;simp only[lq]at hp;by_cases e:m.1<s.1\/(m.1=s.1/\m.2<s.2)
  ·rw[Nf e]at hp;simp only[Ps]at hp;obtain⟨rfl,rfl,rfl⟩:=hp;refine key (s::S) M (fun t=> ?_) (fun t=> ?_) h.so h8.2 (.inr Nh) (fun t ht=> ?_)
   ·constructor;·exact .inl
    ·rintro(h3|⟨rfl,h3⟩);·exact h3
     ·exact h3
   ·rw[PA];constructor
    ·rintro(rfl|h3);·exact .inr ⟨rfl,Nh⟩
     ·exact .inl h3
    ·rintro(h3|h3);·exact .inr h3
     ·exact .inl h3.1
   ·rcases ht with ht|ht
    ·rcases List.mem_cons.1 ht with rfl|ht;·exact e
     ·exact Fst.trans e (h9.1 t ht)
    ·exact h8.1 t ht
  ·rw[Nd e]at hp;simp only[Ps]at hp;obtain⟨rfl,rfl,rfl⟩:=hp;have e2:Fst s m:=wG (x:=m) (y:=s) e (by omega);refine key S (m::M) (fun t=> ?_) (fun t=> ?_) h9.2 h.mo (.inl Nh) (fun t ht=> ?_)
   ·rw[PA];constructor
    ·rintro(rfl|h3);·exact .inr ⟨rfl,Nh⟩
     ·exact .inl h3
    ·rintro(h3|h3);·exact .inr h3
     ·exact .inl h3.1
   ·constructor;·exact .inl
    ·rintro(h3|⟨rfl,h3⟩);·exact h3
     ·exact h3
   ·rcases ht with ht|ht;·exact h9.1 t ht
    ·rcases List.mem_cons.1 ht with rfl|ht;·exact e2
     ·exact Fst.trans e2 (h8.1 t ht)
theorem Ih{n k:Nat}{ws ov ov1 ov2:Nat->Nat}{S M S1 M1 S2 M2:List (Nat×Nat)}{b:Nat}{w:List Nat}{act:List Tr}{len:Nat->Nat}(g:kr n w k ws ov act len)(h:Two n k ws ov S M b)(hc:k+1<2*n)
 {x y:Nat×Nat} (hp:lq S M=(x,S1,M1)) (hq:lq S1 M1=(y,S2,M2)) (h1:ov1=fun j=>if j=x.2 then k else ov j) (h2:ov2=fun j=>if j=y.2 then k else if j=x.2 then k else ov j):
 (∃ act2 len2,kr n w (k+1) (fun j=>if j=k then x.1+y.1 else ws j) ov2 act2 len2)/\Two n (k+1) (fun j=>if j=k then x.1+y.1 else ws j) ov2 S2 (M2++ [(x.1+y.1,k)]) y.1/\x.2<k/\y.2<k/\x.2≠y.2/\x.1+y.1<=w.sum:=by
 have hk:k≠0:=by have:=g.pos;have:=g.ge;omega
 obtain⟨p,q,h7,hh,hm,h6,hf⟩:=qX g hc;obtain⟨l1,e1,b1,t1,u1,v1⟩:=vr h g.ge hk h7 h6 hp h1;obtain⟨j,hb,ha⟩:∃j,j<k/\ov1 j=0:=by
  by_cases e:p=x.2;·exact⟨q,hh,by rw[h1];simp[hf,show q≠x.2 by omega]⟩
  ·exact⟨p,h7,by rw[h1];simp[h6,e]⟩
 have h8:ov2=fun j=>if j=y.2 then k else ov1 j:=by rw[h2,h1]
 obtain⟨l2,e2,b2,t2,u2,v2⟩:=vr t1 g.ge hk hb ha hq h8;have h5:x.2≠y.2:=by intro e;have:=l2.2.1;rw[h1,<-e]at this;simp at this;exact hk this
 have hj:ov y.2=0:=by have:=l2.2.1;rw[h1]at this;simp[Ne.symm h5]at this;exact this
 have hg:=ua g l1 h1 l2 h2;rw[<- e1,<-e2]at hg;refine⟨hg,?_,l1.1,l2.1,h5,?_⟩
 ·have he:ov2 k=0:=by
   have:ov k=0:=by
    by_cases e:ov k=0;·exact e
    ·have:=g.par k e;omega
   rw[h2];have h3:=l1.1;have h4:=l2.1;simp[show k≠x.2 by omega,show k≠y.2 by omega,this]
  have h9:=g.ge;refine⟨?_,?_,t2.so,?_,?_,?_,?_,?_⟩;·intro t ht;have h3:=t2.sm t ht;refine⟨h3.1,h3.2.1,?_⟩;rw[Nd];exact h3.2.2
  ·intro i hi h0;rw[Nd];exact t2.sa i hi h0
  ·intro t ht;rcases List.mem_append.1 ht with ht|ht;·have h3:=t2.mm t ht;refine⟨h3.1,by omega,h3.2.2.1,?_⟩;rw[Nd];exact h3.2.2.2
   ·rw[Og]at ht;subst ht;refine⟨h9,PP k,he,?_⟩;simp
  ·intro i hi hl h0;by_cases e:i=k;·subst e;simp
   ·rw[Nd e];exact Pv _ (t2.ma i hi (by omega) h0)
  ·refine List.pairwise_append.2 ⟨t2.mo,List.pairwise_singleton _ _,fun t ht u hu=> ?_⟩;rw[Og]at hu;subst hu;have h3:=t2.mm t ht;have h4:t.1<=2*b:=u1 t (v1 t (v2 t ht));show t.1<x.1+y.1\/(t.1=x.1+y.1/\t.2<k);omega
  ·intro t ht;rcases ht with ht|ht;·exact t2.low t (.inl ht)
   ·rcases List.mem_append.1 ht with ht|ht;·exact t2.low t (.inr ht)
    ·rw[Og]at ht;subst ht;show y.1<=x.1+y.1;omega
  ·intro t ht;rcases List.mem_append.1 ht with ht|ht;·exact t2.top t ht
   ·rw[Og]at ht;subst ht;show x.1+y.1<=2*y.1;omega
 ·rw[e1,e2];exact rQ g l1.1 l2.1 h5 l1.2.1 hj
theorem Ii(w:List Nat)(S:List (Nat×Nat))(hp:S.Perm ((List.range w.length).map fun i=>(w.getD i 0,i)))(hs:S.Pairwise Fst):Two w.length w.length (fun j=>w.getD j 0) (fun _=>0) S [] 0:=by
 refine⟨?_,?_,hs,?_,?_,List.Pairwise.nil,?_,?_⟩;·intro t ht;obtain⟨i,hi,rfl⟩:=List.mem_map.1 (hp.mem_iff.1 ht);exact⟨List.mem_range.1 hi,rfl,rfl⟩
 ·intro j hj _;exact hp.mem_iff.2 (List.mem_map.2 ⟨j,List.mem_range.2 hj,rfl⟩)
 ·intro t ht;exact absurd ht aw
 ·intro j h1 h2;omega
 ·intro t _;exact Ng _
 ·intro t ht;exact absurd ht aw
theorem BW{ov:Nat->Nat}{i r d:Nat}(h:Up ov (ov i) r d)(h0:ov i≠0):Up ov i r (d+1):=by
 obtain⟨j,hj⟩:∃j,j=ov i:=⟨_,rfl⟩;rw[<- hj]at h
 induction h with
 | here=>subst hj;exact .next (.here i) h0
 | next h h1 ih=>exact .next ih h1
theorem ML{ov:Nat->Nat}(hp:∀j,ov j≠0->j<ov j){i r d:Nat}(h:Up ov i r d):i+d<=r:=by
 induction h with
 | here=>exact Nk _
 | next h h0 ih=>have:=hp _ h0;omega
theorem FP{n:Nat}{w:List Nat}{ws ov:Nat->Nat}{act:List Tr}{len:Nat->Nat}(g:kr n w (2*n-1) ws ov act len):
 ∃dd:Nat->Nat,dd (2*n-2)=0/\(∀ j,j<2*n-2->j<ov j/\ov j<=2*n-2/\dd j=dd (ov j)+1)/\(∀ j,dd j<=2*n)/\lH w len/\∀i,i<n->len i=dd i:=by
 have hn:=g.pos;obtain⟨hl,hu⟩:=wK g (by omega);have h3:ov (2*n-2)=0:=by
  by_cases e:ov (2*n-2)=0;·exact e
  ·have:=g.par _ e;omega
 have h5:∀j,j<2*n-2->ov j≠0:=by
  intro j hj h0;have hc:=g.count;obtain⟨t,ht,h8⟩:=g.all j (by omega) h0;obtain⟨u,h6,h9⟩:=g.all (2*n-2) (by omega) h3;have h1:act.length=1:=by omega
  match act,h1,ht,h6 with
  | [z],_,ht,h6=>have e1:=List.mem_singleton.1 ht;have e2:=List.mem_singleton.1 h6;rw[e1]at h8;rw[e2]at h9;omega
 have h7:∀q,q<=2*n-2->∃d,Up ov (2*n-2-q) (2*n-2) d:=by
  intro q
  induction q using Nat.strongRecOn with
  | _ q ih=>
   intro hq;by_cases e:q=0;·subst e;exact⟨0,.here _⟩
   ·have h0:=h5 (2*n-2-q) (by omega);have h1:=g.par _ h0;obtain⟨d,hd⟩:=ih (2*n-2-ov (2*n-2-q)) (by omega) (by omega);rw[show 2*n-2-(2*n-2-ov (2*n-2-q))=ov (2*n-2-q) by omega]at hd;exact⟨d+1,BW hd h0⟩
 have h4:∀j,∃d,d<=2*n/\(j<=2*n-2->Up ov j (2*n-2) d):=by
  intro j;by_cases e:j<=2*n-2;·obtain⟨d,hd⟩:=h7 (2*n-2-j) (by omega);rw[show 2*n-2-(2*n-2-j)=j by omega]at hd;have:=ML (fun j h=>(g.par j h).1) hd;exact⟨d,by omega,fun _=>hd⟩
  ·exact⟨0,by omega,fun h=>absurd h e⟩
 refine⟨fun j=>(h4 j).choose,?_,?_,fun j=>(h4 j).choose_spec.1,hl,?_⟩;·exact((h4 (2*n-2)).choose_spec.2 (ag _)).ends h3 (.here _) h3
 ·intro j hj;have h0:=h5 j hj;have h1:=g.par j h0;refine⟨h1.1,by omega,?_⟩;exact((h4 j).choose_spec.2 (by omega)).ends h3 (BW ((h4 (ov j)).choose_spec.2 (by omega)) h0) h3
 ·intro i hi;obtain⟨r,h1,h2⟩:=hu i hi;exact h1.ends h2 ((h4 i).choose_spec.2 (by omega)) h3
def lG(x y:Nat×Nat):Prop:=y.1<x.1\/(x.1=y.1/\x.2<y.2)
instance (x y:Nat×Nat):Decidable (lG x y):=by unfold lG;infer_instance
theorem rK:∀(S:List (Nat×Nat)),S.Pairwise lG->∀i x,S[i]? =some x->S.countP (fun y=>decide (lG y x))=i
 | [],_,i,x,h=>by simp at h
 | y::S,h,i,x,hx=>by
  obtain⟨h1,h2⟩:=List.pairwise_cons.1 h;rw[Qe]
  match i,hx with
  | 0,hx=>simp at hx;subst hx;have h3:S.countP (fun z=>decide (lG z y))=0:=(by rw[List.countP_eq_zero];intro z hz;have:=h1 z hz;simp only[PF];unfold lG at*;omega);rw[h3];have:¬lG y y:=(by unfold lG;omega);simp[this]
  | i+1,hx=>simp at hx;have h3:=rK S h2 i x hx;have h4:lG y x:=h1 x (PV hx);rw[h3];simp[h4]
theorem Bj(w:List Nat)(S:List (Nat×Nat))(hp:S.Perm ((List.range w.length).map fun i=>(w.getD i 0,i)))(hs:S.Pairwise lG)(i:Nat)(x:Nat×Nat)(hx:S[i]? =some x):x.2<w.length/\eD w x.2=i:=by obtain⟨j,hj,rfl⟩:=List.mem_map.1 (hp.mem_iff.1 (PV hx));refine⟨List.mem_range.1 hj,?_⟩;have h1:=rK S hs i _ hx;rw[hp.countP_eq,List.countP_map]at h1;unfold eD;rw[<- h1];refine List.countP_congr fun q _=> ?_;simp only[Function.comp,lG]
def qC(w:World)(n:Nat)(f:Nat->Nat)(e:Ending)(w':World):Prop:=
 ∃g c,e=.returned (.slice (some ⟨g,0,none⟩) n c)/\az w' w.heap.size g c n f/\Below w.heap.size w w'
theorem nF(w:World)(A:Option Addr)(n c:Nat)(L:List Int)(hL:ZIn w A n L)(hv:∀x∈L,0<=x)(h1:1<=n)(hn:n<=1000000):
 Calls prog 90 #[.slice A n c] w (qC w n fun j=>(L.getD j 0).toNat):=by have ha:=hL.1;obtain⟨b,off,rfl,_⟩:=hL.2 (by omega);have h9:=dN hL hv;have h0:(w.alloc (.cells #[] 3)).ownsRow w.heap.size 3 1 (.slice (some ⟨w.heap.size,0,none⟩) 0 0) 0 []:=OM w #[] 0 (ag _) (Ng _) rfl;have h3:Below w.heap.size w (w.alloc (.cells #[] 3)):=(Nj _ w).alloc (ag _) _;obtain⟨v3,w3,h4,h2,h8⟩:=bB (w.alloc (.cells #[] 3)) w.heap.size _ 0 [] h0 (some ⟨b,off,none⟩) n c _ (cF h9 h3) (by omega) (by simp);have h6:Below w.heap.size w w3:=h3.grown h8 (by simp) (fun k hk=>(h0.lt k hk).1);obtain⟨A3,cA,rfl,hc,_,h5⟩:=ai h2;obtain⟨gA,rfl⟩:=h5 (by omega);rw[N8]at h2 h4;have h7:az w3 w.heap.size gA cA n (fun j=>(L.getD j 0).toNat):=(by have:=h2;rw[Ok,rm,Nu,ha]at this;(have e:cN n (fun j=>(L.map Int.toNat).getD j 0)=cN n (fun j=>(L.getD j 0).toNat):=cw n _ _ fun j hj=>by show(L.map Int.toNat).getD j 0=(L.getD j 0).toNat;rw[Na,Na,Np,Nc (by omega)];rfl);rw[e]at this;exact this);have q4:∀w1:World,(binOp .eql 37 (.slice (some ⟨b,off,none⟩) n c) (.slice none 0 0)).run prog w1=.ok (.bool false) w1:=fun w1=>Lib.run_eql_slice_nil w1 _ _ (some ⟨b,off,none⟩) n c 0 0 underlying37;have F:Hid (qC w n (fun j=>(L.getD j 0).toNat) (.returned (.slice (some ⟨gA,0,none⟩) n cA)) w3):=aa ⟨gA,cA,rfl,h7,h6⟩;have hb:=aa h4;generalize qC w n (fun j=>(L.getD j 0).toNat)=PO at*;clear hL ha h9 h0 h3 h4 h2 h8 h6 h5 hc h7;go_enter func90,ntmps90;(go_wp2_with (at_builtin;refine Lib.wpList_append_run _ rfl (.tmp 5) (.tmp 6) 37 37 rfl (.slice (some ⟨w.heap.size,0,none⟩) 0 0) (.slice (some ⟨b,off,none⟩) n c) rfl rfl _ w3 hb.out ?_));exact F.out
theorem rL(w:World)(A:Option Addr)(n c:Nat)(L:List Int)(hL:ZIn w A n L)(hv:∀x∈L,0<=x)(h1:1<=n)(hn:n<=1000000):
 Calls prog 144 #[.slice A n c] w (qC w n (rg L)):=by
 have HC:=aa (nF w A n c L hL hv h1 hn);obtain⟨f0,h5⟩:∃f0:Nat->Nat,f0=fun j=>(L.getD j 0).toNat:=⟨_,rfl⟩;rw[<- h5]at HC;have HW:Hid (∀ j,rg L j=max (f0 j) 1):=aa fun j=>by rw[h5];rfl
 have hP:Hid (∀ g c w',az w' w.heap.size g c n (rg L)->Below w.heap.size w w'->qC w n (rg L) (.returned (.slice (some ⟨g,0,none⟩) n c)) w'):=aa fun g c w' h2 h3=>⟨g,c,rfl,h2,h3⟩;generalize qC w n (rg L)=PO at*;generalize rg L=F1 at*;clear hL h5 hv;go_enter func144,ntmps144;go_wp2_with fail;refine HC.out.mono ?_;rintro e w3 ⟨gA,cA,rfl,hf,hb⟩;have h7:=aa hf;have h6:=aa hb;clear hf hb HC;go_wp2_with fail;go_loopw [4,5,10] (fun s4 s5 x wx=>∃i:Nat,i<=n/\x=.int .i64 i/\az wx w.heap.size gA cA n (fun j=>if j<i then F1 j else f0 j)/\Below w.heap.size w wx) (fun _ _ x _=>n-(intOf x).toNat)
 case atStart=>refine⟨0,Ng _,rfl,?_,h6.out⟩;have e0:(fun j=>if j<0 then F1 j else f0 j)=f0:=(by funext j;rw[Nd]);rw[e0];exact h7.out
 case round=>
  obtain⟨i,hi,rfl,hf,hb⟩:=hrel;by_cases e:i<n
  ·have hh:(0:Int)<=(i:Int):=(by omega);have ci:=hf.cell i e;have fi:=hf.frozen i;rw[Nd]at ci;have hg:=hf.lt;obtain⟨x,hx⟩:∃x,x=f0 i:=⟨_,rfl⟩;rw[<- hx]at ci;have h9:∀m:Nat,m=max x 1->(fun j=>if j=i then m else if j<i then F1 j else f0 j)=fun j=>if j<i+1 then F1 j else f0 j:=by
    intro m hm;funext j;by_cases ej:j=i;·rw[Nf ej,Nf,ej,hm,HW.out,hx]
    ·rw[Nd ej];by_cases ej2:j<i;·rw[Nf ej2,Nf]
     ·rw[Nd ej2,Nd]
   have h8:=aa h9;have HF:=aa hf;have HB:=aa hb;have ha:w.heap.size<=gA:=hg.1;clear hf hb h9 hx hg;by_cases h0:1<x
   ·have hs:=HF.out.set i x;rw[h8.out x (by omega)]at hs;have HS:=aa hs;have h4:=aa (HB.out.setCell (p:=⟨gA,i,none⟩) ha (.int .i64 (x:Int)));have he:(1:Int)<(x:Int):=(by omega);clear hs;go_wp2_with fail;go_roundw;case rel=>exact⟨i+1,by omega,by go_num,HS.out,h4.out⟩
    case measure=>simp[intOf];omega
   ·have hs:=HF.out.set i 1;rw[h8.out 1 (by omega)]at hs;have HS:=aa hs;have h4:=aa (HB.out.setCell (p:=⟨gA,i,none⟩) ha (.int .i64 ((1:Nat):Int)));have he:¬(1:Int)<(x:Int):=(by omega);clear hs;go_wp2_with fail;go_roundw;case rel=>exact⟨i+1,by omega,by go_num,HS.out,h4.out⟩
    case measure=>simp[intOf];omega
  ·obtain rfl:i=n:=(by omega);have h3:wr.ownsRow w.heap.size 3 1 (.slice (some ⟨gA,0,none⟩) i cA) i (cN i fun j=>if j<i then F1 j else f0 j):=hf;rw[cw i _ F1 fun j hj=>Nf hj]at h3;have hc:=aa (hP.out gA cA wr h3 hb);clear hf hb h3 hP h7 h6;go_wp2_with fail;exact hc.out
theorem Gd(w:World)(B g c n:Nat)(f:Nat->Nat)(hf:az w B g c n f)(h4:∀j,j<n->f j<=1073741824)(hn:n<=1000000):
 Calls prog 183 #[.slice (some ⟨g,0,none⟩) n c] w fun e w'=>e=.returned (.tuple #[])/\az w' B g c n (fun j=>f j/2+1)/\Below B w w':=by
 have h9:=aa hf;have hc:=aa h4;clear hf h4;go_enter func183,ntmps183;go_wp2_with fail;go_loopw [2,3,6] (fun s2 s3 x wx=>∃j:Nat,j<=n/\x=.int .i64 j/\az wx B g c n (fun a=>if a<j then f a/2+1 else f a)/\Below B w wx) (fun _ _ x _=>n-(intOf x).toNat)
 case atStart=>refine⟨0,Ng _,rfl,?_,Nj _ _⟩;have e0:(fun a=>if a<0 then f a/2+1 else f a)=f:=(by funext a;rw[Nd]);rw[e0];exact h9.out
 case round=>
  obtain⟨j,hj,rfl,h0,h1⟩:=hrel;by_cases e3:j<n
  ·have hh:(0:Int)<=(j:Int):=(by omega);have cj:=h0.cell j e3;have fj:=h0.frozen j;rw[Nd]at cj;have hg:=h0.lt;obtain⟨x,hx⟩:∃x,x=f j:=⟨_,rfl⟩;rw[<- hx]at cj;obtain⟨y,hy⟩:∃y,y=x/2:=⟨_,rfl⟩;obtain⟨y1,h6⟩:∃y1,y1=y+1:=⟨_,rfl⟩;have hl:(x:Int)/2=(y:Int):=(by omega);have hi:x<=1073741824:=(by rw[hx];exact hc.out j e3);have hk:y<=1073741824:=(by omega);have he:(y:Int)+1=(y1:Int):=(by omega);have hs:=h0.set j y1;have h5:(fun a=>if a=j then y1 else if a<j then f a/2+1 else f a)=fun a=>if a<j+1 then f a/2+1 else f a:=by
    funext a;by_cases ea:a=j;·rw[Nf ea,Nf,ea,h6,hy,hx]
    ·rw[Nd ea];by_cases ea2:a<j;·rw[Nf ea2,Nf]
     ·rw[Nd ea2,Nd]
   rw[h5]at hs;have HS:=aa hs;have h8:=aa (h1.setCell (p:=⟨g,j,none⟩) hg.1 (.int .i64 (y1:Nat)));clear h0 h1 hs h5 hx hy h6 hg;go_wp2_with fail;go_roundw;case rel=>exact⟨j+1,by omega,by go_num,HS.out,h8.out⟩
   case measure=>simp[intOf];omega
  ·obtain rfl:j=n:=(by omega);have h2:az wr B g c j (fun a=>f a/2+1):=(by have h3:wr.ownsRow B 3 1 (.slice (some ⟨g,0,none⟩) j c) j (cN j fun a=>if a<j then f a/2+1 else f a):=h0;rw[cw j _ (fun a=>f a/2+1) fun a ha=>Nf ha]at h3;exact h3);have hb:=aa h2;have h7:=aa h1;clear h0 h1 h2;go_wp2_with fail;(try simp only[Exit.inBlock,Exit.then]);(go_end0);exact⟨rfl,hb.out,h7.out⟩
