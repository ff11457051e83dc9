import Derived.Test.YtepokmggbfoakaaGreatDoorT19
import Derived.Test.YtepokmggbfoakaaGreatDoorT06
import Derived.Deep.RegionWith
import Derived.Laws.IdiomCopy
import Derived.Lib.BytesEntry
import Derived.Lib.AtoiErrMem
import Derived.Deep.Onto
set_option maxHeartbeats 1600000
set_option maxRecDepth 100000
namespace Go.Proofs.YtepokmggbfoakaaGreatDoor.S06
open _root_.Go.Proofs.Tryz
def ow(P:Nat->Bool)(f:Nat->Nat):Prop:=∀i,i<16->f i<65536/\∀k,k<16->(f i).testBit (15-k)=P (16*i+k)
def orF(f:Nat->Nat)(b:Nat):Nat->Nat:=fun i=>if i=b/16 then f (b/16) ||| 2^(15-b%16)else f i
theorem Kb:ow (fun _=>false) (fun _=>0):=fun _ _=>⟨Nat.zero_lt_succ _,fun _ _=>Q8 _⟩
theorem MG{f:Nat->Nat}(hf:∀i,i<16->f i<65536)(b:Nat):∀i,i<16->orF f b i<65536:=by
 intro i hi;unfold orF;split;·refine Nat.or_lt_two_pow (n:=16) (hf _ (by omega)) ?_;exact P9 (by decide) (by omega)
 ·exact hf i hi
theorem MJ{P:Nat->Bool}{f:Nat->Nat}(h:ow P f)(b:Nat):ow (fun x=>P x || x==b) (orF f b):=by
 intro i hi;refine⟨MG (fun j hj=>(h j hj).1) b i hi,fun k hk=> ?_⟩;unfold orF;by_cases e:i=b/16
 ·rw[Ng e,Nat.testBit_or,RZ,<-e,(h i hi).2 k hk];congr 1;by_cases e2:16*i+k=b;·have e3:15-b%16=15-k:=(by omega);rw[e3,e2];simp
  ·have e3:¬15-b%16=15-k:=(by omega);simp[e2,e3]
 ·rw[Nf e,(h i hi).2 k hk];have e2:¬16*i+k=b:=(by omega);simp[e2]
theorem qU(x n:Nat):(x &&& 2^n≠0)=(x.testBit n=true):=by
 rw[Pk,Qa];apply propext;constructor
 ·intro h;have:=Nat.testBit_two_pow_self (n:=n);by_cases e:x/2^n%2=1;·exact e
  ·exfalso;refine h (QA fun i=> ?_);rw[Nat.testBit_and,RZ,Q8];by_cases e2:n=i;·subst e2;rw[Pk];simp[e]
   ·simp[e2]
 ·intro h h0;have h1:(x &&& 2^n).testBit n=false:=(by rw[h0,Q8]);rw[Nat.testBit_and,Nat.testBit_two_pow_self,Pk,h]at h1;simp at h1
theorem Ih(x:Nat)(h:x<65536):x=0↔∀k,k<16->x.testBit (15-k)=false:=by
 constructor;·intro e k _;rw[e,Q8]
 ·intro hk;refine QA fun i=> ?_;rw[Q8];by_cases hi:i<16;·have:=hk (15-i) (by omega);rw[show 15-(15-i)=i by omega]at this;exact this
  ·exact Nat.testBit_lt_two_pow (OM h (by
    have:2^16<=2^i:=Oj (by decide) (by omega)
    exact this))
theorem Iw(x:Nat)(g:Nat->Nat)(h:∀k,k<16->g k=if x.testBit (15-k)then 1 else 0):ag x 16=(List.range 16).map g:=by
 apply Oa;intro i;by_cases hi:i<16;·rw[mZ 16 x i hi,Np,NN hi,Oy,h i hi,show 16-1-i=15-i by omega,Pk];have:=Nat.mod_two_eq_zero_or_one (x/2^(15-i));rcases this with e|e <;>simp[e]
 ·rw[Ny (by rw[af];omega),Ny (by simp;omega)]
def mN(x i:Nat):List UInt8:=((List.range 16).filter fun k=>x.testBit (15-k)).map fun k=>UInt8.ofNat (16*i+k)
def pr(f:Nat->Nat):List UInt8:=(List.range 16).flatMap fun i=>mN (f i) i
def fI(f:Nat->Nat)(q:Nat):List UInt8:=((List.range q).filter fun b=>(f (b/16)).testBit (15-b%16)).map UInt8.ofNat
theorem wR(f:Nat->Nat)(q:Nat):fI f (q+1)=if(f (q/16)).testBit (15-q%16)then fI f q++ [UInt8.ofNat q]else fI f q:=by
 unfold fI;rw[Oi,PX,NF];by_cases e:(f (q/16)).testBit (15-q%16)=true;·simp[e]
 ·simp[e]
theorem AW(f:Nat->Nat)(n:Nat):∀m,m<=16->fI f (16*n+m)=fI f (16*n)++((List.range m).filter fun k=>(f n).testBit (15-k)).map fun k=>UInt8.ofNat (16*n+k)
 | 0,_=>by simp
 | m+1,h=>by
  rw[<- OL,wR,AW f n m (by omega),Oi,PX,NF,show(16*n+m)/16=n by omega,show(16*n+m)%16=m by omega];by_cases e:(f n).testBit (15-m)=true;·simp[e]
  ·simp[e]
theorem wS(f:Nat->Nat):∀n,fI f (16*n)=(List.range n).flatMap fun i=>mN (f i) i
 | 0=>rfl
 | n+1=>by rw[Nat.mul_succ,AW f n 16 (ah _),wS f n,Oi (n:=n),OO];simp[mN]
theorem AU(f:Nat->Nat):fI f 256=pr f:=wS f 16
theorem AV(f:Nat->Nat)(q:Nat):(fI f q).length<=q:=by unfold fI;rw[NC];exact NH (Qu ..) (Ox NK)
theorem GY(s:List UInt8)(f:Nat->Nat)(h:ow (fun b=>decide (UInt8.ofNat b∈s)) f):pr f=ofL s:=by rw[<- AU];unfold fI ofL yS;rw[List.filter_map];congr 1;refine Rz fun b hb=> ?_;have hb:=List.mem_range.1 hb;rw[(h (b/16) (by omega)).2 (b%16) (by omega),show 16*(b/16)+b%16=b by omega];rfl
theorem Ka(s:List UInt8)(q:Nat)(hq:q<s.length)(f:Nat->Nat)(h:ow (fun b=>decide (UInt8.ofNat b∈s.take q)) f):
 ow (fun b=>decide (UInt8.ofNat b∈s.take (q+1))) (orF f (s.getD q 0).toNat):=by have h1:=MJ h (s.getD q 0).toNat;intro i hi;refine⟨(h1 i hi).1,fun k hk=> ?_⟩;rw[(h1 i hi).2 k hk];have e:s.getD q 0=s[q]:=(by rw[Nb,Nd hq];rfl);have e2:(16*i+k==s[q].toNat)=decide (UInt8.ofNat (16*i+k)=s[q]):=(by rw[Bool.beq_eq_decide_eq];refine decide_eq_decide.2 ⟨fun h=>by rw[h,QC],fun h=> ?_⟩;rw[<- h,Ot,NJ (by omega)]);rw[NI hq,e];show(decide (UInt8.ofNat (16*i+k)∈s.take q) || (16*i+k==s[q].toNat))=decide (UInt8.ofNat (16*i+k)∈s.take q++ [s[q]]);rw[e2,<-Bool.decide_or];refine decide_eq_decide.2 ?_;rw[List.mem_append,Ok]
def xx(f:Nat->Nat)(q u:Nat):Prop:=u<65536/\∀k,k<16->u.testBit (15-k)=(decide (k<q)&&decide (f k≠0))
theorem KN(f:Nat->Nat):xx f 0 0:=⟨by decide,fun k _=>by simp⟩
theorem L9{f:Nat->Nat}{q u:Nat}(h:xx f q u)(hq:q<16)(h0:f q≠0):xx f (q+1) (u ||| 2^(15-q)):=by
 refine⟨Nat.or_lt_two_pow (n:=16) h.1 (P9 (by decide) (by omega)),fun k hk=> ?_⟩;rw[Nat.testBit_or,RZ,h.2 k hk];by_cases e:k=q;·subst e;simp[h0]
 ·have e3:¬15-q=15-k:=(by omega);have e4:(decide (k<q+1))=decide (k<q):=decide_eq_decide.2 (by omega);rw[e4];simp[e3]
theorem MP{f:Nat->Nat}{q u:Nat}(h:xx f q u)(h0:f q=0):xx f (q+1) u:=by
 refine⟨h.1,fun k hk=> ?_⟩;rw[h.2 k hk];by_cases e:k=q;·subst e;simp[h0]
 ·have e4:(decide (k<q+1))=decide (k<q):=decide_eq_decide.2 (by omega);rw[e4]
theorem px{a:List UInt8}{f:Nat->Nat}(h:ow (fun b=>decide (UInt8.ofNat b∈a)) f){i:Nat}(hi:i<16):f i=0↔kz a i=0:=by
 rw[Ih (f i) (h i hi).1];unfold kz;constructor;·intro hk;rw[Nf];rw[List.any_eq_true];rintro⟨x,hx,h0⟩;have hd:x.toNat/16=i:=(by simpa using h0);have h3:=(h i hi).2 (x.toNat%16) (by omega);rw[hk (x.toNat%16) (by omega),show 16*i+x.toNat%16=x.toNat by omega]at h3;replace h3:false=decide (UInt8.ofNat x.toNat∈a):=h3;rw[QC]at h3;simp[hx]at h3
 ·intro hr k hk;rw[(h i hi).2 k hk,QG];intro hm;rw[Ng]at hr;·simp at hr
  ·rw[List.any_eq_true];refine⟨_,hm,?_⟩;rw[Ot,NJ (by omega),show(16*i+k)/16=i by omega];simp
theorem KM{a:List UInt8}{f:Nat->Nat}(h:ow (fun b=>decide (UInt8.ofNat b∈a)) f){u:Nat}(hu:xx f 16 u):ag u 16=(List.range 16).map (kz a):=by
 refine Iw u _ fun k hk=> ?_;rw[hu.2 k hk];by_cases e:f k=0;·rw[(px h hk).1 e];simp[e]
 ·have:¬kz a k=0:=fun h2=>e ((px h hk).2 h2);have e1:kz a k=1:=by rcases lG a k with h2|h2 <;>omega
  rw[e1];simp[hk,e]
theorem Kg{a:List UInt8}{f:Nat->Nat}(h:ow (fun b=>decide (UInt8.ofNat b∈a)) f){i:Nat}(hi:i<16)(h0:f i≠0):ag (f i) 16=bA a i:=by
 have e1:kz a i=1:=by have:¬kz a i=0:=fun h2=>h0 ((px h hi).2 h2);rcases lG a i with h2|h2 <;>omega
 unfold bA;rw[Ng e1];refine Iw _ _ fun k hk=> ?_;rw[(h i hi).2 k hk];unfold xF;simp only[Qa]
theorem vu{a:List UInt8}{f:Nat->Nat}(h:ow (fun b=>decide (UInt8.ofNat b∈a)) f){i:Nat}(hi:i<16)(h0:f i=0):bA a i= []:=by unfold bA;rw[Nf];rw[(px h hi).1 h0];decide
theorem sw(l:List Nat)(p k:Nat)(hb:am l)(hp:p+16<=l.length)(hk:k<16):(val ((l.drop p).take 16)).testBit (15-k)=(l.getD (p+k) 0==1):=by have h0:((l.drop p).take 16).length=16:=(by rw[Nz,Nq];omega);have h1:=fy ((l.drop p).take 16) ((hb.drop p).take 16);rw[h0]at h1;have h2:=mZ 16 (val ((l.drop p).take 16)) k hk;rw[h1,PY hk,Pa,Nd (by omega),On,show 16-1-k=15-k by omega]at h2;rw[Pk,<-h2,Nb,Nd (by omega)];rfl
theorem KO(l:List Nat)(p:Nat)(hb:am l)(hp:p+16<=l.length):val ((l.drop p).take 16)<65536:=by have h0:((l.drop p).take 16).length=16:=(by rw[Nz,Nq];omega);have:=fu ((l.drop p).take 16) ((hb.drop p).take 16);rw[h0]at this;exact this
theorem Ki(l:List Nat)(p i:Nat)(hb:am l)(hp:p+16<=l.length):mN (val ((l.drop p).take 16)) i=dR l p i:=by unfold mN dR;congr 1;refine Rz fun k hk=> ?_;exact sw l p k hb hp (List.mem_range.1 hk)
def sI(f:Nat->Nat)(q:Nat)(out:List UInt8):Prop:=(∀ i,f i<65536)/\(∀ i,q<=i->f i=0)/\out=(List.range q).flatMap fun i=>mN (f i) i
theorem Dw(i:Nat):mN 0 i= []:=by unfold mN;rw[List.filter_eq_nil_iff.2 (fun k _=>by simp)];rfl
theorem H6:sI (fun _=>0) 0 []:=⟨fun _=>Nat.zero_lt_succ _,fun _ _=>rfl,rfl⟩
theorem L6{f:Nat->Nat}{q:Nat}{out:List UInt8}(h:sI f q out):sI f (q+1) out:=by refine⟨h.1,fun i hi=>h.2.1 i (by omega),?_⟩;rw[Oi,OO,<-h.2.2];simp[h.2.1 q (ah _),Dw]
theorem KK{f:Nat->Nat}{q x:Nat}{out:List UInt8}(h:sI f q out)(hx:x<65536):sI (fun i=>if i=q then x else f i) (q+1) (out++mN x q):=by
 refine⟨fun i=> ?_,fun i hi=> ?_,?_⟩
 ·show(if i=q then x else f i)<65536;split;·exact hx
  ·exact h.1 i
 ·show(if i=q then x else f i)=0;rw[Nf (by omega)];exact h.2.1 i (by omega)
 ·rw[Oi,OO,h.2.2];have e:((List.range q).flatMap fun i=>mN (if i=q then x else f i) i)=(List.range q).flatMap fun i=>mN (f i) i:=(by rw[List.flatMap_def,List.flatMap_def];congr 1;refine Oc fun i hi=> ?_;have:=List.mem_range.1 hi;rw[Nf (by omega)]);rw[e];simp
theorem KJ{f:Nat->Nat}{out:List UInt8}(h:sI f 16 out):pr f=out:=h.2.2.symm
open Go.RowKit
def ix(f:Nat->Nat):Array Value:=(Array.range 16).map fun i=>.int .u64 (f i)
theorem pR(f:Nat->Nat):(ix f).size=16:=by simp[ix]
theorem E7:ix (fun _=>0)=Array.replicate 16 (.int .u64 0):=by
 apply Ro;·simp[ix]
 ·intro i h1 h2;simp[ix]
theorem ve:(∀ w,(zeroValue 138).run prog w=.ok (.agg (ix fun _=>0)) w)/\(prog.info? 138).map (·.size)=some 16:=by rw[E7];exact R2 (by kernel_rfl)
theorem yZ(f:Nat->Nat)(b x:Nat):(ix f).setIfInBounds b (.int .u64 x)=ix fun i=>if i=b then x else f i:=by
 apply Ro;·simp[ix]
 ·intro i h1 h2;rw[Qh (by simpa [ix]using h2)];by_cases e:b=i;·subst e;simp[ix]
  ·rw[Nf e];have e2:¬i=b:=fun h=>e h.symm;simp[ix,e2]
theorem yY(f:Nat->Nat):(ix f).all (·.oneCell')=true:=by rw[QS];intro i h;simp[ix,Value.oneCell']
theorem mf(f:Nat->Nat)(i:Nat)(h:i<16):(ix f)[i]? =some (.int .u64 (f i:Nat)):=by simp[ix,h]
theorem fT{P:Program}{ops:Array Oper}{rest:List Oper}{o:Oper}{a:Act}{w:World}{Q:Exit->Act->World->Prop}{ty t:TypeId}{p:Operand}{g n:Nat}{e:TypeId}{cs:Array Value}{fr:Nat×Nat}
 (hw:Region.wanted o (yielded ops a.tmps)=true) (h0:o.op=.load ty p) (hp:a.eval p=.pointer (some ⟨g,0,none⟩)) (hg:w.heap[g]? =some (.cells cs t fr)) (hu:P.underlying ty=some (.array n e)) (hi:(P.info? ty).map (·.size)=some cs.size)
 (hn:wpList P ops Q rest (a.put o.dst (.agg cs)) w):wpList P ops Q (o::rest) a w:=by unfold wpList;rw[Ng hw];exact .inl (kh h0 hp hg hu hi hn)
theorem il{P:Program}{ops:Array Oper}{rest:List Oper}{o:Oper}{a:Act}{w:World}{Q:Exit->Act->World->Prop}{x:Operand}
 (hw:Region.wanted o (yielded ops a.tmps)=true) (h0:o.op=.move x) (hn:wpList P ops Q rest (a.put o.dst (a.eval x)) w):wpList P ops Q (o::rest) a w:=by unfold wpList;rw[Ng hw];left;unfold Oper.wp;simp[execOp,h0];exact hn
theorem mD:∃i,prog.info? 64=some i/\i.size=1:=by
 have hs:(prog.info? 64).map (·.size)=some 1:=by kernel_rfl
 cases hq:prog.info? 64 with
 | none=>simp[hq]at hs
 | some i=>exact⟨i,rfl,by simpa [hq]using hs⟩
theorem uM(w:World)(cs:Array Value)(q c:Nat)(h:q<16)(hc:cs[q]? =some (.int .u64 c)):(Instr.index 138 (.agg cs) (.int .i64 q)).run prog w=.ok (.int .u64 c) w:=by obtain⟨i3,h3,h0⟩:=mD;have h1:(0:Int)<=(q:Int):=(by omega);have h4:¬16<=q:=(by omega);unfold Instr.index;simp[PH underlying138,go_sem,h1,sizeOf,typeInfo,h3,h0,part,hc,h4]
theorem r4(w:World)(k:Nat)(hk:k<16):Calls prog 143 #[.int .i64 k] w fun e w'=>e=.returned (.int .u64 ((2^(15-k):Nat):Int))/\w=w':=by have hi:∃i:Nat,i<16/\k=i:=⟨k,hk,rfl⟩;have h0:k=0\/k=1\/k=2\/k=3\/k=4\/k=5\/k=6\/k=7\/k=8\/k=9\/k=10\/k=11\/k=12\/k=13\/k=14\/k=15:=(by omega);clear hi;rcases h0 with rfl|rfl|rfl|rfl|rfl|rfl|rfl|rfl|rfl|rfl|rfl|rfl|rfl|rfl|rfl|rfl <;>(go_enter func143,ntmps143;go_wp2_with fail;go_ret;exact⟨rfl,rfl⟩)
theorem aM{w:World}{g k:Nat}{t:TypeId}{cs:Array Value}(h:Blk w g t cs)(h0:g≠k)(i:Nat)(u:Value):Blk (w.setCell ⟨k,i,none⟩ u) g t cs:=by show(w.setCell ⟨k,i,none⟩ u).heap[g]? =_;rw[OZ w ⟨k,i,none⟩ u g h0];exact h
theorem La(w:World)(a b:Array Value)(t:TypeId):Blk ((w.alloc (.cells a t)).alloc (.cells b t)) w.heap.size t a/\Blk ((w.alloc (.cells a t)).alloc (.cells b t)) (w.heap.size+1) t b:=by
 have e1:(w.alloc (.cells a t)).heap.size=w.heap.size+1:=by simp
 refine⟨?_,?_⟩;·show(World.alloc _ _).heap[_]? =_;rw[bH _ _ _ (by simp)];exact aj w t a
 ·rw[<- e1];exact aj _ t b
def xv(w:World)(s:List UInt8)(e:Ending)(w':World):Prop:=∃f,e=.returned (.agg (ix f))/\ow (fun b=>decide (UInt8.ofNat b∈s)) f/\Below w.heap.size w w'
theorem wW(w:World)(s:ByteArray)(hs:s.size<=1000000):Calls prog 90 #[.string s] w (xv w s.data.toList):=by
 obtain⟨hz,hi⟩:=ve;obtain⟨i50,hj,hl⟩:=mD;have HP:Hid (∀ f w',ow (fun b=>decide (UInt8.ofNat b∈s.data.toList)) f->Below w.heap.size w w'->xv w s.data.toList (.returned (.agg (ix f))) w'):=aa fun f w' h1 h2=>⟨f,rfl,h1,h2⟩;have HI:=aa hi;have HS:=aa pR;have he:=aa yZ;have HO:=aa yY;have HG:=aa mf;have ha:=aa r4;have ht:ow (fun b=>decide (UInt8.ofNat b∈s.data.toList.take 0)) (fun _=>0):=by simpa using Kb
 have hC:=aa ht;have hv:s.data.toList.length=s.size:=rfl;have ho:=aa hv;have hD:=aa (Ka s.data.toList);generalize xv w s.data.toList=PO at*;generalize ix=T at*;clear hi ht hv;go_enter func90,ntmps90;go_wp2;go_loopw [8] (fun i wx=>∃(q:Nat) (f:Nat->Nat),q<=s.size/\i=.int .i64 q/\Hid (ow (fun b=>decide (UInt8.ofNat b∈s.data.toList.take q)) f)/\Blk wx w.heap.size 138 (T fun _=>0)/\Blk wx (w.heap.size+1) 138 (T f)/\Below w.heap.size w wx) (fun i _=>s.size-(intOf i).toNat)
 case atStart=>obtain⟨h1,h2⟩:=La w (T fun _=>0) (T fun _=>0) 138;exact⟨0,_,Nh _,rfl,hC,h1,h2,((Nj _ w).alloc (ah _) _).alloc (by simp) _⟩
 case round=>
  obtain⟨q,f,hq,rfl,h3,hg,h4,hb⟩:=hrel;have H0:=aa hg;have H1:=aa h4;have HB:=aa hb;by_cases e:q<s.size
  ·have h6:=Pr s[q];have hp:=fz s q e;obtain⟨b,h8⟩:∃b,b=s[q].toNat:=⟨_,rfl⟩;rw[<- h8]at h6;obtain⟨d,hd⟩:∃d,d=b/16:=⟨_,rfl⟩;obtain⟨m,hm⟩:∃m,m=b%16:=⟨_,rfl⟩;have h7:d<16:=(by omega);have hk:m<16:=(by omega);have hJ:(0:Int)<=(d:Int):=(by omega);have hK:(d:Int)<16:=(by omega);have hO:IntKind.i64.wrap (d:Int)=(d:Int):=(by rw[Oe];omega);have hL:(b:Int)/16=(d:Int):=(by omega);have hF:(b:Int)%16=(m:Int):=(by omega);have hE:(b:Int).tmod 16=(m:Int):=(by rw[Q4 (by omega)];exact hF);have hc:=ac h4 d;have hf:=ae h4 d;rw[HG.out _ d h7]at hc;have hu:=h3.out d h7;obtain⟨c,h9⟩:∃c,c=f d:=⟨_,rfl⟩;rw[<- h9]at hc;have hI:c<65536:=(by rw[h9];exact hu.1);have hG:2^(15-m)<65536:=P9 (by decide) (show 15-m<16 by omega);have hr:=u64_or_nat c (2^(15-m)) (by omega) (by omega);obtain⟨y,hy⟩:∃y,y=c ||| 2^(15-m):=⟨_,rfl⟩;rw[<- hy]at hr;have h0:=fun w1:World=>ha.out w1 m hk;obtain⟨x,hx⟩:∃x,x=2^(15-m):=⟨_,rfl⟩;rw[<- hx]at hr;(replace h0:∀w1:World,Calls prog 143 #[.int .i64 m] w1 fun e w'=>e=.returned (.int .u64 (x:Int))/\w1=w':=by intro w1;rw[hx];exact h0 w1);have hM:s[q].toNat=b:=h8.symm;have hH:=HS.out f;have hB:=aa h9;have hA:=aa hp;have hw:=aa h8;have HD:=aa hd;have HM:=aa hm;have HY:=aa hy;have h5:=aa h0;clear hg h4 hb hp h8 hz hd hm h9 hy hx hu h0 hG;go_upto_region 6 with fail;(go_region_with (first|(go_at_call 143;(try rw[hE]);refine(h5.out _).mono ?_;rintro e w' ⟨rfl,rfl⟩)));(all_goals (go_wp2_with fail;go_roundw));case' rel=>skip
   all_goals first
    | (refine⟨q+1,orF f b,by omega,by go_num,?_,aM H0.out (by omega) _ _,?_,(HB.out.setCell (p:=⟨w.heap.size+1,d,none⟩) (by show _≤w.heap.size+1;omega) _).drew⟩
       ·have h1:=hD.out q (by rw[ho.out];omega) f h3.out
        rw[hA.out,<-hw.out]at h1
        exact h1
       ·have h1:=au H1.out d (.int .u64 (y:Nat))
        rw[he.out]at h1
        have e2:(fun i=>if i=d then y else f i)=orF f b:=by
         funext i
         unfold orF
         rw[HY.out,hB.out,HD.out,HM.out]
        rw[e2]at h1
        exact h1)
    | (simp [intOf];omega)
  ·obtain rfl:q=s.size:=(by omega);have hT:s.data.toList.take s.size=s.data.toList:=Nt (Ox ho.out);rw[hT]at h3;have hh:(prog.info? 138).map (·.size)=some (T f).size:=(by rw[HS.out];exact HI.out);have H1:=aa h4;have hn:=aa hh;have hN:=cE (P:=prog) H0.out hh (by rw[HS.out,HS.out]) (HO.out _);have hH:=HS.out f;clear hg h4 hb hT hh hz hj hl;go_upto_region 8 with fail;refine Qj (fT rfl rfl rfl H1.out underlying138 hn.out ?_);go_wp2_with fail;refine ND (v:=.agg (T f)) (i6 rfl rfl (QJ _ _ _ _ _ _ H0.out) underlying138 hn.out) rfl (HP.out f _ h3.out ?_);exact below_setRow HB.out (ah _) _
theorem o7{y:Nat}(h:y≠0):((y:Int)==0)=false:=by rw[NA];omega
theorem D9(w:World)(a:Array Value)(t:TypeId):Blk (w.alloc (.cells a t)) w.heap.size t a:=aj w t a
theorem jE(w:World)(f:Nat->Nat)(hf:∀i,i<16->f i<65536):Calls prog 91 #[.agg (ix f)] w fun e w'=>e=.returned (.string (bq (pr f)))/\Below w.heap.size w w':=by
 obtain⟨i50,hN,hY⟩:=mD;obtain⟨i5,h5,hT,hV,hW⟩:=NY Tryz.info5;have hj:=aa r4;have HF:=aa hf;have HG:=aa (mf f);rw[<- AU];have HN:=aa (wR f);have hJ:=aa (AV f);have h0:fI f 0= []:=rfl;have hC:=aa h0;generalize ix f=T at*;generalize hgr:fI f=R at*;clear hgr hf h0;go_enter func91,ntmps91;go_wp2_with fail;go_loopw [3,5] (fun out i wx=>∃(q:Nat),q<=256/\i=.int .i64 q/\wx.ownsRow w.heap.size 5 1 out (R q).length ((R q).map bv)/\Blk wx w.heap.size 138 T/\Below w.heap.size w wx) (fun _ i _=>256-(intOf i).toNat)
 case atStart=>refine⟨0,Nh _,rfl,?_,D9 _ _ _,(Nj _ w).alloc (ah _) _⟩;rw[hC.out];exact Ns _ _ _ _
 case round=>
  obtain⟨q,hq,rfl,h2,hh,hb⟩:=hrel;have H0:=aa hh;have HB:=aa hb;have hZ:=hb.size;have hO:=hJ.out q;obtain⟨A0,c0,rfl,hR,hP,hL⟩:=ak h2;clear hL;unfold maxLen at hP;by_cases e:q<256
  ·obtain⟨d,hd⟩:∃d,d=q/16:=⟨_,rfl⟩;obtain⟨m,hm⟩:∃m,m=q%16:=⟨_,rfl⟩;have ha:d<16:=(by omega);have ho:m<16:=(by omega);have H1:(0:Int)<=(d:Int):=(by omega);have H2:(d:Int)<16:=(by omega);have H5:IntKind.i64.wrap (d:Int)=(d:Int):=(by rw[Oe];omega);have H3:(q:Int)/16=(d:Int):=(by omega);have hQ:(q:Int)%16=(m:Int):=(by omega);have hB:(q:Int).tmod 16=(m:Int):=(by rw[Q4 (by omega)];exact hQ);have hc:=ac hh d;rw[HG.out d ha]at hc;have hi:=HN.out q;rw[<- hd,<-hm]at hi;have hM:f d<65536:=HF.out d ha;obtain⟨c,hz⟩:∃c,c=f d:=⟨_,rfl⟩;rw[<- hz]at hc hM hi;have hS:2^(15-m)<65536:=P9 (by decide) (show 15-m<16 by omega);have h9:=u64_and_nat c (2^(15-m)) (by omega) (by omega);obtain⟨y,hy⟩:∃y,y=c &&& 2^(15-m):=⟨_,rfl⟩;have h7:=qU c (15-m);rw[<- hy]at h9 h7;have h3:=fun w1:World=>hj.out w1 m ho;obtain⟨x,hx⟩:∃x,x=2^(15-m):=⟨_,rfl⟩;rw[<- hx]at h9;(replace h3:∀w1:World,Calls prog 143 #[.int .i64 m] w1 fun e w'=>e=.returned (.int .u64 (x:Int))/\w1=w':=by intro w1;rw[hx];exact h3 w1);have h4:=aa h3;have HO:=aa h2;have hr:=aa hi;have h8:=aa h7;clear hh hb hd hm hz hy hx h3 hS h2 hi h7;by_cases hp:y=0
   ·subst hp;have hg:¬c.testBit (15-m)=true:=(by rw[<- h8.out];exact fun h=>h rfl);have he:R (q+1)=R q:=(by rw[hr.out,Nf hg]);have hl:=aa he;clear he hg;go_upto_region 5 with fail;(go_region_with (first|(go_at_call 143;(try rw[hB]);refine(h4.out _).mono ?_;rintro e w' ⟨rfl,rfl⟩)));all_goals (go_wp2_with fail;go_roundw)
    all_goals first
     | (refine⟨q+1,by omega,by go_num,by rw[hl.out];exact HO.out,H0.out,HB.out.drew⟩)
     | (simp [intOf];omega)
   ·have hg:c.testBit (15-m)=true:=(by rw[<- h8.out];exact hp);have H4:=o7 hp;have he:R (q+1)=R q++ [UInt8.ofNat q]:=(by rw[hr.out,Ng hg]);have hl:=aa he;have hw:(UInt8.ofNat q).toNat=q:=(by rw[Ot,NJ e]);have hH:=aa hw;clear he hg hw;obtain⟨k,hk⟩:∃k,k=(R q).length:=⟨_,rfl⟩;obtain⟨X,hX⟩:∃X,X=(R q).map bv:=⟨_,rfl⟩;rw[<- hk]at hR hO;have HK:=aa hk;have HX:=aa hX;have hn:Hid (wr.drew.ownsRow w.heap.size 5 1 (.slice A0 k c0) k X):=aa (by rw[hX,hk];exact HO.out);rw[<- hk];clear hk hX HO;have H8:IntKind.u8.wrap (q:Int)=(q:Int):=(by rw[IntKind.wrap_u8'];omega);have ht:Blk wr.drew w.heap.size 138 T:=H0.out;have hE:=aa ht;have hI:=aa HB.out.drew;clear ht;go_upto_region 5 with fail;go_region_with (first|(go_at_call 143;(try rw[hB]);refine(h4.out _).mono ?_;rintro e w' ⟨rfl,rfl⟩))
    all_goals (
     go_wp2_with (at_builtin;refine Ob _ rfl _ _ 39 rfl w.heap.size 5 i5 (.int .u8 0) 1 1 underlying39 h5 hT hV hW rfl (by decide) _ _ _ rfl (hn.out.alloc _) ⟨wr.heap.size,0,none⟩ 1 1 [.int .u8 q] rfl rfl ?c1 ?c2 ?c3 ?c4 ?c5 ?_)
     case c1=>exact bn _ _ _
     case c2=>intro u hu;simp at hu;subst hu;rfl
     case c3=>unfold maxLen;omega
     case c4=>omega
     case c5=>simp;omega
     intro v4 w4 h6 h1 _
     have hv:Below w.heap.size w w4:=(hI.out.alloc hZ _).grown h1 (by simp;omega) (fun k hk=>(hn.out.lt k hk).1)
     have hs:Blk w4 w.heap.size 138 T:=pX hE.out hn.out (by decide) h1
     have hK:=aa h6
     have hG:=aa hv
     have hD:=aa hs
     clear h6 h1 hv hs
     go_wp2_with fail
     go_roundw
     case rel=>
      refine⟨q+1,by omega,by go_num,?_,hD.out,hG.out⟩
      rw[hl.out,Nc,<-HK.out,NF,<-HX.out]
      have:=hK.out
      rw[show [Value.int .u8 q]= [UInt8.ofNat q].map bv by simp[bv,hH.out]]at this
      exact this
     case measure=>simp[intOf];omega)
  ·obtain rfl:q=256:=(by omega);have hA:=lg h2;have hF:=aa hb;clear h2 hb hh H0 HB;go_wp2_with fail;go_ret;exact⟨rfl,hF.out⟩
def xy(w:World)(f:Nat->Nat)(e:Ending)(w':World):Prop:=∃u:Nat,xx f 16 u/\e=.returned (.int .u64 u)/\Below w.heap.size w w'
theorem Gk(w:World)(f:Nat->Nat)(_:∀i,i<16->f i<65536):Calls prog 101 #[.agg (ix f)] w (xy w f):=by
 obtain⟨i50,hf,hh⟩:=mD;have HP:Hid (∀ (u:Nat) (w':World),xx f 16 u->Below w.heap.size w w'->xy w f (.returned (.int .u64 u)) w'):=aa fun u w' h1 h2=>⟨u,h1,rfl,h2⟩;have h6:=aa r4;have HG:=aa (mf f);generalize xy w f=PO at*;generalize ix f=T at*;go_enter func101,ntmps101;go_wp2_with fail;go_loopw [3,5] (fun v i wx=>∃(q u:Nat),q<=16/\i=.int .i64 q/\v=.int .u64 u/\Hid (xx f q u)/\Blk wx w.heap.size 138 T/\Below w.heap.size w wx) (fun _ i _=>16-(intOf i).toNat)
 case atStart=>exact⟨0,0,Nh _,rfl,rfl,KN f,D9 _ _ _,(Nj _ w).alloc (ah _) _⟩
 case round=>
  obtain⟨q,u,hq,rfl,rfl,hu,h5,hb⟩:=hrel;have H0:=aa h5;have HB:=aa hb;by_cases e:q<16
  ·have hj:(0:Int)<=(q:Int):=(by omega);have hk:(q:Int)<16:=(by omega);have hc:=ac h5 q;rw[HG.out q e]at hc;obtain⟨c,h8⟩:∃c,c=f q:=⟨_,rfl⟩;rw[<- h8]at hc;have h9:=aa h8;clear h5 hb h8;by_cases h7:c=0
   ·subst h7;have h3:=MP hu.out (show f q=0 from h9.out.symm);have HU:=aa h3;clear h3;go_wp2_with fail;go_roundw;case rel=>exact⟨q+1,u,by omega,by go_num,rfl,HU,H0.out,HB.out⟩
    case measure=>simp[intOf];omega
   ·have hi:=o7 h7;have h3:=L9 hu.out e (show f q≠0 by rw[<- h9.out];exact h7);have hl:=hu.out.1;have hg:2^(15-q)<65536:=P9 (by decide) (show 15-q<16 by omega);have ha:=u64_or_nat u (2^(15-q)) (by omega) (by omega);obtain⟨y,hy⟩:∃y,y=u ||| 2^(15-q):=⟨_,rfl⟩;rw[<- hy]at ha h3;have h0:=fun w1:World=>h6.out w1 q e;obtain⟨x,hx⟩:∃x,x=2^(15-q):=⟨_,rfl⟩;rw[<- hx]at ha;(replace h0:∀w1:World,Calls prog 143 #[.int .i64 q] w1 fun e w'=>e=.returned (.int .u64 (x:Int))/\w1=w':=by intro w1;rw[hx];exact h0 w1);have h4:=aa h0;have HU:=aa h3;clear h3 h0 hy hx hg;(go_wp2_with (first|(go_at_call 143;refine(h4.out _).mono ?_;rintro e w' ⟨rfl,rfl⟩)));go_roundw;case rel=>exact⟨q+1,y,by omega,by go_num,rfl,HU,H0.out,HB.out⟩
    case measure=>simp[intOf];omega
  ·obtain rfl:q=16:=(by omega);have he:=aa hb;clear hb h5 H0 HB;go_wp2_with fail;exact HP.out u _ hu.out he.out
theorem Eg(w:World)(s:ByteArray)(hs:s.size<=1000000):Calls prog 46 #[.string s] w fun e w'=>e=.returned (.string (bq (ofL s.data.toList)))/\Below w.heap.size w w':=by have h2:=aa (wW w s hs);have h9:=aa jE;have h8:=aa (GY s.data.toList);go_enter func46,ntmps46;go_wp2_with fail;refine h2.out.mono ?_;rintro e w1 ⟨f,rfl,h0,h3⟩;have h4:=h9.out w1 f fun i hi=>(h0 i hi).1;rw[h8.out f h0]at h4;have h1:=aa h4;have h6:=aa h3;have ha:=h3.size;clear h4 h0 h3;generalize ix f=T at*;go_wp2_with fail;refine h1.out.mono ?_;rintro e w2 ⟨rfl,h5⟩;have h7:=aa (h6.out.trans (h5.mono ha));clear h5;go_wp2_with fail;go_ret;exact⟨rfl,h7.out⟩
theorem du(w:World)(s:ByteArray)(hs:s.size<=1000000):Calls prog 92 #[.string s] w fun e w'=>e=.returned (.bool (decide (fE s.data.toList)))/\Below w.heap.size w w':=by
 by_cases h0:s.size=0;·have hd:s=⟨#[]⟩:=(by apply QN;exact QI h0);subst hd;have e:decide (fE (⟨#[]⟩:ByteArray).data.toList)=false:=Nk (fun h=>h.1 rfl);rw[e];go_enter func92,ntmps92;go_wp2_with fail;go_ret;exact⟨rfl,Nj _ _⟩
 ·have h5:=kZ s (by omega);have h1:s.data.toList≠ []:=fun h=>by have h3:s.data.toList.length=s.size:=rfl;rw[h]at h3;simp at h3;omega
  have HA:=aa (Eg w s hs);have h4:(s.toList==(bq (ofL s.data.toList)).toList)=decide (fE s.data.toList):=by
   rw[Pi,Pi];show(s.data.toList==ofL s.data.toList)=_;by_cases h:ofL s.data.toList=s.data.toList;·rw[No ⟨h1,h⟩,h];simp
   ·rw[Nk (fun h2=>h h2.2)];simpa using fun h2=>h h2.symm
  clear h1;generalize decide (fE s.data.toList)=d at*;go_enter func92,ntmps92;go_wp2_with fail;refine HA.out.mono ?_;rintro e w1 ⟨rfl,hb⟩;have HB:=aa hb;clear hb;go_wp2_with fail;go_ret;exact⟨rfl,HB.out⟩
theorem we(w:World)(s:ByteArray)(p:Int)(hs:s.size<=2000000)(h:p<0\/8*(s.size:Int)<p):Calls prog 177 #[.string s,.int .i64 p] w (jl w ([],0,2)):=by have HN:=aa (kY w s p (by omega) h);clear h;go_enter func177,ntmps177;go_wp2_with fail;refine HN.out.mono ?_;rintro e w1 ⟨rfl,rfl⟩;go_wp2_with fail;go_ret3;exact⟨rfl,Nj _ _⟩
theorem zQ(w:World)(s:ByteArray)(p:Nat)(hs:s.size<=2000000)(h:p<=8*s.size)(h2:8*s.size<p+16):Calls prog 177 #[.string s,.int .i64 p] w (jl w ([],0,10)):=by have HN:=aa (fh w s p (by omega) (by omega) (by omega));have HR:=aa (iY w w.heap.size (ah _) s p);have HT:=aa fun w1 (hR:IsR w.heap.size w1 w.heap.size s p)=>dX w.heap.size w1 w.heap.size s p 16 hR (by omega) (by omega) h h2;have HB:=aa ((Nj w.heap.size w).alloc (ah _) (.cells #[.bool true,.string s,.int .i64 p] 120));clear h h2;go_enter func177,ntmps177;go_wp2_with fail;refine HN.out.mono ?_;rintro e w1 ⟨rfl,h0⟩;have h5:=aa (show IsR w.heap.size w1 w.heap.size s p by rw[h0];exact HR.out);have h3:=aa (show Below w.heap.size w w1 by rw[h0];exact HB.out);clear h0 HR HB;have h6:=aa (HT.out w1 h5.out);clear HT;go_wp2_with fail;refine h6.out.mono ?_;rintro e w2 ⟨rfl,h7,h1⟩;have h4:=aa (h3.out.trans h1.below);clear h7 h1;go_wp2_with fail;go_ret3;exact⟨rfl,h4.out⟩
theorem qc(w:World)(s:ByteArray)(p:Nat)(hs:s.size<=2000000)(h2:p+16<=8*s.size):Calls prog 177 #[.string s,.int .i64 p] w (jl w (dQ (ai s.data.toList) p)):=by
 obtain⟨hz,hi⟩:=ve;obtain⟨i50,hY,H3⟩:=mD;obtain⟨l,hl⟩:∃l,l=ai s.data.toList:=⟨_,rfl⟩;have HU:l.length=8*s.size:=by rw[hl,aq];rfl
 have hA:am l:=by rw[hl];exact aG _
 obtain⟨fl,hI⟩:∃fl:Nat->Nat,fl=fun i=>l.getD (p+i) 0:=⟨_,rfl⟩;obtain⟨G,hG⟩:∃G,G=goT l fl (List.range 16) (p+16) []:=⟨_,rfl⟩;have h5:dQ l p=Mz G:=by rw[hG,hI,xh l p (by omega)]
 obtain⟨u,hu⟩:∃u,u=val ((l.drop p).take 16):=⟨_,rfl⟩;have hm:∀i,i<16->u.testBit (15-i)=(fl i==1):=fun i hi=>by rw[hu,hI];exact sw l p i hA (by omega) hi
 have ps:u<65536:=by rw[hu];exact KO l p hA (by omega)
 have hj:∀i,i<16->fl i=0\/fl i=1:=fun i hi=>by have:fl i<2:=(by rw[hI];show l.getD (p+i) 0<2;rw[Nb,Nd (by omega)];exact hA _ (NL _));omega
 have HN:=aa (fh w s p (by omega) (by omega) (by omega));have HR:=aa (iY w w.heap.size (ah _) s p);have HT:=aa fun w1 (hR:IsR w.heap.size w1 w.heap.size s p)=>fS w.heap.size w1 w.heap.size s p 16 hR (by omega) (by omega) h2;rw[<- hl,<-hu]at HT;have HJ:=aa fun(w1:World) (P:Nat) (hR:IsR w.heap.size w1 w.heap.size s P) (hP:P+16<=8*s.size)=>fS w.heap.size w1 w.heap.size s P 16 hR (by omega) (by omega) hP;rw[<- hl]at HJ;have p6:=aa fun(w1:World) (P:Nat) (hR:IsR w.heap.size w1 w.heap.size s P) (hP:P<=8*s.size) (pb:8*s.size<P+16)=>dX w.heap.size w1 w.heap.size s P 16 hR (by omega) (by omega) hP pb;have HB:=aa ((Nj w.heap.size w).alloc (ah _) (.cells #[.bool true,.string s,.int .i64 p] 120));have hD:=aa HU;have HD:=aa hA;have p1:=aa hG;have h7:=aa h5;have p7:=aa hm;have p0:=aa hj;have HI:=aa hi;have HS:=aa pR;have hN:=aa yZ;have hL:=aa mf;have hK:=aa r4;have hM:=aa jE;have HP:Hid (∀ (ans:List UInt8×Nat×Nat) w',dQ l p=ans->Below w.heap.size w w'->jl w (dQ l p) (.returned (.tuple #[.string (bq ans.1),.int .i64 ans.2.1,.int .i64 ans.2.2])) w'):=aa fun ans w' h1 h2=>⟨by rw[h1],h2⟩;rw[<- hl];clear hl HU hA hI hG h5 hu hm hj hi;generalize jl w (dQ l p)=PO at*;generalize dQ l p=ans at*;generalize ix=T at*;go_enter func177,ntmps177;go_wp2_with fail;refine HN.out.mono ?_;rintro e w1 ⟨rfl,H2⟩;have HE:=aa (show IsR w.heap.size w1 w.heap.size s p by rw[H2];exact HR.out);have HA:=aa (show Below w.heap.size w w1 by rw[H2];exact HB.out);clear H2 HR HB;have HH:=aa (HT.out w1 HE.out);clear HT;go_wp2_with fail;refine HH.out.mono ?_;rintro e w2 ⟨rfl,hQ,HK⟩;have hW:=HA.out.trans HK.below;have pf:=az hQ.blk;have HL:=hW.alloc hW.size (.cells (T fun _=>0) 138);have HZ:=aa HL;have p4:=aa (hQ.alloc (.cells (T fun _=>0) 138));have H5:=aa (aj w2 138 (T fun _=>0));obtain⟨g,hg⟩:∃g,g=w2.heap.size:=⟨_,rfl⟩;have pl:w.heap.size<g:=by omega
 rw[<- hg]at H5;have p2:=aa hg;clear hW HK hQ HL HH HE HA hg;go_wp2_with fail;rw[<- p2.out];go_loopw [9,26] (fun ev i wx=>∃(q P:Nat) (f:Nat->Nat) (out:List UInt8),q<=16/\i=.int .i64 q/\ev=.int .i64 0/\P<=8*s.size/\Hid (sI f q out)/\Hid (G=goT l fl ((List.range 16).drop q) P out)/\IsR w.heap.size wx w.heap.size s P/\Blk wx g 138 (T f)/\Below w.heap.size w wx) (fun _ i _=>16-(intOf i).toNat)
 case atStart=>exact⟨0,p+16,_, [],Nh _,rfl,rfl,h2,H6,p1.out,p4.out,H5.out,HZ.out⟩
 case round=>
  obtain⟨q,P,f,out,hq,rfl,rfl,hP,hB,HQ,hR,hV,hb⟩:=hrel;have hE:=aa hR;have H4:=aa hV;have HB:=aa hb;by_cases e:q<16
  ·have HM:(List.range 16).drop q=q::(List.range 16).drop (q+1):=(by rw[NP (by simpa using e),List.getElem_range]);have h4:=HQ.out;rw[HM,goT]at h4;have hC:=p7.out q e;have h8:=qU u (15-q);have pj:2^(15-q)<65536:=P9 (by decide) (show 15-q<16 by omega);have hw:=u64_and_nat u (2^(15-q)) (by omega) (by omega);obtain⟨y,hy⟩:∃y,y=u &&& 2^(15-q):=⟨_,rfl⟩;rw[<- hy]at hw h8;have hc:=fun w1:World=>hK.out w1 q e;obtain⟨x,hx⟩:∃x,x=2^(15-q):=⟨_,rfl⟩;rw[<- hx]at hw;(replace hc:∀w1:World,Calls prog 143 #[.int .i64 q] w1 fun e w'=>e=.returned (.int .u64 (x:Int))/\w1=w':=by intro w1;rw[hx];exact hc w1);have h9:=aa hc;clear hc hy hx pj HM hR hV hb;rcases p0.out q e with h0|h0
   ·have ho:y=0:=by
     by_cases ho:y=0;·exact ho
     ·have:u.testBit (15-q)=true:=(by rw[<- h8];exact ho);rw[hC,h0]at this;simp at this
    rw[Ng h0]at h4;subst ho;have hf:=aa h4;clear h4 hC h8 h0;(go_wp2_with (first|(go_at_call 143;refine(h9.out _).mono ?_;rintro e w' ⟨rfl,rfl⟩)));go_roundw;case rel=>exact⟨q+1,P,f,out,by omega,by go_num,rfl,hP,L6 hB.out,hf,hE.out,H4.out,HB.out⟩
    case measure=>simp[intOf];omega
   ·have ho:y≠0:=(by have:(y≠0)=(u.testBit (15-q)=true):=h8;rw[this,hC,h0];rfl);have pg:=o7 ho;have hX:f q=0:=hB.out.2.1 q (ah _);have h6:=ac H4.out q;have he:=ae H4.out q;rw[hL.out f q e,hX]at h6;have pn:(0:Int)<=(q:Int):=(by omega);have po:(q:Int)<16:=(by omega);rw[Nf (by omega)]at h4;by_cases H1:P+16<=8*s.size
    ·rw[Nf (by rw[hD.out];omega),<-Ki l P q HD.out (by rw[hD.out];exact H1)]at h4;have HW:=KO l P HD.out (by rw[hD.out];exact H1);have ht:=aa (HJ.out wr P hE.out H1);obtain⟨v,hv⟩:∃v,v=val ((l.drop P).take 16):=⟨_,rfl⟩;rw[<- hv]at h4 HW ht;have hf:=aa h4;have p5:=aa (KK hB.out HW);clear h4 hC h8 h0 hv hX h6 he;(go_wp2_with (first|(go_at_call 143;refine(h9.out _).mono ?_;rintro e w' ⟨rfl,rfl⟩)));refine ht.out.mono ?_;rintro e w5 ⟨rfl,hF,hn⟩;have hh:=hn.blk H4.out (by simp;omega) (by decide);have h6:=ac hh q;have he:=ae hh q;rw[hL.out f q e]at h6;have HX:=aa hh;have hJ:=aa (HB.out.trans hn.below);have HF:=aa hF;clear hh hF hn;go_wp2_with fail;go_roundw;case rel=>
      refine⟨q+1,P+16,_,_,by omega,by go_num,rfl,by omega,p5,hf,⟨HF.out.lo,?_⟩,?_,hJ.out.setCell (p:=⟨g,q,none⟩) (by show _<=g;omega) _⟩;·exact aM HF.out.blk (by omega) _ _
      ·have:=au HX.out q (.int .u64 (v:Nat));rw[hN.out]at this;exact this
     case measure=>simp[intOf];omega
    ·rw[Ng (by rw[hD.out];omega)]at h4;have h5:ans=([],0,10):=(by rw[h7.out,h4];rfl);have hO:=aa (p6.out wr P hE.out hP (by omega));have H8:=aa h5;clear h4 hC h8 h0 hX h6 he h5;(go_wp2_with (first|(go_at_call 143;refine(h9.out _).mono ?_;rintro e w' ⟨rfl,rfl⟩)));refine hO.out.mono ?_;rintro e w5 ⟨rfl,hF,hn⟩;have hh:=hn.blk H4.out (by simp;omega) (by decide);have h6:=ac hh q;have he:=ae hh q;rw[hL.out f q e]at h6;have hJ:=aa (HB.out.trans hn.below);have hp:=aa (HP.out _ (w5.setCell ⟨g,q,none⟩ (.int .u64 0)) H8.out (hJ.out.setCell (p:=⟨g,q,none⟩) (by show _<=g;omega) _));clear hh hF hn HP H8 h7;go_wp2_with fail;go_ret3;exact hp.out
  ·obtain rfl:q=16:=(by omega);have h4:G=some (out,P):=HQ.out;have hk:pr f=out:=KJ hB.out;have HO:∀i,i<16->f i<65536:=fun i _=>hB.out.1 i;have H0:=fun w9=>hM.out w9 f HO;rw[hk]at H0;have HG:=aa H0;have p3:=aa (show(prog.info? 138).map (·.size)=some (T f).size by rw[HS.out];exact HI.out);have c0:=ac hR.blk 0;have c2:=ac hR.blk 2;simp at c0 c2;have pk:=hb.size;obtain⟨S,hS⟩:∃S:ByteArray,S=bq out:=⟨_,rfl⟩;rw[<- hS]at HG;have hr:=aa hS;have hf:=aa h4;clear h4 hk HO H0 hR hV hb hS hY H3 hz;generalize T f=Tf at*;go_upto_region 16 with fail;refine Qj (fT rfl rfl rfl H4.out underlying138 p3.out ?_);go_wp2_with fail;refine(HG.out wr).mono ?_;rintro e w6 ⟨rfl,hH⟩;have HC:=aa (HB.out.trans (hH.mono pk));by_cases h0:S.size=0;·have hd:S=⟨#[]⟩:=(by apply QN;exact QI h0);have ha:out= []:=(by have h1:=hr.out;rw[hd]at h1;have h3:(⟨#[]⟩:ByteArray).data.toList=(bq out).data.toList:=(by rw[h1]);exact h3.symm);have h5:ans=([],0,60):=(by rw[h7.out,hf.out,ha];rfl);have hp:=aa (HP.out _ w6 h5 HC.out);clear HP h7 hf hr ha h5 hH h0;subst hd;go_wp2_with fail;go_ret3;exact hp.out
   ·have pg:=kZ S (by omega);have ha:¬out= []:=(by intro h1;have h3:=hr.out;rw[h1]at h3;rw[h3]at h0;exact h0 rfl);have h5:ans=(out,P,0):=(by rw[h7.out,hf.out];show(if out= []then(([]:List UInt8),0,60)else(out,P,0))=_;rw[Nf ha]);have HV:=an hH;have hT:=hE.out.step HV ar ar;have c0:=ac hT.blk 0;have c2:=ac hT.blk 2;simp at c0 c2;have HY:=aa (j7 w6 w.heap.size P c0 c2);have hZ:=HP.out _ w6 h5 HC.out;rw[<- hr.out]at hZ;have hp:=aa hZ;clear HP h7 hf hr ha h5 hH h0 HV hT c0 c2 hZ;go_wp2_with fail;refine HY.out.mono ?_;rintro e w8 ⟨rfl,rfl⟩;go_wp2_with fail;go_ret3;exact hp.out
theorem FG(w:World)(s:ByteArray)(p:Int)(hs:s.size<=2000000):Calls prog 177 #[.string s,.int .i64 p] w (jl w (ao (ai s.data.toList) p)):=by
 have h0:(ai s.data.toList).length=8*s.size:=by rw[aq];rfl
 by_cases h1:p<0;·rw[show ao (ai s.data.toList) p=([],0,2)from Ng h1];exact we w s p hs (.inl h1)
 ·obtain⟨q,rfl⟩:∃q:Nat,p=q:=⟨p.toNat,by omega⟩;have e:ao (ai s.data.toList) (q:Int)=dQ (ai s.data.toList) q:=by unfold ao;rw[Nf h1,Nn]
  rw[e];by_cases h2:8*s.size<q;·have:dQ (ai s.data.toList) q=([],0,2):=(by unfold dQ;rw[Ng (by omega)]);rw[this];exact we w s q hs (.inr (by omega))
  ·by_cases h3:8*s.size<q+16;·have:dQ (ai s.data.toList) q=([],0,10):=(by unfold dQ;rw[Nf (by omega),Ng (by omega)]);rw[this];exact zQ w s q hs (by omega) h3
   ·exact qc w s q hs (by omega)
def LIn(w:World)(g:Nat)(l:List UInt8):Prop:=∀i,i<l.length->w.cell? ⟨g,i,none⟩=some (bv (l.getD i 0))/\w.frozen? ⟨g,i,none⟩=false
theorem LIn.below{w w':World}{B g:Nat}{l:List UInt8}(h:LIn w g l)(hb:Below B w w')(hg:g<B):LIn w' g l:=by intro i hi;refine⟨(hb.cell (p:=⟨g,i,none⟩) hg).trans (h i hi).1,?_⟩;have:=(h i hi).2;unfold World.frozen? at this |-;rw[show w'.heap[(⟨g,i,none⟩:Addr).block]? =w.heap[g]? from hb.block g hg];exact this
theorem u7(l:List UInt8)(p:Nat):(df l p).getD 0 0=l.getD p 0:=rfl
theorem Ia(l:List UInt8)(p i:Nat)(h:i<p)(hp:p<l.length):(df l p).getD (i+1) 0=l.getD i 0:=by unfold df;rw[Qd,Nb,NT (by rw[Nz];omega),PR,Ng h,<-Nb]
theorem DZ(l:List UInt8)(p i:Nat)(h:p<=i)(hi:i+1<l.length):(df l p).getD (i+1) 0=l.getD (i+1) 0:=by have hl:(l.take p).length=p:=(by rw[Nz];omega);unfold df;rw[Qd,Nb,NU (by omega),Pa,hl,show p+1+(i-p)=i+1 by omega,<-Nb]
theorem nG{B g:Nat}(hB:B<=g){w:World}:∀(vs:List Value) (o:Nat) (w':World),al B [g] [] w w'->al B [g] [] w (w'.setCells g o vs)
 | [],_,_,h=>h
 | v::r,o,w',h=>by rw[World.setCells];exact nG hB r (o+1) _ (h.set (p:=⟨g,o,none⟩) hB (List.mem_singleton.2 rfl) v)
theorem IJ(w:World)(g i:Nat)(j:Nat):w.cell? ((⟨g,i,none⟩:Addr).add j)=w.cell? ⟨g,i+j,none⟩:=by congr 1;unfold Addr.add;split <;>simp_all
theorem rW{P:Program}{w w':World}{ops:Array Oper}{rest:List Oper}{o:Oper}{a:Act}{Q:Exit->Act->World->Prop}(h1:o.guard=none)(d s:Operand)(dT sT:TypeId)
 (ho:o.op=.call { callee:=.builtin .copy,args:=#[d,s],argTypes:=#[dT,sT] }) (dv sv:Value) (k:Nat) (hd:a.eval d=dv) (hs:a.eval s=sv) (h0:(Builtin.copy_ #[dT,sT] o.type #[dv,sv]).run P w=.ok (goInt k) w')
 (h:wpList P ops Q rest (a.put o.dst (goInt k)) w'):wpList P ops Q (o::rest) a w:=by refine wpList_plain h1 fun K hK=> ?_;unfold Oper.wp;simp[execOp,ho,resolve,invoke,builtin,hd,hs,h0,Result.andThen];exact hK _ _ h
def xu(B:Nat)(w:World)(g:Nat)(l:List UInt8)(p:Nat)(e:Ending)(w':World):Prop:=e=.returned (.tuple #[])/\LIn w' g (df l p)/\al B [g] [] w w'
theorem Et(B:Nat)(w:World)(g n c:Nat)(l:List UInt8)(p:Nat)(hB:B<=g)(hL:LIn w g l)(hn:l.length=n)(ho:n<=c)(hp:p<n)(hl:n<=1000000):
 Calls prog 94 #[.slice (some ⟨g,0,none⟩) n c,.int .i64 p] w (xu B w g l p):=by
 obtain⟨i5,h5,ht,hk,hu⟩:=NY Tryz.info5;have h2:((l.take p).map bv).length=p:=by rw[NC,Nz];omega
 have h8:∀j v,((l.take p).map bv)[j]? =some v->w.drew.cell? ((⟨g,0,none⟩:Addr).add j)=some v:=by intro j v hv;have hj:j<p:=(by have:=(List.getElem?_eq_some_iff.1 hv).1;omega);rw[IJ,N8];show w.cell? _=_;rw[(hL j (by omega)).1,<-hv,Np,PR,Ng hj,Nd (by omega),Nb,Nd (by omega)];rfl
 have h9:∀v∈(l.take p).map bv,v.oneCell'=true:=by intro v hv;obtain⟨x,_,rfl⟩:=List.mem_map.1 hv;rfl
 have h4:∀ty,(Builtin.copy_ #[39,39] ty #[.slice (if c=1 then some ⟨g,0,none⟩else some ⟨g,1,none⟩) (n-1) (c-1),.slice (some ⟨g,0,none⟩) p c]).run prog w.drew=.ok (goInt p) (w.drew.setCells g 1 ((l.take p).map bv)):=by
  intro ty;have h1:(prog.info? 5).map (·.size)=some 1:=by rw[h5];exact congrArg some hk
  by_cases h0:p=0;·subst h0;have:=fun d=>run_copy_none (P:=prog) w.drew 39 39 ty 5 d (some ⟨g,0,none⟩) (n-1) (c-1) 0 c underlying39 h1 (Nat.zero_min _);exact this _
  ·rw[Nf (by omega)]
   have:=Sf (P:=prog) w.drew 39 39 ty 5 g 1 (n-1) (c-1) ⟨g,0,none⟩ p c ((l.take p).map bv) underlying39 h1 (by rw[h2];exact(Oh (by omega)).symm) h8
    (fun j hj=>by
      rw[h2]at hj
      show(w.cell? _).isSome=true
      rw[(hL (1+j) (by omega)).1]
      rfl) (fun j hj=>by rw[h2]at hj;exact(hL (1+j) (by omega)).2) h9
   rw[h2]at this;exact this
 have hh:=(hL p (by omega)).1;obtain⟨b,hb⟩:∃b,b=(l.getD p 0).toNat:=⟨_,rfl⟩;have he:bv (l.getD p 0)=.int .u8 b:=by rw[hb];rfl
 rw[he]at hh;have hq:(0:Int)<=(p:Int):=by omega
 have hr:(p:Int)<(n:Int):=by omega
 have hs:(p:Int)<=(c:Int):=by omega
 have hm:(1:Int)<=(n:Int):=by omega
 obtain⟨w2,h6⟩:∃w2,w2=w.drew.setCells g 1 ((l.take p).map bv):=⟨_,rfl⟩;have hS:al B [g] [] w w2:=by rw[h6];exact nG hB _ _ _ (al.refl B [g] [] w).drew
 have hg:∀j,j<p->w2.cell? ⟨g,1+j,none⟩=some (bv (l.getD j 0)):=by
  intro j hj
  rw[h6,World.cell?_setCells_in g ((l.take p).map bv) 1 w.drew (fun i hi=>by
   rw[h2]at hi
   show(w.cell? _).isSome=true
   rw[(hL (1+i) (by omega)).1]
   rfl) j (by rw[h2];exact hj)]
  rw[RG,QR,Nb,Nd (by omega)];rfl
 have h3:∀j,(j=0\/p<j)->w2.cell? ⟨g,j,none⟩=w.cell? ⟨g,j,none⟩:=by intro j hj;rw[h6,World.cell?_setCells_out g _ 1 w.drew ⟨g,j,none⟩ (fun _ _=>by rw[h2];show j<1\/1+p<=j;omega)];rfl
 have hf:∀x,w2.frozen? x=w.frozen? x:=by intro x;rw[h6,World.frozen?_setCells];rfl
 rw[<- h6]at h4;have h0:w2.cell? ⟨g,0,none⟩=some (bv (l.getD 0 0)):=by rw[h3 0 (.inl rfl),(hL 0 (by omega)).1]
 have f0:w2.frozen? ⟨g,0,none⟩=false:=by rw[hf];exact(hL 0 (by omega)).2
 have h7:xu B w g l p (.returned (.tuple #[])) (w2.setCell ⟨g,0,none⟩ (.int .u8 b)):=by
  refine⟨rfl,?_,hS.set (p:=⟨g,0,none⟩) hB (List.mem_singleton.2 rfl) _⟩;intro i hi;rw[dS l p (by omega)]at hi;refine⟨?_,by rw[World.frozen?_setCell,hf];exact(hL i hi).2⟩
  match i,hi with
  | 0,_=>rw[u7,World.cell?_setCell_same _ _ _ h0,he]
  | i+1,hi=>
   rw[World.cell?_setCell_other _ _ _ _ (by simp)];by_cases e:i<p;·rw[Ia l p i e (by omega),R0];exact hg i e
   ·rw[DZ l p i (by omega) hi,h3 (i+1) (.inr (by omega))];exact(hL (i+1) hi).1
 have ha:=aa h7;have hc:=aa h4;clear h7 h4 h6 hg h3 hf h8 h9 he hb h2 hS hL;generalize xu B w g l p=PO at*;go_enter func94,ntmps94;go_upto_region 1 with fail;go_still_tail 5,(by kernel_rfl)
 change wpList _ _ _ _ _ w.drew;generalize (if c=1 then some (⟨g,0,none⟩:Addr)else some ⟨g,1,none⟩)=dA at*;refine rW rfl _ _ 39 39 rfl _ _ p rfl rfl (hc.out _) ?_;go_wp2_with fail;(try simp only[Exit.inBlock,Exit.then]);refine ND (RA rfl _ _ _) rfl ?_;exact ha.out
theorem Gh(l:List UInt8)(b:UInt8):Lib.indexByte l b=if b∈l then((l.idxOf b:Nat):Int)else -1:=by
 induction l with
 | nil=>simp[Lib.indexByte]
 | cons x l ih=>
  unfold Lib.indexByte;rw[List.idxOf_cons];by_cases e:x=b;·subst e;simp
  ·have e1:(x==b)=false:=(by simpa using e);have e2:¬b=x:=fun h=>e h.symm;rw[e1,ih];simp only[Bool.false_eq_true,RK,cond_false,PF,e2,false_or];by_cases hm:b∈l;·rw[Ng hm,Ng hm];have:(((l.idxOf b:Nat):Int)== -1)=false:=(by rw[NA];omega);rw[this];simp
   ·rw[Nf hm,Nf hm];simp
theorem Iz(l:List UInt8):Lib.bytesOf (l.map fun b=>(b.toNat:Int))=l:=by unfold Lib.bytesOf;rw[Ov];(conv=>rhs;rw[<- QX l]);refine Oc fun b _=> ?_;show UInt8.ofNat ((b.toNat:Int).toNat)=b;rw[Nn,QC]
theorem Ai(w:World)(g n c:Nat)(l:List UInt8)(b:UInt8)(hL:LIn w g l)(hn:l.length=n):
 Calls prog 93 #[.slice (some ⟨g,0,none⟩) n c,.int .u8 b.toNat] w fun e w'=>e=.returned (.int .i64 (if b∈l then((l.idxOf b:Nat):Int)else -1))/\w'=w:=by
 have h0:=Lib.run_indexByteSlice (P:=prog) w g 0 n c (l.map fun b=>(b.toNat:Int)) (by rw[NC,hn]) (fun i hi=>by
  rw[N8,(hL i (by omega)).1,Nb,Nb,Np,Nd (by omega)]
  rfl) b.toNat
 rw[Iz,Nn,show b.toNat.toUInt8=b from QC,Gh]at h0;have HR:=aa h0;clear h0 hL hn;generalize (if b∈l then((l.idxOf b:Nat):Int)else -1)=y at*;go_enter func93,ntmps93;go_wp2_with fail;rw[run_callFunc_extern func144 (by kernel_rfl) (by kernel_rfl) (by kernel_rfl) (e:=Extern.BytealgIndexByte.indexByte) (by kernel_rfl),HR.out];simp only[Result.andThen];rw[Oper.upon_value];go_wp2_with fail;go_ret;exact⟨rfl,rfl⟩
theorem zB(w:World)(s:ByteArray):∃c w2,(convert 9 39 (.string s)).run prog w=.ok (.slice (some ⟨w.heap.size,0,none⟩) s.size c) w2/\s.size<=c/\LIn w2 w.heap.size s.data.toList/\Below w.heap.size w w2/\w2.heap.size=w.heap.size+1:=by
 refine⟨_,_,Lib.run_convert_string_bytes (P:=prog) w 9 39 5 s underlying9 underlying39 underlying5,?_,?_,Lib.bytesWorld_below w 5 s,Lib.bytesWorld_size w 5 s⟩;·exact grownCap_ge _ _ _ _
 ·intro i hi;have h0:i<s.size:=hi;refine⟨Lib.bytesWorld_cell w 5 s i h0,?_⟩;have h2:s.size<=(Lib.bytesCells w 5 s).size:=(by simp[Lib.bytesCells]);simp[World.frozen?,Lib.bytesWorld_at_new];intro h1;exfalso;omega
theorem Fs(w:World)(s a:ByteArray)(ha:a.size<=1000000)(hm:¬fE a.data.toList):Calls prog 47 #[.string s,.string a] w (pG w s.data.toList a.data.toList):=by have HM:=aa (du w a ha);have d0:decide (fE a.data.toList)=false:=Nk hm;rw[d0]at HM;have h0:=aa (show my s.data.toList a.data.toList=([],2)from Nf hm);clear d0 hm;go_enter func47,ntmps47;go_wp2_with fail;refine HM.out.mono ?_;rintro e w1 ⟨rfl,h1⟩;have h2:=aa h1;clear h1;go_wp2_with fail;go_ret2;exact⟨_, [],2,h0.out,rfl,Ns _ _ _ _,h2.out⟩
theorem Cb(w:World)(s a:ByteArray)(hs:s.size<=1000000)(ha:a.size<=1000000)(hm:fE a.data.toList):Calls prog 47 #[.string s,.string a] w (pG w s.data.toList a.data.toList):=by
 obtain⟨i3,h3,hO,hP,hQ⟩:=NY Tryz.info3;have hK:∀w1:World,(Instr.makeSlice 57 (.int .i64 0) (.int .i64 s.size)).run prog w1=.ok (.slice (some ⟨w1.heap.size,0,none⟩) 0 s.size) (w1.alloc (.cells (madeCells #[.int .i64 0] s.size) 3)):=by intro w1;have h:=QZ (P:=prog) w1 57 3 i3 (.int .i64 0) underlying57 h3 hO .i64 .i64 (0:Int) (s.size:Int) (by omega) (by omega) (by rw[hQ];omega) (by omega);rw[hP,Nn,Of]at h;exact h
 have hW:=aa hK;have HM:=aa (du w a ha);have d0:decide (fE a.data.toList)=true:=No hm;rw[d0]at HM;have hc:=aa (show my s.data.toList a.data.toList=(match dw s.data.toList a.data.toList with|none=>([],60)|some l=>(l,0))from Ng hm);have H1:=aa (show s.data.toList.length=s.size from rfl);clear d0 hm hK;go_enter func47,ntmps47;go_wp2_with fail;refine HM.out.mono ?_;rintro e w1 ⟨rfl,hy⟩;have hE:=aa hy;have h8:=hy.size;obtain⟨c,w2,h5,H4,h7,hz,hi⟩:=zB w1 a;obtain⟨g,hg⟩:∃g,g=w1.heap.size:=⟨_,rfl⟩;have hB:=hW.out w2;rw[<- hg]at h5 h7 hi;have hS:=aa hz;have hr:=aa h7;have HG:=aa hg;have hI:g<w2.heap.size:=by omega
 have h9:w1.heap.size<=w2.heap.size:=hz.size;clear hy hz h7 hi hg;go_wp2_with fail;clear h5 hB
 go_loopw [7,20] (fun out i wx=>∃(q:Nat) (t:List UInt8) (o:List Nat),q<=s.size/\i=.int .i64 q/\t.length=a.size/\LIn wx g t/\wx.ownsRow w2.heap.size 3 1 out o.length (o.map iv)/\o.length=q/\
  dw s.data.toList a.data.toList=(dw (s.data.toList.drop q) t).map (o++ ·)/\Below w1.heap.size w1 wx/\w2.heap.size<=wx.heap.size) (fun _ i _=>s.size-(intOf i).toNat)
 case atStart=>have hm:(madeCells #[.int .i64 0] s.size).size=s.size*1:=(by simp[madeCells]);have hA:Below w2.heap.size w2 (w2.alloc (.cells (madeCells #[.int .i64 0] s.size) 3)):=(Nj _ _).alloc (ah _) _;exact⟨0,a.data.toList, [],Nh _,rfl,rfl,hr.out.below hA hI,Pd w2 (madeCells #[.int .i64 0] s.size) s.size (ah _) (by unfold maxLen;omega) hm,rfl,by simp,hS.out.trans (hA.mono h9),hA.size⟩
 case round=>
  obtain⟨q,t,o,hq,rfl,htl,hJ,h2,hC,hH,hb,HD⟩:=hrel;obtain⟨A0,c0,rfl,H8,H5,H3⟩:=ak h2;clear H3;unfold maxLen at H5;rw[hC]at h2 H8 |-;have hw:=aa hC;have HB:=aa hb;have ho:=aa hH;have hF:=aa hJ;obtain⟨X,hX⟩:∃X,X=o.map iv:=⟨_,rfl⟩;rw[<- hX]at h2;have HX:=aa hX;have HO:=aa h2;clear hX h2 hC hb hH hJ;by_cases e:q<s.size
  ·have hl:=FP s q e;have he:=aa (Ai wr g a.size c t s[q] hF.out htl);by_cases e1:s[q]∈t
   ·have hD:t.idxOf s[q]<t.length:=Pj e1;rw[Ng e1]at he;obtain⟨p,hp⟩:∃p,p=t.idxOf s[q]:=⟨_,rfl⟩;rw[<- hp]at he hD;have d2:decide ((p:Int)<0)=false:=aD (by omega);have HA:p<a.size:=(by omega);have H2:=aa (Et w1.heap.size wr g a.size c t p (by rw[HG.out];exact Nm _) hF.out htl H4 HA ha);have hM:dw s.data.toList a.data.toList=(dw (s.data.toList.drop (q+1)) (df t p)).map ((o++ [p])++ ·):=(by rw[ho.out,hl,dw,Ng e1,<-hp,Option.map_map];congr 1;funext l;simp);have hx:=aa (show(df t p).length=a.size from(dS _ p hD).trans htl);have hZ:=aa hM;clear hl e1 hp hM htl hD;go_wp2_with fail;refine he.out.mono ?_;rintro e w3 ⟨rfl,rfl⟩;go_wp2_with fail;refine H2.out.mono ?_;rintro e w3 ⟨rfl,hh,h4⟩;have hN:=h4.row HO.out (fun k hk=>by have:=(HO.out.lt k hk).1;simp;omega) (by simp);have hR:w2.heap.size<=w3.heap.size:=NH HD h4.size;have hT:=aa (HB.out.trans h4.below);have hG:=aa hN;have ht:=aa hh;clear hh h4 hN;(go_wp2_with (at_builtin;refine Ob _ rfl _ _ 57 rfl w2.heap.size 3 i3 (.int .i64 0) 1 8 underlying57 h3 hO hP hQ rfl (by decide) _ _ _ rfl (hG.out.alloc _) ⟨w3.heap.size,0,none⟩ 1 1 [.int .i64 p] rfl rfl ?c1 ?c2 ?c3 ?c4 ?c5 ?_));case c1=>exact bn _ _ _
    case c2=>intro u hu;simp at hu;subst hu;rfl
    case c3=>unfold maxLen;omega
    case c4=>omega
    case c5=>simp;omega
    intro v4 w4 h6 h0 _;have hj:Below w2.heap.size w3 w4:=((Nj w2.heap.size w3).alloc hR _).grown h0 (by simp;omega) (fun k hk=>(hG.out.lt k hk).1);have H0:=aa h6;have hV:=aa (hT.out.trans (hj.mono h9));have hv:=aa (ht.out.below hj hI);have HC:w2.heap.size<=w4.heap.size:=NH hR hj.size;clear h6 h0 hj;go_wp2_with fail;go_roundw;case rel=>refine⟨q+1,df t p,o++ [p],by omega,by go_num,hx.out,hv.out,?_,by rw[Nc,hw.out];rfl,hZ.out,hV.out,HC⟩;rw[Nc,hw.out,NF,<-HX.out];exact H0.out
    case measure=>simp[intOf];omega
   ·rw[Nf e1]at he;have hL:dw s.data.toList a.data.toList=none:=(by rw[ho.out,hl,dw,Nf e1];rfl);have hY:=aa hL;clear hl e1 hL;go_wp2_with fail;refine he.out.mono ?_;rintro e w3 ⟨rfl,rfl⟩;go_wp2_with fail;go_ret2;refine⟨_, [],60,?_,rfl,Ns _ _ _ _,hE.out.trans (HB.out.mono h8)⟩;rw[hc.out,hY.out]
  ·obtain rfl:q=s.size:=(by omega);have hf:dw s.data.toList a.data.toList=some o:=(by rw[ho.out,NW (by rw[H1.out];exact Nm _)];simp[dw]);have hn:=aa hf;clear hf;go_wp2_with fail;go_ret2;refine⟨_,o,0,?_,rfl,?_,hE.out.trans (HB.out.mono h8)⟩;·rw[hc.out,hn.out]
   ·have h1:=HO.out;rw[HX.out]at h1;rw[hw.out];exact World.ownsRow.mono h1 (NH h8 h9)
theorem Ca(w:World)(s a:ByteArray)(hs:s.size<=1000000)(ha:a.size<=1000000):Calls prog 47 #[.string s,.string a] w (pG w s.data.toList a.data.toList):=by
 by_cases hm:fE a.data.toList;·exact Cb w s a hs ha hm
 ·exact Fs w s a ha hm
def kG(w:World)(L:List Int)(a:List UInt8)(e:Ending)(w':World):Prop:=e=.returned (.tuple #[.string (bq (cL L a).1),.int .i64 (cL L a).2])/\Below w.heap.size w w'
theorem IC(w:World)(A:Option Addr)(n c:Nat)(L:List Int)(a:ByteArray)(ha:a.size<=1000000)(hm:¬fE a.data.toList):Calls prog 181 #[.slice A n c,.string a] w (kG w L a.data.toList):=by have HM:=aa (du w a ha);have d0:decide (fE a.data.toList)=false:=Nk hm;rw[d0]at HM;have h0:=aa (show cL L a.data.toList=([],2)from Nf hm);clear d0 hm;go_enter func181,ntmps181;go_wp2_with fail;refine HM.out.mono ?_;rintro e w1 ⟨rfl,h1⟩;have h2:=aa h1;clear h1;go_wp2_with fail;go_ret2;refine⟨?_,h2.out⟩;rw[h0.out];rfl
theorem Fm(w:World)(A:Option Addr)(n k:Nat)(L:List Int)(a:ByteArray)(hL:ZIn w A n L)(p5:n<=k)(hn:n<=1000000)(ha:a.size<=1000000)(hm:fE a.data.toList):
 Calls prog 181 #[.slice A n k,.string a] w (kG w L a.data.toList):=by
 obtain⟨i5,h5,H3,H4,H5⟩:=NY Tryz.info5;have hZ:∀w1:World,(Instr.makeSlice 39 (.int .i64 0) (.int .i64 n)).run prog w1=.ok (.slice (some ⟨w1.heap.size,0,none⟩) 0 n) (w1.alloc (.cells (madeCells #[.int .u8 0] n) 5)):=by intro w1;have h:=QZ (P:=prog) w1 39 5 i5 (.int .u8 0) underlying39 h5 H3 .i64 .i64 (0:Int) (n:Int) (by omega) (by omega) (by rw[H5];omega) (by omega);rw[H4,Nn,Of]at h;exact h
 have HI:=aa hZ;have HM:=aa (du w a ha);have d0:decide (fE a.data.toList)=true:=No hm;rw[d0]at HM;have h7:=aa (show cL L a.data.toList=(match cK L a.data.toList with|none=>([],60)|some t=>(t,0))from Ng hm);have HL:=aa hL;have HP:Hid (∀ (ans:List UInt8×Nat) w',cL L a.data.toList=ans->Below w.heap.size w w'->kG w L a.data.toList (.returned (.tuple #[.string (bq ans.1),.int .i64 ans.2])) w'):=aa fun ans w' h1 h2=>⟨by rw[h1],h2⟩;clear d0 hm hL hZ;generalize kG w L a.data.toList=PO at*;generalize cL L a.data.toList=ans at*;go_enter func181,ntmps181;go_wp2_with fail;refine HM.out.mono ?_;rintro e w1 ⟨rfl,hs⟩;have hN:=aa hs;have hQ:=aa (HL.out.below hs);have ho:=hs.size;obtain⟨c,w2,h4,HS,hf,hE,hl⟩:=zB w1 a;obtain⟨g,hg⟩:∃g,g=w1.heap.size:=⟨_,rfl⟩;have hM:=HI.out w2;rw[<- hg]at h4 hf hl;have HA:=aa hE;have hA:=aa hf;have HG:=aa hg;have hY:g<w2.heap.size:=by omega
 have hp:w1.heap.size<=w2.heap.size:=hE.size;clear hs hE hf hl hg;go_wp2_with fail;clear h4 hM
 go_loopw [7,20] (fun out i wx=>∃(q:Nat) (t:List UInt8) (o:List UInt8),q<=n/\i=.int .i64 q/\t.length=a.size/\LIn wx g t/\wx.ownsRow w2.heap.size 5 1 out o.length (o.map bv)/\o.length=q/\
  cK L a.data.toList=(cK (L.drop q) t).map (o++ ·)/\Below w1.heap.size w1 wx/\w2.heap.size<=wx.heap.size) (fun _ i _=>n-(intOf i).toNat)
 case atStart=>have hm:(madeCells #[.int .u8 0] n).size=n*1:=(by simp[madeCells]);have hF:Below w2.heap.size w2 (w2.alloc (.cells (madeCells #[.int .u8 0] n) 5)):=(Nj _ _).alloc (ah _) _;exact⟨0,a.data.toList, [],Nh _,rfl,rfl,hA.out.below hF hY,Pd w2 (madeCells #[.int .u8 0] n) n (ah _) (by unfold maxLen;omega) hm,rfl,by simp,HA.out.trans (hF.mono hp),hF.size⟩
 case round=>
  obtain⟨q,t,o,hq,rfl,htl,hI,h0,hw,hv,hb,p1⟩:=hrel;obtain⟨A0,c0,rfl,HW,HV,HR⟩:=ak h0;clear HR;unfold maxLen at HV;have HU:=hQ.out.1;by_cases e:q<n
  ·obtain⟨b,off,rfl,hc⟩:=hQ.out.2 (by omega);have hi:=hc q e;have hJ:=Nr w1 _ hi;have hH:L.drop q=L.getD q 0::L.drop (q+1):=(by rw[NP (by omega),Nb,Nd (by omega)];rfl);obtain⟨x,hx⟩:∃x,x=L.getD q 0:=⟨_,rfl⟩;rw[<- hx]at hi hH;have p3:=(hb.cell (p:=⟨b,off+q,none⟩) hJ).trans hi;have p2:=aa hi;rw[hw]at h0 HW |-;have hS:=aa hw;have HB:=aa hb;have hP:=aa hv;have HN:=aa htl;have HH:=aa hI;have hO:=aa hH;obtain⟨X,hX⟩:∃X,X=o.map bv:=⟨_,rfl⟩;rw[<- hX]at h0;have HX:=aa hX;have HO:=aa h0;have hz:t.length=a.size:=htl;clear hX h0 hw hb hv htl hI hH hc hx HU hi;by_cases e1:0<=x/\x<a.size
   ·obtain⟨p,rfl⟩:∃p:Nat,x=p:=⟨x.toNat,by omega⟩;have HZ:p<a.size:=(by omega);have d2:decide ((p:Int)<0)=false:=aD (by omega);have HY:¬a.size<=p:=(by omega);have HT:w1.heap.size<=g:=(by rw[HG.out];exact Nm _);have HQ:=aa (fun w9 (h9:LIn w9 g t)=>Et w1.heap.size w9 g a.size c t p HT h9 hz HS HZ (by omega));have H1:cK L a.data.toList=(cK (L.drop (q+1)) (df t p)).map ((o++ [t.getD p 0])++ ·):=(by rw[hP.out,hO.out,cK,Ng ⟨e1.1,by rw[hz];exact e1.2⟩,Nn,Option.map_map];congr 1;funext l;simp);have HJ:=aa H1;have hD:=aa (show(df t p).length=a.size from(dS _ p (by omega)).trans HN.out);have hK:(df t p).length=a.size:=(dS _ p (by omega)).trans hz;obtain⟨x,hx⟩:∃x,x=t.getD p 0:=⟨_,rfl⟩;have hT:=aa hx;have p4:(0:Int)<(a.size:Int):=(by omega);clear e1 H1 hx hK;go_wp2_with fail;refine(HQ.out wr HH.out).mono ?_;rintro e w3 ⟨rfl,hh,h8⟩;have H2:=h8.row HO.out (fun k hk=>by have:=(HO.out.lt k hk).1;simp;omega) (by simp);have H8:w2.heap.size<=w3.heap.size:=NH p1 h8.size;have hV:=HB.out.trans h8.below;have HC:=aa hV;have hW:=(hh 0 (by rw[dS _ _ (by omega)];omega)).1;rw[u7,<-hT.out]at hW;obtain⟨y,hy⟩:∃y,y=x.toNat:=⟨_,rfl⟩;have hG:bv x=.int .u8 y:=(by rw[hy];rfl);rw[hG]at hW;have HF:=aa hG;have hR:=aa H2;have hB:=aa hh;clear hh h8 H2 hV hG hy;(go_wp2_with (at_builtin;refine Ob _ rfl _ _ 39 rfl w2.heap.size 5 i5 (.int .u8 0) 1 1 underlying39 h5 H3 H4 H5 rfl (by decide) _ _ _ rfl (hR.out.alloc _) ⟨w3.heap.size,0,none⟩ 1 1 [.int .u8 y] rfl rfl ?c1 ?c2 ?c3 ?c4 ?c5 ?_));case c1=>exact bn _ _ _
    case c2=>intro u hu;simp at hu;subst hu;rfl
    case c3=>unfold maxLen;omega
    case c4=>omega
    case c5=>simp;omega
    intro v4 w4 he h6 _;have ht:Below w2.heap.size w3 w4:=((Nj w2.heap.size w3).alloc H8 _).grown h6 (by simp;omega) (fun k hk=>(hR.out.lt k hk).1);have HK:=aa he;have HD:=aa (HC.out.trans (ht.mono hp));have hC:=aa (hB.out.below ht hY);have p0:w2.heap.size<=w4.heap.size:=NH H8 ht.size;clear he h6 ht;go_wp2_with fail;go_roundw;case rel=>refine⟨q+1,df t p,o++ [x],by omega,by go_num,hD.out,hC.out,?_,by rw[Nc,hS.out];rfl,by rw[hT.out];exact HJ.out,HD.out,p0⟩;rw[Nc,hS.out,NF,<-HX.out];show World.ownsRow _ _ _ _ _ _ (X++ [bv x]);rw[HF.out];exact HK.out
    case measure=>simp[intOf];omega
   ·have H0:cK L a.data.toList=none:=(by rw[hP.out,hO.out,cK,Nf (fun h=>e1 ⟨h.1,by have:=h.2;rw[hz]at this;exact this⟩)];rfl);have h3:ans=([],60):=(by rw[h7.out,H0]);have HE:=aa (hN.out.trans (HB.out.mono ho));have hr:=aa (HP.out ([],60) wr h3 HE.out);clear H0 h7 h3 HP;by_cases e2:x<0;·have d2:decide (x<0)=true:=No e2;clear e1;go_wp2_with fail;exact hr.out
    ·obtain⟨p,rfl⟩:∃p:Nat,x=p:=⟨x.toNat,by omega⟩;have HY:a.size<=p:=(by omega);have d2:decide ((p:Int)<0)=false:=aD (by omega);clear e1 e2;go_wp2_with fail;exact hr.out
  ·obtain rfl:q=n:=(by omega);have hj:cK L a.data.toList=some o:=(by rw[hv,NW (by omega)];simp[cK]);have h3:ans=(o,0):=(by rw[h7.out,hj]);have h4:=lg h0;have hr:=aa (HP.out (o,0) wr h3 (hN.out.trans (hb.mono ho)));clear hj h3 h0 hb hv hw hI h7 HP;go_wp2_with fail;exact hr.out
theorem pY(w:World)(A:Option Addr)(n k:Nat)(L:List Int)(a:ByteArray)(hL:ZIn w A n L)(h0:n<=k)(hn:n<=1000000)(ha:a.size<=1000000):Calls prog 181 #[.slice A n k,.string a] w (kG w L a.data.toList):=by
 by_cases hm:fE a.data.toList;·exact Fm w A n k L a hL h0 hn ha hm
 ·exact IC w A n k L a ha hm
theorem vZ(w:World)(a:ByteArray)(ha:a.size<=1000000)(hm:¬fE a.data.toList):Calls prog 50 #[.string a] w (yN w [] 2):=by
 have HM:=aa fun w1:World=>du w1 a ha;have d0:decide (fE a.data.toList)=false:=Nk hm;rw[d0]at HM;have h2:Blk (w.alloc (.cells #[.string ⟨#[]⟩,.int .i64 0] 43)) w.heap.size 43 #[.string ⟨#[]⟩,.int .i64 0]:=aj w 43 _;have h0:Below w.heap.size w (w.alloc (.cells #[.string ⟨#[]⟩,.int .i64 0] 43)):=(Nj _ _).alloc (ah _) _;have h4:=aa h2;have h3:=aa h0;clear d0 hm h2 h0;go_enter func50,ntmps50;go_wp2_with fail;refine(HM.out _).mono ?_;rintro e w1 ⟨rfl,hb⟩;have hk:=aO hb h4.out;have h1:Below w.heap.size w w1:=h3.out.trans (hb.mono (by simp));have q0:w1.cell? ⟨w.heap.size,0,none⟩=some (.string ⟨#[]⟩):=ac hk 0;have q1:w1.cell? ⟨w.heap.size,1,none⟩=some (.int .i64 0):=ac hk 1;have f0:=ae hk 0;have f1:=ae hk 1;have HB:=aa h1;clear hb hk h1;go_wp2_with fail;refine ND (v:=.tuple #[.agg #[.string ⟨#[]⟩,.int .i64 0],.int .i64 2]) ?_ rfl ?_;·simp[results,results50,go_sem,q0,q1]
 ·exact⟨rfl,(HB.out.setCell (p:=⟨w.heap.size,0,none⟩) (ah _) _).setCell (p:=⟨w.heap.size,1,none⟩) (ah _) _⟩
theorem p9(w:World)(a:ByteArray)(ha:a.size<=1000000)(hm:fE a.data.toList):Calls prog 50 #[.string a] w (yN w (dZ a.data.toList) 0):=by
 obtain⟨hz,hi⟩:=ve;have HM:=aa fun w1:World=>du w1 a ha;have hJ:=aa fun w1:World=>wW w1 a ha;have hL:=aa Gk;have d0:decide (fE a.data.toList)=true:=No hm;rw[d0]at HM;have hY:Blk (w.alloc (.cells #[.string ⟨#[]⟩,.int .i64 0] 43)) w.heap.size 43 #[.string ⟨#[]⟩,.int .i64 0]:=aj w 43 _;have hR:Below w.heap.size w (w.alloc (.cells #[.string ⟨#[]⟩,.int .i64 0] 43)):=(Nj _ _).alloc (ah _) _;have hF:=aa hY;have hB:=aa hR;have HI:=aa hi;have HS:=aa pR;have HO:=aa yY;have HG:=aa mf;have HJ:=aa uM;have H1:lI a.data.toList 16=dZ a.data.toList:=rfl;have HP:=aa H1;have H0:lI a.data.toList 0=(List.range 16).map (kz a.data.toList):=by simp[lI]
 have HN:=aa H0;have HR:=aa (rH a.data.toList);have HQ:=aa (nF a.data.toList);clear d0 hm hY hR hi H1 H0;go_enter func50,ntmps50;go_wp2_with fail;refine(HM.out _).mono ?_;rintro e w1 ⟨rfl,hb⟩;have hk:=aO hb hF.out;have hT:Below w.heap.size w w1:=hB.out.trans (hb.mono (by simp));have HK:=aa hk;have HB:=aa hT;have p2:w.heap.size<w1.heap.size:=az hk;clear hb hk hT;go_wp2_with fail;refine(hJ.out w1).mono ?_;rintro e w2 ⟨f,rfl,h2,he⟩;generalize ix=T at*;have ht:∀i,i<16->f i<65536:=fun i hi=>(h2 i hi).1;have p0:=Se (P:=prog) w2 138 (T fun _=>0) (T f) (by rw[HS.out];exact HI.out) (by rw[HS.out,HS.out]) (HO.out _);have p1:=HS.out f;have hv:=aO he HK.out;have p3:=he.size;have h3:Below w.heap.size w w2:=HB.out.trans (he.mono (NV p2));have hZ:Blk (w2.alloc (.cells (T f) 138)) w.heap.size 43 #[.string ⟨#[]⟩,.int .i64 0]:=(bH w2 _ _ (az hv)).trans hv;have h9:=aa (aj w2 138 (T f));have hj:=aa (h3.alloc h3.size (.cells (T f) 138));have hG:=aa hZ;have h6:=aa fun w3=>hL.out w3 f ht;have H5:=aa ht;have hK:=aa fun u hu=>KM (a:=a.data.toList) (f:=f) h2 (u:=u) hu;have HH:=aa fun i hi h0=>Kg (a:=a.data.toList) (f:=f) h2 (i:=i) hi h0;have HL:=aa fun i hi h0=>vu (a:=a.data.toList) (f:=f) h2 (i:=i) hi h0;have hE:=aa (show(prog.info? 138).map (·.size)=some (T f).size by rw[p1];exact HI.out);have H8:=aa (HG.out f);clear hv h3 hZ he ht h2 hL hJ HM HK HB hF hB HG HO;go_upto_region 4 with fail;clear p0 hz;have hX:w2.heap.size<(w2.alloc (.cells (T f) 138)).heap.size:=az h9.out;have HY:w.heap.size<w2.heap.size:=by omega
 obtain⟨g4,hV⟩:∃g4,g4=w2.heap.size:=⟨_,rfl⟩;rw[<- hV]at h9 hX HY |-;clear hV p3;generalize T f=Tf at*;generalize w2.alloc (.cells Tf 138)=w3 at*;go_upto_region 5 with(go_at_call 55;refine(C7 w3).mono ?_;rintro e w4 ⟨rfl,h8⟩;have h7:=aa h8;clear h8)
 have hx:=h7.out;clear h7;have hy:=hj.out.size;obtain⟨p,hp⟩:∃p,p=w3.heap.size:=⟨_,rfl⟩;have hN:IsW w.heap.size w4 p (.slice none 0 0) []:=by rw[hx,hp];exact lB w3 _ hy
 have ho:Below w3.heap.size w3 w4:=bQ hx;have hw:=an ho;have hh:=aa (hw.blk h9.out ar ar);have hH:=aa (hw.blk hG.out ar ar);have hC:=aa (hj.out.trans (ho.mono hy));have hM:=aa hN;have p5:g4<p:=by omega
 have p6:w.heap.size<p:=by omega
 rw[<- hp];clear hN ho hw hx hp h9 hG hj hy hX;refine Qj (il rfl rfl (fT rfl rfl rfl hh.out underlying138 hE.out ?_));go_wp2_with fail;refine(h6.out w4).mono ?_;rintro e w5 ⟨u,hu,rfl,hr⟩;have hf:=an hr;have hO:=hM.out.step hf ar (fun _ _=>ar) ar ar;have hA:=aa (hf.blk hh.out ar ar);have hI:=aa (hf.blk hH.out ar ar);have hD:=aa (ap hC.out hr);have h1:=aa (fo w.heap.size w5 p _ [] u 16 hO (by simp) (by omega) hu.1);rw[NX,hK.out u hu,<-HN.out]at h1;clear hu hr hf hO h6 hK hM hh hH hC;go_wp2_with fail;refine h1.out.mono ?_;rintro e w6 ⟨rfl,v6,hP,hc⟩;have H2:=aa (hc.blk hA.out (by simp;omega) (by decide));have HA:=aa (hc.blk hI.out (by simp;omega) (by decide));have H3:=aa (hD.out.trans hc.below);have HV:=aa hP;clear hP hc h1 hA hI hD;go_upto_region 6 with fail;refine Qj (fT rfl rfl rfl H2.out underlying138 hE.out ?_);go_wp2_with fail;go_loopw [20] (fun i wx=>∃(q:Nat) (v:Value),q<=16/\i=.int .i64 q/\IsW w.heap.size wx p v (lI a.data.toList q)/\Blk wx w.heap.size 43 #[.string ⟨#[]⟩,.int .i64 0]/\Below w.heap.size w wx) (fun i _=>16-(intOf i).toNat)
 case atStart=>exact⟨0,v6,Nh _,rfl,HV.out,HA.out,H3.out⟩
 case round=>
  obtain⟨q,v,hq,rfl,hW,hk,hb⟩:=hrel;have HW:=aa hW;have HK:=aa hk;have HB:=aa hb;have p7:=HQ.out q;by_cases e:q<16
  ·obtain⟨c,h4⟩:∃c,c=f q:=⟨_,rfl⟩;have hg:=H8.out q e;rw[<- h4]at hg;have HZ:=fun w9=>HJ.out w9 Tf q c e hg;have h5:=HR.out q;by_cases hs:c=0
   ·subst hs;rw[HL.out q e h4.symm,NR]at h5;have HF:=aa h5;clear h5 h4 hW hk hb hg;go_wp2_with fail;go_roundw;case rel=>exact⟨q+1,v,by omega,by go_num,by rw[HF.out];exact HW.out,HK.out,HB.out⟩
    case measure=>simp[intOf];omega
   ·have p4:=o7 hs;rw[<- HH.out q e (by rw[<- h4];exact hs),<-h4]at h5;have h1:=aa (fo w.heap.size wr p _ _ c 16 hW (by omega) (by omega) (by rw[h4];exact H5.out q e));rw[<- h5]at h1;clear h5 h4 hW hk hb hg;go_wp2_with fail;refine h1.out.mono ?_;rintro e w7 ⟨rfl,v7,hQ,hl⟩;have HC:=aa (hl.blk HK.out (by simp;omega) (by decide));have H4:=aa (HB.out.trans hl.below);have HX:=aa hQ;clear hQ hl h1;go_wp2_with fail;go_roundw;case rel=>exact⟨q+1,v7,by omega,by go_num,HX.out,HC.out,H4.out⟩
    case measure=>simp[intOf];omega
  ·obtain rfl:q=16:=(by omega);rw[HP.out]at hW;obtain⟨S,hS⟩:∃S:ByteArray,S=⟨(aF (dZ a.data.toList)).toArray⟩:=⟨_,rfl⟩;have HT:=aa (im w.heap.size wr p v _ hW);have HU:=aa hS;rw[<- hS]at HT;obtain⟨n,hn⟩:∃n,n=(dZ a.data.toList).length:=⟨_,rfl⟩;have c0:=ac hW.blk 0;have c2:=ac hW.blk 2;simp at c0 c2;have HE:=aa hn;rw[<- hn]at c2;have HD:=aa (jM wr p n c0 c2);have q0:wr.cell? ⟨w.heap.size,0,none⟩=some (.string ⟨#[]⟩):=ac hk 0;have q1:wr.cell? ⟨w.heap.size,1,none⟩=some (.int .i64 0):=ac hk 1;have f0:=ae hk 0;have f1:=ae hk 1;clear hW hk hb hS hn c0 c2 HW HK;go_wp2_with fail;refine HT.out.mono ?_;rintro e w8 ⟨rfl,rfl⟩;go_wp2_with fail;refine HD.out.mono ?_;rintro e w8 ⟨rfl,rfl⟩;go_wp2_with fail;refine ND (v:=.tuple #[.agg #[.string S,.int .i64 n],.int .i64 0]) ?_ rfl ?_;·simp[results,results50,go_sem,q0,q1]
   ·exact⟨by rw[HU.out,HE.out];rfl,(HB.out.setCell (p:=⟨w.heap.size,0,none⟩) (ah _) _).setCell (p:=⟨w.heap.size,1,none⟩) (ah _) _⟩
