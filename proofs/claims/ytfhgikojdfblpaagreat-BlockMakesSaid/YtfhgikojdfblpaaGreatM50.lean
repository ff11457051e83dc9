import Derived.Test.YtfhgikojdfblpaaGreatM28
import Derived.Test.YtfhgikojdfblpaaGreatM10
import Derived.Deep.RegionWith
set_option maxHeartbeats 1600000
set_option maxRecDepth 100000
namespace Go.Proofs.YtfhgikojdfblpaaGreat.S06
open _root_.Go.Proofs.Tryz
def pt(P:Nat->Bool)(f:Nat->Nat):Prop:=∀i,i<16->f i<65536/\∀k,k<16->(f i).testBit (15-k)=P (16*i+k)
def orF(f:Nat->Nat)(b:Nat):Nat->Nat:=fun i=>if i=b/16 then f (b/16) ||| 2^(15-b%16)else f i
theorem Kf:pt (fun _=>false) (fun _=>0):=fun _ _=>⟨Nat.zero_lt_succ _,fun _ _=>Q6 _⟩
theorem ME{f:Nat->Nat}(hf:∀i,i<16->f i<65536)(b:Nat):∀i,i<16->orF f b i<65536:=by
 intro i hi;unfold orF;split;·refine Nat.or_lt_two_pow (n:=16) (hf _ (by omega)) ?_;exact P0 (by decide) (by omega)
 ·exact hf i hi
theorem MG{P:Nat->Bool}{f:Nat->Nat}(h:pt P f)(b:Nat):pt (fun x=>P x || x==b) (orF f b):=by
 intro i hi;refine⟨ME (fun j hj=>(h j hj).1) b i hi,fun k hk=> ?_⟩;unfold orF;by_cases e:i=b/16
 ·rw[Nf e,Nat.testBit_or,RL,<-e,(h i hi).2 k hk];congr 1;by_cases e2:16*i+k=b;·have e3:15-b%16=15-k:=(by omega);rw[e3,e2];simp
  ·have e3:¬15-b%16=15-k:=(by omega);simp[e2,e3]
 ·rw[Nd e,(h i hi).2 k hk];have e2:¬16*i+k=b:=(by omega);simp[e2]
theorem rE(x n:Nat):(x &&& 2^n≠0)=(x.testBit n=true):=by
 rw[Pi,PF];apply propext;constructor
 ·intro h;have:=Nat.testBit_two_pow_self (n:=n);by_cases e:x/2^n%2=1;·exact e
  ·exfalso;refine h (Qq fun i=> ?_);rw[Nat.testBit_and,RL,Q6];by_cases e2:n=i;·subst e2;rw[Pi];simp[e]
   ·simp[e2]
 ·intro h h0;have h1:(x &&& 2^n).testBit n=false:=(by rw[h0,Q6]);rw[Nat.testBit_and,Nat.testBit_two_pow_self,Pi,h]at h1;simp at h1
theorem In(x:Nat)(h:x<65536):x=0↔∀k,k<16->x.testBit (15-k)=false:=by
 constructor;·intro e k _;rw[e,Q6]
 ·intro hk;refine Qq fun i=> ?_;rw[Q6];by_cases hi:i<16;·have:=hk (15-i) (by omega);rw[show 15-(15-i)=i by omega]at this;exact this
  ·exact Nat.testBit_lt_two_pow (OA h (by
    have:2^16<=2^i:=Od (by decide) (by omega)
    exact this))
theorem ID(x:Nat)(g:Nat->Nat)(h:∀k,k<16->g k=if x.testBit (15-k)then 1 else 0):ah x 16=(List.range 16).map g:=by
 apply Ob;intro i;by_cases hi:i<16;·rw[nD 16 x i hi,Np,NJ hi,Ov,h i hi,show 16-1-i=15-i by omega,Pi];have:=Nat.mod_two_eq_zero_or_one (x/2^(15-i));rcases this with e|e <;>simp[e]
 ·rw[Nw (by rw[af];omega),Nw (by simp;omega)]
def np(x i:Nat):List UInt8:=((List.range 16).filter fun k=>x.testBit (15-k)).map fun k=>UInt8.ofNat (16*i+k)
def qq(f:Nat->Nat):List UInt8:=(List.range 16).flatMap fun i=>np (f i) i
def fI(f:Nat->Nat)(q:Nat):List UInt8:=((List.range q).filter fun b=>(f (b/16)).testBit (15-b%16)).map UInt8.ofNat
theorem xi(f:Nat->Nat)(q:Nat):fI f (q+1)=if(f (q/16)).testBit (15-q%16)then fI f q++ [UInt8.ofNat q]else fI f q:=by
 unfold fI;rw[Oh,QI,Nz];by_cases e:(f (q/16)).testBit (15-q%16)=true;·simp[e]
 ·simp[e]
theorem Bw(f:Nat->Nat)(n:Nat):∀m,m<=16->fI f (16*n+m)=fI f (16*n)++((List.range m).filter fun k=>(f n).testBit (15-k)).map fun k=>UInt8.ofNat (16*n+k)
 | 0,_=>by simp
 | m+1,h=>by
  rw[<- OQ,xi,Bw f n m (by omega),Oh,QI,Nz,show(16*n+m)/16=n by omega,show(16*n+m)%16=m by omega];by_cases e:(f n).testBit (15-m)=true;·simp[e]
  ·simp[e]
theorem xj(f:Nat->Nat):∀n,fI f (16*n)=(List.range n).flatMap fun i=>np (f i) i
 | 0=>rfl
 | n+1=>by rw[Nat.mul_succ,Bw f n 16 (ag _),xj f n,Oh (n:=n),OF];simp[np]
theorem Bu(f:Nat->Nat):fI f 256=qq f:=xj f 16
theorem Bv(f:Nat->Nat)(q:Nat):(fI f q).length<=q:=by unfold fI;rw[Nu];exact ND (QP ..) (Oi NE)
theorem GX(s:List UInt8)(f:Nat->Nat)(h:pt (fun b=>decide (UInt8.ofNat b∈s)) f):qq f=ofL s:=by rw[<- Bu];unfold fI ofL za;rw[List.filter_map];congr 1;refine List.filter_congr fun b hb=> ?_;have hb:=List.mem_range.1 hb;rw[(h (b/16) (by omega)).2 (b%16) (by omega),show 16*(b/16)+b%16=b by omega];rfl
theorem Ke(s:List UInt8)(q:Nat)(hq:q<s.length)(f:Nat->Nat)(h:pt (fun b=>decide (UInt8.ofNat b∈s.take q)) f):
 pt (fun b=>decide (UInt8.ofNat b∈s.take (q+1))) (orF f (s.getD q 0).toNat):=by have h1:=MG h (s.getD q 0).toNat;intro i hi;refine⟨(h1 i hi).1,fun k hk=> ?_⟩;rw[(h1 i hi).2 k hk];have e:s.getD q 0=s[q]:=(by rw[Na,Nc hq];rfl);have e2:(16*i+k==s[q].toNat)=decide (UInt8.ofNat (16*i+k)=s[q]):=(by rw[Bool.beq_eq_decide_eq];refine decide_eq_decide.2 ⟨fun h=>by rw[h,P4],fun h=> ?_⟩;rw[<- h,Oo,NL (by omega)]);rw[NF hq,e];show(decide (UInt8.ofNat (16*i+k)∈s.take q) || (16*i+k==s[q].toNat))=decide (UInt8.ofNat (16*i+k)∈s.take q++ [s[q]]);rw[e2,<-Bool.decide_or];refine decide_eq_decide.2 ?_;rw[Rh,Og]
def xI(f:Nat->Nat)(q u:Nat):Prop:=u<65536/\∀k,k<16->u.testBit (15-k)=(decide (k<q)&&decide (f k≠0))
theorem KT(f:Nat->Nat):xI f 0 0:=⟨by decide,fun k _=>by simp⟩
theorem L7{f:Nat->Nat}{q u:Nat}(h:xI f q u)(hq:q<16)(h0:f q≠0):xI f (q+1) (u ||| 2^(15-q)):=by
 refine⟨Nat.or_lt_two_pow (n:=16) h.1 (P0 (by decide) (by omega)),fun k hk=> ?_⟩;rw[Nat.testBit_or,RL,h.2 k hk];by_cases e:k=q;·subst e;simp[h0]
 ·have e3:¬15-q=15-k:=(by omega);have e4:(decide (k<q+1))=decide (k<q):=decide_eq_decide.2 (by omega);rw[e4];simp[e3]
theorem MM{f:Nat->Nat}{q u:Nat}(h:xI f q u)(h0:f q=0):xI f (q+1) u:=by
 refine⟨h.1,fun k hk=> ?_⟩;rw[h.2 k hk];by_cases e:k=q;·subst e;simp[h0]
 ·have e4:(decide (k<q+1))=decide (k<q):=decide_eq_decide.2 (by omega);rw[e4]
theorem qu{a:List UInt8}{f:Nat->Nat}(h:pt (fun b=>decide (UInt8.ofNat b∈a)) f){i:Nat}(hi:i<16):f i=0↔fZ a i=0:=by
 rw[In (f i) (h i hi).1];unfold fZ;constructor;·intro hk;rw[if_neg];rw[List.any_eq_true];rintro⟨x,hx,h0⟩;have hd:x.toNat/16=i:=(by simpa using h0);have h3:=(h i hi).2 (x.toNat%16) (by omega);rw[hk (x.toNat%16) (by omega),show 16*i+x.toNat%16=x.toNat by omega]at h3;replace h3:false=decide (UInt8.ofNat x.toNat∈a):=h3;rw[P4]at h3;simp[hx]at h3
 ·intro hr k hk;rw[(h i hi).2 k hk,Qy];intro hm;rw[if_pos]at hr;·simp at hr
  ·rw[List.any_eq_true];refine⟨_,hm,?_⟩;rw[Oo,NL (by omega),show(16*i+k)/16=i by omega];simp
theorem KS{a:List UInt8}{f:Nat->Nat}(h:pt (fun b=>decide (UInt8.ofNat b∈a)) f){u:Nat}(hu:xI f 16 u):ah u 16=(List.range 16).map (fZ a):=by
 refine ID u _ fun k hk=> ?_;rw[hu.2 k hk];by_cases e:f k=0;·rw[(qu h hk).1 e];simp[e]
 ·have:¬fZ a k=0:=fun h2=>e ((qu h hk).2 h2);have e1:fZ a k=1:=by rcases kJ a k with h2|h2 <;>omega
  rw[e1];simp[hk,e]
theorem Kn{a:List UInt8}{f:Nat->Nat}(h:pt (fun b=>decide (UInt8.ofNat b∈a)) f){i:Nat}(hi:i<16)(h0:f i≠0):ah (f i) 16=bA a i:=by
 have e1:fZ a i=1:=by have:¬fZ a i=0:=fun h2=>h0 ((qu h hi).2 h2);rcases kJ a i with h2|h2 <;>omega
 unfold bA;rw[Nf e1];refine ID _ _ fun k hk=> ?_;rw[(h i hi).2 k hk];unfold mK;simp only[PF]
theorem vK{a:List UInt8}{f:Nat->Nat}(h:pt (fun b=>decide (UInt8.ofNat b∈a)) f){i:Nat}(hi:i<16)(h0:f i=0):bA a i= []:=by unfold bA;rw[if_neg];rw[(qu h hi).1 h0];decide
theorem sP(l:List Nat)(p k:Nat)(hb:au l)(hp:p+16<=l.length)(hk:k<16):(val ((l.drop p).take 16)).testBit (15-k)=(l.getD (p+k) 0==1):=by have h0:((l.drop p).take 16).length=16:=(by rw[NB,Ny];omega);have h1:=js ((l.drop p).take 16) ((hb.drop p).take 16);rw[h0]at h1;have h2:=nD 16 (val ((l.drop p).take 16)) k hk;rw[h1,Pt hk,O3,Nc (by omega),Oj,show 16-1-k=15-k by omega]at h2;rw[Pi,<-h2,Na,Nc (by omega)];rfl
theorem KU(l:List Nat)(p:Nat)(hb:au l)(hp:p+16<=l.length):val ((l.drop p).take 16)<65536:=by have h0:((l.drop p).take 16).length=16:=(by rw[NB,Ny];omega);have:=gH ((l.drop p).take 16) ((hb.drop p).take 16);rw[h0]at this;exact this
theorem Kq(l:List Nat)(p i:Nat)(hb:au l)(hp:p+16<=l.length):np (val ((l.drop p).take 16)) i=gF l p i:=by unfold np gF;congr 1;refine List.filter_congr fun k hk=> ?_;exact sP l p k hb hp (List.mem_range.1 hk)
def sU(f:Nat->Nat)(q:Nat)(out:List UInt8):Prop:=(∀ i,f i<65536)/\(∀ i,q<=i->f i=0)/\out=(List.range q).flatMap fun i=>np (f i) i
theorem DP(i:Nat):np 0 i= []:=by unfold np;rw[List.filter_eq_nil_iff.2 (fun k _=>by simp)];rfl
theorem Ic:sU (fun _=>0) 0 []:=⟨fun _=>Nat.zero_lt_succ _,fun _ _=>rfl,rfl⟩
theorem L4{f:Nat->Nat}{q:Nat}{out:List UInt8}(h:sU f q out):sU f (q+1) out:=by refine⟨h.1,fun i hi=>h.2.1 i (by omega),?_⟩;rw[Oh,OF,<-h.2.2];simp[h.2.1 q (ag _),DP]
theorem KQ{f:Nat->Nat}{q x:Nat}{out:List UInt8}(h:sU f q out)(hx:x<65536):sU (fun i=>if i=q then x else f i) (q+1) (out++np x q):=by
 refine⟨fun i=> ?_,fun i hi=> ?_,?_⟩
 ·show(if i=q then x else f i)<65536;split;·exact hx
  ·exact h.1 i
 ·show(if i=q then x else f i)=0;rw[Nd];exact h.2.1 i (by omega)
 ·rw[Oh,OF,h.2.2];have e:((List.range q).flatMap fun i=>np (if i=q then x else f i) i)=(List.range q).flatMap fun i=>np (f i) i:=(by rw[Q5,Q5];congr 1;refine Oe fun i hi=> ?_;have:=List.mem_range.1 hi;rw[Nd]);rw[e];simp
theorem KP{f:Nat->Nat}{out:List UInt8}(h:sU f 16 out):qq f=out:=h.2.2.symm
open Go.RowKit
def iI(f:Nat->Nat):Array Value:=(Array.range 16).map fun i=>.int .u64 (f i)
theorem qJ(f:Nat->Nat):(iI f).size=16:=by simp[iI]
theorem E8:iI (fun _=>0)=Array.replicate 16 (.int .u64 0):=by
 apply Rm;·simp[iI]
 ·intro i h1 h2;simp[iI]
theorem vu:(∀ w,(zeroValue 74).run prog w=.ok (.agg (iI fun _=>0)) w)/\(prog.info? 74).map (·.size)=some 16:=by rw[E8];exact RO (by kernel_rfl)
theorem zo(f:Nat->Nat)(b x:Nat):(iI f).setIfInBounds b (.int .u64 x)=iI fun i=>if i=b then x else f i:=by
 apply Rm;·simp[iI]
 ·intro i h1 h2;rw[Qb (by simpa [iI]using h2)];by_cases e:b=i;·subst e;simp[iI]
  ·rw[Nd e];have e2:¬i=b:=fun h=>e h.symm;simp[iI,e2]
theorem zl(f:Nat->Nat):(iI f).all (·.oneCell')=true:=by rw[QS];intro i h;simp[iI,Value.oneCell']
theorem mI(f:Nat->Nat)(i:Nat)(h:i<16):(iI f)[i]? =some (.int .u64 (f i:Nat)):=by simp[iI,h]
theorem fO{P:Program}{ops:Array Oper}{rest:List Oper}{o:Oper}{a:Act}{w:World}{Q:Exit->Act->World->Prop}{ty t:TypeId}{p:Operand}{g n:Nat}{e:TypeId}{cs:Array Value}{fr:Nat×Nat}
 (hw:Region.wanted o (yielded ops a.tmps)=true) (h0:o.op=.load ty p) (hp:a.eval p=.pointer (some ⟨g,0,none⟩)) (hg:w.heap[g]? =some (.cells cs t fr)) (hu:P.underlying ty=some (.array n e)) (hi:(P.info? ty).map (·.size)=some cs.size)
 (hn:wpList P ops Q rest (a.put o.dst (.agg cs)) w):wpList P ops Q (o::rest) a w:=by unfold wpList;rw[Nf hw];exact .inl (kL h0 hp hg hu hi hn)
theorem iy{P:Program}{ops:Array Oper}{rest:List Oper}{o:Oper}{a:Act}{w:World}{Q:Exit->Act->World->Prop}{x:Operand}
 (hw:Region.wanted o (yielded ops a.tmps)=true) (h0:o.op=.move x) (hn:wpList P ops Q rest (a.put o.dst (a.eval x)) w):wpList P ops Q (o::rest) a w:=by unfold wpList;rw[Nf hw];left;unfold Oper.wp;simp[execOp,h0];exact hn
theorem mU:∃i,prog.info? 72=some i/\i.size=1:=by
 have hs:(prog.info? 72).map (·.size)=some 1:=by kernel_rfl
 cases hq:prog.info? 72 with
 | none=>simp[hq]at hs
 | some i=>exact⟨i,rfl,by simpa [hq]using hs⟩
theorem uY(w:World)(cs:Array Value)(q c:Nat)(h:q<16)(hc:cs[q]? =some (.int .u64 c)):(Instr.index 74 (.agg cs) (.int .i64 q)).run prog w=.ok (.int .u64 c) w:=by obtain⟨i3,h3,h0⟩:=mU;have h1:(0:Int)<=(q:Int):=(by omega);have h4:¬16<=q:=(by omega);unfold Instr.index;simp[Pk underlying74,go_sem,h1,sizeOf,typeInfo,h3,h0,part,hc,h4]
theorem sD(w:World)(k:Nat)(hk:k<16):Calls prog 81 #[.int .i64 k] w fun e w'=>e=.returned (.int .u64 ((2^(15-k):Nat):Int))/\w=w':=by have hi:∃i:Nat,i<16/\k=i:=⟨k,hk,rfl⟩;have h0:k=0\/k=1\/k=2\/k=3\/k=4\/k=5\/k=6\/k=7\/k=8\/k=9\/k=10\/k=11\/k=12\/k=13\/k=14\/k=15:=(by omega);clear hi;rcases h0 with rfl|rfl|rfl|rfl|rfl|rfl|rfl|rfl|rfl|rfl|rfl|rfl|rfl|rfl|rfl|rfl <;>(go_enter func81,ntmps81;go_wp2_with fail;go_ret;exact⟨rfl,rfl⟩)
theorem aW{w:World}{g k:Nat}{t:TypeId}{cs:Array Value}(h:Blk w g t cs)(h0:g≠k)(i:Nat)(u:Value):Blk (w.setCell ⟨k,i,none⟩ u) g t cs:=by show(w.setCell ⟨k,i,none⟩ u).heap[g]? =_;rw[OK w ⟨k,i,none⟩ u g h0];exact h
theorem Lf(w:World)(a b:Array Value)(t:TypeId):Blk ((w.alloc (.cells a t)).alloc (.cells b t)) w.heap.size t a/\Blk ((w.alloc (.cells a t)).alloc (.cells b t)) (w.heap.size+1) t b:=by
 have e1:(w.alloc (.cells a t)).heap.size=w.heap.size+1:=by simp
 refine⟨?_,?_⟩;·show(World.alloc _ _).heap[_]? =_;rw[bZ _ _ _ (by simp)];exact aj w t a
 ·rw[<- e1];exact aj _ t b
def xG(w:World)(s:List UInt8)(e:Ending)(w':World):Prop:=∃f,e=.returned (.agg (iI f))/\pt (fun b=>decide (UInt8.ofNat b∈s)) f/\Below w.heap.size w w'
theorem xn(w:World)(s:ByteArray)(hs:s.size<=1000000):Calls prog 33 #[.string s] w (xG w s.data.toList):=by
 obtain⟨hz,hi⟩:=vu;obtain⟨i50,hj,hl⟩:=mU;have HP:Hid (∀ f w',pt (fun b=>decide (UInt8.ofNat b∈s.data.toList)) f->Below w.heap.size w w'->xG w s.data.toList (.returned (.agg (iI f))) w'):=aa fun f w' h1 h2=>⟨f,rfl,h1,h2⟩;have HI:=aa hi;have HS:=aa qJ;have he:=aa zo;have HO:=aa zl;have HG:=aa mI;have ha:=aa sD;have ht:pt (fun b=>decide (UInt8.ofNat b∈s.data.toList.take 0)) (fun _=>0):=by simpa using Kf
 have hC:=aa ht;have hv:s.data.toList.length=s.size:=rfl;have ho:=aa hv;have hD:=aa (Ke s.data.toList);generalize xG w s.data.toList=PO at*;generalize iI=T at*;clear hi ht hv;go_enter func33,ntmps33;go_wp2;go_loopw [8] (fun i wx=>∃(q:Nat) (f:Nat->Nat),q<=s.size/\i=.int .i64 q/\Hid (pt (fun b=>decide (UInt8.ofNat b∈s.data.toList.take q)) f)/\Blk wx w.heap.size 74 (T fun _=>0)/\Blk wx (w.heap.size+1) 74 (T f)/\Below w.heap.size w wx) (fun i _=>s.size-(intOf i).toNat)
 case atStart=>obtain⟨h1,h2⟩:=Lf w (T fun _=>0) (T fun _=>0) 74;exact⟨0,_,Ng _,rfl,hC,h1,h2,((Nj _ w).alloc (ag _) _).alloc (by simp) _⟩
 case round=>
  obtain⟨q,f,hq,rfl,h3,hg,h4,hb⟩:=hrel;have H0:=aa hg;have H1:=aa h4;have HB:=aa hb;by_cases e:q<s.size
  ·have h6:=PZ s[q];have hp:=ij s q e;obtain⟨b,h8⟩:∃b,b=s[q].toNat:=⟨_,rfl⟩;rw[<- h8]at h6;obtain⟨d,hd⟩:∃d,d=b/16:=⟨_,rfl⟩;obtain⟨m,hm⟩:∃m,m=b%16:=⟨_,rfl⟩;have h7:d<16:=(by omega);have hk:m<16:=(by omega);have hJ:(0:Int)<=(d:Int):=(by omega);have hK:(d:Int)<16:=(by omega);have hO:IntKind.i64.wrap (d:Int)=(d:Int):=(by rw[Of];omega);have hL:(b:Int)/16=(d:Int):=(by omega);have hF:(b:Int)%16=(m:Int):=(by omega);have hE:(b:Int).tmod 16=(m:Int):=(by rw[Int.tmod_eq_emod_of_nonneg (by omega)];exact hF);have hc:=ac h4 d;have hf:=ae h4 d;rw[HG.out _ d h7]at hc;have hu:=h3.out d h7;obtain⟨c,h9⟩:∃c,c=f d:=⟨_,rfl⟩;rw[<- h9]at hc;have hI:c<65536:=(by rw[h9];exact hu.1);have hG:2^(15-m)<65536:=P0 (by decide) (show 15-m<16 by omega);have hr:=u64_or_nat c (2^(15-m)) (by omega) (by omega);obtain⟨y,hy⟩:∃y,y=c ||| 2^(15-m):=⟨_,rfl⟩;rw[<- hy]at hr;have h0:=fun w1:World=>ha.out w1 m hk;obtain⟨x,hx⟩:∃x,x=2^(15-m):=⟨_,rfl⟩;rw[<- hx]at hr;(replace h0:∀w1:World,Calls prog 81 #[.int .i64 m] w1 fun e w'=>e=.returned (.int .u64 (x:Int))/\w1=w':=by intro w1;rw[hx];exact h0 w1);have hM:s[q].toNat=b:=h8.symm;have hH:=HS.out f;have hB:=aa h9;have hA:=aa hp;have hw:=aa h8;have HD:=aa hd;have HM:=aa hm;have HY:=aa hy;have h5:=aa h0;clear hg h4 hb hp h8 hz hd hm h9 hy hx hu h0 hG;go_upto_region 6 with fail;(go_region_with (first|(go_at_call 81;(try rw[hE]);refine(h5.out _).mono ?_;rintro e w' ⟨rfl,rfl⟩)));(all_goals (go_wp2_with fail;go_roundw));case' rel=>skip
   all_goals first
    | (refine⟨q+1,orF f b,by omega,by go_num,?_,aW H0.out (by omega) _ _,?_,(HB.out.setCell (p:=⟨w.heap.size+1,d,none⟩) (by show _≤w.heap.size+1;omega) _).drew⟩
       ·have h1:=hD.out q (by rw[ho.out];omega) f h3.out
        rw[hA.out,<-hw.out]at h1
        exact h1
       ·have h1:=ay H1.out d (.int .u64 (y:Nat))
        rw[he.out]at h1
        have e2:(fun i=>if i=d then y else f i)=orF f b:=by
         funext i
         unfold orF
         rw[HY.out,hB.out,HD.out,HM.out]
        rw[e2]at h1
        exact h1)
    | (simp [intOf];omega)
  ·obtain rfl:q=s.size:=(by omega);have hT:s.data.toList.take s.size=s.data.toList:=Nr (Oi ho.out);rw[hT]at h3;have hh:(prog.info? 74).map (·.size)=some (T f).size:=(by rw[HS.out];exact HI.out);have H1:=aa h4;have hn:=aa hh;have hN:=cT (P:=prog) H0.out hh (by rw[HS.out,HS.out]) (HO.out _);have hH:=HS.out f;clear hg h4 hb hT hh hz hj hl;go_upto_region 8 with fail;refine Qd (fO rfl rfl rfl H1.out underlying74 hn.out ?_);go_wp2_with fail;refine NH (v:=.agg (T f)) (jf rfl rfl (QB _ _ _ _ _ _ H0.out) underlying74 hn.out) rfl (HP.out f _ h3.out ?_);exact below_setRow HB.out (ag _) _
theorem qc{y:Nat}(h:y≠0):((y:Int)==0)=false:=by rw[NC];omega
theorem Ed(w:World)(a:Array Value)(t:TypeId):Blk (w.alloc (.cells a t)) w.heap.size t a:=aj w t a
theorem jY(w:World)(f:Nat->Nat)(hf:∀i,i<16->f i<65536):Calls prog 34 #[.agg (iI f)] w fun e w'=>e=.returned (.string (eP (qq f)))/\Below w.heap.size w w':=by
 obtain⟨i50,hN,hY⟩:=mU;obtain⟨i5,h5,hT,hV,hW⟩:=N4 Tryz.info5;have hj:=aa sD;have HF:=aa hf;have HG:=aa (mI f);rw[<- Bu];have HN:=aa (xi f);have hJ:=aa (Bv f);have h0:fI f 0= []:=rfl;have hC:=aa h0;generalize iI f=T at*;generalize hgr:fI f=R at*;clear hgr hf h0;go_enter func34,ntmps34;go_wp2_with fail;go_loopw [3,5] (fun out i wx=>∃(q:Nat),q<=256/\i=.int .i64 q/\wx.ownsRow w.heap.size 5 1 out (R q).length ((R q).map bv)/\Blk wx w.heap.size 74 T/\Below w.heap.size w wx) (fun _ i _=>256-(intOf i).toNat)
 case atStart=>refine⟨0,Ng _,rfl,?_,Ed _ _ _,(Nj _ w).alloc (ag _) _⟩;rw[hC.out];exact Nt _ _ _ _
 case round=>
  obtain⟨q,hq,rfl,h2,hh,hb⟩:=hrel;have H0:=aa hh;have HB:=aa hb;have hZ:=hb.size;have hO:=hJ.out q;obtain⟨A0,c0,rfl,hR,hP,hL⟩:=ai h2;clear hL;unfold maxLen at hP;by_cases e:q<256
  ·obtain⟨d,hd⟩:∃d,d=q/16:=⟨_,rfl⟩;obtain⟨m,hm⟩:∃m,m=q%16:=⟨_,rfl⟩;have ha:d<16:=(by omega);have ho:m<16:=(by omega);have H1:(0:Int)<=(d:Int):=(by omega);have H2:(d:Int)<16:=(by omega);have H5:IntKind.i64.wrap (d:Int)=(d:Int):=(by rw[Of];omega);have H3:(q:Int)/16=(d:Int):=(by omega);have hQ:(q:Int)%16=(m:Int):=(by omega);have hB:(q:Int).tmod 16=(m:Int):=(by rw[Int.tmod_eq_emod_of_nonneg (by omega)];exact hQ);have hc:=ac hh d;rw[HG.out d ha]at hc;have hi:=HN.out q;rw[<- hd,<-hm]at hi;have hM:f d<65536:=HF.out d ha;obtain⟨c,hz⟩:∃c,c=f d:=⟨_,rfl⟩;rw[<- hz]at hc hM hi;have hS:2^(15-m)<65536:=P0 (by decide) (show 15-m<16 by omega);have h9:=u64_and_nat c (2^(15-m)) (by omega) (by omega);obtain⟨y,hy⟩:∃y,y=c &&& 2^(15-m):=⟨_,rfl⟩;have h7:=rE c (15-m);rw[<- hy]at h9 h7;have h3:=fun w1:World=>hj.out w1 m ho;obtain⟨x,hx⟩:∃x,x=2^(15-m):=⟨_,rfl⟩;rw[<- hx]at h9;(replace h3:∀w1:World,Calls prog 81 #[.int .i64 m] w1 fun e w'=>e=.returned (.int .u64 (x:Int))/\w1=w':=by intro w1;rw[hx];exact h3 w1);have h4:=aa h3;have HO:=aa h2;have hr:=aa hi;have h8:=aa h7;clear hh hb hd hm hz hy hx h3 hS h2 hi h7;by_cases hp:y=0
   ·subst hp;have hg:¬c.testBit (15-m)=true:=(by rw[<- h8.out];exact fun h=>h rfl);have he:R (q+1)=R q:=(by rw[hr.out,Nd hg]);have hl:=aa he;clear he hg;go_upto_region 5 with fail;(go_region_with (first|(go_at_call 81;(try rw[hB]);refine(h4.out _).mono ?_;rintro e w' ⟨rfl,rfl⟩)));all_goals (go_wp2_with fail;go_roundw)
    all_goals first
     | (refine⟨q+1,by omega,by go_num,by rw[hl.out];exact HO.out,H0.out,HB.out.drew⟩)
     | (simp [intOf];omega)
   ·have hg:c.testBit (15-m)=true:=(by rw[<- h8.out];exact hp);have H4:=qc hp;have he:R (q+1)=R q++ [UInt8.ofNat q]:=(by rw[hr.out,Nf hg]);have hl:=aa he;have hw:(UInt8.ofNat q).toNat=q:=(by rw[Oo,NL e]);have hH:=aa hw;clear he hg hw;obtain⟨k,hk⟩:∃k,k=(R q).length:=⟨_,rfl⟩;obtain⟨X,hX⟩:∃X,X=(R q).map bv:=⟨_,rfl⟩;rw[<- hk]at hR hO;have HK:=aa hk;have HX:=aa hX;have hn:Hid (wr.drew.ownsRow w.heap.size 5 1 (.slice A0 k c0) k X):=aa (by rw[hX,hk];exact HO.out);rw[<- hk];clear hk hX HO;have H6:IntKind.u8.wrap (q:Int)=(q:Int):=(by rw[IntKind.wrap_u8'];omega);have ht:Blk wr.drew w.heap.size 74 T:=H0.out;have hE:=aa ht;have hI:=aa HB.out.drew;clear ht;go_upto_region 5 with fail;go_region_with (first|(go_at_call 81;(try rw[hB]);refine(h4.out _).mono ?_;rintro e w' ⟨rfl,rfl⟩))
    all_goals (
     go_wp2_with (at_builtin;refine N5 _ rfl _ _ 69 rfl w.heap.size 5 i5 (.int .u8 0) 1 1 underlying69 h5 hT hV hW rfl (by decide) _ _ _ rfl (hn.out.alloc _) ⟨wr.heap.size,0,none⟩ 1 1 [.int .u8 q] rfl rfl ?c1 ?c2 ?c3 ?c4 ?c5 ?_)
     case c1=>exact bV _ _ _
     case c2=>intro u hu;simp at hu;subst hu;rfl
     case c3=>unfold maxLen;omega
     case c4=>omega
     case c5=>simp;omega
     intro v4 w4 h6 h1 _
     have hv:Below w.heap.size w w4:=(hI.out.alloc hZ _).grown h1 (by simp;omega) (fun k hk=>(hn.out.lt k hk).1)
     have hs:Blk w4 w.heap.size 74 T:=qM hE.out hn.out (by decide) h1
     have hK:=aa h6
     have hG:=aa hv
     have hD:=aa hs
     clear h6 h1 hv hs
     go_wp2_with fail
     go_roundw
     case rel=>
      refine⟨q+1,by omega,by go_num,?_,hD.out,hG.out⟩
      rw[hl.out,Nb,<-HK.out,Nz,<-HX.out]
      have:=hK.out
      rw[show [Value.int .u8 q]= [UInt8.ofNat q].map bv by simp[bv,hH.out]]at this
      exact this
     case measure=>simp[intOf];omega)
  ·obtain rfl:q=256:=(by omega);have hA:=rx h2;have hF:=aa hb;clear h2 hb hh H0 HB;go_wp2_with fail;go_ret;exact⟨rfl,hF.out⟩
def xJ(w:World)(f:Nat->Nat)(e:Ending)(w':World):Prop:=∃u:Nat,xI f 16 u/\e=.returned (.int .u64 u)/\Below w.heap.size w w'
theorem Gj(w:World)(f:Nat->Nat)(_:∀i,i<16->f i<65536):Calls prog 46 #[.agg (iI f)] w (xJ w f):=by
 obtain⟨i50,hf,hh⟩:=mU;have HP:Hid (∀ (u:Nat) (w':World),xI f 16 u->Below w.heap.size w w'->xJ w f (.returned (.int .u64 u)) w'):=aa fun u w' h1 h2=>⟨u,h1,rfl,h2⟩;have h6:=aa sD;have HG:=aa (mI f);generalize xJ w f=PO at*;generalize iI f=T at*;go_enter func46,ntmps46;go_wp2_with fail;go_loopw [3,5] (fun v i wx=>∃(q u:Nat),q<=16/\i=.int .i64 q/\v=.int .u64 u/\Hid (xI f q u)/\Blk wx w.heap.size 74 T/\Below w.heap.size w wx) (fun _ i _=>16-(intOf i).toNat)
 case atStart=>exact⟨0,0,Ng _,rfl,rfl,KT f,Ed _ _ _,(Nj _ w).alloc (ag _) _⟩
 case round=>
  obtain⟨q,u,hq,rfl,rfl,hu,h5,hb⟩:=hrel;have H0:=aa h5;have HB:=aa hb;by_cases e:q<16
  ·have hj:(0:Int)<=(q:Int):=(by omega);have hk:(q:Int)<16:=(by omega);have hc:=ac h5 q;rw[HG.out q e]at hc;obtain⟨c,h8⟩:∃c,c=f q:=⟨_,rfl⟩;rw[<- h8]at hc;have h9:=aa h8;clear h5 hb h8;by_cases h7:c=0
   ·subst h7;have h3:=MM hu.out (show f q=0 from h9.out.symm);have HU:=aa h3;clear h3;go_wp2_with fail;go_roundw;case rel=>exact⟨q+1,u,by omega,by go_num,rfl,HU,H0.out,HB.out⟩
    case measure=>simp[intOf];omega
   ·have hi:=qc h7;have h3:=L7 hu.out e (show f q≠0 by rw[<- h9.out];exact h7);have hl:=hu.out.1;have hg:2^(15-q)<65536:=P0 (by decide) (show 15-q<16 by omega);have ha:=u64_or_nat u (2^(15-q)) (by omega) (by omega);obtain⟨y,hy⟩:∃y,y=u ||| 2^(15-q):=⟨_,rfl⟩;rw[<- hy]at ha h3;have h0:=fun w1:World=>h6.out w1 q e;obtain⟨x,hx⟩:∃x,x=2^(15-q):=⟨_,rfl⟩;rw[<- hx]at ha;(replace h0:∀w1:World,Calls prog 81 #[.int .i64 q] w1 fun e w'=>e=.returned (.int .u64 (x:Int))/\w1=w':=by intro w1;rw[hx];exact h0 w1);have h4:=aa h0;have HU:=aa h3;clear h3 h0 hy hx hg;(go_wp2_with (first|(go_at_call 81;refine(h4.out _).mono ?_;rintro e w' ⟨rfl,rfl⟩)));go_roundw;case rel=>exact⟨q+1,y,by omega,by go_num,rfl,HU,H0.out,HB.out⟩
    case measure=>simp[intOf];omega
  ·obtain rfl:q=16:=(by omega);have he:=aa hb;clear hb h5 H0 HB;go_wp2_with fail;exact HP.out u _ hu.out he.out
theorem Ek(w:World)(s:ByteArray)(hs:s.size<=1000000):Calls prog 10 #[.string s] w fun e w'=>e=.returned (.string (eP (ofL s.data.toList)))/\Below w.heap.size w w':=by have h2:=aa (xn w s hs);have h9:=aa jY;have h8:=aa (GX s.data.toList);go_enter func10,ntmps10;go_wp2_with fail;refine h2.out.mono ?_;rintro e w1 ⟨f,rfl,h0,h3⟩;have h4:=h9.out w1 f fun i hi=>(h0 i hi).1;rw[h8.out f h0]at h4;have h1:=aa h4;have h6:=aa h3;have ha:=h3.size;clear h4 h0 h3;generalize iI f=T at*;go_wp2_with fail;refine h1.out.mono ?_;rintro e w2 ⟨rfl,h5⟩;have h7:=aa (h6.out.trans (h5.mono ha));clear h5;go_wp2_with fail;go_ret;exact⟨rfl,h7.out⟩
theorem dR(w:World)(s:ByteArray)(hs:s.size<=1000000):Calls prog 35 #[.string s] w fun e w'=>e=.returned (.bool (decide (fp s.data.toList)))/\Below w.heap.size w w':=by
 by_cases h0:s.size=0;·have hd:s=⟨#[]⟩:=(by apply QL;exact QA h0);subst hd;have e:decide (fp (⟨#[]⟩:ByteArray).data.toList)=false:=Nl (fun h=>h.1 rfl);rw[e];go_enter func35,ntmps35;go_wp2_with fail;go_ret;exact⟨rfl,Nj _ _⟩
 ·have h5:=ik s (by omega);have h1:s.data.toList≠ []:=fun h=>by have h3:s.data.toList.length=s.size:=rfl;rw[h]at h3;simp at h3;omega
  have HA:=aa (Ek w s hs);have h4:(s.toList==(eP (ofL s.data.toList)).toList)=decide (fp s.data.toList):=by
   rw[P8,P8];show(s.data.toList==ofL s.data.toList)=_;by_cases h:ofL s.data.toList=s.data.toList;·rw[Nn ⟨h1,h⟩,h];simp
   ·rw[Nl (fun h2=>h h2.2)];simpa using fun h2=>h h2.symm
  clear h1;generalize decide (fp s.data.toList)=d at*;go_enter func35,ntmps35;go_wp2_with fail;refine HA.out.mono ?_;rintro e w1 ⟨rfl,hb⟩;have HB:=aa hb;clear hb;go_wp2_with fail;go_ret;exact⟨rfl,HB.out⟩
theorem ww(w:World)(s:ByteArray)(p:Int)(hs:s.size<=2000000)(h:p<0\/8*(s.size:Int)<p):Calls prog 72 #[.string s,.int .i64 p] w (lc w ([],0,2)):=by have HN:=aa (lx w s p (by omega) h);clear h;go_enter func72,ntmps72;go_wp2_with fail;refine HN.out.mono ?_;rintro e w1 ⟨rfl,rfl⟩;go_wp2_with fail;go_ret3;exact⟨rfl,Nj _ _⟩
theorem Aj(w:World)(s:ByteArray)(p:Nat)(hs:s.size<=2000000)(h:p<=8*s.size)(h2:8*s.size<p+16):Calls prog 72 #[.string s,.int .i64 p] w (lc w ([],0,10)):=by have HN:=aa (gv w s p (by omega) (by omega) (by omega));have HR:=aa (lY w w.heap.size (ag _) s p);have HT:=aa fun w1 (hR:IsR w.heap.size w1 w.heap.size s p)=>fo w.heap.size w1 w.heap.size s p 16 hR (by omega) (by omega) h h2;have HB:=aa ((Nj w.heap.size w).alloc (ag _) (.cells #[.bool true,.string s,.int .i64 p] 107));clear h h2;go_enter func72,ntmps72;go_wp2_with fail;refine HN.out.mono ?_;rintro e w1 ⟨rfl,h0⟩;have h5:=aa (show IsR w.heap.size w1 w.heap.size s p by rw[h0];exact HR.out);have h3:=aa (show Below w.heap.size w w1 by rw[h0];exact HB.out);clear h0 HR HB;have h6:=aa (HT.out w1 h5.out);clear HT;go_wp2_with fail;refine h6.out.mono ?_;rintro e w2 ⟨rfl,h7,h1⟩;have h4:=aa (h3.out.trans h1.below);clear h7 h1;go_wp2_with fail;go_ret3;exact⟨rfl,h4.out⟩
theorem qR(w:World)(s:ByteArray)(p:Nat)(hs:s.size<=2000000)(h2:p+16<=8*s.size):Calls prog 72 #[.string s,.int .i64 p] w (lc w (gE (ao s.data.toList) p)):=by
 obtain⟨hz,hi⟩:=vu;obtain⟨i50,hY,H3⟩:=mU;obtain⟨l,hl⟩:∃l,l=ao s.data.toList:=⟨_,rfl⟩;have HO:l.length=8*s.size:=by rw[hl,aC];rfl
 have hA:au l:=by rw[hl];exact bh _
 obtain⟨fl,hI⟩:∃fl:Nat->Nat,fl=fun i=>l.getD (p+i) 0:=⟨_,rfl⟩;obtain⟨G,hG⟩:∃G,G=goT l fl (List.range 16) (p+16) []:=⟨_,rfl⟩;have h5:gE l p=MT G:=by rw[hG,hI,Hv l p (by omega)]
 obtain⟨u,hu⟩:∃u,u=val ((l.drop p).take 16):=⟨_,rfl⟩;have hm:∀i,i<16->u.testBit (15-i)=(fl i==1):=fun i hi=>by rw[hu,hI];exact sP l p i hA (by omega) hi
 have pk:u<65536:=by rw[hu];exact KU l p hA (by omega)
 have hj:∀i,i<16->fl i=0\/fl i=1:=fun i hi=>by have:fl i<2:=(by rw[hI];show l.getD (p+i) 0<2;rw[Na,Nc (by omega)];exact hA _ (NM _));omega
 have HN:=aa (gv w s p (by omega) (by omega) (by omega));have HR:=aa (lY w w.heap.size (ag _) s p);have HT:=aa fun w1 (hR:IsR w.heap.size w1 w.heap.size s p)=>iF w.heap.size w1 w.heap.size s p 16 hR (by omega) (by omega) h2;rw[<- hl,<-hu]at HT;have HG:=aa fun(w1:World) (P:Nat) (hR:IsR w.heap.size w1 w.heap.size s P) (hP:P+16<=8*s.size)=>iF w.heap.size w1 w.heap.size s P 16 hR (by omega) (by omega) hP;rw[<- hl]at HG;have p4:=aa fun(w1:World) (P:Nat) (hR:IsR w.heap.size w1 w.heap.size s P) (hP:P<=8*s.size) (p6:8*s.size<P+16)=>fo w.heap.size w1 w.heap.size s P 16 hR (by omega) (by omega) hP p6;have HB:=aa ((Nj w.heap.size w).alloc (ag _) (.cells #[.bool true,.string s,.int .i64 p] 107));have hD:=aa HO;have HA:=aa hA;have HZ:=aa hG;have h7:=aa h5;have p5:=aa hm;have HY:=aa hj;have HI:=aa hi;have HS:=aa qJ;have hN:=aa zo;have hL:=aa mI;have hK:=aa sD;have hM:=aa jY;have HP:Hid (∀ (ans:List UInt8×Nat×Nat) w',gE l p=ans->Below w.heap.size w w'->lc w (gE l p) (.returned (.tuple #[.string (eP ans.1),.int .i64 ans.2.1,.int .i64 ans.2.2])) w'):=aa fun ans w' h1 h2=>⟨by rw[h1],h2⟩;rw[<- hl];clear hl HO hA hI hG h5 hu hm hj hi;generalize lc w (gE l p)=PO at*;generalize gE l p=ans at*;generalize iI=T at*;go_enter func72,ntmps72;go_wp2_with fail;refine HN.out.mono ?_;rintro e w1 ⟨rfl,H2⟩;have HC:=aa (show IsR w.heap.size w1 w.heap.size s p by rw[H2];exact HR.out);have H7:=aa (show Below w.heap.size w w1 by rw[H2];exact HB.out);clear H2 HR HB;have HF:=aa (HT.out w1 HC.out);clear HT;go_wp2_with fail;refine HF.out.mono ?_;rintro e w2 ⟨rfl,hQ,HH⟩;have hW:=H7.out.trans HH.below;have p7:=aA hQ.blk;have HJ:=hW.alloc hW.size (.cells (T fun _=>0) 74);have HX:=aa HJ;have p2:=aa (hQ.alloc (.cells (T fun _=>0) 74));have H5:=aa (aj w2 74 (T fun _=>0));obtain⟨g,hg⟩:∃g,g=w2.heap.size:=⟨_,rfl⟩;have pf:w.heap.size<g:=by omega
 rw[<- hg]at H5;have p0:=aa hg;clear hW HH hQ HJ HF HC H7 hg;go_wp2_with fail;rw[<- p0.out];go_loopw [9,26] (fun ev i wx=>∃(q P:Nat) (f:Nat->Nat) (out:List UInt8),q<=16/\i=.int .i64 q/\ev=.int .i64 0/\P<=8*s.size/\Hid (sU f q out)/\Hid (G=goT l fl ((List.range 16).drop q) P out)/\IsR w.heap.size wx w.heap.size s P/\Blk wx g 74 (T f)/\Below w.heap.size w wx) (fun _ i _=>16-(intOf i).toNat)
 case atStart=>exact⟨0,p+16,_, [],Ng _,rfl,rfl,h2,Ic,HZ.out,p2.out,H5.out,HX.out⟩
 case round=>
  obtain⟨q,P,f,out,hq,rfl,rfl,hP,hB,HM,hR,hV,hb⟩:=hrel;have hE:=aa hR;have H4:=aa hV;have HB:=aa hb;by_cases e:q<16
  ·have HK:(List.range 16).drop q=q::(List.range 16).drop (q+1):=(by rw[NN (by simpa using e),List.getElem_range]);have h4:=HM.out;rw[HK,goT]at h4;have hC:=p5.out q e;have h8:=rE u (15-q);have p9:2^(15-q)<65536:=P0 (by decide) (show 15-q<16 by omega);have hw:=u64_and_nat u (2^(15-q)) (by omega) (by omega);obtain⟨y,hy⟩:∃y,y=u &&& 2^(15-q):=⟨_,rfl⟩;rw[<- hy]at hw h8;have hc:=fun w1:World=>hK.out w1 q e;obtain⟨x,hx⟩:∃x,x=2^(15-q):=⟨_,rfl⟩;rw[<- hx]at hw;(replace hc:∀w1:World,Calls prog 81 #[.int .i64 q] w1 fun e w'=>e=.returned (.int .u64 (x:Int))/\w1=w':=by intro w1;rw[hx];exact hc w1);have h9:=aa hc;clear hc hy hx p9 HK hR hV hb;rcases HY.out q e with h0|h0
   ·have ho:y=0:=by
     by_cases ho:y=0;·exact ho
     ·have:u.testBit (15-q)=true:=(by rw[<- h8];exact ho);rw[hC,h0]at this;simp at this
    rw[Nf h0]at h4;subst ho;have hf:=aa h4;clear h4 hC h8 h0;(go_wp2_with (first|(go_at_call 81;refine(h9.out _).mono ?_;rintro e w' ⟨rfl,rfl⟩)));go_roundw;case rel=>exact⟨q+1,P,f,out,by omega,by go_num,rfl,hP,L4 hB.out,hf,hE.out,H4.out,HB.out⟩
    case measure=>simp[intOf];omega
   ·have ho:y≠0:=(by have:(y≠0)=(u.testBit (15-q)=true):=h8;rw[this,hC,h0];rfl);have p8:=qc ho;have hX:f q=0:=hB.out.2.1 q (ag _);have h6:=ac H4.out q;have he:=ae H4.out q;rw[hL.out f q e,hX]at h6;have pg:(0:Int)<=(q:Int):=(by omega);have pj:(q:Int)<16:=(by omega);rw[Nd]at h4;by_cases H1:P+16<=8*s.size
    ·rw[Nd (by rw[hD.out];omega),<-Kq l P q HA.out (by rw[hD.out];exact H1)]at h4;have HU:=KU l P HA.out (by rw[hD.out];exact H1);have ht:=aa (HG.out wr P hE.out H1);obtain⟨v,hv⟩:∃v,v=val ((l.drop P).take 16):=⟨_,rfl⟩;rw[<- hv]at h4 HU ht;have hf:=aa h4;have p3:=aa (KQ hB.out HU);clear h4 hC h8 h0 hv hX h6 he;(go_wp2_with (first|(go_at_call 81;refine(h9.out _).mono ?_;rintro e w' ⟨rfl,rfl⟩)));refine ht.out.mono ?_;rintro e w5 ⟨rfl,hF,hn⟩;have hh:=hn.blk H4.out (by simp;omega) (by decide);have h6:=ac hh q;have he:=ae hh q;rw[hL.out f q e]at h6;have HV:=aa hh;have hJ:=aa (HB.out.trans hn.below);have HD:=aa hF;clear hh hF hn;go_wp2_with fail;go_roundw;case rel=>
      refine⟨q+1,P+16,_,_,by omega,by go_num,rfl,by omega,p3,hf,⟨HD.out.lo,?_⟩,?_,hJ.out.setCell (p:=⟨g,q,none⟩) (by show _<=g;omega) _⟩;·exact aW HD.out.blk (by omega) _ _
      ·have:=ay HV.out q (.int .u64 (v:Nat));rw[hN.out]at this;exact this
     case measure=>simp[intOf];omega
    ·rw[Nf (by rw[hD.out];omega)]at h4;have h5:ans=([],0,10):=(by rw[h7.out,h4];rfl);have hO:=aa (p4.out wr P hE.out hP (by omega));have H6:=aa h5;clear h4 hC h8 h0 hX h6 he h5;(go_wp2_with (first|(go_at_call 81;refine(h9.out _).mono ?_;rintro e w' ⟨rfl,rfl⟩)));refine hO.out.mono ?_;rintro e w5 ⟨rfl,hF,hn⟩;have hh:=hn.blk H4.out (by simp;omega) (by decide);have h6:=ac hh q;have he:=ae hh q;rw[hL.out f q e]at h6;have hJ:=aa (HB.out.trans hn.below);have hp:=aa (HP.out _ (w5.setCell ⟨g,q,none⟩ (.int .u64 0)) H6.out (hJ.out.setCell (p:=⟨g,q,none⟩) (by show _<=g;omega) _));clear hh hF hn HP H6 h7;go_wp2_with fail;go_ret3;exact hp.out
  ·obtain rfl:q=16:=(by omega);have h4:G=some (out,P):=HM.out;have hk:qq f=out:=KP hB.out;have HL:∀i,i<16->f i<65536:=fun i _=>hB.out.1 i;have H0:=fun w9=>hM.out w9 f HL;rw[hk]at H0;have HE:=aa H0;have p1:=aa (show(prog.info? 74).map (·.size)=some (T f).size by rw[HS.out];exact HI.out);have c0:=ac hR.blk 0;have c2:=ac hR.blk 2;simp at c0 c2;have pb:=hb.size;obtain⟨S,hS⟩:∃S:ByteArray,S=eP out:=⟨_,rfl⟩;rw[<- hS]at HE;have hr:=aa hS;have hf:=aa h4;clear h4 hk HL H0 hR hV hb hS hY H3 hz;generalize T f=Tf at*;go_upto_region 16 with fail;refine Qd (fO rfl rfl rfl H4.out underlying74 p1.out ?_);go_wp2_with fail;refine(HE.out wr).mono ?_;rintro e w6 ⟨rfl,hH⟩;have H8:=aa (HB.out.trans (hH.mono pb));by_cases h0:S.size=0;·have hd:S=⟨#[]⟩:=(by apply QL;exact QA h0);have ha:out= []:=(by have h1:=hr.out;rw[hd]at h1;have h3:(⟨#[]⟩:ByteArray).data.toList=(eP out).data.toList:=(by rw[h1]);exact h3.symm);have h5:ans=([],0,60):=(by rw[h7.out,hf.out,ha];rfl);have hp:=aa (HP.out _ w6 h5 H8.out);clear HP h7 hf hr ha h5 hH h0;subst hd;go_wp2_with fail;go_ret3;exact hp.out
   ·have p8:=ik S (by omega);have ha:¬out= []:=(by intro h1;have h3:=hr.out;rw[h1]at h3;rw[h3]at h0;exact h0 rfl);have h5:ans=(out,P,0):=(by rw[h7.out,hf.out];show(if out= []then(([]:List UInt8),0,60)else(out,P,0))=_;rw[Nd ha]);have HQ:=an hH;have hT:=hE.out.step HQ aw aw;have c0:=ac hT.blk 0;have c2:=ac hT.blk 2;simp at c0 c2;have HW:=aa (nS w6 w.heap.size P c0 c2);have hZ:=HP.out _ w6 h5 H8.out;rw[<- hr.out]at hZ;have hp:=aa hZ;clear HP h7 hf hr ha h5 hH h0 HQ hT c0 c2 hZ;go_wp2_with fail;refine HW.out.mono ?_;rintro e w8 ⟨rfl,rfl⟩;go_wp2_with fail;go_ret3;exact hp.out
theorem FK(w:World)(s:ByteArray)(p:Int)(hs:s.size<=2000000):Calls prog 72 #[.string s,.int .i64 p] w (lc w (aN (ao s.data.toList) p)):=by
 have h0:(ao s.data.toList).length=8*s.size:=by rw[aC];rfl
 by_cases h1:p<0;·rw[show aN (ao s.data.toList) p=([],0,2)from Nf h1];exact ww w s p hs (.inl h1)
 ·obtain⟨q,rfl⟩:∃q:Nat,p=q:=⟨p.toNat,by omega⟩;have e:aN (ao s.data.toList) (q:Int)=gE (ao s.data.toList) q:=by unfold aN;rw[Nd h1,Nv]
  rw[e];by_cases h2:8*s.size<q;·have:gE (ao s.data.toList) q=([],0,2):=(by unfold gE;rw[Nf]);rw[this];exact ww w s q hs (.inr (by omega))
  ·by_cases h3:8*s.size<q+16;·have:gE (ao s.data.toList) q=([],0,10):=(by unfold gE;rw[Nd,Nf]);rw[this];exact Aj w s q hs (by omega) h3
   ·exact qR w s q hs (by omega)
