import Derived.Test.YtepokmggbfoakaaGreatDoorA40
import Derived.Test.YtepokmggbfoakaaGreatDoorA39
import Derived.RangeFuncNested
import Derived.RangeFuncBound
import Derived.RangeFuncCalls
import Derived.RangeFuncLeaves
import Derived.RangeFuncBox
import Derived.Shelf.Abstract
import Derived.Shelf.RegionOpen
import Derived.OwnWalkIn
import Derived.TacticsInMore
import Derived.LoopNIn
import Derived.LoopIn
set_option maxHeartbeats 6400000
set_option maxRecDepth 100000
namespace Go.Proofs.YtepokmggbfoakaaGreatDoor
open Go.RowKit
attribute [local go_sem] Oper.semAt_some
abbrev u7q (K:Nat):={ x:ByteArray // x.size≤K∧1≤x.size }
def LG{K:Nat}(x:u7q K):Array Value:=#[.string x.1]
def rT(b:Nat)(W W':World):Prop:=∀k,k=b∨k=b+1→W'.heap[k]? =W.heap[k]?
theorem rT.trans{b:Nat}{A B C:World}(h:rT b A B)(k:rT b B C):rT b A C:=fun j hj=>(k j hj).trans (h j hj)
theorem Lj(w:World)(s:ByteArray)(most:Int):
 Calls Tryz.prog 19 #[.string s,.int .i64 most] w fun e w'=>e=.returned (.func (.func 42) #[] #[.pointer (some ⟨w.heap.size,0,none⟩),.pointer (some ⟨w.heap.size+1,0,none⟩)])∧w'=(w.alloc (.cells #[.string s] 9)).alloc (.cells #[.int .i64 most] 3):=by go_enter Tryz.func19,Tryz.ntmps19;go_wp2_with fail;go_ret;exact⟨by simp,rfl⟩
def LB{K:Nat}(most:Int)(s:List UInt8)(xs:List (u7q K)):Prop:=xs.map (fun x=>x.1.data.toList)=f5 most s.length s
theorem yU{K:Nat}(hK:K≤200000)(n:Nat)(hn:1≤n)(l b:Nat)(s:ByteArray)(most:Int)(hs:s.size≤K)(hm:1≤most)(hI:most≤262144)(J Jx:List (u7q K)→World→Prop)(W:World)
 (hJ:AbidesFrom W.heap.size J)
 (hY:∀pre x W1,J pre W1→pre.length<K→YieldAt Fence.wide (n - 1) Tryz.prog l (LG x) W1 fun e W'=>
   (e=.returned (.bool true)∧J (pre++ [x]) W'∧rT b W1 W')∨(e=.returned (.bool false)∧Jx (pre++ [x]) W'))
 (hw:W.heap[b]? =some (.cells #[.string s] 9 (0,0))) (hG:W.heap[b+1]? =some (.cells #[.int .i64 most] 3 (0,0))) (h0:J [] W):
 CallsIn Fence.wide n Tryz.prog 42 #[.func (.yield l) #[] #[],.pointer (some ⟨b,0,none⟩),.pointer (some ⟨b+1,0,none⟩)] W fun e W'=>(∃ v,e=.returned v)∧((∃ xs,LB most s.data.toList xs∧J xs W')∨(∃ pre,True∧Jx pre W')):=by
 have hH:s.data.toList.length=s.size:=rfl;have HF:=aa fun(wx:World) (r:ByteArray) (hr:r.size≤200000)=>S03.Hh wx r most (by omega) (by omega) (by omega);have hB:=aa fun(l:List UInt8) (n:Nat) (h:S03.lJ l most n)=>xd h;have hD:=aa fun(l:List UInt8) (h:l≠ [])=>sS h hm;have hC:=aa fun(l:List UInt8)=>rC l most;have c1:W.cell? ⟨b,0,none⟩=some (.string s):=Boxed.cell (t:=9) hw;have hE:Fence.wide.fn 43:=trivial;have HJ:=aa hJ;have HY:=aa hY;clear hJ hY;refine callsIn_of_wp Tryz.func42 rfl trivial ?_ rfl;simp only[Tryz.ntmps42,OU,Mb,MH,Nat.reduceAdd,Nat.reduceSub,Array.replicate_succ,Array.replicate_zero,List.push_toArray,List.append_toArray,Mz,MI];gi_wp2_with fail
 gi_loopw [4] (fun sr wr=>∃(pre:List (u7q K)) (r:ByteArray) (k:Nat),sr=.string r∧r.size≤K∧Hid (r.size≤k∧pre.length+k≤s.size∧pre.map (fun x=>x.1.data.toList)++f5 most k r.data.toList=f5 most s.data.toList.length s.data.toList)∧
  wr.heap[b]? =some (.cells #[.string s] 9 (0,0))∧wr.heap[b+1]? =some (.cells #[.int .i64 most] 3 (0,0))∧J pre wr) (fun sr _=>match sr with | .string r=>r.size | _=>0)
 case atStart=>exact⟨[],s,s.size,rfl,hs,aa ⟨L5 _,by simp,by rw[Pa,Mz,hH]⟩,hw,hG,h0⟩
 case round=>
  obtain⟨pre,r,k,rfl,hr,h4,hz,ho,hk⟩:=hrel;by_cases e:0<r.size
  ·have d0:decide ((0:Int)<(r.size:Int))=true:=bD (by omega);have c2:wr.cell? ⟨b+1,0,none⟩=some (.int .i64 most):=Boxed.cell (t:=3) ho;have ht:=aa (callsIn_wide (n:=n - 1).2 (HF.out wr r (by omega)));have h6:=aa h4.out;have hf:=aa hz;have hh:=aa ho;have hu:=aa hk;clear h4 hz hk;gi_wp2_with fail
   refine ht.out.mono ?_;rintro e w1 ⟨q,rfl,h7,h5⟩;have hq:=hB.out _ _ h7;(have hp:r.data.toList≠ []:=fun h=>by have h2:r.data.toList.length=r.size:=rfl;rw[h]at h2;simp at h2;omega);have hL:1≤q:=(by rw[hq];exact hD.out _ hp);have hM:q≤r.size:=(by rw[hq];exact hC.out _);have hP:(r.extract 0 q).size=q:=(by rw[Ni];omega);have hO:(r.extract q r.size).size=r.size - q:=(by rw[Ni];omega);obtain⟨h1,h2,h3⟩:=h6.out;obtain⟨k,rfl⟩:∃j,k=j+1:=⟨k - 1,by omega⟩;rw[mv most k _ hp,←hq]at h3;have hv:=HJ.out pre wr w1 none hu.out ⟨h5.os,h5.tape,h5.output,h5.size,fun j hj _=>h5.block j hj⟩ (fun r e=>by cases e);have ha:b<wr.heap.size:=(Array.getElem?_eq_some_iff.1 hf.out).1;have hb:b+1<wr.heap.size:=(Array.getElem?_eq_some_iff.1 hh.out).1;have h8:=(h5.block b ha).trans hf.out;have h9:=(h5.block (b+1) hb).trans hh.out;obtain⟨x,hx⟩:∃x:u7q K,x.1=r.extract 0 q:=⟨⟨r.extract 0 q,by omega,by omega⟩,rfl⟩;obtain⟨fn,tmps,assign,body,he,hR⟩:=HY.out pre x w1 hv (by omega);unfold LG at he;rw[hx]at he;have hy:(Instr.yield l #[.string (r.extract 0 q)]).run Tryz.prog w1=.ok (.round l fn tmps assign body) w1:=he;have hN:(q:Int)≤(r.size:Int):=by omega
   have REL:Hid (Hid ((r.extract q r.size).size≤k∧(pre++ [x]).length+k≤s.size∧(pre++ [x]).map (fun x=>x.1.data.toList)++f5 most k (r.extract q r.size).data.toList=f5 most s.data.toList.length s.data.toList)):=aa (aa ⟨by omega,by rw[LR,Mq];omega,by
    rw[← h3,Mw,S03.ig,QE,hx,S03.jt]
    simp⟩)
   have HR:=aa hR;have hg:=aa h8;have hi:=aa h9;clear he hx h7 hq hp h1 h2 h3 hv hR h8 h9 ha hb h5 h6 ht hu hf hh c2 ho;gi_wp2_with fail
   refine HR.out.mono ?_;rintro e W3 (⟨rfl,hF,hA⟩ | ⟨rfl,hl⟩)
   ·gi_wp2_with fail
    go_roundw;case rel=>exact⟨_,_,k,rfl,by omega,REL.out,(hA b (.inl rfl)).trans hg.out,(hA (b+1) (.inr rfl)).trans hi.out,hF⟩
    case measure=>show(r.extract q r.size).size<r.size;omega
   ·gi_wp2_with fail
    refine Mm (Ol rfl _ _ _) rfl ?_;exact⟨⟨_,rfl⟩,.inr ⟨_,trivial,hl⟩⟩
  ·have d0:decide ((0:Int)<(r.size:Int))=false:=aN (by omega);have hc:r.data.toList= []:=Mg (by have:r.data.toList.length=r.size:=rfl;omega);have h3:=h4.out.2.2;rw[hc,nL,Mv]at h3;clear hc h4;gi_wp2_with fail
   (first | go_end0 | skip);exact⟨⟨_,rfl⟩,.inl ⟨pre,h3,hk⟩⟩
theorem mP(w:World)(lv:Nat)(h:lv≤1000000):Calls Tryz.prog 17 #[.int .i64 lv] w fun e w'=>e=.returned (.int .i64 (gm lv))∧w'=w:=by
 obtain⟨p,hp⟩:∃p,p=lv*100000:=⟨_,rfl⟩;have h2:(lv:Int)*100000=(p:Int):=by omega
 have h1:p≤100000000000:=by omega
 have h0:gm lv=if 262144<p then 262144 else p:=by rw[hp];rfl
 have HA:=aa h0;clear h0 hp h;go_enter Tryz.func17,Tryz.ntmps17;by_cases e:262144<p;·have e2:(262144:Int)<(p:Int):=(by omega);have e3:¬(p:Int)≤262144:=(by omega);have e4:¬(p:Int)<262144:=(by omega);go_wp2_with fail;go_ret;rw[HA.out,LX e];first | exact⟨rfl,rfl⟩ | (rw [Int.min_eq_right (by omega)];exact⟨rfl,rfl⟩) | (rw [LW e4];exact⟨rfl,rfl⟩) | (rw [LX e2];exact⟨rfl,rfl⟩)
 ·have e2:¬(262144:Int)<(p:Int):=(by omega);have e3:(p:Int)≤262144:=(by omega);go_wp2_with fail;go_ret;rw[HA.out,LW e];first | exact⟨rfl,rfl⟩ | (rw [Int.min_eq_left e3];exact⟨rfl,rfl⟩) | (rw [LW e2];exact⟨rfl,rfl⟩)
theorem wW(w:World)(lv:Nat)(h1:1≤lv)(h9:lv≤9):Calls Tryz.prog 187 #[.int .i64 lv] w fun e w'=>e=.returned (.string ⟨#[UInt8.ofNat (48+lv)]⟩)∧w'=w:=by
 have:lv=1∨lv=2∨lv=3∨lv=4∨lv=5∨lv=6∨lv=7∨lv=8∨lv=9:=by omega
 rcases this with rfl | rfl | rfl | rfl | rfl | rfl | rfl | rfl | rfl <;>
 ·go_enter Tryz.func187,Tryz.ntmps187;go_wp2_with fail;go_ret;exact⟨rfl,rfl⟩
theorem LF(w:World)(lv:Nat)(h1:1≤lv)(h9:lv≤9):Calls Tryz.prog 41 #[.int .i64 lv] w fun e w'=>e=.returned (.string ⟨#[UInt8.ofNat (48+lv)]⟩)∧w'=w:=by have HS:=aa (wW w lv h1 h9);have d0:decide ((0:Int)≤(lv:Int))=true:=bD (by omega);have d1:decide ((lv:Int)<100)=true:=bD (by omega);have hz:(lv:Int)<100:=(by omega);generalize (⟨#[UInt8.ofNat (48+lv)]⟩:ByteArray)=T at*;clear h1 h9;go_enter Tryz.func41,Tryz.ntmps41;go_wp2_with fail;go_enter Tryz.func85,Tryz.ntmps85;go_wp2_with fail;go_enter Tryz.func141,Tryz.ntmps141;go_wp2_with fail;refine HS.out.mono ?_;rintro e w1 ⟨rfl,rfl⟩;go_wp2_with fail;go_ret;exact⟨rfl,rfl⟩
theorem Im(x:UInt8):((⟨#[66,90,104]⟩:ByteArray)++(⟨#[x]⟩:ByteArray))=⟨(pack (ai [66,90,104,x])).toArray⟩:=by have h:pack (ai [66,90,104,x])= [66,90,104,x]:=(by have h1:=tP [66,90,104,x] [] (fun _ h=>by cases h);obtain⟨r,hr⟩:=h1;rw[Mv]at hr;have hl:=congrArg List.length hr;rw[a8,aw,LR,show([66,90,104,x]:List UInt8).length=4 from rfl]at hl;have h0:r= []:=Mg (by omega);rw[hr,h0,Mv]);rw[h];rfl
theorem wR(w:World)(lv:Nat)(h1:1≤lv)(h9:lv≤9):Calls Tryz.prog 18 #[.int .i64 lv] w fun e w'=>e=.returned (.agg #[.string ⟨(pack (ai [66,90,104,UInt8.ofNat (48+lv)])).toArray⟩,.int .i64 (ai [66,90,104,UInt8.ofNat (48+lv)]).length])∧Below w.heap.size w w':=by
 rw[iK,←Im];obtain⟨x,hx⟩:∃x,x=UInt8.ofNat (48+lv):=⟨_,rfl⟩;have HI:=aa fun wx=>LF wx lv h1 h9;rw[← hx]at HI ⊢;have h3:Below w.heap.size w (w.alloc (.cells #[.string ⟨#[]⟩,.int .i64 0] 43)):=(L6 _ _).alloc (ag _) _;have h4:=ah w 43 #[.string ⟨#[]⟩,.int .i64 0];have h5:((⟨#[66,90,104]⟩:ByteArray)++(⟨#[x]⟩:ByteArray)).size=4:=rfl;obtain⟨T,hT⟩:∃T,T=((⟨#[66,90,104]⟩:ByteArray)++(⟨#[x]⟩:ByteArray)):=⟨_,rfl⟩;have HT:=aa hT;rw[← hT]at h5 ⊢;have HB:=aa h3;have HR:=aa h4;obtain⟨w1,h0⟩:∃w1,w1=w.alloc (.cells #[.string ⟨#[]⟩,.int .i64 0] 43):=⟨_,rfl⟩;have h2:=aa h0.symm;rw[← h0]at HB HR;have e0:=(ac HR.out 0).trans (rfl:_=some (Value.string ⟨#[]⟩));have e1:=(ac HR.out 1).trans (rfl:_=some (Value.int .i64 0));have f0:=ae HR.out 0;have f1:=ae HR.out 1;clear h3 h4 h0 hT h1 h9 hx;go_enter Tryz.func18,Tryz.ntmps18;go_upto_region 1 with fail;rw[h2.out];clear h2;go_wp2_with fail;refine(HI.out w1).mono ?_;rintro e w2 ⟨rfl,rfl⟩;go_upto_region 2 with fail;rw[← HT.out];go_wp2_with fail;refine Mm (v:=.agg #[.string T,.int .i64 32]) ?_ rfl ?_;·simp[results,Tryz.results18,go_sem,e0,e1]
 ·exact⟨rfl,(HB.out.setCell (p:=⟨w.heap.size,0,none⟩) (ag _) _).setCell (p:=⟨w.heap.size,1,none⟩) (ag _) _⟩
def xc(z:Nat):List Nat:=aj 25779555029136 48++aj z 32
theorem qK(z:Nat):(xc z).length=80:=by unfold xc;rw[LR,af,af]
theorem l6(w:World)(z:Nat)(hz:z<4294967296):
 Calls Tryz.prog 23 #[.int .u32 z] w fun e w'=>e=.returned (.agg #[.string ⟨(pack (xc z)).toArray⟩,.int .i64 (xc z).length])∧Below w.heap.size w w':=by
 obtain⟨w2,h4⟩:∃w2,w2=w.alloc (.cells #[.string ⟨#[]⟩,.int .i64 0] 43):=⟨_,rfl⟩;have hb:Hid (Below w.heap.size w w2):=aa (b9 h4);have h5:Hid (Blk w2 w.heap.size 43 #[.string ⟨#[]⟩,.int .i64 0]):=aa (fL h4);have hj:=aa h4.symm;have u1:IntKind.u64.wrap (z:Int)=z:=by rw[Qb];omega
 have h1:=qK z;rw[h1];obtain⟨T,hT⟩:∃T:ByteArray,T=⟨(pack (xc z)).toArray⟩:=⟨_,rfl⟩;have HT:=aa hT;have HP:Hid (xc z= []++aj 25779555029136 48++aj z 32):=aa rfl;rw[← hT];clear h4 hT;go_enter Tryz.func23,Tryz.ntmps23;go_upto_region 1 with fail;rw[hj.out];clear hj;go_wp2_with fail;refine(Cu w2).mono ?_;rintro e w3 ⟨rfl,ha⟩;obtain⟨p,hp⟩:∃p,p=w2.heap.size:=⟨_,rfl⟩;have h2:w.heap.size<p:=by rw[hp];exact aB h5.out
 have hk:IsW p w3 p (.slice none 0 0) []:=by rw[ha,hp];exact ly w2 w2.heap.size (ag _)
 have h9:Below w2.heap.size w2 w3:=b9 ha;have hh:=aa (aP h9 h5.out);have hc:=aa (aq hb.out h9);have hf:=aa (eV p w3 p _ _ 25779555029136 48 hk (by simp) (by omega) (by omega));rw[← hp];clear ha hp h9 hk h5 hb;go_wp2_with fail;refine hf.out.mono ?_;rintro e w4 ⟨rfl,v4,hl,h6⟩;have hi:=aa (h6.blk hh.out (by simp;omega) (by decide));have he:=aa (hc.out.trans (h6.below.mono (MB h2)));have hg:=aa (eV p w4 p _ _ z 32 hl (by simp[af]) (by omega) (by omega));clear hl h6 hf hh hc;go_wp2_with fail;refine hg.out.mono ?_;rintro e w7 ⟨rfl,v7,h0,h7⟩;rw[← HP.out]at h0;have h3:=h7.blk hi.out (by simp;omega) (by decide);have hm:=aa (he.out.trans (h7.below.mono (MB h2)));have h8:=gU p w7 p v7 _ h0;rw[← HT.out]at h8;have ho:=aa h8;have c0:=ac h0.blk 0;have c2:=ac h0.blk 2;rw[h1]at c2;simp at c0 c2;have hn:=aa (jG w7 p 80 c0 c2);have e0:=(ac h3 0).trans (rfl:_=some (Value.string ⟨#[]⟩));have e1:=(ac h3 1).trans (rfl:_=some (Value.int .i64 0));have f0:=ae h3 0;have f1:=ae h3 1;clear h0 h7 hg hi he h8 c0 c2 h3;go_wp2_with fail;refine ho.out.mono ?_;rintro e w8 ⟨rfl,rfl⟩;go_wp2_with fail;refine hn.out.mono ?_;rintro e w8 ⟨rfl,rfl⟩;go_wp2_with fail;refine Mm (v:=.agg #[.string T,.int .i64 80]) ?_ rfl ?_;·simp[results,Tryz.results23,go_sem,e0,e1]
 ·exact⟨rfl,(hm.out.setCell (p:=⟨w.heap.size,0,none⟩) (ag _) _).setCell (p:=⟨w.heap.size,1,none⟩) (ag _) _⟩
def iH(l:List UInt8):Prop:=([66,90,104]:List UInt8).take l.length=l.take 3
instance (l:List UInt8):Decidable (iH l):=inferInstanceAs (Decidable (_=_))
theorem B9(l:List UInt8):bQ l=if ¬iH l then(0,130)else if l.length≤3 then(0,10)else if(l.getD 3 0).toNat<49∨57<(l.getD 3 0).toNat then(0,130)else((l.getD 3 0).toNat - 48,0):=by
 have key:∀{a c:UInt8},¬c=a→a.toNat≠c.toNat:=fun h e=>h (UInt8.toNat_inj.1 e).symm
 match l with
 | []=>rfl
 | [a]=>
  by_cases h1:(66:UInt8)=a;·subst h1;rfl
  ·have k1:¬a.toNat=66:=key h1;simp[bQ,iH,h1,k1]
 | [a,b]=>
  by_cases h1:(66:UInt8)=a
  ·subst h1;by_cases h2:(90:UInt8)=b;·subst h2;rfl
   ·have k2:¬b.toNat=90:=key h2;simp[bQ,iH,h2,k2]
  ·have k1:¬a.toNat=66:=key h1;simp[bQ,iH,h1,k1]
 | [a,b,c]=>
  by_cases h1:(66:UInt8)=a
  ·subst h1;by_cases h2:(90:UInt8)=b
   ·subst h2;by_cases h3:(104:UInt8)=c;·subst h3;rfl
    ·have k3:¬c.toNat=104:=key h3;simp[bQ,iH,h3,k3]
   ·have k2:¬b.toNat=90:=key h2;simp[bQ,iH,h2,k2]
  ·have k1:¬a.toNat=66:=key h1;simp[bQ,iH,h1,k1]
 | a :: b :: c :: d :: r=>
  have h4:¬(r.length+1+1+1+1≤3):=by omega
  have h5:¬(r.length+1+1+1+1<4):=by omega
  have h6:¬(r.length+1+1+1+1<3):=by omega
  have h7:¬(r.length+1+1+1+1<2):=by omega
  by_cases h1:(66:UInt8)=a
  ·subst h1;by_cases h2:(90:UInt8)=b
   ·subst h2;by_cases h3:(104:UInt8)=c;·subst h3;simp[bQ,iH,h4,h5,h6,h7]
    ·have k3:¬c.toNat=104:=key h3;simp[bQ,iH,h3,k3,h6,h7]
   ·have k2:¬b.toNat=90:=key h2;simp[bQ,iH,h2,k2,h7]
  ·have k1:¬a.toNat=66:=key h1;simp[bQ,iH,h1,k1]
theorem BC(w:World)(T:ByteArray)(hT:T.size≤3)(b:Bool)(hb:((⟨#[66,90,104]⟩:ByteArray).extract 0 T.size).data.toList=T.data.toList↔b=true):
 Calls Tryz.prog 72 #[.string ⟨#[66,90,104]⟩,.string T] w fun e w'=>e=.returned (.bool b)∧w'=w:=by
 have d0:decide ((T.size:Int)≤3)=true:=bD (by omega);have hz:(T.size:Int)≤3:=by omega
 have d1:(((⟨#[66,90,104]⟩:ByteArray).extract 0 T.size).toList==T.toList)=b:=by
  rw[Ox,Ox]
  cases b with
  | true=>exact beq_iff_eq.2 (hb.2 rfl)
  | false=>exact Ow fun h=>by cases hb.1 h
 clear hb;go_enter Tryz.func72,Tryz.ntmps72;go_wp2_with fail;go_enter Tryz.func126,Tryz.ntmps126;go_wp2_with fail;go_ret;exact⟨rfl,rfl⟩
theorem zu(t:ByteArray)(m:Nat):(t.extract 0 m).data.toList=t.data.toList.take m:=S03.jt t m
theorem IK(t:ByteArray)(m:Nat)(hm:m=min 3 t.size):((⟨#[66,90,104]⟩:ByteArray).extract 0 (t.extract 0 m).size).data.toList=(t.extract 0 m).data.toList↔iH t.data.toList:=by
 have h0:t.data.toList.length=t.size:=rfl;have hs:(t.extract 0 m).size=m:=by rw[Ni];omega
 rw[hs,zu,zu];unfold iH;rw[h0];have h1:(⟨#[66,90,104]⟩:ByteArray).data.toList= [66,90,104]:=rfl;rw[h1,hm];by_cases h:t.size≤3;·rw[N9 h,Mh (show t.data.toList.length≤3 by omega),Mh (show t.data.toList.length≤t.size by omega)]
 ·rw[MN (by omega),Mh (show([66,90,104]:List UInt8).length≤t.size by simp;omega)];rfl
theorem EU(w:World)(t:ByteArray)(hs:t.size≤9223372036854775807):Calls Tryz.prog 33 #[.string t] w fun e w'=>e=.returned (.tuple #[.int .i64 (bQ t.data.toList).1,.int .i64 (bQ t.data.toList).2])∧w'=w:=by
 have h6:t.data.toList.length=t.size:=rfl;have hh:=aa h6;have HD:=aa (B9 t.data.toList);rw[h6]at HD;have HP:Hid (∀ (a b:Nat),bQ t.data.toList=(a,b)→(fun e w'=>e=Ending.returned (.tuple #[.int .i64 (bQ t.data.toList).1,.int .i64 (bQ t.data.toList).2])∧w'=w) (.returned (.tuple #[.int .i64 a,.int .i64 b])) w):=aa fun a b h=>⟨by rw[h],rfl⟩;generalize (fun e w'=>e=Ending.returned (.tuple #[.int .i64 (bQ t.data.toList).1,.int .i64 (bQ t.data.toList).2])∧w'=w)=PO at*;obtain⟨m,hm⟩:∃m,m=min 3 t.size:=⟨_,rfl⟩;have hj:m≤t.size:=by omega
 have hk:m≤3:=by omega
 have hl:(m:Int)≤(t.size:Int):=by omega
 have h8:min (3:Int) (t.size:Int)=(m:Int):=by omega
 have h9:(if(t.size:Int)<3 then(t.size:Int)else 3)=(m:Int):=by split <;>omega
 have ha:(if(3:Int)≤(t.size:Int)then(3:Int)else(t.size:Int))=(m:Int):=by split <;>omega
 have hc:(t.extract 0 m).size=m:=by rw[Ni];omega
 have h7:=aa (IK t m hm);have HX:Hid (∀ b,(iH t.data.toList↔b=true)→Calls Tryz.prog 72 #[.string ⟨#[66,90,104]⟩,.string (t.extract 0 m)] w fun e w'=>e=.returned (.bool b)∧w'=w):=aa fun b hb=>BC w (t.extract 0 m) (by omega) b (h7.out.trans hb);clear h6 hm hc h7;by_cases h0:¬iH t.data.toList;·have h4:=aa (HX.out false ⟨fun h=>absurd h h0,fun h=>by cases h⟩);have hd:=HD.out;rw[LX h0]at hd;have HF:=aa (HP.out 0 130 hd);clear hd HP HX HD h0;go_enter Tryz.func33,Tryz.ntmps33;go_wp2_with fail;refine h4.out.mono ?_;rintro e w1 ⟨rfl,rfl⟩;go_wp2_with fail;first | exact HF.out | (go_ret2;exact HF.out)
 ·have h4:=aa (HX.out true ⟨fun _=>rfl,fun _=>Decidable.not_not.1 h0⟩);have hd:=HD.out;rw[LW h0]at hd;by_cases h1:t.size≤3;·have d1:decide ((t.size:Int)≤3)=true:=bD (by omega);rw[LX h1]at hd;have HF:=aa (HP.out 0 10 hd);clear hd HP HX HD h0;go_enter Tryz.func33,Tryz.ntmps33;go_wp2_with fail;refine h4.out.mono ?_;rintro e w1 ⟨rfl,rfl⟩;go_wp2_with fail;first | exact HF.out | (go_ret2;exact HF.out)
  ·have d1:decide ((t.size:Int)≤3)=false:=aN (by omega);have g3:=G5 t 3 (by omega);have hz:(3:Int)<t.size:=(by omega);rw[LW h1,g3]at hd;have hx:(t[3]'(by omega)).toNat<256:=Oq _;obtain⟨x,h5⟩:∃x,x=(t[3]'(by omega)).toNat:=⟨_,rfl⟩;rw[← h5]at hd hx;have hn:(t[3]'(by omega)).toNat=x:=h5.symm;obtain⟨i,hi⟩:∃i:Int,i=(x:Int) - 48:=⟨_,rfl⟩;have ho:(x:Int) - 48=i:=hi.symm;have he: -48≤i:=(by omega);have hf:i≤207:=(by omega);by_cases h2:x<49∨57<x
   ·rw[LX h2]at hd;have HF:=aa (HP.out 0 130 hd);by_cases h3:i<1;·have d2:decide (i<1)=true:=L8 h3;clear hd HP HX HD h0 g3 h5 hi;go_enter Tryz.func33,Tryz.ntmps33;go_wp2_with fail;refine h4.out.mono ?_;rintro e w1 ⟨rfl,rfl⟩;go_wp2_with fail;first | exact HF.out | (go_ret2;exact HF.out)
    ·have d2:decide (i<1)=false:=L7 h3;have d3:decide (9<i)=true:=bD (by omega);clear hd HP HX HD h0 g3 h5 hi;go_enter Tryz.func33,Tryz.ntmps33;go_wp2_with fail;refine h4.out.mono ?_;rintro e w1 ⟨rfl,rfl⟩;go_wp2_with fail;first | exact HF.out | (go_ret2;exact HF.out)
   ·rw[LW h2]at hd;obtain⟨y,hy⟩:∃y,y=x - 48:=⟨_,rfl⟩;rw[← hy]at hd;have HF:=aa (HP.out y 0 hd);have hg:i=(y:Int):=(by omega);subst hg;have d2:decide ((y:Int)<1)=false:=aN (by omega);have d3:decide (9<(y:Int))=false:=aN (by omega);clear hd HP HX HD h0 g3 h5 hi hy he hf;go_enter Tryz.func33,Tryz.ntmps33;go_wp2_with fail;refine h4.out.mono ?_;rintro e w1 ⟨rfl,rfl⟩;go_wp2_with fail;first | exact HF.out | (go_ret2;exact HF.out)
theorem m5{w w':World}{B B' n n' k k':Nat}{e e':TypeId}{v v':Value}{xs xs':List Value}(h:w.ownsRow B e k v n xs)(h':w.ownsRow B' e' k' v' n' xs')(h0:e≠e')(hg:w.grownBy w' v'.ownBlock):w'.ownsRow B e k v n xs:=by
 refine h.kept hg ?_
 cases hv:v.ownBlock with
 | none=>
  rcases h.2 with⟨rfl,_⟩ | ⟨g,cap,cur,rfl,_⟩;·exact .inl rfl
  ·cases hv
 | some g=>refine .inr fun e1=> ?_;obtain⟨c1,f1,e1'⟩:=Lib.ownsRow_kind h g hv;obtain⟨c2,f2,e2⟩:=Lib.ownsRow_kind h' g e1.symm;rw[e1']at e2;cases e2;exact h0 rfl
theorem Fw:∃i,Tryz.prog.info? 5=some i∧i.zero=some (.int .u8 0)∧i.size=1∧i.bytes=1:=by
 have h0:(Tryz.prog.info? 5).map (·.zero)=some (some (.int .u8 0)):=by kernel_rfl
 have h1:(Tryz.prog.info? 5).map (·.size)=some 1:=by kernel_rfl
 have h2:(Tryz.prog.info? 5).map (·.bytes)=some 1:=by kernel_rfl
 cases hq:Tryz.prog.info? 5 with
 | none=>simp[hq]at h1
 | some i=>exact⟨i,rfl,by simpa [hq]using h0,by simpa [hq]using h1,by simpa [hq]using h2⟩
theorem jb{w w':World}{B k n:Nat}{e:TypeId}{v:Value}{xs:List Value}(h:w.ownsRow B e k v n xs)(hB:B≤w.heap.size)(hg:w.grownBy w' v.ownBlock):Below B w w':=
 (L6 B w).grown hg hB fun j hj=>(Nl h j hj).1
theorem sp(w:World)(B:Nat)(v:Value)(L:List UInt8)(h:w.ownsRow B 5 1 v L.length (L.map bv))(t:ByteArray)(hn:L.length+t.size≤1000000000)(hB:B≤w.heap.size):
 ∃v2 w2,(Builtin.append_ #[39,9] 39 #[v,.string t]).run Tryz.prog w=.ok v2 w2∧w2.ownsRow B 5 1 v2 (L++t.data.toList).length ((L++t.data.toList).map bv)∧w.grownBy w2 v.ownBlock:=by obtain⟨i5,h5,h0,h1,h2⟩:=Fw;obtain⟨v2,w2,hr,ho,hg,_⟩:=Lib.run_append_own_string (P:=Tryz.prog) (w:=w) B 39 9 39 5 i5 Tryz.underlying39 Tryz.underlying9 h5 h0 h1 h2 v L.length (L.map bv) h t (by unfold maxLen;omega) (by omega) hB;refine⟨v2,w2,hr,?_,hg⟩;rw[Mw,LR];exact ho
theorem wn(w:World)(B:Nat)(v:Value)(L:List Nat)(h:w.ownsRow B 52 1 v L.length (L.map wv))(x:Nat)(hn:L.length≤1000000)(hB:B≤w.heap.size):
 ∃v2 w2,(Builtin.append_ #[46,46] 46 #[v,.slice (some ⟨w.heap.size,0,none⟩) 1 1]).run Tryz.prog (w.alloc (.cells #[.int .u32 x] 52))=.ok v2 w2∧
  w2.ownsRow B 52 1 v2 (L++ [x]).length ((L++ [x]).map wv)∧(w.alloc (.cells #[.int .u32 x] 52)).grownBy w2 v.ownBlock:=by
 obtain⟨i3,h3,h0,h1,h2⟩:=IB
 obtain⟨v2,w2,hr,ho,hg,_⟩:=PV (P:=Tryz.prog) (w.alloc (.cells #[.int .u32 x] 52)) B 46 46 52 i3 (.int .u32 0) 1 4 Tryz.underlying46 h3 h0 h1 h2 rfl (by decide) _ _ _ (h.alloc _) ⟨w.heap.size,0,none⟩ 1 1 [wv x] rfl (cQ w (wv x) 52)
  (fun u hu=>by rw[List.mem_singleton.1 hu];rfl) (by unfold maxLen;omega) (by omega) (by simp;omega)
 refine⟨v2,w2,hr,?_,hg⟩;rw[Mw,LR];exact ho
def la(w:World)(ans:List UInt8×List Nat×Nat×Nat)(e:Ending)(w':World):Prop:=
 (ans.2.2.2≠0∧e=.returned (.tuple #[.string ⟨#[]⟩,.slice none 0 0,.int .i64 0,.int .i64 ans.2.2.2])∧Below w.heap.size w w')∨
 (ans.2.2.2=0∧∃v,e=.returned (.tuple #[.string (S06.aX ans.1),v,.int .i64 (ans.2.2.1+48:Nat),.int .i64 0])∧w'.ownsRow w.heap.size 52 1 v ans.2.1.length (ans.2.1.map wv)∧(∀ x∈ans.2.1,x<4294967296)∧Below w.heap.size w w')
theorem yD(w:World)(t:ByteArray)(p0 room:Nat)(hs:t.size≤2000000)(_:room≤262144)(p6:32≤p0)(HG:p0≤8*t.size):
 Calls Tryz.prog 34 #[.string t,.int .i64 p0,.int .i64 room] w (la w (bN (ai t.data.toList) room (8*t.size) p0 [] [])):=by
 have HY:t.data.toList.length=t.size:=rfl;have hG:(ai t.data.toList).length=8*t.size:=aw _;have H6:=aI t.data.toList;have hh:=aa fun(wx:World) (p n k:Nat) (hR:IsR p wx p t n) (hk:k≤64) (hZ:n+k≤8*t.size)=>fA p wx p t n k hR (by omega) hk hZ;have hi:=aa fun(wx:World) (p n k:Nat) (hR:IsR p wx p t n) (hk:k≤64) (hn:n≤8*t.size) (hZ:8*t.size<n+k)=>dL p wx p t n k hR (by omega) hk hn hZ;have hg:=aa fun(wx:World) (n:Nat) (hn:n≤8*t.size)=>eU wx t (n:Int) (by omega) (by omega) (by omega);have hu:=aa fun(wx:World) (p:Nat)=>Bq wx t (p:Int) (room:Int) hs;have hl:=aa fun(p k:Nat) (h:p+k≤8*t.size)=>wm H6 p k (by rw[hG];exact h);have ha:=aa fun(p:Nat) (h:(cH (ai t.data.toList) (p:Nat) (room:Nat)).2.2.2=0)=>nw (l:=ai t.data.toList) [] h;have ht:=aa fun(p:Nat)=>yt (ai t.data.toList) (p:Nat) (room:Nat);rw[hG]at ha;have H3:=aa hG;obtain⟨m,hm⟩:∃m,m=8*t.size:=⟨_,rfl⟩;have p5:m≤16000000:=by omega
 rw[← hm]at hh hi hg hl ha H3 HG ⊢;generalize ai t.data.toList=bits at*;have h1:Hid (∀ (k:Nat) (w':World),k≠0→bN bits room m p0 [] []=([], [],0,k)→Below w.heap.size w w'→la w (bN bits room m p0 [] []) (.returned (.tuple #[.string ⟨#[]⟩,.slice none 0 0,.int .i64 0,.int .i64 k])) w'):=aa fun k w' hk h hb=>by rw[h];exact .inl ⟨hk,rfl,hb⟩
 have h7:Hid (∀ (X:List UInt8) (Z:List Nat) (bit q:Nat) (v:Value) (w':World),q=bit+48→bN bits room m p0 [] []=(X,Z,bit,0)→w'.ownsRow w.heap.size 52 1 v Z.length (Z.map wv)→(∀ x∈Z,x<4294967296)→Below w.heap.size w w'→la w (bN bits room m p0 [] []) (.returned (.tuple #[.string (S06.aX X),v,.int .i64 q,.int .i64 0])) w'):=aa fun X Z bit q v w' hq h ho hz hb=>by rw[h,hq];exact .inr ⟨rfl,v,rfl,ho,hz,hb⟩
 generalize la w (bN bits room m p0 [] [])=PO at*;obtain⟨ANS,hc⟩:∃x,x=bN bits room m p0 [] []:=⟨_,rfl⟩;rw[← hc]at h1 h7;have hI:=aa hc;clear hc H6 hG hm HY hs;go_enter Tryz.func34,Tryz.ntmps34;go_wp2_with fail;go_step3;go_wp2_with fail;go_step3;go_wp2_with fail
 go_loopw [1,10,11] (fun sb so ss wx=>∃(L:List UInt8) (Z:List Nat) (bit:Nat),sb=.int .i64 bit∧wx.ownsRow w.heap.size 5 1 so L.length (L.map bv)∧wx.ownsRow w.heap.size 52 1 ss Z.length (Z.map wv)∧bit≤m∧105*Z.length+32≤bit∧L.length≤262144∧Below w.heap.size w wx∧
  Hid (ANS=bN bits room (m - Z.length) bit L Z∧∀x∈Z,x<4294967296)) (fun sb _ _ _=>m - (intOf sb).toNat)
 case atStart=>exact⟨[], [],p0,rfl,Ml _ _ _ _,Ml _ _ _ _,HG,by simp;omega,LY _,L6 _ _,aa ⟨by rw[MH,Pv];exact hI.out,fun x hx=>absurd hx ay⟩⟩
 case round=>
  obtain⟨L,Z,bit,rfl,HM,hE,hC,hn,hL,hT,hJ⟩:=hrel;have HW:=aa HM;have hy:=aa hE;have hM:=aa hT;have HL:=hT.size;clear HM hE hT;obtain⟨n,hH⟩:∃n,n=Z.length:=⟨_,rfl⟩;have HN:=aa hH;rw[← hH]at hn;obtain⟨f,hf⟩:∃f,m - n=f+1:=⟨m - n - 1,by omega⟩;have hY:=hJ.out.1;rw[← hH,hf,dF,H3.out]at hY;have h6:=aa hY;have HZ:=aa hJ.out.2;have HF:=aa hf;clear hJ hY hH hf;have hw:=aa (hg.out wr bit hC);go_wp2_with fail;refine hw.out.mono ?_;rintro e w5 ⟨rfl,H0⟩;obtain⟨p,hp⟩:∃p,p=wr.heap.size:=⟨_,rfl⟩;have H7:IsR p w5 p t bit:=by rw[H0,hp];exact iQ wr wr.heap.size (ag _) t bit
  have HA:Below wr.heap.size wr w5:=b9 H0;have hN:=aa H7;have hK:=aa HA;have H4:=aa hp;rw[← hp];clear H0 H7 HA hp hw;by_cases e1:m<bit+48;·have N1:=aa (hi.out w5 p bit 48 hN.out (by omega) hC e1);have hj:=h6.out;rw[LX e1]at hj;clear hh hi hg hl hu ha ht h7;have h5:=aa fun w' hb=>h1.out 10 w' (by decide) hj hb;clear hj h1;go_wp2_with fail;refine N1.out.mono ?_;rintro e w6 ⟨rfl,_,hB⟩;have h9:=aa (hM.out.trans ((hK.out.trans (by have:=hB.below;rw[H4.out]at this;exact this)).mono HL));clear hB;go_wp2_with fail;rw[MZ];refine Mm (db rfl _ _ _) rfl ?_;exact h5.out _ h9.out
  have N1:=aa (hh.out w5 p bit 48 hN.out (by omega) (by omega));have v1:=hl.out bit 48 (by omega);obtain⟨v,hv⟩:∃x,x=val ((bits.drop bit).take 48):=⟨_,rfl⟩;have hj:=h6.out;rw[LW e1]at hj;rw[← hv]at N1 v1 hj;have v1:v<281474976710656:=by simpa using v1
  clear hv h6;have HJ:=aa hj;clear hj;go_wp2_with fail;refine N1.out.mono ?_;rintro e w6 ⟨rfl,H8,hB⟩;have h3:=aa (show Below wr.heap.size wr w6 from hK.out.trans (by have:=hB.below;rw[H4.out]at this;exact this));have h9:=aa (hM.out.trans (h3.out.mono HL));have hP:=aa (gi HW.out h3.out);have h2:=aa (gi hy.out h3.out);have p2:=h9.out.size;have hO:=aa H8;clear H8 hB N1 hK hN HW hy hM;by_cases e2:v=25779555029136;·have hj:=HJ.out;rw[LX e2]at hj;have d2:((v:Int)==25779555029136)=true:=beq_iff_eq.2 (by omega);have c0:=ac hO.out.blk 0;have c2:=ac hO.out.blk 2;simp at c0 c2;obtain⟨q,hq⟩:∃x,x=bit+48:=⟨_,rfl⟩;have H2:=aa (jU w6 p ((bit:Int)+48) c0 c2);have HH:(bit:Int)+48=(q:Int):=(by omega);rw[HH]at H2;have HQ:=aa (k7 hP.out);have p4:=HQ.out;have h5:=aa (h7.out L Z bit q _ w6 hq hj h2.out HZ.out h9.out);clear HJ hh hi hg hl hu ha ht h1 h7 hj e2 e1 c0 c2 hq HH;go_wp2_with fail;refine H2.out.mono ?_;rintro e w7 ⟨rfl,rfl⟩;go_wp2_with fail;rw[MZ];refine Mm (db rfl _ _ _) rfl ?_;exact h5.out
  have hj:=HJ.out;rw[LW e2]at hj;have d2:((v:Int)==25779555029136)=false:=Ow (by omega);by_cases e3:v≠54156738319193;·rw[LX e3]at hj;have d3:((v:Int)==54156738319193)=false:=Ow (by omega);have h5:=aa (h1.out 130 w6 (by decide) hj h9.out);clear HJ hh hi hg hl hu ha ht h1 h7 hj e2 e1 e3;go_wp2_with fail;rw[MZ];refine Mm (db rfl _ _ _) rfl ?_;exact h5.out
  rw[LW e3]at hj;have d3:((v:Int)==54156738319193)=true:=beq_iff_eq.2 (by omega);have HT:=hu.out w6 bit;have hQ:=ha.out bit;have hS:=ht.out bit;clear HJ;generalize cH bits (bit:Nat) (room:Nat)=ans at*;obtain⟨X,sm,bt,er⟩:=ans;have H5:Hid (Calls Tryz.prog 73 #[.string t,.int .i64 bit,.int .i64 room] w6 fun e w'=>e=.returned (.tuple #[.string (S06.aX X),.int .u32 sm,.int .i64 bt,.int .i64 er])∧Below w6.heap.size w6 w'):=aa HT;have hX:X.length≤262144:=hS.1;have p1:sm<4294967296:=hS.2;dsimp only at hj hQ;have p7:(S06.aX X).size=X.length:=rfl;have HO:(S06.aX X).data.toList=X:=by rw[fc]
  have HX:=aa HO;have h6:=aa hj;have h4:=aa hQ;clear hj hh hi hg hl hu ha ht HT hQ hS e2 e3 HO;go_wp2_with fail;refine H5.out.mono ?_;rintro e w8 ⟨rfl,hF⟩;have he:=aa (aq h9.out hF);have hA:=aa (gi hP.out hF);have h8:=aa (gi h2.out hF);clear hF h9 hP h2 hO h3 H5;by_cases e4:er≠0;·have d4:=dO e4;have hj:=h6.out;rw[LX e4]at hj;have h5:=aa (h1.out er w8 e4 hj he.out);clear hj h1 h7 e4 h6 h4;go_wp2_with fail;rw[MZ];refine Mm (db rfl _ _ _) rfl ?_;exact h5.out
  have d4:=js e4;have hj:=h6.out;rw[LW e4]at hj;obtain⟨g1,g2,_⟩:=h4.out (Decidable.not_not.1 e4);obtain⟨A8,c8,rfl,p3,_⟩:=ao hA.out;obtain⟨z,hz⟩:∃z,z=262144 - L.length:=⟨_,rfl⟩;have pb:(262144:Int) - (L.length:Int)=(z:Int):=by omega
  generalize S06.aX X=TX at*;by_cases e5:262144<L.length+X.length;·have d5:decide ((z:Int)<(TX.size:Int))=true:=bD (by omega);have d6:decide (z<TX.size)=true:=bD (by omega);have d7:z<TX.size:=(by omega);rw[LX e5]at hj;have h5:=aa (h1.out 3 w8 (by decide) hj he.out);clear hj h1 h7 e4 h6 h4 hz;go_wp2_with fail;rw[MZ];refine Mm (db rfl _ _ _) rfl ?_;exact h5.out
  ·have d5:decide ((z:Int)<(TX.size:Int))=false:=aN (by omega);have d6:decide (z<TX.size)=false:=aN (by omega);have d7:¬z<TX.size:=(by omega);rw[LW e5]at hj;obtain⟨v9,w9,HI,HD,hV⟩:=sp w8 w.heap.size _ L hA.out TX (by omega) he.out.size;have h0:=m5 h8.out hA.out (by decide) hV;have HB:=jb hA.out he.out.size hV;have hr:=aa (he.out.trans HB);obtain⟨va,wa,HK,HE,hW⟩:=wn w9 w.heap.size _ Z h0 sm (by rw[← HN.out];omega) hr.out.size;have hD:=HD.alloc (.cells #[.int .u32 sm] 52);have H1:=m5 hD (h0.alloc (.cells #[.int .u32 sm] 52)) (by decide) hW;have HC:=hr.out.trans (((L6 w.heap.size w9).alloc hr.out.size _).trans (jb (h0.alloc (.cells #[.int .u32 sm] 52)) (by simp;have:=hr.out.size;omega) hW));rw[HX.out]at H1;have HS:=aa HI;have HU:=aa HK;have HV:=aa H1;have HR:=aa HE;have HP:=aa HC;have HJ:=aa hj;clear hj h1 h7 e4 h6 h4 hz HD hD h0 H1 HE HC hV hW HB HI HK hA h8 he hr;(go_wp2_with (at_builtin;first | refine Lib.wpList_append_run _ rfl _ _ 39 9 rfl _ (.string TX) rfl rfl v9 w9 HS.out ?_ | refine Lib.wpList_append_run _ rfl _ _ 46 46 rfl _ (.slice (some ⟨w9.heap.size,0,none⟩) 1 1) rfl rfl va wa HU.out ?_));go_roundw;case rel=>
    refine⟨L++X,Z++ [sm],bt,rfl,HV.out,HR.out,g2,?_,by rw[LR];omega,HP.out,aa ⟨?_,?_⟩⟩;·rw[LR,Mq,←HN.out];omega
    ·rw[HJ.out,LR,Mq,←HN.out,show m - (n+1)=f by have:=HF.out;omega]
    ·intro x hx;rcases List.mem_append.1 hx with hx | hx;·exact HZ.out x hx
     ·rw[List.mem_singleton.1 hx];exact p1
   case measure=>simp[intOf];omega
attribute [local go_sem] Oper.semAt_some
theorem I5(w:World)(B:Nat)(v:Value)(ls:List (List Nat))(l:List Nat)(h:Pcs w B v ls)(hB:B≤w.heap.size)(hn:ls.length≤1000000)(hl:au l):
 ∃v' w',(Builtin.append_ #[45,45] 45 #[v,.slice (some ⟨w.heap.size,0,none⟩) 1 1]).run Tryz.prog (w.alloc (.cells #[.string ⟨(pack l).toArray⟩,.int .i64 l.length] 43))=.ok v' w'∧Pcs w' B v' (ls++ [l])∧(w.alloc (.cells #[.string ⟨(pack l).toArray⟩,.int .i64 l.length] 43)).grownBy w' v.ownBlock:=by
 obtain⟨i3,h3,h0,h5,h6⟩:=MT Tryz.infoBits
 obtain⟨v',w',h1,h2,h4,_⟩:=PV (P:=Tryz.prog) (w.alloc (.cells #[.string ⟨(pack l).toArray⟩,.int .i64 l.length] 43)) B 45 45 43 i3 _ 2 24 Tryz.underlying45 h3 h0 h5 h6 rfl (by decide) v ls.length (cT ls) (h.own.alloc _)
  ⟨w.heap.size,0,none⟩ 1 1 [.string ⟨(pack l).toArray⟩,.int .i64 l.length] rfl (rP w _ _ _)
  (fun u hu=>by
    simp at hu
    rcases hu with rfl | rfl <;>rfl) (by unfold maxLen;omega) (by omega) (by simp;omega)
 refine⟨v',w',h1,⟨?_,fun x hx=> ?_⟩,h4⟩;·rw[kd,LR,Mq];exact h2
 ·rcases List.mem_append.1 hx with hx | hx;·exact h.bit x hx
  ·rw[List.mem_singleton.1 hx];exact hl
theorem cK{w w':World}(hb:Below w.heap.size w w'):w.grownBy w' none:=⟨hb.os,hb.tape,hb.output,hb.size,fun j hj _=>hb.block j hj⟩
theorem jw{w w':World}(hb:Below w.heap.size w w'):KeepsOthers w w':=KeepsOthers.of_grownBy (cK hb) (fun j o e=>by cases e)
theorem nI{w w':World}{B k n:Nat}{e:TypeId}{v:Value}{xs:List Value}(h:w.ownsRow B e k v n xs)(hg:w.grownBy w' v.ownBlock):KeepsOthers w w':=
 KeepsOthers.of_grownBy hg fun j o ej hj=>by
  obtain⟨c,f,e1⟩:=Lib.ownsRow_kind h j ej
  rw[e1]at hj
  cases hj
  rfl
theorem tR(most:Int):∀(k:Nat) (s:List UInt8),(f5 most k s).length≤k
 | 0,_=>L5 _
 | k+1,s=>by
  by_cases h:s= [];·rw[h,nL];exact LY _
  ·rw[mv most k s h,Mb];have:=tR most k (s.drop (fP s most));omega
structure fS (n₀ B:Nat) (w0:World) (s:ByteArray) (most:Int) (ls:List (List Nat)) (zs:List Nat) (W:World):Prop where
 ex:∃vp vs,Boxed W B 45 vp∧Boxed W (B+1) 46 vs∧Pcs W n₀ vp ls∧W.ownsRow n₀ 52 1 vs zs.length (zs.map wv)
 b1:Boxed W (B+2) 9 (.string s)
 b2:Boxed W (B+2+1) 3 (.int .i64 most)
 low:Below n₀ w0 W
theorem fS.grown{n₀ B:Nat}{w0 W W':World}{s:ByteArray}{most:Int}{ls:List (List Nat)}{zs:List Nat}(h:fS n₀ B w0 s most ls zs W){row:Option Nat}(hn:n₀≤w0.heap.size)(hg:W.grownBy W' row)(hr:∀r,row=some r→n₀≤r∧∃o:Obj,W.heap[r]? =some o∧o.isCells=false):fS n₀ B w0 s most ls zs W':=by
 obtain⟨⟨vp,vs,hp,hs,pc,rw1⟩,h1,h2,h3⟩:=h;have bx:∀{b:Nat} {t:TypeId} {v:Value},Boxed W b t v→Boxed W' b t v:=fun {b t v} hb=>hb.kept hg fun e=>by obtain⟨_,o,ho,hc⟩:=hr b e.symm;rw[show W.heap[b]? =_ from hb]at ho;cases ho;cases hc
 have rx:∀{k n:Nat} {e:TypeId} {v:Value} {xs:List Value},W.ownsRow n₀ e k v n xs→W'.ownsRow n₀ e k v n xs:=fun {k n e v xs} ho=>ho.kept hg (by
  rcases ho.2 with⟨rfl,_⟩ | ⟨g,cap,cur,rfl,_,h4,_⟩
  ·exact .inl rfl
  ·refine .inr fun e'=> ?_
   obtain⟨_,o,h0,hc⟩:=hr g (by simpa [Value.ownBlock]using e'.symm)
   rw[h4]at h0
   cases h0
   cases hc)
 exact⟨⟨vp,vs,bx hp,bx hs,⟨rx pc.own,pc.bit⟩,rx rw1⟩,bx h1,bx h2,h3.grown hg (Mk hn h3.size) (fun k e=>(hr k e).1)⟩
theorem vm{W:World}{b:Nat}{t:TypeId}{v v':Value}(h:Boxed W b t v)(h':Boxed W b t v'):v=v':=by have h2:=(show W.heap[b]? =_ from h).symm.trans h';simpa using h2
theorem fS.low'{n₀ B:Nat}{w0 W W':World}{s:ByteArray}{most:Int}{ls:List (List Nat)}{zs:List Nat}(h:fS n₀ B w0 s most ls zs W)(hn:n₀≤w0.heap.size)(hb:Below W.heap.size W W'):fS n₀ B w0 s most ls zs W':=h.grown hn (cK hb) fun r e=>by cases e
theorem fS.pieces{n₀ B:Nat}{w0 W:World}{s:ByteArray}{most:Int}{ls:List (List Nat)}{zs:List Nat}(h:fS n₀ B w0 s most ls zs W)(hn:n₀≤w0.heap.size)(hB:n₀≤B){vp:Value}(hv:Boxed W B 45 vp)(L:List Nat)(hL:au L)(hl:ls.length≤1000000):
 ∃A n c W4,(Builtin.append_ #[45,45] 45 #[vp,.slice (some ⟨W.heap.size,0,none⟩) 1 1]).run Tryz.prog (W.alloc (.cells #[.string ⟨(pack L).toArray⟩,.int .i64 L.length] 43))=.ok (.slice A n c) W4∧Boxed W4 B 45 vp∧
  fS n₀ B w0 s most (ls++ [L]) zs (W4.setCell ⟨B,0,none⟩ (.slice A n c))∧KeepsOthers W (W4.setCell ⟨B,0,none⟩ (.slice A n c)):=by
 obtain⟨⟨vp',vs,hp,hs,pc,rw1⟩,h1,h2,h3⟩:=h;obtain rfl:=vm hp hv;have h4:n₀≤W.heap.size:=Mk hn h3.size;obtain⟨v',W4,hr,pc4,hg⟩:=I5 W n₀ vp' ls L pc h4 hl hL;obtain⟨A,c,rfl,_,_,_⟩:=ao pc4.own;have bx:∀{b:Nat} {t:TypeId} {v:Value},t≠43→Boxed W b t v→Boxed W4 b t v:=fun ht hb=>(hb.alloc (.cells #[.string ⟨(pack L).toArray⟩,.int .i64 L.length] 43)).kept hg ((hb.alloc (.cells #[.string ⟨(pack L).toArray⟩,.int .i64 L.length] 43)).not_row ht (pc.own.alloc (.cells #[.string ⟨(pack L).toArray⟩,.int .i64 L.length] 43)));have h0:=bx (by decide) hp;have h7:=bx (by decide) hs;have h5:=bx (by decide) h1;have h6:=bx (by decide) h2;have rw4:=m5 (rw1.alloc (.cells #[.string ⟨(pack L).toArray⟩,.int .i64 L.length] 43)) (pc.own.alloc _) (by decide) hg;refine⟨A,_,c,W4,hr,h0,⟨⟨_,vs,h0.set _,h7.other (by omega) _,⟨pc4.own.kept (grownBy_setCell' W4 B _) (.inr (h0.not_row (by decide) pc4.own).symm),pc4.bit⟩,rw4.kept (grownBy_setCell' W4 B _) (.inr (h0.not_row (by decide) rw4).symm)⟩,h5.other (by omega) _,h6.other (by omega) _,?_⟩,?_⟩;·exact((h3.alloc h4 _).trans (jb (pc.own.alloc _) (by simp;omega) hg)).setCell (p:=⟨B,0,none⟩) hB _
 ·exact((KeepsOthers.alloc W _).trans (nI (pc.own.alloc _) hg)).trans (KeepsOthers.setCell _ _ _)
theorem fS.sums{n₀ B:Nat}{w0 W:World}{s:ByteArray}{most:Int}{ls:List (List Nat)}{zs:List Nat}(h:fS n₀ B w0 s most ls zs W)(hn:n₀≤w0.heap.size)(hB:n₀≤B){vs:Value}(hv:Boxed W (B+1) 46 vs)(x:Nat)(hl:zs.length≤1000000):
 ∃A n c W4,(Builtin.append_ #[46,46] 46 #[vs,.slice (some ⟨W.heap.size,0,none⟩) 1 1]).run Tryz.prog (W.alloc (.cells #[.int .u32 x] 52))=.ok (.slice A n c) W4∧Boxed W4 (B+1) 46 vs∧
  fS n₀ B w0 s most ls (zs++ [x]) (W4.setCell ⟨B+1,0,none⟩ (.slice A n c))∧KeepsOthers W (W4.setCell ⟨B+1,0,none⟩ (.slice A n c)):=by
 obtain⟨⟨vp,vs',hp,hs,pc,rw1⟩,h1,h2,h3⟩:=h;obtain rfl:=vm hs hv;have h4:n₀≤W.heap.size:=Mk hn h3.size;obtain⟨v',W4,hr,ow4,hg⟩:=wn W n₀ vs' zs rw1 x hl h4;obtain⟨A,c,rfl,_,_,_⟩:=ao ow4;have bx:∀{b:Nat} {t:TypeId} {v:Value},t≠52→Boxed W b t v→Boxed W4 b t v:=fun ht hb=>(hb.alloc (.cells #[.int .u32 x] 52)).kept hg ((hb.alloc (.cells #[.int .u32 x] 52)).not_row ht (rw1.alloc (.cells #[.int .u32 x] 52)));have h7:=bx (by decide) hp;have h0:=bx (by decide) hs;have h5:=bx (by decide) h1;have h6:=bx (by decide) h2;have pc4:=m5 (pc.own.alloc (.cells #[.int .u32 x] 52)) (rw1.alloc _) (by decide) hg;refine⟨A,_,c,W4,hr,h0,⟨⟨vp,_,h7.other (by omega) _,h0.set _,⟨pc4.kept (grownBy_setCell' W4 (B+1) _) (.inr (h0.not_row (by decide) pc4).symm),pc.bit⟩,ow4.kept (grownBy_setCell' W4 (B+1) _) (.inr (h0.not_row (by decide) ow4).symm)⟩,h5.other (by omega) _,h6.other (by omega) _,?_⟩,?_⟩;·exact((h3.alloc h4 _).trans (jb (rw1.alloc _) (by simp;omega) hg)).setCell (p:=⟨B+1,0,none⟩) (by show n₀≤B+1;omega) _
 ·exact((KeepsOthers.alloc W _).trans (nI (rw1.alloc _) hg)).trans (KeepsOthers.setCell _ _ _)
theorem na{F:Fence}{n:Nat}{P:Program}(w:World){ops:Array Oper}{rest:List Oper}{o:Oper}{a:Act}{Q:Exit→Act→World→Prop}
 (hg:o.guard=none) (s x:Operand) (t u:TypeId) (h0:o.op=.call { callee:=.builtin .append,args:=#[s,x],argTypes:=#[t,u] }) (vs vx:Value) (hs:a.eval s=vs) (hx:a.eval x=vx) (v':Value) (w':World)
 (hr:(Builtin.append_ #[t,u] o.type #[vs,vx]).run P w=.ok v' w') (h:wpListIn F n P ops Q rest (a.put o.dst v') w'):wpListIn F n P ops Q (o :: rest) a w:=by
 refine wpListIn_plain hg fun K hK=> ?_;unfold Oper.wpIn;refine⟨?_,?_⟩;·simp[Oper.about,h0,resolve,Target.leads,Sem.run_pure]
 ·rw[Oper.semAt_plain F _ _ (by rw[h0];intro c hc;cases hc)];simp[execOp,h0,resolve,invoke,builtin,hs,hx,hr,Result.andThen];exact hK _ _ h
theorem eG{F:Fence}{n:Nat}{P:Program}{ops:Array Oper}{o:Oper}{a:Act}{w w':World}{K:Act→World→Prop}{Q:Exit→Act→World→Prop}{E:Prop}{v':Value}(hg:o.guard=none)(s x:Operand)(t u:TypeId)
 (h0:o.op=.call { callee:=.builtin .append,args:=#[s,x],argTypes:=#[t,u] }) (vs vx:Value) (hs:a.eval s=vs) (hx:a.eval x=vx)
 (hr:(Builtin.append_ #[t,u] o.type #[vs,vx]).run P w=.ok v' w') (h:K (a.put o.dst v') w'):if Region.wanted o (yielded ops a.tmps)=true then Oper.wpIn F n P o a w K Q else E:=by
 have hw:Region.wanted o (yielded ops a.tmps)=true:=by simp[Region.wanted,hg]
 rw[LX hw];unfold Oper.wpIn;refine⟨?_,?_⟩;·simp[Oper.about,h0,resolve,Target.leads,Sem.run_pure]
 ·rw[Oper.semAt_plain F _ _ (by rw[h0];intro c hc;cases hc)];simp[execOp,h0,resolve,invoke,builtin,hs,hx,hr,Result.andThen];exact h
structure gl (n₀ B D:Nat) (w0:World) (vp vs v:Value) (ls:List (List Nat)) (W:World):Prop where
 p:Boxed W B 45 vp
 q:Boxed W (B+1) 46 vs
 pc:Pcs W n₀ v ls
 low:Below n₀ w0 W
 d:W.heap[D]? =some (.deferred (some []))
 n:n₀≤w0.heap.size
section
variable {n₀ B D:Nat} {w0 W W':World} {vp vs v:Value} {ls:List (List Nat)} (h:gl n₀ B D w0 vp vs v ls W)
include h
theorem gl.below(hb:Below W.heap.size W W'):gl n₀ B D w0 vp vs v ls W':=
 ⟨h.p.kept (cK hb) (by simp),h.q.kept (cK hb) (by simp),h.pc.below hb,h.low.trans (hb.mono (Mk h.n h.low.size)),(jw hb).same D _ h.d rfl,h.n⟩
theorem gl.alloc(o:Obj):gl n₀ B D w0 vp vs v ls (W.alloc o):=h.below ((L6 _ W).alloc (ag _) o)
theorem gl.far(g:Nat)(hg:B+1<g)(x y:Value):((W.setCell ⟨g,0,none⟩ x).setCell ⟨g,1,none⟩ y).cell? ⟨B,0,none⟩=some vp∧((W.setCell ⟨g,0,none⟩ x).setCell ⟨g,1,none⟩ y).cell? ⟨B+1,0,none⟩=some vs:=
 ⟨(ac (l4 (show Blk W B 45 #[vp]from h.p) (by omega)) 0).trans rfl,(ac (l4 (show Blk W (B+1) 46 #[vs]from h.q) (by omega)) 0).trans rfl⟩
theorem gl.fin(g:Nat)(hg:n₀≤g)(hD:n₀≤D)(x y:Value):((W.setCell ⟨g,0,none⟩ x).setCell ⟨g,1,none⟩ y).heap[D]? =some (.deferred (some []))∧∀o,Below n₀ w0 (((W.setCell ⟨g,0,none⟩ x).setCell ⟨g,1,none⟩ y).putObj D o):=by have hl:Below n₀ w0 ((W.setCell ⟨g,0,none⟩ x).setCell ⟨g,1,none⟩ y):=(h.low.setCell (p:=⟨g,0,none⟩) hg x).setCell (p:=⟨g,1,none⟩) hg y;exact⟨((KeepsOthers.setCell W _ x).trans (KeepsOthers.setCell _ _ y)).same D _ h.d rfl,fun o=>hl.grown (grownBy_putObj' _ D o) (Mk h.n hl.size) (fun k e=>by cases e;exact hD)⟩
theorem gl.fin0(hD:n₀≤D):∀o,Below n₀ w0 (W.putObj D o):=fun o=>h.low.grown (grownBy_putObj' _ D o) (Mk h.n h.low.size) (fun k e=>by cases e;exact hD)
theorem gl.cells:W.cell? ⟨B,0,none⟩=some vp∧W.cell? ⟨B+1,0,none⟩=some vs:=⟨h.p.cell,h.q.cell⟩
theorem gl.last(a:Nat)(l:List Nat)(hl:au l)(hn:ls.length≤1000000)(ha:Blk W a 43 #[.string ⟨(pack l).toArray⟩,.int .i64 l.length]):∃v' W4,(Builtin.append_ #[45,45] 45 #[v,.slice (some ⟨a,0,none⟩) 1 1]).run Tryz.prog W=.ok v' W4∧
 gl n₀ B D w0 vp vs v' (ls++ [l]) W4∧(∀ {g:Nat} {t:TypeId} {cs:Array Value},(∀ k,v.ownBlock=some k→k≠g)→Blk W g t cs→Blk W4 g t cs)∧W.heap.size≤W4.heap.size:=by
 have h0:n₀≤W.heap.size:=Mk h.n h.low.size;obtain⟨i3,h3,h4,h5,h6⟩:=MT Tryz.infoBits
 obtain⟨v',W4,h1,h2,hg,_⟩:=PV (P:=Tryz.prog) W n₀ 45 45 43 i3 _ 2 24 Tryz.underlying45 h3 h4 h5 h6 rfl (by decide) v ls.length (cT ls) h.pc.own
  ⟨a,0,none⟩ 1 1 [.string ⟨(pack l).toArray⟩,.int .i64 l.length] rfl (fun j u hu=>by
    rw[NX,MG,ac ha]
    simpa using hu)
  (fun u hu=>by
    simp at hu
    rcases hu with rfl | rfl <;>rfl) (by unfold maxLen;omega) (by omega) h0
 have bx:∀{b:Nat} {t:TypeId} {u:Value},t≠43→Boxed W b t u→Boxed W4 b t u:=fun ht hb=>hb.kept hg (hb.not_row ht h.pc.own);refine⟨v',W4,h1,⟨bx (by decide) h.p,bx (by decide) h.q,⟨?_,fun x hx=> ?_⟩,h.low.trans (jb h.pc.own h0 hg),(nI h.pc.own hg).same D _ h.d rfl,h.n⟩,fun {g t cs} hk hb=> ?_,hg.size⟩;·rw[kd,LR,Mq];exact h2
 ·rcases List.mem_append.1 hx with hx | hx;·exact h.pc.bit x hx
  ·rw[List.mem_singleton.1 hx];exact hl
 ·exact(hg.block g (aB hb) (fun e=>hk g e.symm rfl)).trans hb
end
theorem Hu{K:Nat}(hK:K≤8192)(HM:∀(wx:World) (t:ByteArray),t.size≤K→Calls Tryz.prog 20 #[.string t] wx (aS wx (dX t.data.toList)))
 (w:World) (s:ByteArray) (lv:Nat) (most:Int) (h:cU lv most) (hs:s.size≤K):Calls Tryz.prog 11 #[.string s,.int .i64 lv,.int .i64 most] w (cG w (ff s.data.toList lv most)):=by
 have s1:s.data.toList.length=s.size:=rfl;obtain⟨h1,h2,h3,h4⟩:=id h;have H4:ff s.data.toList lv most=(pack (aF s.data.toList lv most),0):=by unfold ff;rw[LW (NI h),LW (by rw[s1];omega),L9]
 have h7:=l5 w most s.data.toList.length s.data.toList;have hp:aF s.data.toList lv most=ai [66,90,104,UInt8.ofNat (48+lv)]++(bX most s.data.toList.length s.data.toList).1++xc (S02.dc (bX most s.data.toList.length s.data.toList).2):=rfl;have hz:=lF most s.data.toList.length s.data.toList;rw[nb]at hp hz h7;dsimp only at hp hz h7;have HB:=ub lv;have r8:=aa (mP w lv (by omega));rw[L9]at h4;have d0:decide ((lv:Int)<1)=false:=aN (by omega);have d1:decide ((9:Int)<(lv:Int))=false:=aN (by omega);have d2:decide (most<1)=false:=aN (by omega);have d3:decide ((gm lv:Int)<most)=false:=aN (by omega);have d4:decide ((262144:Int)<(s.size:Int))=false:=aN (by omega);have st:most≤262144:=by omega
 have ss:1≤most:=h3;have hw:au (ai [66,90,104,UInt8.ofNat (48+lv)]):=aI _;have HO:=iK lv;have HK:=aa fun wx=>wR wx lv (by omega) (by omega);obtain⟨H,hH⟩:∃H,H=ai [66,90,104,UInt8.ofNat (48+lv)]:=⟨_,rfl⟩;rw[← hH]at hp hw HO HK;obtain⟨Z,hZ⟩:∃Z,Z=(f5 most s.data.toList.length s.data.toList).map S02.b6:=⟨_,rfl⟩;rw[← hZ]at hp hz;obtain⟨PS,HQ⟩:∃PS,PS=(f5 most s.data.toList.length s.data.toList).map (fun p=>(dX p).1):=⟨_,rfl⟩;rw[← HQ]at hp h7;obtain⟨z,HV⟩:∃z,z=S02.dc Z:=⟨_,rfl⟩;have qo:z<4294967296:=by rw[HV];exact S02.nS Z hz
 rw[← HV]at hp;have r1:=aa fun wx=>l6 wx z qo;have H2:au (xc z):=(aD _ _).append (aD _ _);have p4:=qK z;generalize xc z=E at*;obtain⟨TH,pm⟩:∃TH:ByteArray,TH=⟨(pack H).toArray⟩:=⟨_,rfl⟩;obtain⟨TE,pl⟩:∃TE:ByteArray,TE=⟨(pack E).toArray⟩:=⟨_,rfl⟩;have hn:((H :: PS)++ [E]).flatten=aF s.data.toList lv most:=by rw[hp];simp
 obtain⟨J,hJ⟩:∃J:ByteArray,J=⟨(pack ((H :: PS)++ [E]).flatten).toArray⟩:=⟨_,rfl⟩;have HP:Hid (∀ w',Below w.heap.size w w'→cG w (ff s.data.toList lv most) (.returned (.tuple #[.string J,.int .i64 0])) w'):=aa fun w' hb=>by rw[H4,←hn];refine⟨?_,hb⟩;rw[hJ];rfl
 generalize cG w (ff s.data.toList lv most)=PO at*;rw[← pm,HO]at HK;rw[← pl,p4]at r1;have HH:=aa (And.intro hw HO);have HE:=aa (And.intro H2 p4);have sn:=aa pm;have sm:=aa pl;have HJ:=aa hJ;have si:=aa HQ;have HZ:=aa hZ;have H1:=aa hz;have rb:=aa HV;have r6:=aa h7;have HM:=aa HM;have r0:=aa fun(wx:World) (t:ByteArray) (ht:t.size≤8192)=>su wx t (by omega)
 have hN:Hid (PS.length≤8192∧Z.length=PS.length):=aa (by
  have hl:=tR most s.data.toList.length s.data.toList
  rw[HQ,hZ,Mi,Mi]
  exact⟨by omega,rfl⟩)
 have hn₀:w.heap.size≤w.heap.size:=L5 _;clear H4 hp hz h7 hH hZ HQ HV H2 p4 hw HO pm pl hn hJ HB h h1 h2 h3;refine(callsIn_wide (n:=9)).1 (callsIn_of_wp_marks Tryz.func11 rfl trivial ?_ rfl);refine wpIn_wide.2 ?_;simp only[Tryz.ntmps11,OU,Mb,MH,Nat.reduceAdd,Nat.reduceSub,Array.replicate_succ,Array.replicate_zero,List.push_toArray,List.append_toArray,Mz,MI];go_wp2_with fail;refine r8.out.mono ?_;rintro e w1 ⟨rfl,rfl⟩;clear r8;go_wp2_with fail;refine(HK.out w1).mono ?_;rintro e w2 ⟨rfl,H5⟩;clear HK;go_wp2_with fail;obtain⟨wa,HC⟩:∃wa,wa=w2.alloc (.cells #[.string TH,.int .i64 32] 43):=⟨_,rfl⟩;obtain⟨wb,hW⟩:∃wb,wb=wa.alloc (.cells #[.slice (some ⟨w2.heap.size,0,none⟩) 1 1] 45):=⟨_,rfl⟩;obtain⟨w4,hC⟩:∃w4,w4=wb.alloc (.cells #[.slice none 0 0] 46):=⟨_,rfl⟩;obtain⟨B,hB⟩:∃B,B=w2.heap.size+1:=⟨_,rfl⟩;have q3:wa.heap.size=B:=by rw[HC,hB];simp
 have q9:wb.heap.size=B+1:=by rw[hW,M7,q3]
 have HU:w4.heap.size=B+2:=by rw[hC,M7,q9]
 have s2:w1.heap.size≤w2.heap.size:=H5.size;have ha:w1.heap.size≤B:=by omega
 have q0:Pcs wa w1.heap.size (.slice (some ⟨w2.heap.size,0,none⟩) 1 1) [H]:=by have h:=DJ w2 w1.heap.size s2 H HH.out.1;rw[HH.out.2,←sn.out]at h;rw[HC];exact h
 have HT:Below w1.heap.size w1 w4:=by rw[hC,hW,HC];exact(((H5.alloc s2 _).alloc (by simp;omega) _).alloc (by simp;omega) _)
 have s7:Boxed wb B 45 (.slice (some ⟨w2.heap.size,0,none⟩) 1 1):=by rw[hW,←q3];exact Boxed.new wa _ _
 have s6:Boxed w4 (B+1) 46 (.slice none 0 0):=by rw[hC,←q9];exact Boxed.new wb _ _
 rw[← HC,←hW,←hC,←hB];refine(Lj w4 s most).mono ?_;rintro e w5 ⟨rfl,he⟩;rw[HU];obtain⟨wc,hq⟩:∃wc,wc=w4.alloc (.cells #[.string s] 9):=⟨_,rfl⟩;have qa:wc.heap.size=B+2+1:=by rw[hq,M7,HU]
 rw[← hq]at he;have tm:w5.heap.size=B+2+1+1:=by rw[he,M7,qa]
 have p5:fS w1.heap.size B w1 s most [H] [] w5:=by
  refine⟨⟨.slice (some ⟨w2.heap.size,0,none⟩) 1 1,.slice none 0 0,?_,?_,?_,Ml _ _ _ _⟩,?_,?_,?_⟩;·rw[he,hq,hC];exact((s7.alloc _).alloc _).alloc _
  ·rw[he,hq];exact(s6.alloc _).alloc _
  ·have h:Pcs w5 w1.heap.size (.slice (some ⟨w2.heap.size,0,none⟩) 1 1) [H]:=(by rw[he,hq,hC,hW];exact⟨(((q0.own.alloc _).alloc _).alloc _).alloc _,q0.bit⟩);exact h
  ·have h:Boxed wc (B+2) 9 (.string s):=(by rw[hq,←HU];exact Boxed.new w4 _ _);rw[he];exact h.alloc _
  ·rw[he,←qa];exact Boxed.new wc _ _
  ·rw[he,hq];exact(HT.alloc HT.size _).alloc (by simp;have:=HT.size;omega) _
 have HY:=aa p5;have sv:w1.heap.size≤w5.heap.size:=p5.low.size;clear HC hW hC he hq q3 q9 HU qa q0 HT s7 s6 p5 H5 hB;go_wp2_with fail;refine(wpIn_wide (n:=9)).1 ?_
 refine wpIn_rangeFunc_ownF rfl (by omega) (gf:=42) (lb:=#[.pointer (some ⟨B+2,0,none⟩),.pointer (some ⟨B+2+1,0,none⟩)]) rfl trivial (enters_of Tryz.func42 (by kernel_rfl) rfl)
  (encs:=fun x:u7q K=>#[.string x.1]) (Kp:=rT (B+2)) (S:=LB most s.data.toList) (Sp:=fun _=>True) (N:=K) (w0:=w5) ?seq (fun h k=>h.trans k) ?kb (L6 _ _) (fun _=>rfl)
  (fun pre W=>fS w1.heap.size B w1 s most (H :: pre.map fun x=>(dX x.1.data.toList).1) (pre.map fun x=>S02.b6 x.1.data.toList) W) (fun _ _ _=>False) ?own (fun _ _ _ _ _ h _ _=>h) HY.out ?a1 ?assign ?body ?done ?stop
 case assign=>
  intro l x W K hK;gi_wp2
  exact hK
 case seq=>intro l J Jx W hb hJ ta hY h0;have pr:B+2<w5.heap.size:=(by omega);have ps:B+2+1<w5.heap.size:=(by omega);exact yU (by omega) 8 (by omega) l (B+2) s most hs ss st J Jx W hJ hY ((hb.block _ pr).trans HY.out.b1) ((hb.block _ ps).trans HY.out.b2) h0
 case kb=>
  intro W l o o' hl ho hc tn k hk;have tg:k<w5.heap.size:=by rcases hk with rfl | rfl <;>omega
  exact World.putObj_heap_other (by omega)
 case own=>intro pre W W' row hI hg hr;exact hI.grown (ag _) hg fun r e=>⟨by have:=(hr r e).1;omega,(hr r e).2⟩
 case stop=>intro D c pre W _ _ hF _;exact hF.elim
 case body=>
  intro l pre x W hI h7;have t4:Fence.wide.fn 20:=trivial;have t5:Fence.wide.fn 21:=trivial;obtain⟨sT,tq⟩:=x.2;have HX:Hid (fS w1.heap.size B w1 s most ((H :: pre.map fun x=>(dX x.1.data.toList).1)++ [(dX x.1.data.toList).1]) (pre.map (fun x=>S02.b6 x.1.data.toList)++ [S02.b6 x.1.data.toList])=fS w1.heap.size B w1 s most (H :: (pre++ [x]).map fun x=>(dX x.1.data.toList).1) ((pre++ [x]).map fun x=>S02.b6 x.1.data.toList)):=aa (by simp);have qq:=aa hI.b1;have qs:=aa hI.b2;have FIN:Hid (∀ W9,KeepsOthers W W9→fS w1.heap.size B w1 s most ((H :: pre.map fun x=>(dX x.1.data.toList).1)++ [(dX x.1.data.toList).1]) (pre.map (fun x=>S02.b6 x.1.data.toList)++ [S02.b6 x.1.data.toList]) W9→KeepsOthers W W9∧rT (B+2) W W9∧fS w1.heap.size B w1 s most (H :: (pre++ [x]).map fun x=>(dX x.1.data.toList).1) ((pre++ [x]).map fun x=>S02.b6 x.1.data.toList) W9):=aa fun W9 h1 h2=>by
   refine⟨h1,fun k hk=> ?_,Eq.mp (congrFun HX.out _) h2⟩;rcases hk with rfl | rfl;·exact h2.b1.trans qq.out.symm
   ·exact h2.b2.trans qs.out.symm
  clear HX qq qs;have hX:=aa fun wx=>callsIn_wide (n:=6).2 (HM.out wx x.1 sT);have HG:=aa fun wx=>callsIn_wide (n:=6).2 (r0.out wx x.1 (by omega));obtain⟨vp,_,hT,_⟩:=hI.ex;have H6:=vh x.1.data.toList;unfold aS at hX;have HI:=aa hI;have HN:=aa hT;have HW:=aa H6;clear hI hT H6;obtain⟨t,ht⟩:∃t,t=x.1:=⟨_,rfl⟩;generalize (dX x.1.data.toList).1=L at*;generalize (dX x.1.data.toList).2=er at*;generalize S02.b6 x.1.data.toList=z0 at*;obtain⟨TB,pk⟩:∃TB:ByteArray,TB=⟨(pack L).toArray⟩:=⟨_,rfl⟩;obtain⟨NB,pg⟩:∃NB,NB=L.length:=⟨_,rfl⟩;rw[← pk,←pg]at hX;have sl:=aa pk;have sa:=aa pg;rw[← ht]at hX HG;clear pk pg;have rR:((H :: pre.map fun x=>(dX x.1.data.toList).1).length≤1000000)∧(pre.map fun x=>S02.b6 x.1.data.toList).length≤1000000:=by rw[Mb,Mi,Mi];exact⟨by omega,by omega⟩
  have HL:=aa rR;clear rR;generalize (H :: pre.map fun x=>(dX x.1.data.toList).1)=LS at*;generalize (pre.map fun x=>S02.b6 x.1.data.toList)=ZS at*;gi_wp2_with fail
  rw[← ht];clear ht;refine(CallsIn.inRound l (hX.out W)).mono ?_;rintro e W1 ⟨rfl,hO⟩;have rl:=HI.out.low' (ag _) hO;have s4:=HN.out.kept (cK hO) (by simp);have rx:=jw hO;obtain⟨W2,hi⟩:∃W2,W2=W1.alloc (.cells #[.string TB,.int .i64 NB] 43):=⟨_,rfl⟩;have rv:=rl.grown (ag _) (show W1.grownBy W2 none by rw[hi];exact World.grownBy_alloc W1 _ none) (fun r e=>by cases e);have qb:Boxed W2 B 45 vp:=by rw[hi];exact s4.alloc _
  have rM:KeepsOthers W W2:=rx.trans (by rw[hi];exact KeepsOthers.alloc W1 _);obtain⟨A4,n4,c4,W4,HA,ql,pb,rO⟩:=rv.pieces (ag _) ha qb L HW.out HL.out.1;rw[← sl.out,←sa.out]at HA;obtain⟨_,vs,_,hV,_⟩:=pb.ex;have q1:=qb.cell;have k0:W2.cell? ⟨W1.heap.size,0,none⟩=some (.string TB):=by rw[hi];simp
  have k1:W2.cell? ⟨W1.heap.size,1,none⟩=some (.int .i64 NB):=by rw[hi];simp
  have q4:=ql.cell;have f4:=ql.frozen;have r3:=aa pb;have r5:=aa (rM.trans rO);have H0:=aa hV;rw[hi]at q1 k0 k1 HA;simp only[M7]at HA;have r7:=aa HA;have so:=aa hi;clear rl s4 rx rv qb rM pb rO HA ql hV hi hO HI HN;gi_wp2_with (gi_at_builtin;refine na _ rfl _ _ 45 45 rfl _ (.slice (some ⟨W1.heap.size+1,0,none⟩) 1 1) rfl rfl (.slice A4 n4 c4) W4 r7.out ?_)
  clear q1 k0 k1 q4 f4;generalize W4.setCell ⟨B,0,none⟩ (.slice A4 n4 c4)=W5 at*;have s0:Below W5.heap.size W5 W5.drew:=(L6 _ W5).drew;have H3:=r3.out.low' (ag _) s0;have hA:Boxed W5.drew (B+1) 46 vs:=H0.out;have hv:=aa (r5.out.trans (KeepsOthers.drew W5));have q5:W5.drew.cell? ⟨B+1,0,none⟩=some vs:=hA.cell;have hu:=aa H3;have h6:=aa hA;have tl:Tryz.prog.follows .mixedOrders=true:=by kernel_rfl
  clear H3 hA s0 r3 r5 H0 r7 so hX;refine wpIn_region_any (by kernel_rfl) ?_;try (change wpAnyIn _ _ _ _ _ _ _ _ _ (World.drew _))
  refine wpAnyIn_ready (rs:= [0,1]) (by kernel_rfl) (by simp) ?_;refine AllReadyIn.cons rfl (fun K hK=> ?_) ?_
  ·go_simp;refine hK _ _ ?_;clear hK K;refine wpAnyIn_ready (rs:= [1]) (by kernel_rfl) (by simp) ?_;refine AllReadyIn.cons rfl (fun K hK=> ?_) ?_
   ·go_simp;refine hK _ _ ?_;clear hK K;refine wpAnyIn_ready (rs:= [2]) (by kernel_rfl) (by simp) ?_;refine AllReadyIn.cons rfl (fun K hK=> ?_) ?_
    ·go_simp;(gi_at_call 21;refine(CallsIn.inRound l (HG.out _)).mono ?_;rintro e W6 ⟨rfl,h5⟩;obtain⟨A8,n8,c8,W8,hQ,h9,hf,hh⟩:=(hu.out.low' (ag _) h5).sums (ag _) ha (h6.out.kept (cK h5) (by simp)) z0 HL.out.2;have hG:=aa hf;have hL:=aa ((hv.out.trans (jw h5)).trans hh);have p6:W6.cell? ⟨B+1,0,none⟩=some vs:=(h6.out.kept (cK h5) (by simp)).cell;have p7:(W6.alloc (.cells #[.int .u32 z0] 52)).cell? ⟨B+1,0,none⟩=some vs:=((h6.out.kept (cK h5) (by simp)).alloc _).cell;have q8:=h9.cell;have f8:=h9.frozen;clear hf hh h9 h5);refine hK _ _ ?_;clear hK K;refine wpAnyIn_ready (rs:= [3]) (by kernel_rfl) (by simp) ?_;refine AllReadyIn.cons rfl (fun K hK=> ?_) ?_
     ·go_simp;refine hK _ _ ?_;clear hK K;refine wpAnyIn_ready (rs:= [4]) (by kernel_rfl) (by simp) ?_;refine AllReadyIn.cons rfl (fun K hK=> ?_) ?_
      ·refine eG rfl (.tmp 50) (.tmp 53) 46 46 rfl vs (.slice (some ⟨W6.heap.size,0,none⟩) 1 1) rfl rfl (by exact hQ) ?_;refine hK _ _ ?_;clear hK K;refine wpAnyIn_ready (rs:= [5]) (by kernel_rfl) (by simp) ?_;refine AllReadyIn.cons rfl (fun K hK=> ?_) ?_;·go_simp;refine hK _ _ ?_;clear hK K;refine wpAnyIn_done (by kernel_rfl) ?_ _;exact FIN.out _ hL.out hG.out
       exact AllReadyIn.nil
      exact AllReadyIn.nil
     exact AllReadyIn.nil
    exact AllReadyIn.nil
   exact AllReadyIn.nil
  refine AllReadyIn.cons rfl (fun K hK=> ?_) ?_
  ·go_simp;refine hK _ _ ?_;clear hK K;refine wpAnyIn_ready (rs:= [0,2]) (by kernel_rfl) (by simp) ?_;refine AllReadyIn.cons rfl (fun K hK=> ?_) ?_
   ·go_simp;refine hK _ _ ?_;clear hK K;refine wpAnyIn_ready (rs:= [2]) (by kernel_rfl) (by simp) ?_;refine AllReadyIn.cons rfl (fun K hK=> ?_) ?_
    ·go_simp;(gi_at_call 21;refine(CallsIn.inRound l (HG.out _)).mono ?_;rintro e W6 ⟨rfl,h5⟩;obtain⟨A8,n8,c8,W8,hQ,h9,hf,hh⟩:=(hu.out.low' (ag _) h5).sums (ag _) ha (h6.out.kept (cK h5) (by simp)) z0 HL.out.2;have hG:=aa hf;have hL:=aa ((hv.out.trans (jw h5)).trans hh);have p6:W6.cell? ⟨B+1,0,none⟩=some vs:=(h6.out.kept (cK h5) (by simp)).cell;have p7:(W6.alloc (.cells #[.int .u32 z0] 52)).cell? ⟨B+1,0,none⟩=some vs:=((h6.out.kept (cK h5) (by simp)).alloc _).cell;have q8:=h9.cell;have f8:=h9.frozen;clear hf hh h9 h5);refine hK _ _ ?_;clear hK K;refine wpAnyIn_ready (rs:= [3]) (by kernel_rfl) (by simp) ?_;refine AllReadyIn.cons rfl (fun K hK=> ?_) ?_
     ·go_simp;refine hK _ _ ?_;clear hK K;refine wpAnyIn_ready (rs:= [4]) (by kernel_rfl) (by simp) ?_;refine AllReadyIn.cons rfl (fun K hK=> ?_) ?_
      ·refine eG rfl (.tmp 50) (.tmp 53) 46 46 rfl vs (.slice (some ⟨W6.heap.size,0,none⟩) 1 1) rfl rfl (by exact hQ) ?_;refine hK _ _ ?_;clear hK K;refine wpAnyIn_ready (rs:= [5]) (by kernel_rfl) (by simp) ?_;refine AllReadyIn.cons rfl (fun K hK=> ?_) ?_;·go_simp;refine hK _ _ ?_;clear hK K;refine wpAnyIn_done (by kernel_rfl) ?_ _;exact FIN.out _ hL.out hG.out
       exact AllReadyIn.nil
      exact AllReadyIn.nil
     exact AllReadyIn.nil
    exact AllReadyIn.nil
   refine AllReadyIn.cons rfl (fun K hK=> ?_) ?_
   ·go_simp;(gi_at_call 21;refine(CallsIn.inRound l (HG.out _)).mono ?_;rintro e W6 ⟨rfl,h5⟩;obtain⟨A8,n8,c8,W8,hQ,h9,hf,hh⟩:=(hu.out.low' (ag _) h5).sums (ag _) ha (h6.out.kept (cK h5) (by simp)) z0 HL.out.2;have hG:=aa hf;have hL:=aa ((hv.out.trans (jw h5)).trans hh);have p6:W6.cell? ⟨B+1,0,none⟩=some vs:=(h6.out.kept (cK h5) (by simp)).cell;have p7:(W6.alloc (.cells #[.int .u32 z0] 52)).cell? ⟨B+1,0,none⟩=some vs:=((h6.out.kept (cK h5) (by simp)).alloc _).cell;have q8:=h9.cell;have f8:=h9.frozen;clear hf hh h9 h5);refine hK _ _ ?_;clear hK K;refine wpAnyIn_ready (rs:= [0,3]) (by kernel_rfl) (by simp) ?_;refine AllReadyIn.cons rfl (fun K hK=> ?_) ?_
    ·go_simp;refine hK _ _ ?_;clear hK K;refine wpAnyIn_ready (rs:= [3]) (by kernel_rfl) (by simp) ?_;refine AllReadyIn.cons rfl (fun K hK=> ?_) ?_
     ·go_simp;refine hK _ _ ?_;clear hK K;refine wpAnyIn_ready (rs:= [4]) (by kernel_rfl) (by simp) ?_;refine AllReadyIn.cons rfl (fun K hK=> ?_) ?_
      ·refine eG rfl (.tmp 50) (.tmp 53) 46 46 rfl vs (.slice (some ⟨W6.heap.size,0,none⟩) 1 1) rfl rfl (by exact hQ) ?_;refine hK _ _ ?_;clear hK K;refine wpAnyIn_ready (rs:= [5]) (by kernel_rfl) (by simp) ?_;refine AllReadyIn.cons rfl (fun K hK=> ?_) ?_;·go_simp;refine hK _ _ ?_;clear hK K;refine wpAnyIn_done (by kernel_rfl) ?_ _;exact FIN.out _ hL.out hG.out
       exact AllReadyIn.nil
      exact AllReadyIn.nil
     exact AllReadyIn.nil
    refine AllReadyIn.cons rfl (fun K hK=> ?_) ?_
    ·go_simp;refine hK _ _ ?_;clear hK K;refine wpAnyIn_ready (rs:= [0]) (by kernel_rfl) (by simp) ?_;refine AllReadyIn.cons rfl (fun K hK=> ?_) ?_
     ·go_simp;refine hK _ _ ?_;clear hK K;refine wpAnyIn_ready (rs:= [4]) (by kernel_rfl) (by simp) ?_;refine AllReadyIn.cons rfl (fun K hK=> ?_) ?_
      ·refine eG rfl (.tmp 50) (.tmp 53) 46 46 rfl vs (.slice (some ⟨W6.heap.size,0,none⟩) 1 1) rfl rfl (by exact hQ) ?_;refine hK _ _ ?_;clear hK K;refine wpAnyIn_ready (rs:= [5]) (by kernel_rfl) (by simp) ?_;refine AllReadyIn.cons rfl (fun K hK=> ?_) ?_;·go_simp;refine hK _ _ ?_;clear hK K;refine wpAnyIn_done (by kernel_rfl) ?_ _;exact FIN.out _ hL.out hG.out
       exact AllReadyIn.nil
      exact AllReadyIn.nil
     exact AllReadyIn.nil
    exact AllReadyIn.nil
   exact AllReadyIn.nil
  exact AllReadyIn.nil
 case done=>
  intro D xs W hD hS hI pf;have e1:(xs.map fun x=>(dX x.1.data.toList).1)=PS:=by rw[si.out,←show xs.map (fun x=>x.1.data.toList)=_ from hS,MX];rfl
  have e2:(xs.map fun x=>S02.b6 x.1.data.toList)=Z:=by rw[HZ.out,←show xs.map (fun x=>x.1.data.toList)=_ from hS,MX];rfl
  have hI:fS w1.heap.size B w1 s most (H :: PS) Z W:=by rw[← e1,←e2];exact hI
  obtain⟨⟨vp,vs,hT,hV,s3,q2⟩,hO,H5,hy⟩:=hI;obtain⟨A6,c6,rfl,te,sr,s5⟩:=iZ q2;have pv:w1.heap.size≤D:=Mk sv hD;have t3:D<W.heap.size:=(Array.getElem?_eq_some_iff.1 pf).1;have pj:=S02.l9 W.drew A6 Z.length c6 Z s5 H1.out (by have:=hN.out.1;have:=hN.out.2;omega);rw[← rb.out]at pj;have t1:=aa pj;have sx:w1.heap.size≤W.heap.size:=hy.size;have hd:Below W.heap.size W W.drew:=(L6 _ W).drew;have HN:=aa (show Boxed W.drew B 45 vp from hT);have H0:=aa (show Boxed W.drew (B+1) 46 (.slice A6 Z.length c6)from hV);have sb:=aa (s3.below hd);have p2:=aa (hy.trans (hd.mono sx));have s8:=aa (show W.drew.heap[D]? =some (.deferred (some []))from pf);have p0:=hT.cell;have p1:=hV.cell
  have r2:Hid (((H :: PS)++ [E]).length≤1000000∧((H :: PS)++ [E]).flatten.length≤100000000):=aa (by
   have h1:=r6.out
   have h2:=hN.out.1
   have h3:=HH.out.2
   have h4:=HE.out.2
   rw[s1]at h1
   simp only[MI,Mb,LR,MH,Pk,PA,Qd]
   omega)
  obtain⟨M,hM⟩:∃M,M=((H :: PS)++ [E]).flatten.length:=⟨_,rfl⟩;have s9:=aa hM;clear hM e1 e2 hS hD hT hV s3 hy hO H5 s5 hd pj pf;have po:gl w1.heap.size B D w1 vp (.slice A6 Z.length c6) vp (H :: PS) W.drew:=⟨HN.out,H0.out,sb.out,p2.out,s8.out,L5 _⟩;have HS2:Hid (∀ X,gl w1.heap.size B D w1 vp (.slice A6 Z.length c6) vp (H :: PS) X→Below W.drew.heap.size W.drew X→Calls Tryz.prog 24 #[.slice A6 Z.length c6] X fun e w'=>e=.returned (.int .u32 z)∧w'=X):=aa fun X _ hb=>by obtain⟨A7,c7,sA,_,_,sI⟩:=iZ (gi (show W.drew.ownsRow w1.heap.size 52 1 (.slice A6 Z.length c6) Z.length (Z.map wv)from q2) hb);cases sA;have h:=S02.l9 X A6 Z.length c6 Z sI H1.out (by have:=hN.out.1;have:=hN.out.2;omega);rw[← rb.out]at h;exact h.mono fun e w' h=>⟨h.1,h.2.symm⟩
  have h8:Hid (∀ X a,gl w1.heap.size B D w1 vp (.slice A6 Z.length c6) vp (H :: PS) X→Blk X a 43 #[.string TE,.int .i64 80]→∃v9 w9,(Builtin.append_ #[45,45] 45 #[vp,.slice (some ⟨a,0,none⟩) 1 1]).run Tryz.prog X=.ok v9 w9∧
   gl w1.heap.size B D w1 vp (.slice A6 Z.length c6) v9 ((H :: PS)++ [E]) w9∧(∀ {g:Nat} {t:TypeId} {cs:Array Value},(∀ k,vp.ownBlock=some k→k≠g)→Blk X g t cs→Blk w9 g t cs)∧X.heap.size≤w9.heap.size):=aa fun X a hd hb=>hd.last a E HE.out.1 (by have:=hN.out.1;rw[Mb];omega) (by rw[← sm.out,HE.out.2];exact hb)
  have r4:Hid (∀ X v9,gl w1.heap.size B D w1 vp (.slice A6 Z.length c6) v9 ((H :: PS)++ [E]) X→Calls Tryz.prog 22 #[v9] X fun e w'=>e=.returned (.tuple #[.agg #[.string J,.int .i64 M],.int .i64 0])∧Below X.heap.size X w'):=aa fun X v9 hd=>by have hj:=oW X w1.heap.size v9 _ hd.pc r2.out.1 r2.out.2;unfold mM at hj;rw[← HJ.out,←s9.out]at hj;exact hj
  have hE:=aa po;have t2:B+1<W.heap.size:=H0.out.lt;have p3:Hid (∀ k,vp.ownBlock=some k→k<W.heap.size):=aa fun k hk=>(Nl po.pc.own k hk).2;clear po q2 r6 HM r0;go_wp2_with fail
  go_region_held3 (fun w'=>w'.cell? ⟨B,0,none⟩=some vp∧w'.cell? ⟨B+1,0,none⟩=some (.slice A6 Z.length c6))
   (first | exact⟨p0,p1⟩ | with_reducible exact hE.out.cells | with_reducible exact(hE.out.alloc _).cells | with_reducible exact hP.cells | with_reducible exact(hP.alloc _).cells | with_reducible exact((hP.alloc _).alloc _).cells | with_reducible exact hm.cells | with_reducible exact(hm.alloc _).cells | with_reducible exact hx.cells | with_reducible exact(hx.alloc _).cells | with_reducible exact hx.far _ (by omega) _ _ | go_keep)
   (first
     | (go_at_call 24;(first | (with_reducible refine(HS2.out _ hE.out (L6 _ _)).mono ?_) | refine(HS2.out _ (hE.out.alloc _) ((L6 _ _).alloc (ag _) _)).mono ?_);rintro e w7 ⟨rfl,rfl⟩)
     | (go_at_call 23;refine(r1.out _).mono ?_;rintro e w8 ⟨rfl,HR⟩
        have hP:gl w1.heap.size B D w1 vp (.slice A6 Z.length c6) vp (H :: PS) w8:=by first | exact hE.out.below HR | exact(hE.out.alloc _).below HR
        have ts:W.heap.size≤w8.heap.size:=by have:=HR.size;simp at this;omega
        (first | have t0:Blk w8 W.heap.size 43 #[.string ⟨#[]⟩,.int .i64 0]:=bH HR (ah W.drew _ _) | skip))
     | ((first
          | (have H7:=ah w8 43 #[.string TE,.int .i64 80];obtain⟨v9,w9,hR,hm,H8,HF⟩:=h8.out (w8.alloc (.cells #[.string TE,.int .i64 80] 43)) w8.heap.size (hP.alloc _) H7;(first | with_reducible have qm:Blk w9 W.heap.size 43 #[.string ⟨#[]⟩,.int .i64 0]:=H8 (fun k hk=>Nat.ne_of_lt (p3.out k hk)) (bH ((L6 _ _).alloc (ag _) _) t0) | skip);simp only[M7]at HF;refine fz (v':=v9) (w':=w9) rfl (.tmp 56) (.tmp 60) 45 rfl vp (.slice (some ⟨w8.heap.size,0,none⟩) 1 1) rfl rfl ?hr ?_;case hr=>(dsimp only;with_reducible exact hR))
          | (have H7:=bH ((L6 _ _).alloc (ag _) (.cells #[.string ⟨#[]⟩,.int .i64 0] 43)) (ah w8 43 #[.string TE,.int .i64 80]);obtain⟨v9,w9,hR,hm,H8,HF⟩:=h8.out _ w8.heap.size ((hP.alloc _).alloc _) H7;have qm:Blk w9 (w8.heap.size+1) 43 #[.string ⟨#[]⟩,.int .i64 0]:=H8 (fun k hk=>by have:=p3.out k hk;omega) (by have h:=ah (w8.alloc (.cells #[.string TE,.int .i64 80] 43)) 43 #[.string ⟨#[]⟩,.int .i64 0];rw[M7]at h;exact h);simp only[M7]at HF;refine fz (v':=v9) (w':=w9) rfl (.tmp 56) (.tmp 60) 45 rfl vp (.slice (some ⟨w8.heap.size,0,none⟩) 1 1) rfl rfl ?hr ?_;case hr=>(dsimp only;with_reducible exact hR))
          | (have H7:=ah (w8.alloc (.cells #[.string ⟨#[]⟩,.int .i64 0] 43)) 43 #[.string TE,.int .i64 80];obtain⟨v9,w9,hR,hm,H8,HF⟩:=h8.out _ _ ((hP.alloc _).alloc _) H7;have qm:Blk w9 w8.heap.size 43 #[.string ⟨#[]⟩,.int .i64 0]:=H8 (fun k hk=>by have:=p3.out k hk;omega) (bH ((L6 _ _).alloc (ag _) _) (ah w8 43 #[.string ⟨#[]⟩,.int .i64 0]));simp only[M7]at hR;simp only[M7]at HF;refine fz (v':=v9) (w':=w9) rfl (.tmp 56) (.tmp 60) 45 rfl vp (.slice (some ⟨w8.heap.size+1,0,none⟩) 1 1) rfl rfl ?hr ?_;case hr=>(dsimp only;with_reducible exact hR))))
     | (go_at_call 22;(first | (with_reducible refine(r4.out _ _ hm).mono ?_) | (with_reducible refine(r4.out _ _ (hm.alloc _)).mono ?_));rintro e wA ⟨rfl,HS⟩
        have hx:gl w1.heap.size B D w1 vp (.slice A6 Z.length c6) v9 ((H :: PS)++ [E]) wA:=by first | with_reducible exact hm.below HS | with_reducible exact(hm.alloc _).below HS
        (first | with_reducible have HD:=bH HS qm | with_reducible have HD:Blk wA w9.heap.size 43 #[.string ⟨#[]⟩,.int .i64 0]:=bH HS (ah w9 _ _) | skip)
        (first | (have y0:=(ac HD 0).trans (rfl:_=some (Value.string ⟨#[]⟩));have y1:=(ac HD 1).trans (rfl:_=some (Value.int .i64 0));have y2:=ae HD 0;have y3:=ae HD 1) | skip)))
  all_goals
   go_wp2_with fail
   refine⟨by simp,.inl ⟨_,_,rfl,run_takeDeferred ?hk,?_⟩⟩
   case hk=>first | exact(hx.fin _ (by omega) pv _ _).1 | exact(hx.alloc _).d
   refine⟨_,results_tmp2 rfl _ _ _,?_⟩
   first | exact HP.out _ ((hx.fin _ (by omega) pv _ _).2 _) | exact HP.out _ ((hx.alloc _).fin0 pv _)
theorem qA(l:List Nat)(room:Nat):∀(k bit:Nat) (out:List UInt8) (sums:List Nat),bit≤l.length→l.length<bit+105*k→(bN l room k bit out sums).2.2.2=0→(bN l room k bit out sums).2.2.1+48≤l.length
 | 0,bit,_,_,h1,h2,_=>by omega
 | k+1,bit,out,sums,h1,h2,hz=>by
  rw[dF]at hz ⊢;by_cases h3:l.length<bit+48;·rw[LX h3]at hz;cases hz
  rw[LW h3]at hz ⊢;by_cases h4:val ((l.drop bit).take 48)=25779555029136;·rw[LX h4];show bit+48≤l.length;omega
  rw[LW h4]at hz ⊢;by_cases h5:val ((l.drop bit).take 48)≠54156738319193;·rw[LX h5]at hz;cases hz
  rw[LW h5]at hz ⊢;by_cases h6:(cH l (bit:Nat) (room:Nat)).2.2.2≠0;·rw[LX h6]at hz;exact absurd hz h6
  obtain⟨g1,g2,_⟩:=nw [] (Decidable.not_not.1 h6);rw[LW h6]at hz ⊢;by_cases h7:262144<out.length+(cH l (bit:Nat) (room:Nat)).1.length;·rw[LX h7]at hz;cases hz
  rw[LW h7]at hz ⊢;exact qA l room k _ _ _ g2 (by omega) hz
theorem BN(w:World)(t:ByteArray)(at':Int)(h:at'<0∨(t.size:Int)<at'):Calls Tryz.prog 13 #[.string t,.int .i64 at'] w (eZ w (aM t.data.toList at')):=by
 have h0:aM t.data.toList at'=([],0,2):=LX h;rw[h0];have HP:Hid (eZ w ([],0,2) (.returned (.tuple #[.string ⟨#[]⟩,.int .i64 0,.int .i64 2])) w):=aa ⟨rfl,L6 _ _⟩;generalize eZ w ([],0,2)=PO at*;clear h0;by_cases h1:at'<0;·have d0:decide (at'<0)=true:=L8 h1;clear h;go_enter Tryz.func13,Tryz.ntmps13;go_wp2_with fail;first | exact HP.out | (go_ret3;exact HP.out)
 ·have d0:decide (at'<0)=false:=L7 h1;have d1:decide ((t.size:Int)<at')=true:=bD (by omega);clear h;go_enter Tryz.func13,Tryz.ntmps13;go_wp2_with fail;first | exact HP.out | (go_ret3;exact HP.out)
theorem EV(w:World)(t:ByteArray)(a:Nat)(hs:t.size≤2000000)(ha:a≤t.size):Calls Tryz.prog 13 #[.string t,.int .i64 a] w (eZ w (aM t.data.toList (a:Nat))):=by
 have hD:t.data.toList.length=t.size:=rfl;have h5:(ai t.data.toList).length=8*t.size:=aw _;have hJ:=aI t.data.toList;have h1:aM t.data.toList (a:Nat)=if(bQ (t.data.toList.drop a)).2≠0 then([],0,(bQ (t.data.toList.drop a)).2)else BW (ai t.data.toList) (bN (ai t.data.toList) (gm (bQ (t.data.toList.drop a)).1) (8*t.size) (8*a+32) [] []):=by unfold aM;rw[LW (by rw[hD];omega),L9,h5]
 have HC:=EU w (t.extract a t.size) (by rw[Ni];omega);rw[S03.ig]at HC;have h0:=fun h=>ti (t:=t.data.toList.drop a) [] h;have hB:=fun(wx:World) (p0 room:Nat) hr hp hpm=>yD wx t p0 room hs hr hp hpm;have hf:=aa fun(wx:World) (p n k:Nat) (hR:IsR p wx p t n) (hk:k≤64) (hL:n+k≤8*t.size)=>fA p wx p t n k hR (by omega) hk hL;have hg:=aa fun(wx:World) (p n k:Nat) (hR:IsR p wx p t n) (hk:k≤64) (hn:n≤8*t.size) (hL:8*t.size<n+k)=>dL p wx p t n k hR (by omega) hk hn hL;have ht:=aa fun(wx:World) (n:Nat) (hn:n≤8*t.size)=>eU wx t (n:Int) (by omega) (by omega) (by omega);have hh:=aa fun(p k:Nat) (h:p+k≤8*t.size)=>wm hJ p k (by rw[h5];exact h);have hc:=aa fun(room:Nat) (hb:8*a+32≤8*t.size) (hz:(bN (ai t.data.toList) room (8*t.size) (8*a+32) [] []).2.2.2=0)=>qA (ai t.data.toList) room (8*t.size) (8*a+32) [] [] (by rw[h5];exact hb) (by rw[h5];omega) hz;rw[h5]at hc;obtain⟨m,hm⟩:∃m,m=8*t.size:=⟨_,rfl⟩;have HM:m≤16000000:=by omega
 rw[← hm]at hf hg ht hh hc hB h1;have H1:=aa (h5.trans hm.symm);rw[Mc,hD]at h0;generalize bQ (t.data.toList.drop a)=hd at*;generalize ai t.data.toList=bits at*;obtain⟨lv,k⟩:=hd;have hF:Hid (Calls Tryz.prog 33 #[.string (t.extract a t.size)] w fun e w'=>e=.returned (.tuple #[.int .i64 lv,.int .i64 k])∧w'=w):=aa HC;have h2:=aa h1;dsimp only at h0 h2;have HP:Hid (∀ (X:List UInt8) (p k:Nat) (w':World),aM t.data.toList (a:Nat)=(X,p,k)→Below w.heap.size w w'→eZ w (aM t.data.toList (a:Nat)) (.returned (.tuple #[.string (S06.aX X),.int .i64 p,.int .i64 k])) w'):=aa fun X p k w' h hb=>by rw[h];exact⟨rfl,hb⟩
 generalize eZ w (aM t.data.toList (a:Nat))=PO at*;generalize aM t.data.toList (a:Nat)=ANS at*;have d0:decide ((a:Int)<0)=false:=aN (by omega);have d1:decide ((t.size:Int)<(a:Int))=false:=aN (by omega);have HK:(a:Int)≤(t.size:Int):=by omega
 by_cases hk:k≠0;·have d3:=dO hk;have hj:=h2.out;rw[LX hk]at hj;have HF:=aa (HP.out [] 0 k w hj (L6 _ _));clear hj HP hf hg ht hh hc hB HC h1 h2 h0 h5 hJ hD hk hm;go_enter Tryz.func13,Tryz.ntmps13;go_wp2_with fail;refine hF.out.mono ?_;rintro e w1 ⟨rfl,rfl⟩;go_wp2_with fail;first | exact HF.out | (go_ret3;exact HF.out)
 have HA:k=0:=Decidable.not_not.1 hk;subst HA;obtain⟨h4,_,HO,HR⟩:=h0 rfl;have hj:=h2.out;rw[LW hk]at hj;obtain⟨a3,H2⟩:∃x,x=a+3:=⟨_,rfl⟩;obtain⟨a4,H5⟩:∃x,x=a+4:=⟨_,rfl⟩;obtain⟨b0,hV⟩:∃x,x=8*a+32:=⟨_,rfl⟩;have H4:(a:Int)+3=(a3:Int):=by omega
 have H7:(a3:Int)+1=(a4:Int):=by omega
 have H8:(8:Int)*(a4:Int)=(b0:Int):=by omega
 have H3:a3≤3000000:=by omega
 have H6:a4≤3000000:=by omega
 have hw:b0≤m:=by omega
 rw[← hV]at hj hc;have hQ:=aa (mP w lv (by omega));have hl:=hB w b0 (gm lv) (ub lv) (by omega) hw;have hX:=hc.out (gm lv) hw;generalize gm lv=room at*;generalize bN bits room m b0 [] []=BT at*;obtain⟨X,Z,bit,er⟩:=BT;have h8:=aa hX;have HJ:=aa hj;have h7:=aa hl;clear hj hc hX hB hl HC h1 h2 h0 h5 hJ hD hk hm H2 H5 hV;go_enter Tryz.func13,Tryz.ntmps13;go_wp2_with fail;refine hF.out.mono ?_;rintro e w1 ⟨rfl,rfl⟩;clear hF;go_wp2_with fail;refine hQ.out.mono ?_;rintro e w1 ⟨rfl,rfl⟩;clear hQ;go_wp2_with fail;refine h7.out.mono ?_;rintro e w2 (⟨h9,rfl,hx⟩ | ⟨h9,v,rfl,ho,hZ,hx⟩);·dsimp only at h9;have d4:=dO h9;have hj:=HJ.out;unfold BW at hj;rw[LX h9]at hj;have HF:=aa (HP.out [] 0 er w2 hj hx);clear hj HP hf hg ht hh HJ h8 h9 hx h7;(try dsimp only);go_wp2_with fail;first | exact HF.out | (go_ret3;exact HF.out)
 try dsimp only at h9
 try dsimp only at ho
 try dsimp only at hZ
 try dsimp only
 subst h9;have h3:=h8.out rfl;try dsimp only at h3
 obtain⟨q,hq⟩:∃x,x=bit+48:=⟨_,rfl⟩;rw[← hq]at h3 ⊢;have hj:ANS=if m<q+32 then([],0,10)else if val ((bits.drop q).take 32)≠S02.dc Z then([],0,121)else(X,(bit+80+7) / 8,0):=by rw[HJ.out,hq];unfold BW;dsimp only;rw[LW (by omega),H1.out]
 have hC:=aa hj;have hA:=aa hx;have hG:=aa ho;have HZ:=aa hZ;have HQ:=aa hq;have hu:=aa (ht.out w2 q h3);clear hj hx ho hZ hq HJ h8 ht h7;obtain⟨A6,c6,rfl,HL,hK,HI⟩:=iZ hG.out;clear HI;go_wp2_with fail;refine hu.out.mono ?_;rintro e w5 ⟨rfl,hN⟩;obtain⟨p,hp⟩:∃p,p=w2.heap.size:=⟨_,rfl⟩;have hS:IsR p w5 p t q:=by rw[hN,hp];exact iQ w2 w2.heap.size (ag _) t q
 have hW:Below w2.heap.size w2 w5:=b9 hN;have hH:=aa hS;have hE:=aa hW;have hP:=aa hp;rw[← hp];clear hN hS hW hp hu;by_cases e3:m<q+32;·have N2:=aa (hg.out w5 p q 32 hH.out (by omega) h3 e3);have hj:=hC.out;rw[LX e3]at hj;have HF:=aa fun w' hb=>HP.out [] 0 10 w' hj hb;clear hj hf hg hh HP hC;go_wp2_with fail;refine N2.out.mono ?_;rintro e w6 ⟨rfl,_,hv⟩;have hi:=aa (hA.out.trans ((hE.out.trans (by have:=hv.below;rw[hP.out]at this;exact this)).mono hA.out.size));clear hv;go_wp2_with fail;first | exact HF.out _ hi.out | (go_ret3;exact HF.out _ hi.out)
 have N2:=aa (hf.out w5 p q 32 hH.out (by omega) (by omega));have v2:=hh.out q 32 (by omega);obtain⟨y,hy⟩:∃x,x=val ((bits.drop q).take 32):=⟨_,rfl⟩;have he:=hC.out;rw[LW e3,←hy]at he;rw[← hy]at N2 v2;have v2:y<4294967296:=by simpa using v2
 have HT:IntKind.u32.wrap (y:Int)=(y:Int):=by rw[IntKind.wrap_u32];omega
 have HE:=aa he;clear hy hf hg hh hC he;go_wp2_with fail;refine N2.out.mono ?_;rintro e w6 ⟨rfl,hT,hv⟩;have h6:=aa (show Below w2.heap.size w2 w6 from hE.out.trans (by have:=hv.below;rw[hP.out]at this;exact this));have hi:=aa (aq hA.out h6.out);have hI:=aa hT;obtain⟨A7,c7,HH,_,_,H0⟩:=iZ (gi hG.out h6.out);cases HH;have HS:=aa (S02.l9 w6 A6 Z.length c6 Z H0 HZ.out (by unfold maxLen at hK;omega));have HN:=S02.nS Z HZ.out;generalize S02.dc Z=sm at*;clear hT hv N2 hE hH H0 h6 hA hG;by_cases e4:y≠sm;·have he:=HE.out;rw[LX e4]at he;have d4:((y:Int) != (sm:Int))=true:=(by rw[Oe];omega);have HF:=aa (HP.out [] 0 121 w6 he hi.out);clear he HP e4 HE;go_wp2_with fail;refine HS.out.mono ?_;rintro e w7 ⟨rfl,rfl⟩;go_wp2_with fail;first | exact HF.out | (go_ret3;exact HF.out)
 ·have he:=HE.out;rw[LW e4]at he;have d4:((y:Int) != (sm:Int))=false:=(by rw[OZ];omega);obtain⟨qq,hY⟩:∃x,x=(bit+80+7) / 8:=⟨_,rfl⟩;rw[← hY]at he;have HF:=aa (HP.out X qq 0 w6 he hi.out);have HB:=HQ.out;obtain⟨q32,hM⟩:∃x,x=q+32:=⟨_,rfl⟩;obtain⟨r8,HG⟩:∃x,x=q32+8:=⟨_,rfl⟩;obtain⟨r7,HD⟩:∃x,x=q32+7:=⟨_,rfl⟩;have c0:=ac hI.out.blk 0;have c2:=ac hI.out.blk 2;simp at c0 c2;have hO:=aa (jU w6 p ((q:Int)+32) c0 c2);rw[show (q:Int)+32=(q32:Int) by omega]at hO;have z1:(q32:Int)+8=(r8:Int):=(by omega);have z2:(r8:Int) - 1=(r7:Int):=(by omega);have z3:(r7:Int) / 8=(qq:Int):=(by omega);have z4:Int.tdiv (r7:Int) 8=(qq:Int):=(by rw[Int.tdiv_eq_ediv_of_nonneg (by omega)];exact z3);have b1:q32≤20000000:=(by omega);have b2:r8≤20000000:=(by omega);have b3:r7≤20000000:=(by omega);clear he HP e4 HE hY HB hM HG HD c0 c2 hI;go_wp2_with fail;refine HS.out.mono ?_;rintro e w7 ⟨rfl,rfl⟩;go_wp2_with fail;refine hO.out.mono ?_;rintro e w7 ⟨rfl,rfl⟩;go_wp2_with fail;first | exact HF.out | (go_ret3;exact HF.out)
theorem sL(w:World)(t:ByteArray)(at':Int)(hs:t.size≤2000000):Calls Tryz.prog 13 #[.string t,.int .i64 at'] w (eZ w (aM t.data.toList at')):=by
 by_cases h:at'<0∨(t.size:Int)<at';·exact BN w t at' h
 ·obtain⟨a,rfl⟩:∃a:Nat,at'=a:=⟨at'.toNat,by omega⟩;exact EV w t a hs (by omega)
theorem za(w:World)(t:ByteArray)(hs:t.size≤2000000):Calls Tryz.prog 15 #[.string t] w (cG w (fB t.data.toList)):=by
 have hD:t.data.toList.length=t.size:=rfl;have HT:=aa fun(wx:World) (a:Nat)=>sL wx t (a:Int) hs;have HM:=aa fun(a:Nat) h=>uo (t:=t.data.toList) [] (p:=a) h;have HL:=aa fun(a:Nat)=>Gz t.data.toList a;have HP:Hid (∀ (X:List UInt8) (k:Nat) (w':World),fB t.data.toList=(X,k)→Below w.heap.size w w'→cG w (fB t.data.toList) (.returned (.tuple #[.string (S06.aX X),.int .i64 k])) w'):=aa fun X k w' h hb=>by rw[h];exact⟨rfl,hb⟩
 generalize cG w (fB t.data.toList)=PO at*;obtain⟨m,hm⟩:∃m,m=t.size:=⟨_,rfl⟩;have hT:m≤2000000:=by omega
 have hg:=aa hm;obtain⟨ANS,h4⟩:∃x,x=fB t.data.toList:=⟨_,rfl⟩;rw[← h4]at HP;have hG:ANS=dK t.data.toList (m+1) 0 0 []:=by rw[h4,hm];rfl
 have hh:=aa hG;have hq:=aa hD;clear h4 hG hD hm;go_enter Tryz.func15,Tryz.ntmps15;go_wp2_with fail
 go_loopw [4,5,6] (fun so sa sn wx=>∃(L:List UInt8) (a n:Nat),sa=.int .i64 a∧sn=.int .i64 n∧wx.ownsRow w.heap.size 5 1 so L.length (L.map bv)∧a≤m∧n≤262144*a∧L.length≤262144∧Below w.heap.size w wx∧
  Hid ((n≤262144→L.length=n)∧(((a=0∨a<m)∧∃k,m<k+a∧ANS=dK t.data.toList k a n L)∨(a≠0∧a=m∧ANS=if 262144<n then([],3)else(L,0)))))
  (fun _ sa _ _=>m+1 - (intOf sa).toNat)
 case atStart=>exact⟨[],0,0,rfl,rfl,Ml _ _ _ _,LY _,LY _,LY _,L6 _ _,aa ⟨fun _=>rfl,.inl ⟨.inl rfl,m+1,by omega,hh.out⟩⟩⟩
 case round=>
  obtain⟨L,a,n,rfl,rfl,he,ha,hn,hL,ho,hJ⟩:=hrel;have h3:=aa he;have hf:=aa ho;have hR:=ho.size;obtain⟨hw,h8⟩:=hJ.out;have hr:=aa hw;have hV:n≤1000000000000:=by omega
  clear he ho hJ hw;rcases h8 with⟨hO,k,hk,h0⟩ | ⟨hx,hy,h0⟩
  ·obtain⟨k,rfl⟩:∃j,k=j+1:=⟨k - 1,by omega⟩;rw[kr,hq.out,←hg.out]at h0;have HA:=aa h0;have hv:=HT.out wr a;have h2:=HM.out a;have h9:=HL.out a;generalize aM t.data.toList (a:Nat)=ans at*;obtain⟨X,tq,er⟩:=ans;have hu:Hid (Calls Tryz.prog 13 #[.string t,.int .i64 a] wr fun e w'=>e=.returned (.tuple #[.string (S06.aX X),.int .i64 tq,.int .i64 er])∧Below wr.heap.size wr w'):=aa hv;have hX:X.length≤262144:=h9;have hW:(S06.aX X).size=X.length:=rfl;have hN:Hid ((S06.aX X).data.toList=X):=aa (fc X);dsimp only at h2 HA;rw[hq.out,←hg.out]at h2;have ht:=aa h2;have HK:=aa hk;generalize S06.aX X=TX at*;obtain⟨b1,hi⟩:∃b,b=decide (a=0):=⟨_,rfl⟩;have d0:((a:Int)==0)=b1:=by
    rw[hi];by_cases h:a=0;·rw[L8 h,h];rfl
    ·rw[L7 h];exact Ow (by omega)
   (have d1:b1=false→a<t.size:=fun h=>by rw[hi]at h;have:=of_decide_eq_false h;rw[← hg.out];omega);have D1:=aa d1;clear h0 hv h2 h9 hk hi hO HT HM HL hh d1;cases b1;case' false=>(have d1n:=D1.out rfl;have d1:decide ((a:Int)<(t.size:Int))=true:=bD (by omega))
   all_goals
    go_wp2_with fail
    refine hu.out.mono ?_
    rintro e w2 ⟨rfl,hl⟩
    have h7:=aa (hf.out.trans (hl.mono hR))
    have h1:=aa (gi h3.out hl)
    clear hl hu h3 hf
    by_cases e4:er≠0
    ·have d4:=dO e4
     have hj:=HA.out
     rw[LX e4]at hj
     have HF:=aa (HP.out [] er w2 hj h7.out)
     clear hj HP HA e4
     go_wp2_with fail
     first | exact HF.out | (go_ret2;exact HF.out)
    have d4:=js e4
    obtain⟨n2,hE⟩:∃x,x=n+X.length:=⟨_,rfl⟩
    have hQ:(n:Int)+(X.length:Int)=(n2:Int):=by omega
    obtain⟨g1,g2,_⟩:=ht.out (Decidable.not_not.1 e4)
    have hj:=HA.out
    rw[LW e4,←hE]at hj
    have hc:n2≤262144*tq:=by omega
    have hP:n2≤2000000000000:=by omega
    have REL:Hid (∀ L2,(n2≤262144→L2=L++X)→(262144<n2→L2=L)→((n2≤262144→L2.length=n2)∧(((tq=0∨tq<m)∧∃k,m<k+tq∧ANS=dK t.data.toList k tq n2 L2)∨(tq≠0∧tq=m∧ANS=if 262144<n2 then([],3)else(L2,0))))):=aa fun L2 hA hB=>by
     refine⟨fun h=> ?_,?_⟩
     ·rw[hA h,LR,hr.out (by omega)];omega
     ·by_cases h5:tq<m
      ·rw[LX h5]at hj
       refine .inl ⟨.inr h5,k,by have:=HK.out;omega,?_⟩
       rw[hj]
       by_cases h6:n2≤262144
       ·rw[LX h6,hA h6]
       ·rw[LW h6,hB (by omega)]
      ·rw[LW h5]at hj
       refine .inr ⟨by omega,by omega,?_⟩
       rw[hj]
       by_cases h6:262144<n2
       ·rw[LX h6,LX h6]
       ·rw[LW h6,LW h6,hA (by omega)]
    clear hj HP HA e4 hr HK hE ht
    by_cases e5:n2≤262144
    ·have d5:decide ((n2:Int)≤262144)=true:=bD (by omega)
     obtain⟨v9,w9,hF,hp,hC⟩:=sp w2 w.heap.size _ L h1.out TX (by omega) h7.out.size
     have hz:=h7.out.trans (jb h1.out h7.out.size hC)
     rw[hN.out]at hp
     have hM:=aa hF
     have hK:=aa hp
     have hH:=aa hz
     clear hF hp hz hC h1 h7
     go_wp2_with (at_builtin;refine Lib.wpList_append_run _ rfl _ _ 39 9 rfl _ (.string TX) rfl rfl v9 w9 hM.out ?_)
     go_roundw
     case rel=>exact⟨L++X,tq,n2,rfl,rfl,hK.out,g2,hc,by rw[LR];have:=(REL.out _ (fun _=>rfl) (fun h=>absurd e5 (by omega))).1 e5;rw[LR]at this;omega,hH.out,aa (REL.out _ (fun _=>rfl) (fun h=>absurd e5 (by omega)))⟩
     case measure=>simp[intOf];omega
    ·have d5:decide ((n2:Int)≤262144)=false:=aN (by omega)
     go_wp2_with fail
     go_roundw
     case rel=>exact⟨L,tq,n2,rfl,rfl,h1.out,g2,hc,hL,h7.out,aa (REL.out _ (fun h=>absurd h e5) (fun _=>rfl))⟩
     case measure=>simp[intOf];omega
  ·have d0:((a:Int)==0)=false:=Ow (by omega);have d1n:¬a<t.size:=(by rw[← hg.out];omega);have d1:decide ((a:Int)<(t.size:Int))=false:=aN (by omega);by_cases e5:262144<n;·have d5:decide ((262144:Int)<(n:Int))=true:=bD (by omega);rw[LX e5]at h0;have HF:=aa (HP.out [] 3 wr h0 hf.out);clear h0 HP HT HM HL hh hx hy;go_wp2_with fail;first | exact HF.out | (go_ret2;exact HF.out)
   ·have d5:decide ((262144:Int)<(n:Int))=false:=aN (by omega);rw[LW e5]at h0;have HF:=aa (HP.out L 0 wr h0 hf.out);have hI:=aa (k7 h3.out);have hS:=hI.out;clear h0 HP HT HM HL hh hx hy;go_wp2_with fail;first | exact HF.out | (go_ret2;exact HF.out)
theorem EK(w:World)(s:ByteArray)(level most:Int)(h:¬cU level most)(h1: -9223372036854775808≤level)(h2:level≤9223372036854775807):Calls Tryz.prog 11 #[.string s,.int .i64 level,.int .i64 most] w (cG w (ff s.data.toList level most)):=by
 have HP:Hid (cG w (ff s.data.toList level most) (.returned (.tuple #[.string ⟨#[]⟩,.int .i64 2])) w):=aa (by
  unfold ff
  rw[LX h]
  exact⟨rfl,L6 _ _⟩)
 generalize cG w (ff s.data.toList level most)=PO at*;by_cases e1:level<1;·have d1:decide (level<1)=true:=L8 e1;clear h;go_enter Tryz.func11,Tryz.ntmps11;go_wp2_with fail;first | exact HP.out | (go_ret2;exact HP.out)
 have d1:decide (level<1)=false:=L7 e1;by_cases e2:9<level;·have d2:decide (9<level)=true:=L8 e2;clear h;go_enter Tryz.func11,Tryz.ntmps11;go_wp2_with fail;first | exact HP.out | (go_ret2;exact HP.out)
 have d2:decide (9<level)=false:=L7 e2;by_cases e3:most<1;·have d3:decide (most<1)=true:=L8 e3;clear h;go_enter Tryz.func11,Tryz.ntmps11;go_wp2_with fail;first | exact HP.out | (go_ret2;exact HP.out)
 have d3:decide (most<1)=false:=L7 e3;obtain⟨lv,rfl⟩:∃lv:Nat,level=lv:=⟨level.toNat,by omega⟩;have h0:=aa (mP w lv (by omega));have e4:(gm lv:Int)<most:=by unfold cU at h;rw[L9]at h;omega
 have d4:decide ((gm lv:Int)<most)=true:=L8 e4;clear h;go_enter Tryz.func11,Tryz.ntmps11;go_wp2_with fail;refine h0.out.mono ?_;rintro e w1 ⟨rfl,rfl⟩;go_wp2_with fail;first | exact HP.out | (go_ret2;exact HP.out)
theorem EL(w:World)(s:ByteArray)(lv:Nat)(most:Int)(h:cU lv most)(hs:262144<s.size)(h5:s.size≤9223372036854775807):Calls Tryz.prog 11 #[.string s,.int .i64 lv,.int .i64 most] w (cG w (ff s.data.toList lv most)):=by
 have HP:Hid (cG w (ff s.data.toList lv most) (.returned (.tuple #[.string ⟨#[]⟩,.int .i64 3])) w):=aa (by
  unfold ff
  rw[LW (NI h),LX (show 262144<s.data.toList.length from hs)]
  exact⟨rfl,L6 _ _⟩)
 generalize cG w (ff s.data.toList lv most)=PO at*;obtain⟨h1,h2,h3,h4⟩:=h;rw[L9]at h4;have h0:=aa (mP w lv (by omega));have d1:decide ((lv:Int)<1)=false:=aN (by omega);have d2:decide (9<(lv:Int))=false:=aN (by omega);have d3:decide (most<1)=false:=aN (by omega);have d4:decide ((gm lv:Int)<most)=false:=aN (by omega);have d5:decide ((262144:Int)<(s.size:Int))=true:=bD (by omega);clear h1 h2 h3 h4 hs;go_enter Tryz.func11,Tryz.ntmps11;go_wp2_with fail;refine h0.out.mono ?_;rintro e w1 ⟨rfl,rfl⟩;go_wp2_with fail;first | exact HP.out | (go_ret2;exact HP.out)
theorem pD{K:Nat}(h3:3≤K)(hK:K≤8192)(h0:∀(wx:World) (t:ByteArray),t.size≤K→Calls Tryz.prog 20 #[.string t] wx (aS wx (dX t.data.toList))):lg K where
 three:=h3
 packOk:=fun w s level most h hs=>by
  obtain⟨lv,rfl⟩:∃lv:Nat,level=lv:=⟨level.toNat,by have:=h.1;omega⟩
  exact Hu hK h0 w s lv most h hs
 take:=fun w t at' ht _ _=>sL w t at' (by omega)
 unpack:=fun w t ht=>za w t (by omega)
theorem E4{K:Nat}(h3:3≤K)(hK:K≤8192)(h0:∀(wx:World) (t:ByteArray),t.size≤K→Calls Tryz.prog 20 #[.string t] wx (aS wx (dX t.data.toList))):bp K where
 tolg:=pD h3 hK h0
 pack:=fun w s level most hs hs2 h1 h2 _ _=>by
  by_cases h:cU level most
  ·by_cases e:s.size≤K
   ·exact(pD h3 hK h0).packOk w s level most h e
   ·obtain⟨lv,rfl⟩:∃lv:Nat,level=lv:=⟨level.toNat,by have:=h.1;omega⟩
    exact EL w s lv most h (by omega) hs2
  ·exact EK w s level most h h1 h2
theorem DT:bp 8192:=E4 (by omega) (ag _) fun wx t ht=>Bo wx t (by omega)
end Go.Proofs.YtepokmggbfoakaaGreatDoor
