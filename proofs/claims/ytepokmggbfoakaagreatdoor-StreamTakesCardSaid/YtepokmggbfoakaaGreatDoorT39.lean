import Derived.Test.YtepokmggbfoakaaGreatDoorT38
import Derived.Test.YtepokmggbfoakaaGreatDoorT35
import Derived.RangeFuncNested
import Derived.RangeFuncBound
import Derived.RangeFuncCalls
import Derived.RangeFuncLeaves
import Derived.RangeFuncBox
import Derived.Shelf.Abstract
import Derived.Shelf.RegionOpen
import Derived.OwnWalkIn
import Derived.TacticsInMore
import Derived.LoopNIn
import Derived.LoopIn
set_option maxHeartbeats 6400000
set_option maxRecDepth 100000
namespace Go.Proofs.YtepokmggbfoakaaGreatDoor.StreamTakes
open _root_.Go.Proofs.Tryz
open Go.ChangeShapes Go.WideShapes Go.ChangeAt Go.RowKit
theorem Na{K:Nat}(R:fU K):Rows.StreamTakesCardSaid:=
 Claim7.holds_tied_plain_at .later [] [.data,.data,.data] true Rows.streamTakesCard.stood.harness true (row R) (fun _ h=>by cases h) (by kernel_rfl) (fun _ h=>by cases h) streamTakes_row_tie rfl ⟨rfl,rfl⟩ LC rfl
  (fun f fn hf hfn=>by
    obtain rfl:f=4:=(Om ((show prog.funcNamed "kist/kistlaw13.StreamTakes" =some 4 by kernel_rfl).symm.trans hf)).symm
    obtain rfl:fn=Tryz.f4:=(Om (func4.symm.trans hfn)).symm
    refine⟨JE,fun j t ht=> ?_⟩
    rw[params4]at ht
    rcases j with _|j
    ·obtain rfl:=Om ht
     kernel_rfl
    rcases j with _|j
    ·obtain rfl:=Om ht
     kernel_rfl
    ·simp at ht)
  (by kernel_rfl)
end Go.Proofs.YtepokmggbfoakaaGreatDoor.StreamTakes
namespace Go.Proofs.YtepokmggbfoakaaGreatDoor
open _root_.Go.Proofs.Tryz
open Go.RowKit
attribute [local go_sem] Oper.semAt_some
abbrev vF (K:Nat):={ x:ByteArray // x.size<=K/\1<=x.size }
def MW{K:Nat}(x:vF K):Array Value:=#[.string x.1]
def sC(b:Nat)(W W':World):Prop:=∀k,k=b\/k=b+1->W'.heap[k]? =W.heap[k]?
theorem sC.trans{b:Nat}{A B C:World}(h:sC b A B)(k:sC b B C):sC b A C:=fun j hj=>(k j hj).trans (h j hj)
theorem My(w:World)(s:ByteArray)(most:Int):
 Calls prog 19 #[.string s,.int .i64 most] w fun e w'=>e=.returned (.func (.func 42) #[] #[.pointer (some ⟨w.heap.size,0,none⟩),.pointer (some ⟨w.heap.size+1,0,none⟩)])/\w'=(w.alloc (.cells #[.string s] 9)).alloc (.cells #[.int .i64 most] 3):=by go_enter func19,ntmps19;go_wp2_with fail;go_ret;exact⟨by simp,rfl⟩
def MS{K:Nat}(most:Int)(s:List UInt8)(xs:List (vF K)):Prop:=xs.map (fun x=>x.1.data.toList)=gx most s.length s
theorem zD{K:Nat}(hK:K<=200000)(n:Nat)(hn:1<=n)(l b:Nat)(s:ByteArray)(most:Int)(hs:s.size<=K)(hm:1<=most)(hI:most<=262144)(J Jx:List (vF K)->World->Prop)(W:World)
 (hJ:AbidesFrom W.heap.size J)
 (hY:∀pre x W1,J pre W1→pre.length<K→YieldAt Fence.wide (n - 1) Tryz.prog l (MW x) W1 fun e W'=>
   (e=.returned (.bool true)/\J (pre++ [x]) W'/\sC b W1 W')\/(e=.returned (.bool false)/\Jx (pre++ [x]) W'))
 (hw:W.heap[b]? =some (.cells #[.string s] 9 (0,0))) (hG:W.heap[b+1]? =some (.cells #[.int .i64 most] 3 (0,0))) (h0:J [] W):
 CallsIn Fence.wide n prog 42 #[.func (.yield l) #[] #[],.pointer (some ⟨b,0,none⟩),.pointer (some ⟨b+1,0,none⟩)] W fun e W'=>(∃ v,e=.returned v)/\((∃ xs,MS most s.data.toList xs/\J xs W')\/(∃ pre,True/\Jx pre W')):=by
 have hH:s.data.toList.length=s.size:=rfl;have HF:=aa fun(wx:World) (r:ByteArray) (hr:r.size<=200000)=>S03.IM wx r most (by omega) (by omega) (by omega);have hB:=aa fun(l:List UInt8) (n:Nat) (h:S03.md l most n)=>Lr h;have hD:=aa fun(l:List UInt8) (h:l≠ [])=>tI h hm;have hC:=aa fun(l:List UInt8)=>xQ l most;have c1:W.cell? ⟨b,0,none⟩=some (.string s):=Boxed.cell (t:=9) hw;have hE:Fence.wide.fn 43:=trivial;have HJ:=aa hJ;have HY:=aa hY;clear hJ hY;refine callsIn_of_wp func42 rfl trivial ?_ rfl;simp only[ntmps42,PM,Nv,N5,Nat.reduceAdd,Nat.reduceSub,Array.replicate_succ,Array.replicate_zero,List.push_toArray,List.append_toArray,NX,Od];gi_wp2_with fail
 gi_loopw [4] (fun sr wr=>∃(pre:List (vF K)) (r:ByteArray) (k:Nat),sr=.string r/\r.size<=K/\Hid (r.size<=k/\pre.length+k<=s.size/\pre.map (fun x=>x.1.data.toList)++gx most k r.data.toList=gx most s.data.toList.length s.data.toList)/\
  wr.heap[b]? =some (.cells #[.string s] 9 (0,0))/\wr.heap[b+1]? =some (.cells #[.int .i64 most] 3 (0,0))/\J pre wr) (fun sr _=>match sr with | .string r=>r.size|_=>0)
 case atStart=>exact⟨[],s,s.size,rfl,hs,aa ⟨Nm _,by simp,by rw[Qx,NX,hH]⟩,hw,hG,h0⟩
 case round=>
  obtain⟨pre,r,k,rfl,hr,h4,hz,ho,hk⟩:=hrel;by_cases e:0<r.size
  ·have d0:decide ((0:Int)<(r.size:Int))=true:=aX (by omega);have c2:wr.cell? ⟨b+1,0,none⟩=some (.int .i64 most):=Boxed.cell (t:=3) ho;have ht:=aa (callsIn_wide (n:=n-1).2 (HF.out wr r (by omega)));have h6:=aa h4.out;have hf:=aa hz;have hh:=aa ho;have hu:=aa hk;clear h4 hz hk;gi_wp2_with fail
   refine ht.out.mono ?_;rintro e w1 ⟨q,rfl,h7,h5⟩;have hq:=hB.out _ _ h7;(have hp:r.data.toList≠ []:=fun h=>by have h2:r.data.toList.length=r.size:=rfl;rw[h]at h2;simp at h2;omega);have hL:1<=q:=(by rw[hq];exact hD.out _ hp);have hM:q<=r.size:=(by rw[hq];exact hC.out _);have hP:(r.extract 0 q).size=q:=(by rw[Oo];omega);have hO:(r.extract q r.size).size=r.size-q:=(by rw[Oo];omega);obtain⟨h1,h2,h3⟩:=h6.out;obtain⟨k,rfl⟩:∃j,k=j+1:=⟨k-1,by omega⟩;rw[mI most k _ hp,<-hq]at h3;have hv:=HJ.out pre wr w1 none hu.out ⟨h5.os,h5.tape,h5.output,h5.size,fun j hj _=>h5.block j hj⟩ (fun r e=>by cases e);have ha:b<wr.heap.size:=(Array.getElem?_eq_some_iff.1 hf.out).1;have hb:b+1<wr.heap.size:=(Array.getElem?_eq_some_iff.1 hh.out).1;have h8:=(h5.block b ha).trans hf.out;have h9:=(h5.block (b+1) hb).trans hh.out;obtain⟨x,hx⟩:∃x:vF K,x.1=r.extract 0 q:=⟨⟨r.extract 0 q,by omega,by omega⟩,rfl⟩;obtain⟨fn,tmps,assign,body,he,hR⟩:=HY.out pre x w1 hv (by omega);unfold MW at he;rw[hx]at he;have hy:(Instr.yield l #[.string (r.extract 0 q)]).run prog w1=.ok (.round l fn tmps assign body) w1:=he;have hN:(q:Int)<=(r.size:Int):=by omega
   have REL:Hid (Hid ((r.extract q r.size).size<=k/\(pre++ [x]).length+k<=s.size/\(pre++ [x]).map (fun x=>x.1.data.toList)++gx most k (r.extract q r.size).data.toList=gx most s.data.toList.length s.data.toList)):=aa (aa ⟨by omega,by rw[Nc,NM];omega,by
    rw[<- h3,NF,S03.eP,Rk,hx,S03.ju]
    simp⟩)
   have HR:=aa hR;have hg:=aa h8;have hi:=aa h9;clear he hx h7 hq hp h1 h2 h3 hv hR h8 h9 ha hb h5 h6 ht hu hf hh c2 ho;gi_wp2_with fail
   refine HR.out.mono ?_;rintro e W3 (⟨rfl,hF,hA⟩|⟨rfl,hl⟩)
   ·gi_wp2_with fail
    go_roundw;case rel=>exact⟨_,_,k,rfl,by omega,REL.out,(hA b (.inl rfl)).trans hg.out,(hA (b+1) (.inr rfl)).trans hi.out,hF⟩
    case measure=>show(r.extract q r.size).size<r.size;omega
   ·gi_wp2_with fail
    refine ND (RA rfl _ _ _) rfl ?_;exact⟨⟨_,rfl⟩,.inr ⟨_,trivial,hl⟩⟩
  ·have d0:decide ((0:Int)<(r.size:Int))=false:=aD (by omega);have hc:r.data.toList= []:=Nw (by have:r.data.toList.length=r.size:=rfl;omega);have h3:=h4.out.2.2;rw[hc,n3,NR]at h3;clear hc h4;gi_wp2_with fail
   (first|go_end0|skip);exact⟨⟨_,rfl⟩,.inl ⟨pre,h3,hk⟩⟩
theorem vY(w:World)(lv:Nat)(h:lv<=1000000):Calls prog 17 #[.int .i64 lv] w fun e w'=>e=.returned (.int .i64 (iH lv))/\w'=w:=by
 obtain⟨p,hp⟩:∃p,p=lv*100000:=⟨_,rfl⟩;have h2:(lv:Int)*100000=(p:Int):=by omega
 have h1:p<=100000000000:=by omega
 have h0:iH lv=if 262144<p then 262144 else p:=by rw[hp];rfl
 have HA:=aa h0;clear h0 hp h;go_enter func17,ntmps17;by_cases e:262144<p;·have e2:(262144:Int)<(p:Int):=(by omega);have e3:¬(p:Int)<=262144:=(by omega);have e4:¬(p:Int)<262144:=(by omega);go_wp2_with fail;go_ret;rw[HA.out,Ng e];first|exact⟨rfl,rfl⟩|(rw [Int.min_eq_right (by omega)];exact⟨rfl,rfl⟩)|(rw [Nf e4];exact⟨rfl,rfl⟩)|(rw [Ng e2];exact⟨rfl,rfl⟩)
 ·have e2:¬(262144:Int)<(p:Int):=(by omega);have e3:(p:Int)<=262144:=(by omega);go_wp2_with fail;go_ret;rw[HA.out,Nf e];first|exact⟨rfl,rfl⟩|(rw [Int.min_eq_left e3];exact⟨rfl,rfl⟩)|(rw [Nf e2];exact⟨rfl,rfl⟩)
theorem xL(w:World)(lv:Nat)(h1:1<=lv)(h9:lv<=9):Calls prog 187 #[.int .i64 lv] w fun e w'=>e=.returned (.string ⟨#[UInt8.ofNat (48+lv)]⟩)/\w'=w:=by
 have:lv=1\/lv=2\/lv=3\/lv=4\/lv=5\/lv=6\/lv=7\/lv=8\/lv=9:=by omega
 rcases this with rfl|rfl|rfl|rfl|rfl|rfl|rfl|rfl|rfl <;>
 ·go_enter func187,ntmps187;go_wp2_with fail;go_ret;exact⟨rfl,rfl⟩
theorem MV(w:World)(lv:Nat)(h1:1<=lv)(h9:lv<=9):Calls prog 41 #[.int .i64 lv] w fun e w'=>e=.returned (.string ⟨#[UInt8.ofNat (48+lv)]⟩)/\w'=w:=by have HS:=aa (xL w lv h1 h9);have d0:decide ((0:Int)<=(lv:Int))=true:=aX (by omega);have d1:decide ((lv:Int)<100)=true:=aX (by omega);have hz:(lv:Int)<100:=(by omega);generalize (⟨#[UInt8.ofNat (48+lv)]⟩:ByteArray)=T at*;clear h1 h9;go_enter func41,ntmps41;go_wp2_with fail;go_enter func85,ntmps85;go_wp2_with fail;go_enter func141,ntmps141;go_wp2_with fail;refine HS.out.mono ?_;rintro e w1 ⟨rfl,rfl⟩;go_wp2_with fail;go_ret;exact⟨rfl,rfl⟩
theorem Jk(x:UInt8):((⟨#[66,90,104]⟩:ByteArray)++(⟨#[x]⟩:ByteArray))=⟨(aF (ai [66,90,104,x])).toArray⟩:=by have h:aF (ai [66,90,104,x])= [66,90,104,x]:=(by have h1:=ur [66,90,104,x] [] (fun _ h=>by cases h);obtain⟨r,hr⟩:=h1;rw[NR]at hr;have hl:=congrArg List.length hr;rw[db,aq,Nc,show([66,90,104,x]:List UInt8).length=4 from rfl]at hl;have h0:r= []:=Nw (by omega);rw[hr,h0,NR]);rw[h];rfl
theorem xI(w:World)(lv:Nat)(h1:1<=lv)(h9:lv<=9):Calls prog 18 #[.int .i64 lv] w fun e w'=>e=.returned (.agg #[.string ⟨(aF (ai [66,90,104,UInt8.ofNat (48+lv)])).toArray⟩,.int .i64 (ai [66,90,104,UInt8.ofNat (48+lv)]).length])/\Below w.heap.size w w':=by
 rw[iT,<-Jk];obtain⟨x,hx⟩:∃x,x=UInt8.ofNat (48+lv):=⟨_,rfl⟩;have HI:=aa fun wx=>MV wx lv h1 h9;rw[<- hx]at HI |-;have h3:Below w.heap.size w (w.alloc (.cells #[.string ⟨#[]⟩,.int .i64 0] 43)):=(Nj _ _).alloc (ah _) _;have h4:=aj w 43 #[.string ⟨#[]⟩,.int .i64 0];have h5:((⟨#[66,90,104]⟩:ByteArray)++(⟨#[x]⟩:ByteArray)).size=4:=rfl;obtain⟨T,hT⟩:∃T,T=((⟨#[66,90,104]⟩:ByteArray)++(⟨#[x]⟩:ByteArray)):=⟨_,rfl⟩;have HT:=aa hT;rw[<- hT]at h5 |-;have HB:=aa h3;have HR:=aa h4;obtain⟨w1,h0⟩:∃w1,w1=w.alloc (.cells #[.string ⟨#[]⟩,.int .i64 0] 43):=⟨_,rfl⟩;have h2:=aa h0.symm;rw[<- h0]at HB HR;have e0:=(ac HR.out 0).trans (rfl:_=some (Value.string ⟨#[]⟩));have e1:=(ac HR.out 1).trans (rfl:_=some (Value.int .i64 0));have f0:=ae HR.out 0;have f1:=ae HR.out 1;clear h3 h4 h0 hT h1 h9 hx;go_enter func18,ntmps18;go_upto_region 1 with fail;rw[h2.out];clear h2;go_wp2_with fail;refine(HI.out w1).mono ?_;rintro e w2 ⟨rfl,rfl⟩;go_upto_region 2 with fail;rw[<- HT.out];go_wp2_with fail;refine ND (v:=.agg #[.string T,.int .i64 32]) ?_ rfl ?_;·simp[results,results18,go_sem,e0,e1]
 ·exact⟨rfl,(HB.out.setCell (p:=⟨w.heap.size,0,none⟩) (ah _) _).setCell (p:=⟨w.heap.size,1,none⟩) (ah _) _⟩
def xP(z:Nat):List Nat:=ag 25779555029136 48++ag z 32
theorem re(z:Nat):(xP z).length=80:=by unfold xP;rw[Nc,af,af]
theorem mj(w:World)(z:Nat)(hz:z<4294967296):
 Calls prog 23 #[.int .u32 z] w fun e w'=>e=.returned (.agg #[.string ⟨(aF (xP z)).toArray⟩,.int .i64 (xP z).length])/\Below w.heap.size w w':=by
 obtain⟨w2,h4⟩:∃w2,w2=w.alloc (.cells #[.string ⟨#[]⟩,.int .i64 0] 43):=⟨_,rfl⟩;have hb:Hid (Below w.heap.size w w2):=aa (bQ h4);have h5:Hid (Blk w2 w.heap.size 43 #[.string ⟨#[]⟩,.int .i64 0]):=aa (eJ h4);have hj:=aa h4.symm;have u1:IntKind.u64.wrap (z:Int)=z:=by rw[RE];omega
 have h1:=re z;rw[h1];obtain⟨T,hT⟩:∃T:ByteArray,T=⟨(aF (xP z)).toArray⟩:=⟨_,rfl⟩;have HT:=aa hT;have HP:Hid (xP z= []++ag 25779555029136 48++ag z 32):=aa rfl;rw[<- hT];clear h4 hT;go_enter func23,ntmps23;go_upto_region 1 with fail;rw[hj.out];clear hj;go_wp2_with fail;refine(C7 w2).mono ?_;rintro e w3 ⟨rfl,ha⟩;obtain⟨p,hp⟩:∃p,p=w2.heap.size:=⟨_,rfl⟩;have h2:w.heap.size<p:=by rw[hp];exact az h5.out
 have hk:IsW p w3 p (.slice none 0 0) []:=by rw[ha,hp];exact lB w2 w2.heap.size (ah _)
 have h9:Below w2.heap.size w2 w3:=bQ ha;have hh:=aa (aO h9 h5.out);have hc:=aa (ap hb.out h9);have hf:=aa (fo p w3 p _ _ 25779555029136 48 hk (by simp) (by omega) (by omega));rw[<- hp];clear ha hp h9 hk h5 hb;go_wp2_with fail;refine hf.out.mono ?_;rintro e w4 ⟨rfl,v4,hl,h6⟩;have hi:=aa (h6.blk hh.out (by simp;omega) (by decide));have he:=aa (hc.out.trans (h6.below.mono (NV h2)));have hg:=aa (fo p w4 p _ _ z 32 hl (by simp[af]) (by omega) (by omega));clear hl h6 hf hh hc;go_wp2_with fail;refine hg.out.mono ?_;rintro e w7 ⟨rfl,v7,h0,h7⟩;rw[<- HP.out]at h0;have h3:=h7.blk hi.out (by simp;omega) (by decide);have hm:=aa (he.out.trans (h7.below.mono (NV h2)));have h8:=im p w7 p v7 _ h0;rw[<- HT.out]at h8;have ho:=aa h8;have c0:=ac h0.blk 0;have c2:=ac h0.blk 2;rw[h1]at c2;simp at c0 c2;have hn:=aa (jM w7 p 80 c0 c2);have e0:=(ac h3 0).trans (rfl:_=some (Value.string ⟨#[]⟩));have e1:=(ac h3 1).trans (rfl:_=some (Value.int .i64 0));have f0:=ae h3 0;have f1:=ae h3 1;clear h0 h7 hg hi he h8 c0 c2 h3;go_wp2_with fail;refine ho.out.mono ?_;rintro e w8 ⟨rfl,rfl⟩;go_wp2_with fail;refine hn.out.mono ?_;rintro e w8 ⟨rfl,rfl⟩;go_wp2_with fail;refine ND (v:=.agg #[.string T,.int .i64 80]) ?_ rfl ?_;·simp[results,results23,go_sem,e0,e1]
 ·exact⟨rfl,(hm.out.setCell (p:=⟨w.heap.size,0,none⟩) (ah _) _).setCell (p:=⟨w.heap.size,1,none⟩) (ah _) _⟩
def iS(l:List UInt8):Prop:=([66,90,104]:List UInt8).take l.length=l.take 3
instance (l:List UInt8):Decidable (iS l):=inferInstanceAs (Decidable (_=_))
theorem CG(l:List UInt8):aT l=if ¬iS l then(0,130)else if l.length<=3 then(0,10)else if(l.getD 3 0).toNat<49\/57<(l.getD 3 0).toNat then(0,130)else((l.getD 3 0).toNat-48,0):=by
 have key:∀{a c:UInt8},¬c=a->a.toNat≠c.toNat:=fun h e=>h (UInt8.toNat_inj.1 e).symm
 match l with
 | []=>rfl
 | [a]=>
  by_cases h1:(66:UInt8)=a;·subst h1;rfl
  ·have k1:¬a.toNat=66:=key h1;simp[aT,iS,h1,k1]
 | [a,b]=>
  by_cases h1:(66:UInt8)=a
  ·subst h1;by_cases h2:(90:UInt8)=b;·subst h2;rfl
   ·have k2:¬b.toNat=90:=key h2;simp[aT,iS,h2,k2]
  ·have k1:¬a.toNat=66:=key h1;simp[aT,iS,h1,k1]
 | [a,b,c]=>
  by_cases h1:(66:UInt8)=a
  ·subst h1;by_cases h2:(90:UInt8)=b
   ·subst h2;by_cases h3:(104:UInt8)=c;·subst h3;rfl
    ·have k3:¬c.toNat=104:=key h3;simp[aT,iS,h3,k3]
   ·have k2:¬b.toNat=90:=key h2;simp[aT,iS,h2,k2]
  ·have k1:¬a.toNat=66:=key h1;simp[aT,iS,h1,k1]
 | a::b::c::d::r=>
  have h4:¬(r.length+1+1+1+1<=3):=by omega
  have h5:¬(r.length+1+1+1+1<4):=by omega
  have h6:¬(r.length+1+1+1+1<3):=by omega
  have h7:¬(r.length+1+1+1+1<2):=by omega
  by_cases h1:(66:UInt8)=a
  ·subst h1;by_cases h2:(90:UInt8)=b
   ·subst h2;by_cases h3:(104:UInt8)=c;·subst h3;simp[aT,iS,h4,h5,h6,h7]
    ·have k3:¬c.toNat=104:=key h3;simp[aT,iS,h3,k3,h6,h7]
   ·have k2:¬b.toNat=90:=key h2;simp[aT,iS,h2,k2,h7]
  ·have k1:¬a.toNat=66:=key h1;simp[aT,iS,h1,k1]
theorem Cg(w:World)(T:ByteArray)(hT:T.size<=3)(b:Bool)(hb:((⟨#[66,90,104]⟩:ByteArray).extract 0 T.size).data.toList=T.data.toList↔b=true):
 Calls prog 72 #[.string ⟨#[66,90,104]⟩,.string T] w fun e w'=>e=.returned (.bool b)/\w'=w:=by
 have d0:decide ((T.size:Int)<=3)=true:=aX (by omega);have hz:(T.size:Int)<=3:=by omega
 have d1:(((⟨#[66,90,104]⟩:ByteArray).extract 0 T.size).toList==T.toList)=b:=by
  rw[Pi,Pi]
  cases b with
  | true=>exact beq_iff_eq.2 (hb.2 rfl)
  | false=>exact Qw fun h=>by cases hb.1 h
 clear hb;go_enter func72,ntmps72;go_wp2_with fail;go_enter func126,ntmps126;go_wp2_with fail;go_ret;exact⟨rfl,rfl⟩
theorem zY(t:ByteArray)(m:Nat):(t.extract 0 m).data.toList=t.data.toList.take m:=S03.ju t m
theorem JI(t:ByteArray)(m:Nat)(hm:m=min 3 t.size):((⟨#[66,90,104]⟩:ByteArray).extract 0 (t.extract 0 m).size).data.toList=(t.extract 0 m).data.toList↔iS t.data.toList:=by
 have h0:t.data.toList.length=t.size:=rfl;have hs:(t.extract 0 m).size=m:=by rw[Oo];omega
 rw[hs,zY,zY];unfold iS;rw[h0];have h1:(⟨#[66,90,104]⟩:ByteArray).data.toList= [66,90,104]:=rfl;rw[h1,hm];by_cases h:t.size<=3;·rw[PD h,Nt (show t.data.toList.length<=3 by omega),Nt (show t.data.toList.length<=t.size by omega)]
 ·rw[Oh (by omega),Nt (show([66,90,104]:List UInt8).length<=t.size by simp;omega)];rfl
theorem FH(w:World)(t:ByteArray)(hs:t.size<=9223372036854775807):Calls prog 33 #[.string t] w fun e w'=>e=.returned (.tuple #[.int .i64 (aT t.data.toList).1,.int .i64 (aT t.data.toList).2])/\w'=w:=by
 have h6:t.data.toList.length=t.size:=rfl;have hh:=aa h6;have HD:=aa (CG t.data.toList);rw[h6]at HD;have HP:Hid (∀ (a b:Nat),aT t.data.toList=(a,b)->(fun e w'=>e=Ending.returned (.tuple #[.int .i64 (aT t.data.toList).1,.int .i64 (aT t.data.toList).2])/\w'=w) (.returned (.tuple #[.int .i64 a,.int .i64 b])) w):=aa fun a b h=>⟨by rw[h],rfl⟩;generalize (fun e w'=>e=Ending.returned (.tuple #[.int .i64 (aT t.data.toList).1,.int .i64 (aT t.data.toList).2])/\w'=w)=PO at*;obtain⟨m,hm⟩:∃m,m=min 3 t.size:=⟨_,rfl⟩;have hj:m<=t.size:=by omega
 have hk:m<=3:=by omega
 have hl:(m:Int)<=(t.size:Int):=by omega
 have h8:min (3:Int) (t.size:Int)=(m:Int):=by omega
 have h9:(if(t.size:Int)<3 then(t.size:Int)else 3)=(m:Int):=by split <;>omega
 have ha:(if(3:Int)<=(t.size:Int)then(3:Int)else(t.size:Int))=(m:Int):=by split <;>omega
 have hc:(t.extract 0 m).size=m:=by rw[Oo];omega
 have h7:=aa (JI t m hm);have HX:Hid (∀ b,(iS t.data.toList↔b=true)->Calls prog 72 #[.string ⟨#[66,90,104]⟩,.string (t.extract 0 m)] w fun e w'=>e=.returned (.bool b)/\w'=w):=aa fun b hb=>Cg w (t.extract 0 m) (by omega) b (h7.out.trans hb);clear h6 hm hc h7;by_cases h0:¬iS t.data.toList;·have h4:=aa (HX.out false ⟨fun h=>absurd h h0,fun h=>by cases h⟩);have hd:=HD.out;rw[Ng h0]at hd;have HF:=aa (HP.out 0 130 hd);clear hd HP HX HD h0;go_enter func33,ntmps33;go_wp2_with fail;refine h4.out.mono ?_;rintro e w1 ⟨rfl,rfl⟩;go_wp2_with fail;first|exact HF.out|(go_ret2;exact HF.out)
 ·have h4:=aa (HX.out true ⟨fun _=>rfl,fun _=>Decidable.not_not.1 h0⟩);have hd:=HD.out;rw[Nf h0]at hd;by_cases h1:t.size<=3;·have d1:decide ((t.size:Int)<=3)=true:=aX (by omega);rw[Ng h1]at hd;have HF:=aa (HP.out 0 10 hd);clear hd HP HX HD h0;go_enter func33,ntmps33;go_wp2_with fail;refine h4.out.mono ?_;rintro e w1 ⟨rfl,rfl⟩;go_wp2_with fail;first|exact HF.out|(go_ret2;exact HF.out)
  ·have d1:decide ((t.size:Int)<=3)=false:=aD (by omega);have g3:=sU t 3 (by omega);have hz:(3:Int)<t.size:=(by omega);rw[Nf h1,g3]at hd;have hx:(t[3]'(by omega)).toNat<256:=Pr _;obtain⟨x,h5⟩:∃x,x=(t[3]'(by omega)).toNat:=⟨_,rfl⟩;rw[<- h5]at hd hx;have hn:(t[3]'(by omega)).toNat=x:=h5.symm;obtain⟨i,hi⟩:∃i:Int,i=(x:Int)-48:=⟨_,rfl⟩;have ho:(x:Int)-48=i:=hi.symm;have he: -48<=i:=(by omega);have hf:i<=207:=(by omega);by_cases h2:x<49\/57<x
   ·rw[Ng h2]at hd;have HF:=aa (HP.out 0 130 hd);by_cases h3:i<1;·have d2:decide (i<1)=true:=No h3;clear hd HP HX HD h0 g3 h5 hi;go_enter func33,ntmps33;go_wp2_with fail;refine h4.out.mono ?_;rintro e w1 ⟨rfl,rfl⟩;go_wp2_with fail;first|exact HF.out|(go_ret2;exact HF.out)
    ·have d2:decide (i<1)=false:=Nk h3;have d3:decide (9<i)=true:=aX (by omega);clear hd HP HX HD h0 g3 h5 hi;go_enter func33,ntmps33;go_wp2_with fail;refine h4.out.mono ?_;rintro e w1 ⟨rfl,rfl⟩;go_wp2_with fail;first|exact HF.out|(go_ret2;exact HF.out)
   ·rw[Nf h2]at hd;obtain⟨y,hy⟩:∃y,y=x-48:=⟨_,rfl⟩;rw[<- hy]at hd;have HF:=aa (HP.out y 0 hd);have hg:i=(y:Int):=(by omega);subst hg;have d2:decide ((y:Int)<1)=false:=aD (by omega);have d3:decide (9<(y:Int))=false:=aD (by omega);clear hd HP HX HD h0 g3 h5 hi hy he hf;go_enter func33,ntmps33;go_wp2_with fail;refine h4.out.mono ?_;rintro e w1 ⟨rfl,rfl⟩;go_wp2_with fail;first|exact HF.out|(go_ret2;exact HF.out)
theorem nm{w w':World}{B B' n n' k k':Nat}{e e':TypeId}{v v':Value}{xs xs':List Value}(h:w.ownsRow B e k v n xs)(h':w.ownsRow B' e' k' v' n' xs')(h0:e≠e')(hg:w.grownBy w' v'.ownBlock):w'.ownsRow B e k v n xs:=by
 refine h.kept hg ?_
 cases hv:v.ownBlock with
 | none=>
  rcases h.2 with⟨rfl,_⟩|⟨g,cap,cur,rfl,_⟩;·exact .inl rfl
  ·cases hv
 | some g=>refine .inr fun e1=> ?_;obtain⟨c1,f1,e1'⟩:=Lib.ownsRow_kind h g hv;obtain⟨c2,f2,e2⟩:=Lib.ownsRow_kind h' g e1.symm;rw[e1']at e2;cases e2;exact h0 rfl
theorem Gi:∃i,prog.info? 5=some i/\i.zero=some (.int .u8 0)/\i.size=1/\i.bytes=1:=by
 have h0:(prog.info? 5).map (·.zero)=some (some (.int .u8 0)):=by kernel_rfl
 have h1:(prog.info? 5).map (·.size)=some 1:=by kernel_rfl
 have h2:(prog.info? 5).map (·.bytes)=some 1:=by kernel_rfl
 cases hq:prog.info? 5 with
 | none=>simp[hq]at h1
 | some i=>exact⟨i,rfl,by simpa [hq]using h0,by simpa [hq]using h1,by simpa [hq]using h2⟩
theorem jg{w w':World}{B k n:Nat}{e:TypeId}{v:Value}{xs:List Value}(h:w.ownsRow B e k v n xs)(hB:B<=w.heap.size)(hg:w.grownBy w' v.ownBlock):Below B w w':=
 (Nj B w).grown hg hB fun j hj=>(OD h j hj).1
theorem sV(w:World)(B:Nat)(v:Value)(L:List UInt8)(h:w.ownsRow B 5 1 v L.length (L.map bv))(t:ByteArray)(hn:L.length+t.size<=1000000000)(hB:B<=w.heap.size):
 ∃v2 w2,(Builtin.append_ #[39,9] 39 #[v,.string t]).run prog w=.ok v2 w2/\w2.ownsRow B 5 1 v2 (L++t.data.toList).length ((L++t.data.toList).map bv)/\w.grownBy w2 v.ownBlock:=by obtain⟨i5,h5,h0,h1,h2⟩:=Gi;obtain⟨v2,w2,hr,ho,hg,_⟩:=Lib.run_append_own_string (P:=prog) (w:=w) B 39 9 39 5 i5 underlying39 underlying9 h5 h0 h1 h2 v L.length (L.map bv) h t (by unfold maxLen;omega) (by omega) hB;refine⟨v2,w2,hr,?_,hg⟩;rw[NF,Nc];exact ho
theorem xk(w:World)(B:Nat)(v:Value)(L:List Nat)(h:w.ownsRow B 52 1 v L.length (L.map wv))(x:Nat)(hn:L.length<=1000000)(hB:B<=w.heap.size):
 ∃v2 w2,(Builtin.append_ #[46,46] 46 #[v,.slice (some ⟨w.heap.size,0,none⟩) 1 1]).run prog (w.alloc (.cells #[.int .u32 x] 52))=.ok v2 w2/\
  w2.ownsRow B 52 1 v2 (L++ [x]).length ((L++ [x]).map wv)/\(w.alloc (.cells #[.int .u32 x] 52)).grownBy w2 v.ownBlock:=by
 obtain⟨i3,h3,h0,h1,h2⟩:=Aj
 obtain⟨v2,w2,hr,ho,hg,_⟩:=Rp (P:=prog) (w.alloc (.cells #[.int .u32 x] 52)) B 46 46 52 i3 (.int .u32 0) 1 4 underlying46 h3 h0 h1 h2 rfl (by decide) _ _ _ (h.alloc _) ⟨w.heap.size,0,none⟩ 1 1 [wv x] rfl (bn w (wv x) 52)
  (fun u hu=>by rw[List.mem_singleton.1 hu];rfl) (by unfold maxLen;omega) (by omega) (by simp;omega)
 refine⟨v2,w2,hr,?_,hg⟩;rw[NF,Nc];exact ho
def lh(w:World)(ans:List UInt8×List Nat×Nat×Nat)(e:Ending)(w':World):Prop:=
 (ans.2.2.2≠0/\e=.returned (.tuple #[.string ⟨#[]⟩,.slice none 0 0,.int .i64 0,.int .i64 ans.2.2.2])/\Below w.heap.size w w')\/
 (ans.2.2.2=0/\∃v,e=.returned (.tuple #[.string (S06.bq ans.1),v,.int .i64 (ans.2.2.1+48:Nat),.int .i64 0])/\w'.ownsRow w.heap.size 52 1 v ans.2.1.length (ans.2.1.map wv)/\(∀ x∈ans.2.1,x<4294967296)/\Below w.heap.size w w')
theorem zf(w:World)(t:ByteArray)(p0 room:Nat)(hs:t.size<=2000000)(_:room<=262144)(pb:32<=p0)(HI:p0<=8*t.size):
 Calls prog 34 #[.string t,.int .i64 p0,.int .i64 room] w (lh w (bh (ai t.data.toList) room (8*t.size) p0 [] [])):=by
 have p2:t.data.toList.length=t.size:=rfl;have hG:(ai t.data.toList).length=8*t.size:=aq _;have H8:=aG t.data.toList;have hh:=aa fun(wx:World) (p n k:Nat) (hR:IsR p wx p t n) (hk:k<=64) (hZ:n+k<=8*t.size)=>fS p wx p t n k hR (by omega) hk hZ;have hi:=aa fun(wx:World) (p n k:Nat) (hR:IsR p wx p t n) (hk:k<=64) (hn:n<=8*t.size) (hZ:8*t.size<n+k)=>dX p wx p t n k hR (by omega) hk hn hZ;have hg:=aa fun(wx:World) (n:Nat) (hn:n<=8*t.size)=>fh wx t (n:Int) (by omega) (by omega) (by omega);have hu:=aa fun(wx:World) (p:Nat)=>BZ wx t (p:Int) (room:Int) hs;have hl:=aa fun(p k:Nat) (h:p+k<=8*t.size)=>nw H8 p k (by rw[hG];exact h);have ha:=aa fun(p:Nat) (h:(bR (ai t.data.toList) (p:Nat) (room:Nat)).2.2.2=0)=>ll (l:=ai t.data.toList) [] h;have ht:=aa fun(p:Nat)=>qR (ai t.data.toList) (p:Nat) (room:Nat);rw[hG]at ha;have H3:=aa hG;obtain⟨m,hm⟩:∃m,m=8*t.size:=⟨_,rfl⟩;have p7:m<=16000000:=by omega
 rw[<- hm]at hh hi hg hl ha H3 HI |-;generalize ai t.data.toList=bits at*;have h1:Hid (∀ (k:Nat) (w':World),k≠0->bh bits room m p0 [] []=([], [],0,k)->Below w.heap.size w w'->lh w (bh bits room m p0 [] []) (.returned (.tuple #[.string ⟨#[]⟩,.slice none 0 0,.int .i64 0,.int .i64 k])) w'):=aa fun k w' hk h hb=>by rw[h];exact .inl ⟨hk,rfl,hb⟩
 have h7:Hid (∀ (X:List UInt8) (Z:List Nat) (bit q:Nat) (v:Value) (w':World),q=bit+48->bh bits room m p0 [] []=(X,Z,bit,0)->w'.ownsRow w.heap.size 52 1 v Z.length (Z.map wv)->(∀ x∈Z,x<4294967296)->Below w.heap.size w w'->lh w (bh bits room m p0 [] []) (.returned (.tuple #[.string (S06.bq X),v,.int .i64 q,.int .i64 0])) w'):=aa fun X Z bit q v w' hq h ho hz hb=>by rw[h,hq];exact .inr ⟨rfl,v,rfl,ho,hz,hb⟩
 generalize lh w (bh bits room m p0 [] [])=PO at*;obtain⟨ANS,hc⟩:∃x,x=bh bits room m p0 [] []:=⟨_,rfl⟩;rw[<- hc]at h1 h7;have hI:=aa hc;clear hc H8 hG hm p2 hs;go_enter func34,ntmps34;go_wp2_with fail;go_step3;go_wp2_with fail;go_step3;go_wp2_with fail
 go_loopw [1,10,11] (fun sb so ss wx=>∃(L:List UInt8) (Z:List Nat) (bit:Nat),sb=.int .i64 bit/\wx.ownsRow w.heap.size 5 1 so L.length (L.map bv)/\wx.ownsRow w.heap.size 52 1 ss Z.length (Z.map wv)/\bit<=m/\105*Z.length+32<=bit/\L.length<=262144/\Below w.heap.size w wx/\
  Hid (ANS=bh bits room (m-Z.length) bit L Z/\∀x∈Z,x<4294967296)) (fun sb _ _ _=>m-(intOf sb).toNat)
 case atStart=>exact⟨[], [],p0,rfl,Ns _ _ _ _,Ns _ _ _ _,HI,by simp;omega,Nh _,Nj _ _,aa ⟨by rw[N5,Qf];exact hI.out,fun x hx=>absurd hx ar⟩⟩
 case round=>
  obtain⟨L,Z,bit,rfl,HP,hE,hC,hn,hL,hT,hJ⟩:=hrel;have HW:=aa HP;have hy:=aa hE;have hM:=aa hT;have HO:=hT.size;clear HP hE hT;obtain⟨n,hH⟩:∃n,n=Z.length:=⟨_,rfl⟩;have HN:=aa hH;rw[<- hH]at hn;obtain⟨f,hf⟩:∃f,m-n=f+1:=⟨m-n-1,by omega⟩;have hY:=hJ.out.1;rw[<- hH,hf,cT,H3.out]at hY;have h6:=aa hY;have HZ:=aa hJ.out.2;have HF:=aa hf;clear hJ hY hH hf;have hw:=aa (hg.out wr bit hC);go_wp2_with fail;refine hw.out.mono ?_;rintro e w5 ⟨rfl,H0⟩;obtain⟨p,hp⟩:∃p,p=wr.heap.size:=⟨_,rfl⟩;have HA:IsR p w5 p t bit:=by rw[H0,hp];exact iY wr wr.heap.size (ah _) t bit
  have HC:Below wr.heap.size wr w5:=bQ H0;have hN:=aa HA;have hK:=aa HC;have H4:=aa hp;rw[<- hp];clear H0 HA HC hp hw;by_cases e1:m<bit+48;·have N1:=aa (hi.out w5 p bit 48 hN.out (by omega) hC e1);have hj:=h6.out;rw[Ng e1]at hj;clear hh hi hg hl hu ha ht h7;have h5:=aa fun w' hb=>h1.out 10 w' (by decide) hj hb;clear hj h1;go_wp2_with fail;refine N1.out.mono ?_;rintro e w6 ⟨rfl,_,hB⟩;have h9:=aa (hM.out.trans ((hK.out.trans (by have:=hB.below;rw[H4.out]at this;exact this)).mono HO));clear hB;go_wp2_with fail;rw[Oz];refine ND (aI rfl _ _ _) rfl ?_;exact h5.out _ h9.out
  have N1:=aa (hh.out w5 p bit 48 hN.out (by omega) (by omega));have v1:=hl.out bit 48 (by omega);obtain⟨v,hv⟩:∃x,x=val ((bits.drop bit).take 48):=⟨_,rfl⟩;have hj:=h6.out;rw[Nf e1]at hj;rw[<- hv]at N1 v1 hj;have v1:v<281474976710656:=by simpa using v1
  clear hv h6;have HJ:=aa hj;clear hj;go_wp2_with fail;refine N1.out.mono ?_;rintro e w6 ⟨rfl,HB,hB⟩;have h3:=aa (show Below wr.heap.size wr w6 from hK.out.trans (by have:=hB.below;rw[H4.out]at this;exact this));have h9:=aa (hM.out.trans (h3.out.mono HO));have hP:=aa (ef HW.out h3.out);have h2:=aa (ef hy.out h3.out);have p4:=h9.out.size;have hO:=aa HB;clear HB hB N1 hK hN HW hy hM;by_cases e2:v=25779555029136;·have hj:=HJ.out;rw[Ng e2]at hj;have d2:((v:Int)==25779555029136)=true:=beq_iff_eq.2 (by omega);have c0:=ac hO.out.blk 0;have c2:=ac hO.out.blk 2;simp at c0 c2;obtain⟨q,hq⟩:∃x,x=bit+48:=⟨_,rfl⟩;have H2:=aa (j7 w6 p ((bit:Int)+48) c0 c2);have HK:(bit:Int)+48=(q:Int):=(by omega);rw[HK]at H2;have HS:=aa (lg hP.out);have p6:=HS.out;have h5:=aa (h7.out L Z bit q _ w6 hq hj h2.out HZ.out h9.out);clear HJ hh hi hg hl hu ha ht h1 h7 hj e2 e1 c0 c2 hq HK;go_wp2_with fail;refine H2.out.mono ?_;rintro e w7 ⟨rfl,rfl⟩;go_wp2_with fail;rw[Oz];refine ND (aI rfl _ _ _) rfl ?_;exact h5.out
  have hj:=HJ.out;rw[Nf e2]at hj;have d2:((v:Int)==25779555029136)=false:=Qw (by omega);by_cases e3:v≠54156738319193;·rw[Ng e3]at hj;have d3:((v:Int)==54156738319193)=false:=Qw (by omega);have h5:=aa (h1.out 130 w6 (by decide) hj h9.out);clear HJ hh hi hg hl hu ha ht h1 h7 hj e2 e1 e3;go_wp2_with fail;rw[Oz];refine ND (aI rfl _ _ _) rfl ?_;exact h5.out
  rw[Nf e3]at hj;have d3:((v:Int)==54156738319193)=true:=beq_iff_eq.2 (by omega);have HT:=hu.out w6 bit;have hQ:=ha.out bit;have hS:=ht.out bit;clear HJ;generalize bR bits (bit:Nat) (room:Nat)=ans at*;obtain⟨X,sm,bt,er⟩:=ans;have H5:Hid (Calls prog 73 #[.string t,.int .i64 bit,.int .i64 room] w6 fun e w'=>e=.returned (.tuple #[.string (S06.bq X),.int .u32 sm,.int .i64 bt,.int .i64 er])/\Below w6.heap.size w6 w'):=aa HT;have hX:X.length<=262144:=hS.1;have p3:sm<4294967296:=hS.2;dsimp only at hj hQ;have pf:(S06.bq X).size=X.length:=rfl;have HQ:(S06.bq X).data.toList=X:=by rw[nr]
  have p1:=aa HQ;have h6:=aa hj;have h4:=aa hQ;clear hj hh hi hg hl hu ha ht HT hQ hS e2 e3 HQ;go_wp2_with fail;refine H5.out.mono ?_;rintro e w8 ⟨rfl,hF⟩;have he:=aa (ap h9.out hF);have hA:=aa (ef hP.out hF);have h8:=aa (ef h2.out hF);clear hF h9 hP h2 hO h3 H5;by_cases e4:er≠0;·have d4:=cG e4;have hj:=h6.out;rw[Ng e4]at hj;have h5:=aa (h1.out er w8 e4 hj he.out);clear hj h1 h7 e4 h6 h4;go_wp2_with fail;rw[Oz];refine ND (aI rfl _ _ _) rfl ?_;exact h5.out
  have d4:=eE e4;have hj:=h6.out;rw[Nf e4]at hj;obtain⟨g1,g2,_⟩:=h4.out (Decidable.not_not.1 e4);obtain⟨A8,c8,rfl,p5,_⟩:=ak hA.out;obtain⟨z,hz⟩:∃z,z=262144-L.length:=⟨_,rfl⟩;have pg:(262144:Int)-(L.length:Int)=(z:Int):=by omega
  generalize S06.bq X=TX at*;by_cases e5:262144<L.length+X.length;·have d5:decide ((z:Int)<(TX.size:Int))=true:=aX (by omega);have d6:decide (z<TX.size)=true:=aX (by omega);have d7:z<TX.size:=(by omega);rw[Ng e5]at hj;have h5:=aa (h1.out 3 w8 (by decide) hj he.out);clear hj h1 h7 e4 h6 h4 hz;go_wp2_with fail;rw[Oz];refine ND (aI rfl _ _ _) rfl ?_;exact h5.out
  ·have d5:decide ((z:Int)<(TX.size:Int))=false:=aD (by omega);have d6:decide (z<TX.size)=false:=aD (by omega);have d7:¬z<TX.size:=(by omega);rw[Nf e5]at hj;obtain⟨v9,w9,HL,HG,hV⟩:=sV w8 w.heap.size _ L hA.out TX (by omega) he.out.size;have h0:=nm h8.out hA.out (by decide) hV;have HD:=jg hA.out he.out.size hV;have hr:=aa (he.out.trans HD);obtain⟨va,wa,HM,HH,hW⟩:=xk w9 w.heap.size _ Z h0 sm (by rw[<- HN.out];omega) hr.out.size;have hD:=HG.alloc (.cells #[.int .u32 sm] 52);have H1:=nm hD (h0.alloc (.cells #[.int .u32 sm] 52)) (by decide) hW;have HE:=hr.out.trans (((Nj w.heap.size w9).alloc hr.out.size _).trans (jg (h0.alloc (.cells #[.int .u32 sm] 52)) (by simp;have:=hr.out.size;omega) hW));rw[p1.out]at H1;have HV:=aa HL;have HX:=aa HM;have HY:=aa H1;have HU:=aa HH;have HR:=aa HE;have HJ:=aa hj;clear hj h1 h7 e4 h6 h4 hz HG hD h0 H1 HH HE hV hW HD HL HM hA h8 he hr;(go_wp2_with (at_builtin;first|refine Lib.wpList_append_run _ rfl _ _ 39 9 rfl _ (.string TX) rfl rfl v9 w9 HV.out ?_|refine Lib.wpList_append_run _ rfl _ _ 46 46 rfl _ (.slice (some ⟨w9.heap.size,0,none⟩) 1 1) rfl rfl va wa HX.out ?_));go_roundw;case rel=>
    refine⟨L++X,Z++ [sm],bt,rfl,HY.out,HU.out,g2,?_,by rw[Nc];omega,HR.out,aa ⟨?_,?_⟩⟩;·rw[Nc,NM,<-HN.out];omega
    ·rw[HJ.out,Nc,NM,<-HN.out,show m-(n+1)=f by have:=HF.out;omega]
    ·intro x hx;rcases List.mem_append.1 hx with hx|hx;·exact HZ.out x hx
     ·rw[List.mem_singleton.1 hx];exact p3
   case measure=>simp[intOf];omega
attribute [local go_sem] Oper.semAt_some
theorem J0(w:World)(B:Nat)(v:Value)(ls:List (List Nat))(l:List Nat)(h:Pcs w B v ls)(hB:B<=w.heap.size)(hn:ls.length<=1000000)(hl:am l):
 ∃v' w',(Builtin.append_ #[45,45] 45 #[v,.slice (some ⟨w.heap.size,0,none⟩) 1 1]).run prog (w.alloc (.cells #[.string ⟨(aF l).toArray⟩,.int .i64 l.length] 43))=.ok v' w'/\Pcs w' B v' (ls++ [l])/\(w.alloc (.cells #[.string ⟨(aF l).toArray⟩,.int .i64 l.length] 43)).grownBy w' v.ownBlock:=by
 obtain⟨i3,h3,h0,h5,h6⟩:=NY Tryz.infoBits
 obtain⟨v',w',h1,h2,h4,_⟩:=Rp (P:=prog) (w.alloc (.cells #[.string ⟨(aF l).toArray⟩,.int .i64 l.length] 43)) B 45 45 43 i3 _ 2 24 underlying45 h3 h0 h5 h6 rfl (by decide) v ls.length (cR ls) (h.own.alloc _)
  ⟨w.heap.size,0,none⟩ 1 1 [.string ⟨(aF l).toArray⟩,.int .i64 l.length] rfl (su w _ _ _)
  (fun u hu=>by
    simp at hu
    rcases hu with rfl|rfl <;>rfl) (by unfold maxLen;omega) (by omega) (by simp;omega)
 refine⟨v',w',h1,⟨?_,fun x hx=> ?_⟩,h4⟩;·rw[kx,Nc,NM];exact h2
 ·rcases List.mem_append.1 hx with hx|hx;·exact h.bit x hx
  ·rw[List.mem_singleton.1 hx];exact hl
theorem cN{w w':World}(hb:Below w.heap.size w w'):w.grownBy w' none:=⟨hb.os,hb.tape,hb.output,hb.size,fun j hj _=>hb.block j hj⟩
theorem jz{w w':World}(hb:Below w.heap.size w w'):KeepsOthers w w':=KeepsOthers.of_grownBy (cN hb) (fun j o e=>by cases e)
theorem nX{w w':World}{B k n:Nat}{e:TypeId}{v:Value}{xs:List Value}(h:w.ownsRow B e k v n xs)(hg:w.grownBy w' v.ownBlock):KeepsOthers w w':=
 KeepsOthers.of_grownBy hg fun j o ej hj=>by
  obtain⟨c,f,e1⟩:=Lib.ownsRow_kind h j ej
  rw[e1]at hj
  cases hj
  rfl
theorem ut(most:Int):∀(k:Nat) (s:List UInt8),(gx most k s).length<=k
 | 0,_=>Nm _
 | k+1,s=>by
  by_cases h:s= [];·rw[h,n3];exact Nh _
  ·rw[mI most k s h,Nv];have:=ut most k (s.drop (jv s most));omega
structure gg (n₀ B:Nat) (w0:World) (s:ByteArray) (most:Int) (ls:List (List Nat)) (zs:List Nat) (W:World):Prop where
 ex:∃vp vs,Boxed W B 45 vp/\Boxed W (B+1) 46 vs/\Pcs W n₀ vp ls/\W.ownsRow n₀ 52 1 vs zs.length (zs.map wv)
 b1:Boxed W (B+2) 9 (.string s)
 b2:Boxed W (B+2+1) 3 (.int .i64 most)
 low:Below n₀ w0 W
theorem gg.grown{n₀ B:Nat}{w0 W W':World}{s:ByteArray}{most:Int}{ls:List (List Nat)}{zs:List Nat}(h:gg n₀ B w0 s most ls zs W){row:Option Nat}(hn:n₀<=w0.heap.size)(hg:W.grownBy W' row)(hr:∀r,row=some r->n₀<=r/\∃o:Obj,W.heap[r]? =some o/\o.isCells=false):gg n₀ B w0 s most ls zs W':=by
 obtain⟨⟨vp,vs,hp,hs,pc,rw1⟩,h1,h2,h3⟩:=h;have bx:∀{b:Nat} {t:TypeId} {v:Value},Boxed W b t v->Boxed W' b t v:=fun {b t v} hb=>hb.kept hg fun e=>by obtain⟨_,o,ho,hc⟩:=hr b e.symm;rw[show W.heap[b]? =_ from hb]at ho;cases ho;cases hc
 have rx:∀{k n:Nat} {e:TypeId} {v:Value} {xs:List Value},W.ownsRow n₀ e k v n xs->W'.ownsRow n₀ e k v n xs:=fun {k n e v xs} ho=>ho.kept hg (by
  rcases ho.2 with⟨rfl,_⟩|⟨g,cap,cur,rfl,_,h4,_⟩
  ·exact .inl rfl
  ·refine .inr fun e'=> ?_
   obtain⟨_,o,h0,hc⟩:=hr g (by simpa [Value.ownBlock]using e'.symm)
   rw[h4]at h0
   cases h0
   cases hc)
 exact⟨⟨vp,vs,bx hp,bx hs,⟨rx pc.own,pc.bit⟩,rx rw1⟩,bx h1,bx h2,h3.grown hg (NH hn h3.size) (fun k e=>(hr k e).1)⟩
theorem vS{W:World}{b:Nat}{t:TypeId}{v v':Value}(h:Boxed W b t v)(h':Boxed W b t v'):v=v':=by have h2:=(show W.heap[b]? =_ from h).symm.trans h';simpa using h2
theorem gg.low'{n₀ B:Nat}{w0 W W':World}{s:ByteArray}{most:Int}{ls:List (List Nat)}{zs:List Nat}(h:gg n₀ B w0 s most ls zs W)(hn:n₀<=w0.heap.size)(hb:Below W.heap.size W W'):gg n₀ B w0 s most ls zs W':=h.grown hn (cN hb) fun r e=>by cases e
theorem gg.pieces{n₀ B:Nat}{w0 W:World}{s:ByteArray}{most:Int}{ls:List (List Nat)}{zs:List Nat}(h:gg n₀ B w0 s most ls zs W)(hn:n₀<=w0.heap.size)(hB:n₀<=B){vp:Value}(hv:Boxed W B 45 vp)(L:List Nat)(hL:am L)(hl:ls.length<=1000000):
 ∃A n c W4,(Builtin.append_ #[45,45] 45 #[vp,.slice (some ⟨W.heap.size,0,none⟩) 1 1]).run prog (W.alloc (.cells #[.string ⟨(aF L).toArray⟩,.int .i64 L.length] 43))=.ok (.slice A n c) W4/\Boxed W4 B 45 vp/\
  gg n₀ B w0 s most (ls++ [L]) zs (W4.setCell ⟨B,0,none⟩ (.slice A n c))/\KeepsOthers W (W4.setCell ⟨B,0,none⟩ (.slice A n c)):=by
 obtain⟨⟨vp',vs,hp,hs,pc,rw1⟩,h1,h2,h3⟩:=h;obtain rfl:=vS hp hv;have h4:n₀<=W.heap.size:=NH hn h3.size;obtain⟨v',W4,hr,pc4,hg⟩:=J0 W n₀ vp' ls L pc h4 hl hL;obtain⟨A,c,rfl,_,_,_⟩:=ak pc4.own;have bx:∀{b:Nat} {t:TypeId} {v:Value},t≠43->Boxed W b t v->Boxed W4 b t v:=fun ht hb=>(hb.alloc (.cells #[.string ⟨(aF L).toArray⟩,.int .i64 L.length] 43)).kept hg ((hb.alloc (.cells #[.string ⟨(aF L).toArray⟩,.int .i64 L.length] 43)).not_row ht (pc.own.alloc (.cells #[.string ⟨(aF L).toArray⟩,.int .i64 L.length] 43)));have h0:=bx (by decide) hp;have h7:=bx (by decide) hs;have h5:=bx (by decide) h1;have h6:=bx (by decide) h2;have rw4:=nm (rw1.alloc (.cells #[.string ⟨(aF L).toArray⟩,.int .i64 L.length] 43)) (pc.own.alloc _) (by decide) hg;refine⟨A,_,c,W4,hr,h0,⟨⟨_,vs,h0.set _,h7.other (by omega) _,⟨pc4.own.kept (grownBy_setCell' W4 B _) (.inr (h0.not_row (by decide) pc4.own).symm),pc4.bit⟩,rw4.kept (grownBy_setCell' W4 B _) (.inr (h0.not_row (by decide) rw4).symm)⟩,h5.other (by omega) _,h6.other (by omega) _,?_⟩,?_⟩;·exact((h3.alloc h4 _).trans (jg (pc.own.alloc _) (by simp;omega) hg)).setCell (p:=⟨B,0,none⟩) hB _
 ·exact((KeepsOthers.alloc W _).trans (nX (pc.own.alloc _) hg)).trans (KeepsOthers.setCell _ _ _)
theorem gg.sums{n₀ B:Nat}{w0 W:World}{s:ByteArray}{most:Int}{ls:List (List Nat)}{zs:List Nat}(h:gg n₀ B w0 s most ls zs W)(hn:n₀<=w0.heap.size)(hB:n₀<=B){vs:Value}(hv:Boxed W (B+1) 46 vs)(x:Nat)(hl:zs.length<=1000000):
 ∃A n c W4,(Builtin.append_ #[46,46] 46 #[vs,.slice (some ⟨W.heap.size,0,none⟩) 1 1]).run prog (W.alloc (.cells #[.int .u32 x] 52))=.ok (.slice A n c) W4/\Boxed W4 (B+1) 46 vs/\
  gg n₀ B w0 s most ls (zs++ [x]) (W4.setCell ⟨B+1,0,none⟩ (.slice A n c))/\KeepsOthers W (W4.setCell ⟨B+1,0,none⟩ (.slice A n c)):=by
 obtain⟨⟨vp,vs',hp,hs,pc,rw1⟩,h1,h2,h3⟩:=h;obtain rfl:=vS hs hv;have h4:n₀<=W.heap.size:=NH hn h3.size;obtain⟨v',W4,hr,ow4,hg⟩:=xk W n₀ vs' zs rw1 x hl h4;obtain⟨A,c,rfl,_,_,_⟩:=ak ow4;have bx:∀{b:Nat} {t:TypeId} {v:Value},t≠52->Boxed W b t v->Boxed W4 b t v:=fun ht hb=>(hb.alloc (.cells #[.int .u32 x] 52)).kept hg ((hb.alloc (.cells #[.int .u32 x] 52)).not_row ht (rw1.alloc (.cells #[.int .u32 x] 52)));have h7:=bx (by decide) hp;have h0:=bx (by decide) hs;have h5:=bx (by decide) h1;have h6:=bx (by decide) h2;have pc4:=nm (pc.own.alloc (.cells #[.int .u32 x] 52)) (rw1.alloc _) (by decide) hg;refine⟨A,_,c,W4,hr,h0,⟨⟨vp,_,h7.other (by omega) _,h0.set _,⟨pc4.kept (grownBy_setCell' W4 (B+1) _) (.inr (h0.not_row (by decide) pc4).symm),pc.bit⟩,ow4.kept (grownBy_setCell' W4 (B+1) _) (.inr (h0.not_row (by decide) ow4).symm)⟩,h5.other (by omega) _,h6.other (by omega) _,?_⟩,?_⟩;·exact((h3.alloc h4 _).trans (jg (rw1.alloc _) (by simp;omega) hg)).setCell (p:=⟨B+1,0,none⟩) (by show n₀<=B+1;omega) _
 ·exact((KeepsOthers.alloc W _).trans (nX (rw1.alloc _) hg)).trans (KeepsOthers.setCell _ _ _)
theorem nz{F:Fence}{n:Nat}{P:Program}(w:World){ops:Array Oper}{rest:List Oper}{o:Oper}{a:Act}{Q:Exit->Act->World->Prop}
 (hg:o.guard=none) (s x:Operand) (t u:TypeId) (h0:o.op=.call { callee:=.builtin .append,args:=#[s,x],argTypes:=#[t,u] }) (vs vx:Value) (hs:a.eval s=vs) (hx:a.eval x=vx) (v':Value) (w':World)
 (hr:(Builtin.append_ #[t,u] o.type #[vs,vx]).run P w=.ok v' w') (h:wpListIn F n P ops Q rest (a.put o.dst v') w'):wpListIn F n P ops Q (o::rest) a w:=by
 refine wpListIn_plain hg fun K hK=> ?_;unfold Oper.wpIn;refine⟨?_,?_⟩;·simp[Oper.about,h0,resolve,Target.leads,Sem.run_pure]
 ·rw[Oper.semAt_plain F _ _ (by rw[h0];intro c hc;cases hc)];simp[execOp,h0,resolve,invoke,builtin,hs,hx,hr,Result.andThen];exact hK _ _ h
theorem eV{F:Fence}{n:Nat}{P:Program}{ops:Array Oper}{o:Oper}{a:Act}{w w':World}{K:Act->World->Prop}{Q:Exit->Act->World->Prop}{E:Prop}{v':Value}(hg:o.guard=none)(s x:Operand)(t u:TypeId)
 (h0:o.op=.call { callee:=.builtin .append,args:=#[s,x],argTypes:=#[t,u] }) (vs vx:Value) (hs:a.eval s=vs) (hx:a.eval x=vx)
 (hr:(Builtin.append_ #[t,u] o.type #[vs,vx]).run P w=.ok v' w') (h:K (a.put o.dst v') w'):if Region.wanted o (yielded ops a.tmps)=true then Oper.wpIn F n P o a w K Q else E:=by
 have hw:Region.wanted o (yielded ops a.tmps)=true:=by simp[Region.wanted,hg]
 rw[Ng hw];unfold Oper.wpIn;refine⟨?_,?_⟩;·simp[Oper.about,h0,resolve,Target.leads,Sem.run_pure]
 ·rw[Oper.semAt_plain F _ _ (by rw[h0];intro c hc;cases hc)];simp[execOp,h0,resolve,invoke,builtin,hs,hx,hr,Result.andThen];exact h
structure gG (n₀ B D:Nat) (w0:World) (vp vs v:Value) (ls:List (List Nat)) (W:World):Prop where
 p:Boxed W B 45 vp
 q:Boxed W (B+1) 46 vs
 pc:Pcs W n₀ v ls
 low:Below n₀ w0 W
 d:W.heap[D]? =some (.deferred (some []))
 n:n₀<=w0.heap.size
section
variable {n₀ B D:Nat} {w0 W W':World} {vp vs v:Value} {ls:List (List Nat)} (h:gG n₀ B D w0 vp vs v ls W)
include h
theorem gG.below(hb:Below W.heap.size W W'):gG n₀ B D w0 vp vs v ls W':=
 ⟨h.p.kept (cN hb) (by simp),h.q.kept (cN hb) (by simp),h.pc.below hb,h.low.trans (hb.mono (NH h.n h.low.size)),(jz hb).same D _ h.d rfl,h.n⟩
theorem gG.alloc(o:Obj):gG n₀ B D w0 vp vs v ls (W.alloc o):=h.below ((Nj _ W).alloc (ah _) o)
theorem gG.far(g:Nat)(hg:B+1<g)(x y:Value):((W.setCell ⟨g,0,none⟩ x).setCell ⟨g,1,none⟩ y).cell? ⟨B,0,none⟩=some vp/\((W.setCell ⟨g,0,none⟩ x).setCell ⟨g,1,none⟩ y).cell? ⟨B+1,0,none⟩=some vs:=
 ⟨(ac (mh (show Blk W B 45 #[vp]from h.p) (by omega)) 0).trans rfl,(ac (mh (show Blk W (B+1) 46 #[vs]from h.q) (by omega)) 0).trans rfl⟩
theorem gG.fin(g:Nat)(hg:n₀<=g)(hD:n₀<=D)(x y:Value):((W.setCell ⟨g,0,none⟩ x).setCell ⟨g,1,none⟩ y).heap[D]? =some (.deferred (some []))/\∀o,Below n₀ w0 (((W.setCell ⟨g,0,none⟩ x).setCell ⟨g,1,none⟩ y).putObj D o):=by have hl:Below n₀ w0 ((W.setCell ⟨g,0,none⟩ x).setCell ⟨g,1,none⟩ y):=(h.low.setCell (p:=⟨g,0,none⟩) hg x).setCell (p:=⟨g,1,none⟩) hg y;exact⟨((KeepsOthers.setCell W _ x).trans (KeepsOthers.setCell _ _ y)).same D _ h.d rfl,fun o=>hl.grown (grownBy_putObj' _ D o) (NH h.n hl.size) (fun k e=>by cases e;exact hD)⟩
theorem gG.fin0(hD:n₀<=D):∀o,Below n₀ w0 (W.putObj D o):=fun o=>h.low.grown (grownBy_putObj' _ D o) (NH h.n h.low.size) (fun k e=>by cases e;exact hD)
theorem gG.cells:W.cell? ⟨B,0,none⟩=some vp/\W.cell? ⟨B+1,0,none⟩=some vs:=⟨h.p.cell,h.q.cell⟩
theorem gG.last(a:Nat)(l:List Nat)(hl:am l)(hn:ls.length<=1000000)(ha:Blk W a 43 #[.string ⟨(aF l).toArray⟩,.int .i64 l.length]):∃v' W4,(Builtin.append_ #[45,45] 45 #[v,.slice (some ⟨a,0,none⟩) 1 1]).run prog W=.ok v' W4/\
 gG n₀ B D w0 vp vs v' (ls++ [l]) W4/\(∀ {g:Nat} {t:TypeId} {cs:Array Value},(∀ k,v.ownBlock=some k->k≠g)->Blk W g t cs->Blk W4 g t cs)/\W.heap.size<=W4.heap.size:=by
 have h0:n₀<=W.heap.size:=NH h.n h.low.size;obtain⟨i3,h3,h4,h5,h6⟩:=NY Tryz.infoBits
 obtain⟨v',W4,h1,h2,hg,_⟩:=Rp (P:=prog) W n₀ 45 45 43 i3 _ 2 24 underlying45 h3 h4 h5 h6 rfl (by decide) v ls.length (cR ls) h.pc.own
  ⟨a,0,none⟩ 1 1 [.string ⟨(aF l).toArray⟩,.int .i64 l.length] rfl (fun j u hu=>by
    rw[OX,N8,ac ha]
    simpa using hu)
  (fun u hu=>by
    simp at hu
    rcases hu with rfl|rfl <;>rfl) (by unfold maxLen;omega) (by omega) h0
 have bx:∀{b:Nat} {t:TypeId} {u:Value},t≠43->Boxed W b t u->Boxed W4 b t u:=fun ht hb=>hb.kept hg (hb.not_row ht h.pc.own);refine⟨v',W4,h1,⟨bx (by decide) h.p,bx (by decide) h.q,⟨?_,fun x hx=> ?_⟩,h.low.trans (jg h.pc.own h0 hg),(nX h.pc.own hg).same D _ h.d rfl,h.n⟩,fun {g t cs} hk hb=> ?_,hg.size⟩;·rw[kx,Nc,NM];exact h2
 ·rcases List.mem_append.1 hx with hx|hx;·exact h.pc.bit x hx
  ·rw[List.mem_singleton.1 hx];exact hl
 ·exact(hg.block g (az hb) (fun e=>hk g e.symm rfl)).trans hb
end
theorem IZ{K:Nat}(hK:K<=8192)(HO:∀(wx:World) (t:ByteArray),t.size<=K->Calls prog 20 #[.string t] wx (aZ wx (eM t.data.toList)))
 (w:World) (s:ByteArray) (lv:Nat) (most:Int) (h:jR lv most) (hs:s.size<=K):Calls prog 11 #[.string s,.int .i64 lv,.int .i64 most] w (iw w (l4 s.data.toList lv most)):=by
 have s5:s.data.toList.length=s.size:=rfl;obtain⟨h1,h2,h3,h4⟩:=id h;have H4:l4 s.data.toList lv most=(aF (bf s.data.toList lv most),0):=by unfold l4;rw[Nf (Pe h),Nf (by rw[s5];omega),Nn]
 have h7:=mi w most s.data.toList.length s.data.toList;have hp:bf s.data.toList lv most=ai [66,90,104,UInt8.ofNat (48+lv)]++(cB most s.data.toList.length s.data.toList).1++xP (S02.cn (cB most s.data.toList.length s.data.toList).2):=rfl;have hz:=lL most s.data.toList.length s.data.toList;rw[nA]at hp hz h7;dsimp only at hp hz h7;have HD:=pu lv;have rx:=aa (vY w lv (by omega));rw[Nn]at h4;have d0:decide ((lv:Int)<1)=false:=aD (by omega);have d1:decide ((9:Int)<(lv:Int))=false:=aD (by omega);have d2:decide (most<1)=false:=aD (by omega);have d3:decide ((iH lv:Int)<most)=false:=aD (by omega);have d4:decide ((262144:Int)<(s.size:Int))=false:=aD (by omega);have t1:most<=262144:=by omega
 have t0:1<=most:=h3;have hw:am (ai [66,90,104,UInt8.ofNat (48+lv)]):=aG _;have HR:=iT lv;have HM:=aa fun wx=>xI wx lv (by omega) (by omega);obtain⟨H,hH⟩:∃H,H=ai [66,90,104,UInt8.ofNat (48+lv)]:=⟨_,rfl⟩;rw[<- hH]at hp hw HR HM;obtain⟨Z,hZ⟩:∃Z,Z=(gx most s.data.toList.length s.data.toList).map S02.bW:=⟨_,rfl⟩;rw[<- hZ]at hp hz;obtain⟨PS,HS⟩:∃PS,PS=(gx most s.data.toList.length s.data.toList).map (fun p=>(eM p).1):=⟨_,rfl⟩;rw[<- HS]at hp h7;obtain⟨z,HY⟩:∃z,z=S02.cn Z:=⟨_,rfl⟩;have qs:z<4294967296:=by rw[HY];exact S02.lK Z hz
 rw[<- HY]at hp;have r2:=aa fun wx=>mj wx z qs;have H2:am (xP z):=(aB _ _).append (aB _ _);have pb:=re z;generalize xP z=E at*;obtain⟨TH,ps⟩:∃TH:ByteArray,TH=⟨(aF H).toArray⟩:=⟨_,rfl⟩;obtain⟨TE,po⟩:∃TE:ByteArray,TE=⟨(aF E).toArray⟩:=⟨_,rfl⟩;have hn:((H::PS)++ [E]).flatten=bf s.data.toList lv most:=by rw[hp];simp
 obtain⟨J,hJ⟩:∃J:ByteArray,J=⟨(aF ((H::PS)++ [E]).flatten).toArray⟩:=⟨_,rfl⟩;have HP:Hid (∀ w',Below w.heap.size w w'->iw w (l4 s.data.toList lv most) (.returned (.tuple #[.string J,.int .i64 0])) w'):=aa fun w' hb=>by rw[H4,<-hn];refine⟨?_,hb⟩;rw[hJ];rfl
 generalize iw w (l4 s.data.toList lv most)=PO at*;rw[<- ps,HR]at HM;rw[<- po,pb]at r2;have HH:=aa (And.intro hw HR);have HE:=aa (And.intro H2 pb);have sv:=aa ps;have st:=aa po;have HJ:=aa hJ;have sr:=aa HS;have HZ:=aa hZ;have H1:=aa hz;have rM:=aa HY;have rb:=aa h7;have HO:=aa HO;have r1:=aa fun(wx:World) (t:ByteArray) (ht:t.size<=8192)=>sX wx t (by omega)
 have hN:Hid (PS.length<=8192/\Z.length=PS.length):=aa (by
  have hl:=ut most s.data.toList.length s.data.toList
  rw[HS,hZ,NC,NC]
  exact⟨by omega,rfl⟩)
 have hn₀:w.heap.size<=w.heap.size:=Nm _;clear H4 hp hz h7 hH hZ HS HY H2 pb hw HR ps po hn hJ HD h h1 h2 h3;refine(callsIn_wide (n:=9)).1 (callsIn_of_wp_marks func11 rfl trivial ?_ rfl);refine wpIn_wide.2 ?_;simp only[ntmps11,PM,Nv,N5,Nat.reduceAdd,Nat.reduceSub,Array.replicate_succ,Array.replicate_zero,List.push_toArray,List.append_toArray,NX,Od];go_wp2_with fail;refine rx.out.mono ?_;rintro e w1 ⟨rfl,rfl⟩;clear rx;go_wp2_with fail;refine(HM.out w1).mono ?_;rintro e w2 ⟨rfl,H5⟩;clear HM;go_wp2_with fail;obtain⟨wa,HF⟩:∃wa,wa=w2.alloc (.cells #[.string TH,.int .i64 32] 43):=⟨_,rfl⟩;obtain⟨wb,hW⟩:∃wb,wb=wa.alloc (.cells #[.slice (some ⟨w2.heap.size,0,none⟩) 1 1] 45):=⟨_,rfl⟩;obtain⟨w4,hC⟩:∃w4,w4=wb.alloc (.cells #[.slice none 0 0] 46):=⟨_,rfl⟩;obtain⟨B,hB⟩:∃B,B=w2.heap.size+1:=⟨_,rfl⟩;have qa:wa.heap.size=B:=by rw[HF,hB];simp
 have qb:wb.heap.size=B+1:=by rw[hW,OE,qa]
 have HW:w4.heap.size=B+2:=by rw[hC,OE,qb]
 have s6:w1.heap.size<=w2.heap.size:=H5.size;have ha:w1.heap.size<=B:=by omega
 have q7:Pcs wa w1.heap.size (.slice (some ⟨w2.heap.size,0,none⟩) 1 1) [H]:=by have h:=Ey w2 w1.heap.size s6 H HH.out.1;rw[HH.out.2,<-sv.out]at h;rw[HF];exact h
 have HV:Below w1.heap.size w1 w4:=by rw[hC,hW,HF];exact(((H5.alloc s6 _).alloc (by simp;omega) _).alloc (by simp;omega) _)
 have sb:Boxed wb B 45 (.slice (some ⟨w2.heap.size,0,none⟩) 1 1):=by rw[hW,<-qa];exact Boxed.new wa _ _
 have sa:Boxed w4 (B+1) 46 (.slice none 0 0):=by rw[hC,<-qb];exact Boxed.new wb _ _
 rw[<- HF,<-hW,<-hC,<-hB];refine(My w4 s most).mono ?_;rintro e w5 ⟨rfl,he⟩;rw[HW];obtain⟨wc,hq⟩:∃wc,wc=w4.alloc (.cells #[.string s] 9):=⟨_,rfl⟩;have ql:wc.heap.size=B+2+1:=by rw[hq,OE,HW]
 rw[<- hq]at he;have tM:w5.heap.size=B+2+1+1:=by rw[he,OE,ql]
 have pf:gg w1.heap.size B w1 s most [H] [] w5:=by
  refine⟨⟨.slice (some ⟨w2.heap.size,0,none⟩) 1 1,.slice none 0 0,?_,?_,?_,Ns _ _ _ _⟩,?_,?_,?_⟩;·rw[he,hq,hC];exact((sb.alloc _).alloc _).alloc _
  ·rw[he,hq];exact(sa.alloc _).alloc _
  ·have h:Pcs w5 w1.heap.size (.slice (some ⟨w2.heap.size,0,none⟩) 1 1) [H]:=(by rw[he,hq,hC,hW];exact⟨(((q7.own.alloc _).alloc _).alloc _).alloc _,q7.bit⟩);exact h
  ·have h:Boxed wc (B+2) 9 (.string s):=(by rw[hq,<-HW];exact Boxed.new w4 _ _);rw[he];exact h.alloc _
  ·rw[he,<-ql];exact Boxed.new wc _ _
  ·rw[he,hq];exact(HV.alloc HV.size _).alloc (by simp;have:=HV.size;omega) _
 have p3:=aa pf;have t2:w1.heap.size<=w5.heap.size:=pf.low.size;clear HF hW hC he hq qa qb HW ql q7 HV sb sa pf H5 hB;go_wp2_with fail;refine(wpIn_wide (n:=9)).1 ?_
 refine wpIn_rangeFunc_ownF rfl (by omega) (gf:=42) (lb:=#[.pointer (some ⟨B+2,0,none⟩),.pointer (some ⟨B+2+1,0,none⟩)]) rfl trivial (enters_of func42 (by kernel_rfl) rfl)
  (encs:=fun x:vF K=>#[.string x.1]) (Kp:=sC (B+2)) (S:=MS most s.data.toList) (Sp:=fun _=>True) (N:=K) (w0:=w5) ?seq (fun h k=>h.trans k) ?kb (Nj _ _) (fun _=>rfl)
  (fun pre W=>gg w1.heap.size B w1 s most (H::pre.map fun x=>(eM x.1.data.toList).1) (pre.map fun x=>S02.bW x.1.data.toList) W) (fun _ _ _=>False) ?own (fun _ _ _ _ _ h _ _=>h) p3.out ?a1 ?assign ?body ?done ?stop
 case assign=>
  intro l x W K hK;gi_wp2
  exact hK
 case seq=>intro l J Jx W hb hJ ts hY h0;have q0:B+2<w5.heap.size:=(by omega);have q2:B+2+1<w5.heap.size:=(by omega);exact zD (by omega) 8 (by omega) l (B+2) s most hs t0 t1 J Jx W hJ hY ((hb.block _ q0).trans p3.out.b1) ((hb.block _ q2).trans p3.out.b2) h0
 case kb=>
  intro W l o o' hl ho hc tS k hk;have tv:k<w5.heap.size:=by rcases hk with rfl|rfl <;>omega
  exact World.putObj_heap_other (by omega)
 case own=>intro pre W W' row hI hg hr;exact hI.grown (ah _) hg fun r e=>⟨by have:=(hr r e).1;omega,(hr r e).2⟩
 case stop=>intro D c pre W _ _ hF _;exact hF.elim
 case body=>
  intro l pre x W hI h7;have tn:Fence.wide.fn 20:=trivial;have tq:Fence.wide.fn 21:=trivial;obtain⟨ta,u0⟩:=x.2;have HX:Hid (gg w1.heap.size B w1 s most ((H::pre.map fun x=>(eM x.1.data.toList).1)++ [(eM x.1.data.toList).1]) (pre.map (fun x=>S02.bW x.1.data.toList)++ [S02.bW x.1.data.toList])=gg w1.heap.size B w1 s most (H::(pre++ [x]).map fun x=>(eM x.1.data.toList).1) ((pre++ [x]).map fun x=>S02.bW x.1.data.toList)):=aa (by simp);have qv:=aa hI.b1;have r0:=aa hI.b2;have FIN:Hid (∀ W9,KeepsOthers W W9->gg w1.heap.size B w1 s most ((H::pre.map fun x=>(eM x.1.data.toList).1)++ [(eM x.1.data.toList).1]) (pre.map (fun x=>S02.bW x.1.data.toList)++ [S02.bW x.1.data.toList]) W9->KeepsOthers W W9/\sC (B+2) W W9/\gg w1.heap.size B w1 s most (H::(pre++ [x]).map fun x=>(eM x.1.data.toList).1) ((pre++ [x]).map fun x=>S02.bW x.1.data.toList) W9):=aa fun W9 h1 h2=>by
   refine⟨h1,fun k hk=> ?_,Eq.mp (congrFun HX.out _) h2⟩;rcases hk with rfl|rfl;·exact h2.b1.trans qv.out.symm
   ·exact h2.b2.trans r0.out.symm
  clear HX qv r0;have hX:=aa fun wx=>callsIn_wide (n:=6).2 (HO.out wx x.1 ta);have HL:=aa fun wx=>callsIn_wide (n:=6).2 (r1.out wx x.1 (by omega));obtain⟨vp,_,hT,_⟩:=hI.ex;have H8:=vM x.1.data.toList;unfold aZ at hX;have HI:=aa hI;have HQ:=aa hT;have p2:=aa H8;clear hI hT H8;obtain⟨t,ht⟩:∃t,t=x.1:=⟨_,rfl⟩;generalize (eM x.1.data.toList).1=L at*;generalize (eM x.1.data.toList).2=er at*;generalize S02.bW x.1.data.toList=z0 at*;obtain⟨TB,pn⟩:∃TB:ByteArray,TB=⟨(aF L).toArray⟩:=⟨_,rfl⟩;obtain⟨NB,pk⟩:∃NB,NB=L.length:=⟨_,rfl⟩;rw[<- pn,<-pk]at hX;have ss:=aa pn;have sn:=aa pk;rw[<- ht]at hX HL;clear pn pk;have s3:((H::pre.map fun x=>(eM x.1.data.toList).1).length<=1000000)/\(pre.map fun x=>S02.bW x.1.data.toList).length<=1000000:=by rw[Nv,NC,NC];exact⟨by omega,by omega⟩
  have HN:=aa s3;clear s3;generalize (H::pre.map fun x=>(eM x.1.data.toList).1)=LS at*;generalize (pre.map fun x=>S02.bW x.1.data.toList)=ZS at*;gi_wp2_with fail
  rw[<- ht];clear ht;refine(CallsIn.inRound l (hX.out W)).mono ?_;rintro e W1 ⟨rfl,hO⟩;have rO:=HI.out.low' (ah _) hO;have s8:=HQ.out.kept (cN hO) (by simp);have s0:=jz hO;obtain⟨W2,hi⟩:∃W2,W2=W1.alloc (.cells #[.string TB,.int .i64 NB] 43):=⟨_,rfl⟩;have rR:=rO.grown (ah _) (show W1.grownBy W2 none by rw[hi];exact World.grownBy_alloc W1 _ none) (fun r e=>by cases e);have qm:Boxed W2 B 45 vp:=by rw[hi];exact s8.alloc _
  have s1:KeepsOthers W W2:=s0.trans (by rw[hi];exact KeepsOthers.alloc W1 _);obtain⟨A4,n4,c4,W4,HC,qo,pg,s2⟩:=rR.pieces (ah _) ha qm L p2.out HN.out.1;rw[<- ss.out,<-sn.out]at HC;obtain⟨_,vs,_,hV,_⟩:=pg.ex;have q1:=qm.cell;have k0:W2.cell? ⟨W1.heap.size,0,none⟩=some (.string TB):=by rw[hi];simp
  have k1:W2.cell? ⟨W1.heap.size,1,none⟩=some (.int .i64 NB):=by rw[hi];simp
  have q4:=qo.cell;have f4:=qo.frozen;have r6:=aa pg;have r8:=aa (s1.trans s2);have H0:=aa hV;rw[hi]at q1 k0 k1 HC;simp only[OE]at HC;have rv:=aa HC;have sx:=aa hi;clear rO s8 s0 rR qm s1 pg s2 HC qo hV hi hO HI HQ;gi_wp2_with (gi_at_builtin;refine nz _ rfl _ _ 45 45 rfl _ (.slice (some ⟨W1.heap.size+1,0,none⟩) 1 1) rfl rfl (.slice A4 n4 c4) W4 rv.out ?_)
  clear q1 k0 k1 q4 f4;generalize W4.setCell ⟨B,0,none⟩ (.slice A4 n4 c4)=W5 at*;have s4:Below W5.heap.size W5 W5.drew:=(Nj _ W5).drew;have H3:=r6.out.low' (ah _) s4;have hA:Boxed W5.drew (B+1) 46 vs:=H0.out;have hv:=aa (r8.out.trans (KeepsOthers.drew W5));have q5:W5.drew.cell? ⟨B+1,0,none⟩=some vs:=hA.cell;have hu:=aa H3;have h6:=aa hA;have ty:prog.follows .mixedOrders=true:=by kernel_rfl
  clear H3 hA s4 r6 r8 H0 rv sx hX;refine wpIn_region_any (by kernel_rfl) ?_;try (change wpAnyIn _ _ _ _ _ _ _ _ _ (World.drew _))
  refine wpAnyIn_ready (rs:= [0,1]) (by kernel_rfl) (by simp) ?_;refine AllReadyIn.cons rfl (fun K hK=> ?_) ?_
  ·go_simp;refine hK _ _ ?_;clear hK K;refine wpAnyIn_ready (rs:= [1]) (by kernel_rfl) (by simp) ?_;refine AllReadyIn.cons rfl (fun K hK=> ?_) ?_
   ·go_simp;refine hK _ _ ?_;clear hK K;refine wpAnyIn_ready (rs:= [2]) (by kernel_rfl) (by simp) ?_;refine AllReadyIn.cons rfl (fun K hK=> ?_) ?_
    ·go_simp;(gi_at_call 21;refine(CallsIn.inRound l (HL.out _)).mono ?_;rintro e W6 ⟨rfl,h5⟩;obtain⟨A8,n8,c8,W8,hQ,h9,hf,hh⟩:=(hu.out.low' (ah _) h5).sums (ah _) ha (h6.out.kept (cN h5) (by simp)) z0 HN.out.2;have hG:=aa hf;have hL:=aa ((hv.out.trans (jz h5)).trans hh);have p6:W6.cell? ⟨B+1,0,none⟩=some vs:=(h6.out.kept (cN h5) (by simp)).cell;have p7:(W6.alloc (.cells #[.int .u32 z0] 52)).cell? ⟨B+1,0,none⟩=some vs:=((h6.out.kept (cN h5) (by simp)).alloc _).cell;have q8:=h9.cell;have f8:=h9.frozen;clear hf hh h9 h5);refine hK _ _ ?_;clear hK K;refine wpAnyIn_ready (rs:= [3]) (by kernel_rfl) (by simp) ?_;refine AllReadyIn.cons rfl (fun K hK=> ?_) ?_
     ·go_simp;refine hK _ _ ?_;clear hK K;refine wpAnyIn_ready (rs:= [4]) (by kernel_rfl) (by simp) ?_;refine AllReadyIn.cons rfl (fun K hK=> ?_) ?_
      ·refine eV rfl (.tmp 50) (.tmp 53) 46 46 rfl vs (.slice (some ⟨W6.heap.size,0,none⟩) 1 1) rfl rfl (by exact hQ) ?_;refine hK _ _ ?_;clear hK K;refine wpAnyIn_ready (rs:= [5]) (by kernel_rfl) (by simp) ?_;refine AllReadyIn.cons rfl (fun K hK=> ?_) ?_;·go_simp;refine hK _ _ ?_;clear hK K;refine wpAnyIn_done (by kernel_rfl) ?_ _;exact FIN.out _ hL.out hG.out
       exact AllReadyIn.nil
      exact AllReadyIn.nil
     exact AllReadyIn.nil
    exact AllReadyIn.nil
   exact AllReadyIn.nil
  refine AllReadyIn.cons rfl (fun K hK=> ?_) ?_
  ·go_simp;refine hK _ _ ?_;clear hK K;refine wpAnyIn_ready (rs:= [0,2]) (by kernel_rfl) (by simp) ?_;refine AllReadyIn.cons rfl (fun K hK=> ?_) ?_
   ·go_simp;refine hK _ _ ?_;clear hK K;refine wpAnyIn_ready (rs:= [2]) (by kernel_rfl) (by simp) ?_;refine AllReadyIn.cons rfl (fun K hK=> ?_) ?_
    ·go_simp;(gi_at_call 21;refine(CallsIn.inRound l (HL.out _)).mono ?_;rintro e W6 ⟨rfl,h5⟩;obtain⟨A8,n8,c8,W8,hQ,h9,hf,hh⟩:=(hu.out.low' (ah _) h5).sums (ah _) ha (h6.out.kept (cN h5) (by simp)) z0 HN.out.2;have hG:=aa hf;have hL:=aa ((hv.out.trans (jz h5)).trans hh);have p6:W6.cell? ⟨B+1,0,none⟩=some vs:=(h6.out.kept (cN h5) (by simp)).cell;have p7:(W6.alloc (.cells #[.int .u32 z0] 52)).cell? ⟨B+1,0,none⟩=some vs:=((h6.out.kept (cN h5) (by simp)).alloc _).cell;have q8:=h9.cell;have f8:=h9.frozen;clear hf hh h9 h5);refine hK _ _ ?_;clear hK K;refine wpAnyIn_ready (rs:= [3]) (by kernel_rfl) (by simp) ?_;refine AllReadyIn.cons rfl (fun K hK=> ?_) ?_
     ·go_simp;refine hK _ _ ?_;clear hK K;refine wpAnyIn_ready (rs:= [4]) (by kernel_rfl) (by simp) ?_;refine AllReadyIn.cons rfl (fun K hK=> ?_) ?_
      ·refine eV rfl (.tmp 50) (.tmp 53) 46 46 rfl vs (.slice (some ⟨W6.heap.size,0,none⟩) 1 1) rfl rfl (by exact hQ) ?_;refine hK _ _ ?_;clear hK K;refine wpAnyIn_ready (rs:= [5]) (by kernel_rfl) (by simp) ?_;refine AllReadyIn.cons rfl (fun K hK=> ?_) ?_;·go_simp;refine hK _ _ ?_;clear hK K;refine wpAnyIn_done (by kernel_rfl) ?_ _;exact FIN.out _ hL.out hG.out
       exact AllReadyIn.nil
      exact AllReadyIn.nil
     exact AllReadyIn.nil
    exact AllReadyIn.nil
   refine AllReadyIn.cons rfl (fun K hK=> ?_) ?_
   ·go_simp;(gi_at_call 21;refine(CallsIn.inRound l (HL.out _)).mono ?_;rintro e W6 ⟨rfl,h5⟩;obtain⟨A8,n8,c8,W8,hQ,h9,hf,hh⟩:=(hu.out.low' (ah _) h5).sums (ah _) ha (h6.out.kept (cN h5) (by simp)) z0 HN.out.2;have hG:=aa hf;have hL:=aa ((hv.out.trans (jz h5)).trans hh);have p6:W6.cell? ⟨B+1,0,none⟩=some vs:=(h6.out.kept (cN h5) (by simp)).cell;have p7:(W6.alloc (.cells #[.int .u32 z0] 52)).cell? ⟨B+1,0,none⟩=some vs:=((h6.out.kept (cN h5) (by simp)).alloc _).cell;have q8:=h9.cell;have f8:=h9.frozen;clear hf hh h9 h5);refine hK _ _ ?_;clear hK K;refine wpAnyIn_ready (rs:= [0,3]) (by kernel_rfl) (by simp) ?_;refine AllReadyIn.cons rfl (fun K hK=> ?_) ?_
    ·go_simp;refine hK _ _ ?_;clear hK K;refine wpAnyIn_ready (rs:= [3]) (by kernel_rfl) (by simp) ?_;refine AllReadyIn.cons rfl (fun K hK=> ?_) ?_
     ·go_simp;refine hK _ _ ?_;clear hK K;refine wpAnyIn_ready (rs:= [4]) (by kernel_rfl) (by simp) ?_;refine AllReadyIn.cons rfl (fun K hK=> ?_) ?_
      ·refine eV rfl (.tmp 50) (.tmp 53) 46 46 rfl vs (.slice (some ⟨W6.heap.size,0,none⟩) 1 1) rfl rfl (by exact hQ) ?_;refine hK _ _ ?_;clear hK K;refine wpAnyIn_ready (rs:= [5]) (by kernel_rfl) (by simp) ?_;refine AllReadyIn.cons rfl (fun K hK=> ?_) ?_;·go_simp;refine hK _ _ ?_;clear hK K;refine wpAnyIn_done (by kernel_rfl) ?_ _;exact FIN.out _ hL.out hG.out
       exact AllReadyIn.nil
      exact AllReadyIn.nil
     exact AllReadyIn.nil
    refine AllReadyIn.cons rfl (fun K hK=> ?_) ?_
    ·go_simp;refine hK _ _ ?_;clear hK K;refine wpAnyIn_ready (rs:= [0]) (by kernel_rfl) (by simp) ?_;refine AllReadyIn.cons rfl (fun K hK=> ?_) ?_
     ·go_simp;refine hK _ _ ?_;clear hK K;refine wpAnyIn_ready (rs:= [4]) (by kernel_rfl) (by simp) ?_;refine AllReadyIn.cons rfl (fun K hK=> ?_) ?_
      ·refine eV rfl (.tmp 50) (.tmp 53) 46 46 rfl vs (.slice (some ⟨W6.heap.size,0,none⟩) 1 1) rfl rfl (by exact hQ) ?_;refine hK _ _ ?_;clear hK K;refine wpAnyIn_ready (rs:= [5]) (by kernel_rfl) (by simp) ?_;refine AllReadyIn.cons rfl (fun K hK=> ?_) ?_;·go_simp;refine hK _ _ ?_;clear hK K;refine wpAnyIn_done (by kernel_rfl) ?_ _;exact FIN.out _ hL.out hG.out
       exact AllReadyIn.nil
      exact AllReadyIn.nil
     exact AllReadyIn.nil
    exact AllReadyIn.nil
   exact AllReadyIn.nil
  exact AllReadyIn.nil
 case done=>
  intro D xs W hD hS hI pj;have e1:(xs.map fun x=>(eM x.1.data.toList).1)=PS:=by rw[sr.out,<-show xs.map (fun x=>x.1.data.toList)=_ from hS,Ov];rfl
  have e2:(xs.map fun x=>S02.bW x.1.data.toList)=Z:=by rw[HZ.out,<-show xs.map (fun x=>x.1.data.toList)=_ from hS,Ov];rfl
  have hI:gg w1.heap.size B w1 s most (H::PS) Z W:=by rw[<- e1,<-e2];exact hI
  obtain⟨⟨vp,vs,hT,hV,s7,q9⟩,hO,H5,hy⟩:=hI;obtain⟨A6,c6,rfl,tt,sT,s9⟩:=gF q9;have q3:w1.heap.size<=D:=NH t2 hD;have tm:D<W.heap.size:=(Array.getElem?_eq_some_iff.1 pj).1;have pl:=S02.mr W.drew A6 Z.length c6 Z s9 H1.out (by have:=hN.out.1;have:=hN.out.2;omega);rw[<- rM.out]at pl;have tg:=aa pl;have t3:w1.heap.size<=W.heap.size:=hy.size;have hd:Below W.heap.size W W.drew:=(Nj _ W).drew;have HQ:=aa (show Boxed W.drew B 45 vp from hT);have H0:=aa (show Boxed W.drew (B+1) 46 (.slice A6 Z.length c6)from hV);have so:=aa (s7.below hd);have p4:=aa (hy.trans (hd.mono t3));have sl:=aa (show W.drew.heap[D]? =some (.deferred (some []))from pj);have p0:=hT.cell;have p1:=hV.cell
  have r3:Hid (((H::PS)++ [E]).length<=1000000/\((H::PS)++ [E]).flatten.length<=100000000):=aa (by
   have h1:=rb.out
   have h2:=hN.out.1
   have h3:=HH.out.2
   have h4:=HE.out.2
   rw[s5]at h1
   simp only[Od,Nv,Nc,N5,QT,Rc,RH]
   omega)
  obtain⟨M,hM⟩:∃M,M=((H::PS)++ [E]).flatten.length:=⟨_,rfl⟩;have sm:=aa hM;clear hM e1 e2 hS hD hT hV s7 hy hO H5 s9 hd pl pj;have pv:gG w1.heap.size B D w1 vp (.slice A6 Z.length c6) vp (H::PS) W.drew:=⟨HQ.out,H0.out,so.out,p4.out,sl.out,Nm _⟩;have HS2:Hid (∀ X,gG w1.heap.size B D w1 vp (.slice A6 Z.length c6) vp (H::PS) X->Below W.drew.heap.size W.drew X->Calls prog 24 #[.slice A6 Z.length c6] X fun e w'=>e=.returned (.int .u32 z)/\w'=X):=aa fun X _ hb=>by obtain⟨A7,c7,t4,_,_,t5⟩:=gF (ef (show W.drew.ownsRow w1.heap.size 52 1 (.slice A6 Z.length c6) Z.length (Z.map wv)from q9) hb);cases t4;have h:=S02.mr X A6 Z.length c6 Z t5 H1.out (by have:=hN.out.1;have:=hN.out.2;omega);rw[<- rM.out]at h;exact h.mono fun e w' h=>⟨h.1,h.2.symm⟩
  have h8:Hid (∀ X a,gG w1.heap.size B D w1 vp (.slice A6 Z.length c6) vp (H::PS) X->Blk X a 43 #[.string TE,.int .i64 80]->∃v9 w9,(Builtin.append_ #[45,45] 45 #[vp,.slice (some ⟨a,0,none⟩) 1 1]).run prog X=.ok v9 w9/\
   gG w1.heap.size B D w1 vp (.slice A6 Z.length c6) v9 ((H::PS)++ [E]) w9/\(∀ {g:Nat} {t:TypeId} {cs:Array Value},(∀ k,vp.ownBlock=some k->k≠g)->Blk X g t cs->Blk w9 g t cs)/\X.heap.size<=w9.heap.size):=aa fun X a hd hb=>hd.last a E HE.out.1 (by have:=hN.out.1;rw[Nv];omega) (by rw[<- st.out,HE.out.2];exact hb)
  have r7:Hid (∀ X v9,gG w1.heap.size B D w1 vp (.slice A6 Z.length c6) v9 ((H::PS)++ [E]) X->Calls prog 22 #[v9] X fun e w'=>e=.returned (.tuple #[.agg #[.string J,.int .i64 M],.int .i64 0])/\Below X.heap.size X w'):=aa fun X v9 hd=>by have hj:=ph X w1.heap.size v9 _ hd.pc r3.out.1 r3.out.2;unfold mY at hj;rw[<- HJ.out,<-sm.out]at hj;exact hj
  have hE:=aa pv;have tl:B+1<W.heap.size:=H0.out.lt;have p5:Hid (∀ k,vp.ownBlock=some k->k<W.heap.size):=aa fun k hk=>(OD pv.pc.own k hk).2;clear pv q9 rb HO r1;go_wp2_with fail
  go_region_held3 (fun w'=>w'.cell? ⟨B,0,none⟩=some vp/\w'.cell? ⟨B+1,0,none⟩=some (.slice A6 Z.length c6))
   (first|exact⟨p0,p1⟩|with_reducible exact hE.out.cells|with_reducible exact(hE.out.alloc _).cells|with_reducible exact hP.cells|with_reducible exact(hP.alloc _).cells|with_reducible exact((hP.alloc _).alloc _).cells|with_reducible exact hm.cells|with_reducible exact(hm.alloc _).cells|with_reducible exact hx.cells|with_reducible exact(hx.alloc _).cells|with_reducible exact hx.far _ (by omega) _ _|go_keep)
   (first
     | (go_at_call 24;(first|(with_reducible refine(HS2.out _ hE.out (Nj _ _)).mono ?_)|refine(HS2.out _ (hE.out.alloc _) ((Nj _ _).alloc (ah _) _)).mono ?_);rintro e w7 ⟨rfl,rfl⟩)
     | (go_at_call 23;refine(r2.out _).mono ?_;rintro e w8 ⟨rfl,HT⟩
        have hP:gG w1.heap.size B D w1 vp (.slice A6 Z.length c6) vp (H::PS) w8:=by first|exact hE.out.below HT|exact(hE.out.alloc _).below HT
        have u1:W.heap.size<=w8.heap.size:=by have:=HT.size;simp at this;omega
        (first|have te:Blk w8 W.heap.size 43 #[.string ⟨#[]⟩,.int .i64 0]:=bV HT (aj W.drew _ _)|skip))
     | ((first
          | (have HA:=aj w8 43 #[.string TE,.int .i64 80];obtain⟨v9,w9,hR,hm,HB,HK⟩:=h8.out (w8.alloc (.cells #[.string TE,.int .i64 80] 43)) w8.heap.size (hP.alloc _) HA;(first|with_reducible have qq:Blk w9 W.heap.size 43 #[.string ⟨#[]⟩,.int .i64 0]:=HB (fun k hk=>Nat.ne_of_lt (p5.out k hk)) (bV ((Nj _ _).alloc (ah _) _) te)|skip);simp only[OE]at HK;refine fQ (v':=v9) (w':=w9) rfl (.tmp 56) (.tmp 60) 45 rfl vp (.slice (some ⟨w8.heap.size,0,none⟩) 1 1) rfl rfl ?hr ?_;case hr=>(dsimp only;with_reducible exact hR))
          | (have HA:=bV ((Nj _ _).alloc (ah _) (.cells #[.string ⟨#[]⟩,.int .i64 0] 43)) (aj w8 43 #[.string TE,.int .i64 80]);obtain⟨v9,w9,hR,hm,HB,HK⟩:=h8.out _ w8.heap.size ((hP.alloc _).alloc _) HA;have qq:Blk w9 (w8.heap.size+1) 43 #[.string ⟨#[]⟩,.int .i64 0]:=HB (fun k hk=>by have:=p5.out k hk;omega) (by have h:=aj (w8.alloc (.cells #[.string TE,.int .i64 80] 43)) 43 #[.string ⟨#[]⟩,.int .i64 0];rw[OE]at h;exact h);simp only[OE]at HK;refine fQ (v':=v9) (w':=w9) rfl (.tmp 56) (.tmp 60) 45 rfl vp (.slice (some ⟨w8.heap.size,0,none⟩) 1 1) rfl rfl ?hr ?_;case hr=>(dsimp only;with_reducible exact hR))
          | (have HA:=aj (w8.alloc (.cells #[.string ⟨#[]⟩,.int .i64 0] 43)) 43 #[.string TE,.int .i64 80];obtain⟨v9,w9,hR,hm,HB,HK⟩:=h8.out _ _ ((hP.alloc _).alloc _) HA;have qq:Blk w9 w8.heap.size 43 #[.string ⟨#[]⟩,.int .i64 0]:=HB (fun k hk=>by have:=p5.out k hk;omega) (bV ((Nj _ _).alloc (ah _) _) (aj w8 43 #[.string ⟨#[]⟩,.int .i64 0]));simp only[OE]at hR;simp only[OE]at HK;refine fQ (v':=v9) (w':=w9) rfl (.tmp 56) (.tmp 60) 45 rfl vp (.slice (some ⟨w8.heap.size+1,0,none⟩) 1 1) rfl rfl ?hr ?_;case hr=>(dsimp only;with_reducible exact hR))))
     | (go_at_call 22;(first | (with_reducible refine(r7.out _ _ hm).mono ?_) | (with_reducible refine(r7.out _ _ (hm.alloc _)).mono ?_));rintro e wA ⟨rfl,HU⟩
        have hx:gG w1.heap.size B D w1 vp (.slice A6 Z.length c6) v9 ((H::PS)++ [E]) wA:=by first|with_reducible exact hm.below HU|with_reducible exact(hm.alloc _).below HU
        (first|with_reducible have HG:=bV HU qq|with_reducible have HG:Blk wA w9.heap.size 43 #[.string ⟨#[]⟩,.int .i64 0]:=bV HU (aj w9 _ _)|skip)
        (first|(have y0:=(ac HG 0).trans (rfl:_=some (Value.string ⟨#[]⟩));have y1:=(ac HG 1).trans (rfl:_=some (Value.int .i64 0));have y2:=ae HG 0;have y3:=ae HG 1)|skip)))
  all_goals
   go_wp2_with fail
   refine⟨by simp,.inl ⟨_,_,rfl,run_takeDeferred ?hk,?_⟩⟩
   case hk=>first|exact(hx.fin _ (by omega) q3 _ _).1|exact(hx.alloc _).d
   refine⟨_,results_tmp2 rfl _ _ _,?_⟩
   first|exact HP.out _ ((hx.fin _ (by omega) q3 _ _).2 _)|exact HP.out _ ((hx.alloc _).fin0 q3 _)
theorem qW(l:List Nat)(room:Nat):∀(k bit:Nat) (out:List UInt8) (sums:List Nat),bit<=l.length->l.length<bit+105*k->(bh l room k bit out sums).2.2.2=0->(bh l room k bit out sums).2.2.1+48<=l.length
 | 0,bit,_,_,h1,h2,_=>by omega
 | k+1,bit,out,sums,h1,h2,hz=>by
  rw[cT]at hz |-;by_cases h3:l.length<bit+48;·rw[Ng h3]at hz;cases hz
  rw[Nf h3]at hz |-;by_cases h4:val ((l.drop bit).take 48)=25779555029136;·rw[Ng h4];show bit+48<=l.length;omega
  rw[Nf h4]at hz |-;by_cases h5:val ((l.drop bit).take 48)≠54156738319193;·rw[Ng h5]at hz;cases hz
  rw[Nf h5]at hz |-;by_cases h6:(bR l (bit:Nat) (room:Nat)).2.2.2≠0;·rw[Ng h6]at hz;exact absurd hz h6
  obtain⟨g1,g2,_⟩:=ll [] (Decidable.not_not.1 h6);rw[Nf h6]at hz |-;by_cases h7:262144<out.length+(bR l (bit:Nat) (room:Nat)).1.length;·rw[Ng h7]at hz;cases hz
  rw[Nf h7]at hz |-;exact qW l room k _ _ _ g2 (by omega) hz
theorem Cr(w:World)(t:ByteArray)(at':Int)(h:at'<0\/(t.size:Int)<at'):Calls prog 13 #[.string t,.int .i64 at'] w (bU w (aK t.data.toList at')):=by
 have h0:aK t.data.toList at'=([],0,2):=Ng h;rw[h0];have HP:Hid (bU w ([],0,2) (.returned (.tuple #[.string ⟨#[]⟩,.int .i64 0,.int .i64 2])) w):=aa ⟨rfl,Nj _ _⟩;generalize bU w ([],0,2)=PO at*;clear h0;by_cases h1:at'<0;·have d0:decide (at'<0)=true:=No h1;clear h;go_enter func13,ntmps13;go_wp2_with fail;first|exact HP.out|(go_ret3;exact HP.out)
 ·have d0:decide (at'<0)=false:=Nk h1;have d1:decide ((t.size:Int)<at')=true:=aX (by omega);clear h;go_enter func13,ntmps13;go_wp2_with fail;first|exact HP.out|(go_ret3;exact HP.out)
theorem FI(w:World)(t:ByteArray)(a:Nat)(hs:t.size<=2000000)(ha:a<=t.size):Calls prog 13 #[.string t,.int .i64 a] w (bU w (aK t.data.toList (a:Nat))):=by
 have hD:t.data.toList.length=t.size:=rfl;have h5:(ai t.data.toList).length=8*t.size:=aq _;have hJ:=aG t.data.toList;have h1:aK t.data.toList (a:Nat)=if(aT (t.data.toList.drop a)).2≠0 then([],0,(aT (t.data.toList.drop a)).2)else oS (ai t.data.toList) (bh (ai t.data.toList) (iH (aT (t.data.toList.drop a)).1) (8*t.size) (8*a+32) [] []):=by unfold aK;rw[Nf (by rw[hD];omega),Nn,h5]
 have HC:=FH w (t.extract a t.size) (by rw[Oo];omega);rw[S03.eP]at HC;have h0:=fun h=>nS (t:=t.data.toList.drop a) [] h;have hB:=fun(wx:World) (p0 room:Nat) hr hp hpm=>zf wx t p0 room hs hr hp hpm;have hf:=aa fun(wx:World) (p n k:Nat) (hR:IsR p wx p t n) (hk:k<=64) (hL:n+k<=8*t.size)=>fS p wx p t n k hR (by omega) hk hL;have hg:=aa fun(wx:World) (p n k:Nat) (hR:IsR p wx p t n) (hk:k<=64) (hn:n<=8*t.size) (hL:8*t.size<n+k)=>dX p wx p t n k hR (by omega) hk hn hL;have ht:=aa fun(wx:World) (n:Nat) (hn:n<=8*t.size)=>fh wx t (n:Int) (by omega) (by omega) (by omega);have hh:=aa fun(p k:Nat) (h:p+k<=8*t.size)=>nw hJ p k (by rw[h5];exact h);have hc:=aa fun(room:Nat) (hb:8*a+32<=8*t.size) (hz:(bh (ai t.data.toList) room (8*t.size) (8*a+32) [] []).2.2.2=0)=>qW (ai t.data.toList) room (8*t.size) (8*a+32) [] [] (by rw[h5];exact hb) (by rw[h5];omega) hz;rw[h5]at hc;obtain⟨m,hm⟩:∃m,m=8*t.size:=⟨_,rfl⟩;have HO:m<=16000000:=by omega
 rw[<- hm]at hf hg ht hh hc hB h1;have H1:=aa (h5.trans hm.symm);rw[Nq,hD]at h0;generalize aT (t.data.toList.drop a)=hd at*;generalize ai t.data.toList=bits at*;obtain⟨lv,k⟩:=hd;have hF:Hid (Calls prog 33 #[.string (t.extract a t.size)] w fun e w'=>e=.returned (.tuple #[.int .i64 lv,.int .i64 k])/\w'=w):=aa HC;have h2:=aa h1;dsimp only at h0 h2;have HP:Hid (∀ (X:List UInt8) (p k:Nat) (w':World),aK t.data.toList (a:Nat)=(X,p,k)->Below w.heap.size w w'->bU w (aK t.data.toList (a:Nat)) (.returned (.tuple #[.string (S06.bq X),.int .i64 p,.int .i64 k])) w'):=aa fun X p k w' h hb=>by rw[h];exact⟨rfl,hb⟩
 generalize bU w (aK t.data.toList (a:Nat))=PO at*;generalize aK t.data.toList (a:Nat)=ANS at*;have d0:decide ((a:Int)<0)=false:=aD (by omega);have d1:decide ((t.size:Int)<(a:Int))=false:=aD (by omega);have HM:(a:Int)<=(t.size:Int):=by omega
 by_cases hk:k≠0;·have d3:=cG hk;have hj:=h2.out;rw[Ng hk]at hj;have HF:=aa (HP.out [] 0 k w hj (Nj _ _));clear hj HP hf hg ht hh hc hB HC h1 h2 h0 h5 hJ hD hk hm;go_enter func13,ntmps13;go_wp2_with fail;refine hF.out.mono ?_;rintro e w1 ⟨rfl,rfl⟩;go_wp2_with fail;first|exact HF.out|(go_ret3;exact HF.out)
 have HD:k=0:=Decidable.not_not.1 hk;subst HD;obtain⟨h4,_,HT,HU⟩:=h0 rfl;have hj:=h2.out;rw[Nf hk]at hj;obtain⟨a3,H2⟩:∃x,x=a+3:=⟨_,rfl⟩;obtain⟨a4,H5⟩:∃x,x=a+4:=⟨_,rfl⟩;obtain⟨b0,hV⟩:∃x,x=8*a+32:=⟨_,rfl⟩;have H4:(a:Int)+3=(a3:Int):=by omega
 have HA:(a3:Int)+1=(a4:Int):=by omega
 have HB:(8:Int)*(a4:Int)=(b0:Int):=by omega
 have H3:a3<=3000000:=by omega
 have H8:a4<=3000000:=by omega
 have hw:b0<=m:=by omega
 rw[<- hV]at hj hc;have hQ:=aa (vY w lv (by omega));have hl:=hB w b0 (iH lv) (pu lv) (by omega) hw;have hX:=hc.out (iH lv) hw;generalize iH lv=room at*;generalize bh bits room m b0 [] []=BT at*;obtain⟨X,Z,bit,er⟩:=BT;have h8:=aa hX;have HJ:=aa hj;have h7:=aa hl;clear hj hc hX hB hl HC h1 h2 h0 h5 hJ hD hk hm H2 H5 hV;go_enter func13,ntmps13;go_wp2_with fail;refine hF.out.mono ?_;rintro e w1 ⟨rfl,rfl⟩;clear hF;go_wp2_with fail;refine hQ.out.mono ?_;rintro e w1 ⟨rfl,rfl⟩;clear hQ;go_wp2_with fail;refine h7.out.mono ?_;rintro e w2 (⟨h9,rfl,hx⟩|⟨h9,v,rfl,ho,hZ,hx⟩);·dsimp only at h9;have d4:=cG h9;have hj:=HJ.out;unfold oS at hj;rw[Ng h9]at hj;have HF:=aa (HP.out [] 0 er w2 hj hx);clear hj HP hf hg ht hh HJ h8 h9 hx h7;(try dsimp only);go_wp2_with fail;first|exact HF.out|(go_ret3;exact HF.out)
 try dsimp only at h9
 try dsimp only at ho
 try dsimp only at hZ
 try dsimp only
 subst h9;have h3:=h8.out rfl;try dsimp only at h3
 obtain⟨q,hq⟩:∃x,x=bit+48:=⟨_,rfl⟩;rw[<- hq]at h3 |-;have hj:ANS=if m<q+32 then([],0,10)else if val ((bits.drop q).take 32)≠S02.cn Z then([],0,121)else(X,(bit+80+7)/8,0):=by rw[HJ.out,hq];unfold oS;dsimp only;rw[Nf (by omega),H1.out]
 have hC:=aa hj;have hA:=aa hx;have hG:=aa ho;have HZ:=aa hZ;have HQ:=aa hq;have hu:=aa (ht.out w2 q h3);clear hj hx ho hZ hq HJ h8 ht h7;obtain⟨A6,c6,rfl,HN,hK,HL⟩:=gF hG.out;clear HL;go_wp2_with fail;refine hu.out.mono ?_;rintro e w5 ⟨rfl,hN⟩;obtain⟨p,hp⟩:∃p,p=w2.heap.size:=⟨_,rfl⟩;have hS:IsR p w5 p t q:=by rw[hN,hp];exact iY w2 w2.heap.size (ah _) t q
 have hW:Below w2.heap.size w2 w5:=bQ hN;have hH:=aa hS;have hE:=aa hW;have hP:=aa hp;rw[<- hp];clear hN hS hW hp hu;by_cases e3:m<q+32;·have N2:=aa (hg.out w5 p q 32 hH.out (by omega) h3 e3);have hj:=hC.out;rw[Ng e3]at hj;have HF:=aa fun w' hb=>HP.out [] 0 10 w' hj hb;clear hj hf hg hh HP hC;go_wp2_with fail;refine N2.out.mono ?_;rintro e w6 ⟨rfl,_,hv⟩;have hi:=aa (hA.out.trans ((hE.out.trans (by have:=hv.below;rw[hP.out]at this;exact this)).mono hA.out.size));clear hv;go_wp2_with fail;first|exact HF.out _ hi.out|(go_ret3;exact HF.out _ hi.out)
 have N2:=aa (hf.out w5 p q 32 hH.out (by omega) (by omega));have v2:=hh.out q 32 (by omega);obtain⟨y,hy⟩:∃x,x=val ((bits.drop q).take 32):=⟨_,rfl⟩;have he:=hC.out;rw[Nf e3,<-hy]at he;rw[<- hy]at N2 v2;have v2:y<4294967296:=by simpa using v2
 have HV:IntKind.u32.wrap (y:Int)=(y:Int):=by rw[IntKind.wrap_u32];omega
 have HE:=aa he;clear hy hf hg hh hC he;go_wp2_with fail;refine N2.out.mono ?_;rintro e w6 ⟨rfl,hT,hv⟩;have h6:=aa (show Below w2.heap.size w2 w6 from hE.out.trans (by have:=hv.below;rw[hP.out]at this;exact this));have hi:=aa (ap hA.out h6.out);have hI:=aa hT;obtain⟨A7,c7,HK,_,_,H0⟩:=gF (ef hG.out h6.out);cases HK;have HS:=aa (S02.mr w6 A6 Z.length c6 Z H0 HZ.out (by unfold maxLen at hK;omega));have HR:=S02.lK Z HZ.out;generalize S02.cn Z=sm at*;clear hT hv N2 hE hH H0 h6 hA hG;by_cases e4:y≠sm;·have he:=HE.out;rw[Ng e4]at he;have d4:((y:Int) != (sm:Int))=true:=(by rw[OP];omega);have HF:=aa (HP.out [] 0 121 w6 he hi.out);clear he HP e4 HE;go_wp2_with fail;refine HS.out.mono ?_;rintro e w7 ⟨rfl,rfl⟩;go_wp2_with fail;first|exact HF.out|(go_ret3;exact HF.out)
 ·have he:=HE.out;rw[Nf e4]at he;have d4:((y:Int) != (sm:Int))=false:=(by rw[OW];omega);obtain⟨qq,hY⟩:∃x,x=(bit+80+7)/8:=⟨_,rfl⟩;rw[<- hY]at he;have HF:=aa (HP.out X qq 0 w6 he hi.out);have HG:=HQ.out;obtain⟨q32,hM⟩:∃x,x=q+32:=⟨_,rfl⟩;obtain⟨r8,HI⟩:∃x,x=q32+8:=⟨_,rfl⟩;obtain⟨r7,HH⟩:∃x,x=q32+7:=⟨_,rfl⟩;have c0:=ac hI.out.blk 0;have c2:=ac hI.out.blk 2;simp at c0 c2;have hO:=aa (j7 w6 p ((q:Int)+32) c0 c2);rw[show (q:Int)+32=(q32:Int) by omega]at hO;have z1:(q32:Int)+8=(r8:Int):=(by omega);have z2:(r8:Int)-1=(r7:Int):=(by omega);have z3:(r7:Int)/8=(qq:Int):=(by omega);have z4:Int.tdiv (r7:Int) 8=(qq:Int):=(by rw[Q3 (by omega)];exact z3);have b1:q32<=20000000:=(by omega);have b2:r8<=20000000:=(by omega);have b3:r7<=20000000:=(by omega);clear he HP e4 HE hY HG hM HI HH c0 c2 hI;go_wp2_with fail;refine HS.out.mono ?_;rintro e w7 ⟨rfl,rfl⟩;go_wp2_with fail;refine hO.out.mono ?_;rintro e w7 ⟨rfl,rfl⟩;go_wp2_with fail;first|exact HF.out|(go_ret3;exact HF.out)
theorem tx(w:World)(t:ByteArray)(at':Int)(hs:t.size<=2000000):Calls prog 13 #[.string t,.int .i64 at'] w (bU w (aK t.data.toList at')):=by
 by_cases h:at'<0\/(t.size:Int)<at';·exact Cr w t at' h
 ·obtain⟨a,rfl⟩:∃a:Nat,at'=a:=⟨at'.toNat,by omega⟩;exact FI w t a hs (by omega)
theorem zR(w:World)(t:ByteArray)(hs:t.size<=2000000):Calls prog 15 #[.string t] w (iw w (kd t.data.toList)):=by
 have hD:t.data.toList.length=t.size:=rfl;have HT:=aa fun(wx:World) (a:Nat)=>tx wx t (a:Int) hs;have HM:=aa fun(a:Nat) h=>DU (t:=t.data.toList) [] (p:=a) h;have HL:=aa fun(a:Nat)=>Hu t.data.toList a;have HP:Hid (∀ (X:List UInt8) (k:Nat) (w':World),kd t.data.toList=(X,k)->Below w.heap.size w w'->iw w (kd t.data.toList) (.returned (.tuple #[.string (S06.bq X),.int .i64 k])) w'):=aa fun X k w' h hb=>by rw[h];exact⟨rfl,hb⟩
 generalize iw w (kd t.data.toList)=PO at*;obtain⟨m,hm⟩:∃m,m=t.size:=⟨_,rfl⟩;have hT:m<=2000000:=by omega
 have hg:=aa hm;obtain⟨ANS,h4⟩:∃x,x=kd t.data.toList:=⟨_,rfl⟩;rw[<- h4]at HP;have hG:ANS=dU t.data.toList (m+1) 0 0 []:=by rw[h4,hm];rfl
 have hh:=aa hG;have hq:=aa hD;clear h4 hG hD hm;go_enter func15,ntmps15;go_wp2_with fail
 go_loopw [4,5,6] (fun so sa sn wx=>∃(L:List UInt8) (a n:Nat),sa=.int .i64 a/\sn=.int .i64 n/\wx.ownsRow w.heap.size 5 1 so L.length (L.map bv)/\a<=m/\n<=262144*a/\L.length<=262144/\Below w.heap.size w wx/\
  Hid ((n<=262144->L.length=n)/\(((a=0\/a<m)/\∃k,m<k+a/\ANS=dU t.data.toList k a n L)\/(a≠0/\a=m/\ANS=if 262144<n then([],3)else(L,0)))))
  (fun _ sa _ _=>m+1-(intOf sa).toNat)
 case atStart=>exact⟨[],0,0,rfl,rfl,Ns _ _ _ _,Nh _,Nh _,Nh _,Nj _ _,aa ⟨fun _=>rfl,.inl ⟨.inl rfl,m+1,by omega,hh.out⟩⟩⟩
 case round=>
  obtain⟨L,a,n,rfl,rfl,he,ha,hn,hL,ho,hJ⟩:=hrel;have h3:=aa he;have hf:=aa ho;have hR:=ho.size;obtain⟨hw,h8⟩:=hJ.out;have hr:=aa hw;have hV:n<=1000000000000:=by omega
  clear he ho hJ hw;rcases h8 with⟨hO,k,hk,h0⟩|⟨hx,hy,h0⟩
  ·obtain⟨k,rfl⟩:∃j,k=j+1:=⟨k-1,by omega⟩;rw[kE,hq.out,<-hg.out]at h0;have HA:=aa h0;have hv:=HT.out wr a;have h2:=HM.out a;have h9:=HL.out a;generalize aK t.data.toList (a:Nat)=ans at*;obtain⟨X,tq,er⟩:=ans;have hu:Hid (Calls prog 13 #[.string t,.int .i64 a] wr fun e w'=>e=.returned (.tuple #[.string (S06.bq X),.int .i64 tq,.int .i64 er])/\Below wr.heap.size wr w'):=aa hv;have hX:X.length<=262144:=h9;have hW:(S06.bq X).size=X.length:=rfl;have hN:Hid ((S06.bq X).data.toList=X):=aa (nr X);dsimp only at h2 HA;rw[hq.out,<-hg.out]at h2;have ht:=aa h2;have HK:=aa hk;generalize S06.bq X=TX at*;obtain⟨b1,hi⟩:∃b,b=decide (a=0):=⟨_,rfl⟩;have d0:((a:Int)==0)=b1:=by
    rw[hi];by_cases h:a=0;·rw[No h,h];rfl
    ·rw[Nk h];exact Qw (by omega)
   (have d1:b1=false->a<t.size:=fun h=>by rw[hi]at h;have:=of_decide_eq_false h;rw[<- hg.out];omega);have D1:=aa d1;clear h0 hv h2 h9 hk hi hO HT HM HL hh d1;cases b1;case' false=>(have d1n:=D1.out rfl;have d1:decide ((a:Int)<(t.size:Int))=true:=aX (by omega))
   all_goals
    go_wp2_with fail
    refine hu.out.mono ?_
    rintro e w2 ⟨rfl,hl⟩
    have h7:=aa (hf.out.trans (hl.mono hR))
    have h1:=aa (ef h3.out hl)
    clear hl hu h3 hf
    by_cases e4:er≠0
    ·have d4:=cG e4
     have hj:=HA.out
     rw[Ng e4]at hj
     have HF:=aa (HP.out [] er w2 hj h7.out)
     clear hj HP HA e4
     go_wp2_with fail
     first|exact HF.out|(go_ret2;exact HF.out)
    have d4:=eE e4
    obtain⟨n2,hE⟩:∃x,x=n+X.length:=⟨_,rfl⟩
    have hQ:(n:Int)+(X.length:Int)=(n2:Int):=by omega
    obtain⟨g1,g2,_⟩:=ht.out (Decidable.not_not.1 e4)
    have hj:=HA.out
    rw[Nf e4,<-hE]at hj
    have hc:n2<=262144*tq:=by omega
    have hP:n2<=2000000000000:=by omega
    have REL:Hid (∀ L2,(n2<=262144->L2=L++X)->(262144<n2->L2=L)->((n2<=262144->L2.length=n2)/\(((tq=0\/tq<m)/\∃k,m<k+tq/\ANS=dU t.data.toList k tq n2 L2)\/(tq≠0/\tq=m/\ANS=if 262144<n2 then([],3)else(L2,0))))):=aa fun L2 hA hB=>by
     refine⟨fun h=> ?_,?_⟩
     ·rw[hA h,Nc,hr.out (by omega)];omega
     ·by_cases h5:tq<m
      ·rw[Ng h5]at hj
       refine .inl ⟨.inr h5,k,by have:=HK.out;omega,?_⟩
       rw[hj]
       by_cases h6:n2<=262144
       ·rw[Ng h6,hA h6]
       ·rw[Nf h6,hB (by omega)]
      ·rw[Nf h5]at hj
       refine .inr ⟨by omega,by omega,?_⟩
       rw[hj]
       by_cases h6:262144<n2
       ·rw[Ng h6,Ng h6]
       ·rw[Nf h6,Nf h6,hA (by omega)]
    clear hj HP HA e4 hr HK hE ht
    by_cases e5:n2<=262144
    ·have d5:decide ((n2:Int)<=262144)=true:=aX (by omega)
     obtain⟨v9,w9,hF,hp,hC⟩:=sV w2 w.heap.size _ L h1.out TX (by omega) h7.out.size
     have hz:=h7.out.trans (jg h1.out h7.out.size hC)
     rw[hN.out]at hp
     have hM:=aa hF
     have hK:=aa hp
     have hH:=aa hz
     clear hF hp hz hC h1 h7
     go_wp2_with (at_builtin;refine Lib.wpList_append_run _ rfl _ _ 39 9 rfl _ (.string TX) rfl rfl v9 w9 hM.out ?_)
     go_roundw
     case rel=>exact⟨L++X,tq,n2,rfl,rfl,hK.out,g2,hc,by rw[Nc];have:=(REL.out _ (fun _=>rfl) (fun h=>absurd e5 (by omega))).1 e5;rw[Nc]at this;omega,hH.out,aa (REL.out _ (fun _=>rfl) (fun h=>absurd e5 (by omega)))⟩
     case measure=>simp[intOf];omega
    ·have d5:decide ((n2:Int)<=262144)=false:=aD (by omega)
     go_wp2_with fail
     go_roundw
     case rel=>exact⟨L,tq,n2,rfl,rfl,h1.out,g2,hc,hL,h7.out,aa (REL.out _ (fun h=>absurd h e5) (fun _=>rfl))⟩
     case measure=>simp[intOf];omega
  ·have d0:((a:Int)==0)=false:=Qw (by omega);have d1n:¬a<t.size:=(by rw[<- hg.out];omega);have d1:decide ((a:Int)<(t.size:Int))=false:=aD (by omega);by_cases e5:262144<n;·have d5:decide ((262144:Int)<(n:Int))=true:=aX (by omega);rw[Ng e5]at h0;have HF:=aa (HP.out [] 3 wr h0 hf.out);clear h0 HP HT HM HL hh hx hy;go_wp2_with fail;first|exact HF.out|(go_ret2;exact HF.out)
   ·have d5:decide ((262144:Int)<(n:Int))=false:=aD (by omega);rw[Nf e5]at h0;have HF:=aa (HP.out L 0 wr h0 hf.out);have hI:=aa (lg h3.out);have hS:=hI.out;clear h0 HP HT HM HL hh hx hy;go_wp2_with fail;first|exact HF.out|(go_ret2;exact HF.out)
theorem Fd{K:Nat}(h3:3<=K)(hK:K<=8192)(h0:∀(wx:World) (t:ByteArray),t.size<=K->Calls prog 20 #[.string t] wx (aZ wx (eM t.data.toList))):fU K where
 three:=h3
 packOk:=fun w s level most h hs=>by
  obtain⟨lv,rfl⟩:∃lv:Nat,level=lv:=⟨level.toNat,by have:=h.1;omega⟩
  exact IZ hK h0 w s lv most h hs
 take:=fun w t at' ht _ _=>tx w t at' (by omega)
 unpack:=fun w t ht=>zR w t (by omega)
theorem Cw:fU 3:=Fd (ah _) (by omega) fun wx t ht=>zj 12 S05.Bg wx t (by omega) (by omega)
