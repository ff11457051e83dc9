import Derived.Test.YtepokmggbfoakaaGreatDoorT22
import Derived.Test.YtepokmggbfoakaaGreatDoorT07
import Derived.Test.YtepokmggbfoakaaGreatDoorT33
import Derived.Test.YtepokmggbfoakaaGreatDoorT34
import Derived.Test.YtepokmggbfoakaaGreatDoorT31
import Derived.Test.YtepokmggbfoakaaGreatDoorT29
import Derived.Test.YtepokmggbfoakaaGreatDoorT32
import Derived.Test.YtepokmggbfoakaaGreatDoorT28
import Derived.Sort.WalkB2
import Derived.Sort.LotB
import Derived.Sort.WalkB3
import Derived.Shelf.SlSortCmp.Xorshift
import Derived.Laws.Bits64b
import Derived.Sort.LotD1
import Derived.Sort.LotD5
import Derived.Sort.WalkA6
import Derived.Sort.WalkC4
import Derived.Sort.LotD3
set_option maxHeartbeats 6400000
set_option maxRecDepth 100000
namespace Go.Proofs.YtepokmggbfoakaaGreatDoor
open _root_.Go.Proofs.Tryz
open Go.RowKit
theorem sW:∀(l:List Int) (list:List UInt8),(∀ x∈l,0<=x/\x<list.length)->∃t,S06.cK l list=some t
 | [],list,_=>⟨[],rfl⟩
 | x::l,list,h=>by have hx:=h x Nl;(obtain⟨t,ht⟩:=sW l (S06.df list x.toNat) fun y hy=>by rw[S06.dS _ _ (by omega)];exact h y (Nu _ hy));exact⟨_,by rw[S06.cK,Ng hx,ht];rfl⟩
theorem r5(n most:Nat)(hn:1<=n):∀(l:List Int) (out:List Nat) (wo:Nat) (ended:Bool),(∀ x∈out,x<n)->∀x∈(S07.dI n most l out wo ended).1,x<n
 | [],out,wo,ended,h=>by
  unfold S07.dI;split;·exact h
  ·simp
 | s::l,out,wo,ended,h=>by
  unfold S07.dI;split;·simp
  rename_i h1;split;·simp
  split;·exact r5 n most hn l out wo true h
  rename_i h2;split
  ·split;·simp
   ·refine r5 n most hn l _ 1 false fun x hx=> ?_;rcases List.mem_append.1 hx with hx|hx;·exact h x hx
    ·have:=List.mem_singleton.1 hx;omega
  split;·simp
  ·refine r5 n most hn l _ _ false fun x hx=> ?_;rcases List.mem_append.1 hx with hx|hx;·exact h x hx
   ·have:=(List.mem_replicate.1 hx).2;omega
theorem FL(n:Nat)(most:Int)(L:List Int)(hn:1<=n):∀x∈(S07.dH n most L).1,x<n:=by
 unfold S07.dH;split;·simp
 ·rw[Nn];exact r5 n _ hn L [] 1 false (by simp)
theorem DS(l:List Nat)(p i:Nat)(hi:i<16):(S06.dR l p i).Pairwise (· < ·)/\∀b∈S06.dR l p i,16*i<=b.toNat/\b.toNat<16*i+16:=by
 have hv:∀k,k<16->(UInt8.ofNat (16*i+k)).toNat=16*i+k:=fun k hk=>by rw[Ot,NJ (by omega)]
 unfold S06.dR;constructor;·rw[PJ];refine OQ ?_ (List.pairwise_lt_range.filter _);intro a b ha hb h0;have ha:=List.mem_range.1 (List.mem_filter.1 ha).1;have hb:=List.mem_range.1 (List.mem_filter.1 hb).1;rw[PQ,hv _ ha,hv _ hb];omega
 ·intro b hb;obtain⟨k,hk,rfl⟩:=List.mem_map.1 hb;have hk:=List.mem_range.1 (List.mem_filter.1 hk).1;rw[hv k hk];omega
theorem nR(l:List Nat)(fl:Nat->Nat):∀(is:List Nat) (p:Nat) (out o:List UInt8) (q:Nat),S06.goT l fl is p out=some (o,q)->is.Pairwise (· < ·)->(∀ i∈is,i<16)->out.Pairwise (· < ·)->(∀ b∈out,∀i∈is,b.toNat<16*i)->o.Pairwise (· < ·)
 | [],p,out,o,q,h,_,_,ho,_=>by simp only[S06.goT,On,Pv]at h;rw[<- h.1];exact ho
 | i::is,p,out,o,q,h,hp,hi,ho,hb=>by
  have h3:=List.pairwise_cons.1 hp;have h4:∀j∈is,j<16:=fun j hj=>hi j (Nu _ hj);unfold S06.goT at h;split at h;·exact nR l fl is p out o q h h3.2 h4 ho fun b h0 j hj=>hb b h0 j (Nu _ hj)
  ·split at h;·cases h
   ·obtain⟨r1,r2⟩:=DS l p i (hi i Nl);refine nR l fl is _ _ o q h h3.2 h4 ?_ ?_;·rw[List.pairwise_append];refine⟨ho,r1,fun a ha b h0=> ?_⟩;have h1:=hb a ha i Nl;have h2:=(r2 b h0).1;rw[PQ];omega
    ·intro b h0 j hj;rcases List.mem_append.1 h0 with h0|h0;·exact hb b h0 j (Nu _ hj)
     ·have h1:=(r2 b h0).2;have h2:=h3.1 j hj;omega
theorem Hv(l:List Nat)(p:Int)(h:(S06.ao l p).2.2=0):S06.fE (S06.ao l p).1:=by
 unfold S06.ao at h |-;split;·rename_i h0;rw[Ng h0]at h;cases h
 rename_i h0;rw[Nf h0]at h;generalize p.toNat=a at*;unfold S06.dQ at h |-;by_cases h1:l.length<a;·rw[Ng h1]at h;cases h
 rw[Nf h1]at h |-;by_cases h2:l.length<a+16;·rw[Ng h2]at h;cases h
 rw[Nf h2]at h |-
 cases hg:S06.goT l (fun i=>l.getD (a+i) 0) (List.range 16) (a+16) []with
 | none=>rw[hg]at h;cases h
 | some r=>
  obtain⟨o,q⟩:=r;rw[hg]at h;dsimp only at h |-;by_cases h3:o= [];·rw[Ng h3]at h;cases h
  rw[Nf h3];exact(S06.JJ o).2 ⟨h3,nR l _ _ _ _ _ _ hg Ry (fun i hi=>List.mem_range.1 hi) List.Pairwise.nil (by simp)⟩
theorem Fc(l:List Nat)(p:Int)(most:Int)(L:List Int)(h:(S06.ao l p).2.2=0):(S06.cL (zL (S07.dH ((S06.ao l p).1.length:Nat) most L).1) (S06.ao l p).1).2=0:=by have hM:=Hv l p h;have hn:1<=(S06.ao l p).1.length:=List.length_pos_iff.2 hM.1;(obtain⟨t,ht⟩:=sW (zL (S07.dH ((S06.ao l p).1.length:Nat) most L).1) (S06.ao l p).1 fun x hx=>by obtain⟨y,hy,rfl⟩:=List.mem_map.1 hx;have:=FL _ most L hn y hy;omega);unfold S06.cL;rw[Ng hM,ht]
theorem JQ{a b:List UInt8}(h:a.Perm b):S06.ofL a=S06.ofL b:=
 S06.od (S06.ic a) (S06.ic b) fun x=>by rw[S06.nd,S06.nd];exact h.mem_iff
theorem IW(t:List UInt8):S06.ofL (kp t)=S06.ofL t:=by obtain⟨L,h⟩:=AG t;unfold kp;rw[<- nf h];exact JQ (S05.x8 h)
theorem rQ(bits:List Nat)(n:Nat):∀(t p:Nat) (acc:List (List Nat)),p<=bits.length->(dF bits n t p acc).2.1<=bits.length
 | 0,_,_,h=>h
 | t+1,p,acc,h=>by
  rw[lP];split
  ·split;·exact rQ bits n t _ _ (kD _ _ _).1
   ·exact Nh _
  ·exact Nh _
theorem KF(l:List Nat)(p n:Int):(dC l p n).2.2.1<=l.length:=by
 unfold dC;split;·exact Nh _
 unfold jI;split;·exact Nh _
 split;·exact Nh _
 rename_i h3;split;·exact Nh _
 split;·exact Nh _
 unfold rP;split
 ·split;·exact rQ l _ _ _ _ (fR l _ (by omega) _ _ _ _ (by omega)).1
  ·exact Nh _
 ·exact Nh _
abbrev MZ (g:Nat):Value:=.func (.func 176) #[] #[.pointer (some ⟨g,0,none⟩)]
abbrev CD (k:Int):Ending:=.panicked [{ v:=.iface 23 (.int .i64 k),recovered:=false }]
theorem Cq(w:World)(p:Nat):Calls prog 129 #[.pointer (some ⟨p,0,none⟩)] w fun e w'=>e=.returned (MZ w.heap.size)/\w'=w.alloc (.cells #[.pointer (some ⟨p,0,none⟩)] 71):=by go_enter func129,ntmps129;go_wp2_with fail;go_ret;exact⟨rfl,rfl⟩
section
variable {B:Nat} {w:World} {g p n:Nat} {s:ByteArray} (hg:Blk w g 71 #[.pointer (some ⟨p,0,none⟩)]) (hR:IsR B w p s n) (hs:s.size<=2000000)
include hg hR hs
theorem sd(k:Nat)(hk:k<=64)(h1:n+k<=8*s.size):
 Calls prog 176 #[.int .i64 k,.pointer (some ⟨g,0,none⟩)] w fun e w'=>e=.returned (.int .u64 (val (((ai s.data.toList).drop n).take k)))/\IsR B w' p s (n+k)/\al B [p] [] w w':=by have HT:=aa (fS B w p s n k hR (by omega) hk h1);generalize val (((ai s.data.toList).drop n).take k)=x at*;have q0:w.cell? ⟨g,0,none⟩=some (.pointer (some ⟨p,0,none⟩)):=(ac hg 0).trans rfl;clear hR hg;go_enter func176,ntmps176;go_wp2_with fail;refine HT.out.mono ?_;rintro e w2 ⟨rfl,h0,h2⟩;go_wp2_with fail;go_ret;exact⟨rfl,h0,h2⟩
theorem ly(k:Nat)(hk:k<=64)(hn:n<=8*s.size)(h1:8*s.size<n+k):
 Calls prog 176 #[.int .i64 k,.pointer (some ⟨g,0,none⟩)] w fun e w'=>e=CD 10/\al B [p] [] w w':=by
 have HT:=aa (dX B w p s n k hR (by omega) hk hn h1);have q0:w.cell? ⟨g,0,none⟩=some (.pointer (some ⟨p,0,none⟩)):=(ac hg 0).trans rfl;clear hR hg;go_enter func176,ntmps176;go_wp2_with fail;refine HT.out.mono ?_;rintro e w2 ⟨rfl,h2,h0⟩;go_wp2_with fail
 first
 | exact⟨rfl,h0⟩
 | exact⟨rfl,rfl,h0⟩
 | (simp [bodyPost];exact h0)
end
def ot(B:Nat)(w:World)(p:Nat)(s:ByteArray)(n:Nat)(h:Nat×Nat×Nat)(e:Ending)(w':World):Prop:=
 (h.2.2≠0->e=CD h.2.2)/\(h.2.2=0->e=.returned (.agg #[.int .u32 h.1,.int .i64 h.2.1])/\IsR B w' p s (n+105))/\al B [p] [] w w'
theorem nu(l:List Nat)(n k:Nat)(hb:am l):val ((l.drop n).take k)<2^k:=ga l n k k hb (ah _)
theorem vj{B:Nat}{w:World}{g p n:Nat}{s:ByteArray}(hg:Blk w g 71 #[.pointer (some ⟨p,0,none⟩)])(hR:IsR B w p s n)(hs:s.size<=2000000)(hn:n<=8*s.size)(hB:B<=w.heap.size):
 Calls prog 128 #[MZ g] w (ot B w p s n (bj (ai s.data.toList) n)):=by
 have hL:(ai s.data.toList).length=8*s.size:=aq _;have hl:=aG s.data.toList;have hK:g≠p:=fun e=>by subst e;have h1:=hg.symm.trans hR.blk;simp at h1
 have HG:=aa (fun(wx:World) (h:al B [p] [] w wx)=>h.blk hg (by simpa using hK) ar);obtain⟨w1,hj⟩:∃w1,w1=w.alloc (.cells #[.int .u32 0,.int .i64 0] 96):=⟨_,rfl⟩;have hH:al B [p] [] w w1:=by rw[hj];exact(al.refl _ _ _ _).alloc hB _
 have hA:IsR B w1 p s n:=by rw[hj];exact hR.alloc _
 have hG:Blk w1 w.heap.size 96 #[.int .u32 0,.int .i64 0]:=eJ hj;have hh:p≠w.heap.size:=fun e=>by have:=az hR.blk;omega
 obtain⟨ans,h3⟩:∃ans,ans=bj (ai s.data.toList) n:=⟨_,rfl⟩;rw[<- h3];have h4:Hid (∀ (w':World) (a b k:Nat),ans=(a,b,k)->k≠0->al B [p] [] w w'->ot B w p s n ans (CD k) w'):=aa fun w' a b k h hk ha=>by rw[h];exact⟨fun _=>rfl,fun h0=>absurd h0 hk,ha⟩
 have hb:Hid (∀ (w':World) (a b:Nat),ans=(a,b,0)->IsR B w' p s (n+105)->al B [p] [] w w'->ot B w p s n ans (.returned (.agg #[.int .u32 a,.int .i64 b])) w'):=aa fun w' a b h hr ha=>by rw[h];exact⟨fun h0=>absurd rfl h0,fun _=>⟨rfl,hr⟩,ha⟩
 unfold bj at h3;rw[hL]at h3;have h2:=aa h3;have hc:=aa hH;have hm:=aa hA;have hu:=aa hG;have hz:=aa hj;generalize ot B w p s n ans=PO at*;clear hg hR hH hA hG hj h3;go_enter func128,ntmps128;go_wp2_with fail;rw[<- hz.out];clear hz;by_cases c1:8*s.size<n+48;·refine(ly (HG.out _ hc.out) hm.out hs 48 (by omega) hn c1).mono ?_;rintro e w2 ⟨rfl,h6⟩;have h:=h2.out;rw[Ng c1]at h;have HA:=aa (h4.out w2 _ _ _ h (by omega) (hc.out.trans h6));clear h6 h h2;go_wp2_with fail;exact⟨rfl,HA.out⟩
 have h3:=h2.out;rw[Nf c1]at h3;clear h2;have HT:=aa (sd (HG.out _ hc.out) hm.out hs 48 (by omega) (by omega));have hx:=nu (ai s.data.toList) n 48 hl;generalize val (((ai s.data.toList).drop n).take 48)=x1 at*;have h2:=aa h3;clear h3;refine HT.out.mono ?_;rintro e w2 ⟨rfl,hC,h6⟩;have HS2:=aa (hc.out.trans h6);have ho:=aa hC;have hv:=aa (h6.blk hu.out (by simpa using hh.symm) ar);clear hC h6 HT hc hm hu;by_cases c2:x1≠54156738319193;·have dd:((x1:Int) != 54156738319193)=true:=(by rw[OP];omega);have h:=h2.out;rw[Ng c2]at h;have HA:=aa (h4.out w2 _ _ _ h (by omega) HS2.out);clear h h2;go_wp2_with fail;exact⟨rfl,HA.out⟩
 have dd:((x1:Int) != 54156738319193)=false:=by rw[OW];omega
 have h3:=h2.out;rw[Nf c2]at h3;clear h2 hx;have h2:=aa h3;clear h3 c2;go_wp2_with fail;clear dd;by_cases c3:8*s.size<n+48+32;·refine(ly (HG.out _ HS2.out) ho.out hs 32 (by omega) (by omega) c3).mono ?_;rintro e w3 ⟨rfl,h7⟩;have h:=h2.out;rw[Ng c3]at h;have HA:=aa (h4.out w3 _ _ _ h (by omega) (HS2.out.trans h7));clear h7 h h2;go_wp2_with fail;exact⟨rfl,HA.out⟩
 have h3:=h2.out;rw[Nf c3]at h3;clear h2;have HT:=aa (sd (HG.out _ HS2.out) ho.out hs 32 (by omega) (by omega));have hx:=nu (ai s.data.toList) (n+48) 32 hl;generalize val (((ai s.data.toList).drop (n+48)).take 32)=x2 at*;have h2:=aa h3;have u2:IntKind.u32.wrap (x2:Int)=x2:=by rw[IntKind.wrap_u32];omega
 clear h3;refine HT.out.mono ?_;rintro e w3 ⟨rfl,hD,h7⟩;have he:=aa (HS2.out.trans h7);have hp:=aa hD;have hw:=aa (h7.blk hv.out (by simpa using hh.symm) ar);clear hD h7 HT HS2 ho hv hx;go_wp2_with fail;by_cases c4:8*s.size<n+80+1;·refine(ly (HG.out _ he.out) hp.out hs 1 (by omega) (by omega) (by omega)).mono ?_;rintro e w4 ⟨rfl,h8⟩;have h:=h2.out;rw[Ng c4]at h;have HA:=aa (h4.out w4 _ _ _ h (by omega) (he.out.trans h8));clear h8 h h2;go_wp2_with fail;exact⟨rfl,HA.out⟩
 have h3:=h2.out;rw[Nf c4]at h3;clear h2;have HT:=aa (sd (HG.out _ he.out) hp.out hs 1 (by omega) (by omega));have e80:n+48+32=n+80:=by omega
 rw[e80]at HT;have hx:=nu (ai s.data.toList) (n+80) 1 hl;generalize val (((ai s.data.toList).drop (n+80)).take 1)=x3 at*;have h2:=aa h3;clear h3 e80;refine HT.out.mono ?_;rintro e w4 ⟨rfl,hE,h8⟩;have h5:=aa (he.out.trans h8);have hq:=aa hE;have hy:=aa (h8.blk hw.out (by simpa using hh.symm) ar);clear hE h8 HT he hp hw;by_cases c5:x3≠0;·have dd:((x3:Int) != 0)=true:=(by rw[OP];omega);have h:=h2.out;rw[Ng c5]at h;have HA:=aa (h4.out w4 _ _ _ h (by omega) h5.out);clear h h2;go_wp2_with fail;exact⟨rfl,HA.out⟩
 have dd:((x3:Int) != 0)=false:=by rw[OW];omega
 have h3:=h2.out;rw[Nf c5]at h3;clear h2 hx;have h2:=aa h3;clear h3 c5;go_wp2_with fail;clear dd;by_cases c6:8*s.size<n+81+24;·refine(ly (HG.out _ h5.out) hq.out hs 24 (by omega) (by omega) (by omega)).mono ?_;rintro e w5 ⟨rfl,h9⟩;have h:=h2.out;rw[Ng c6]at h;have HA:=aa (h4.out w5 _ _ _ h (by omega) (h5.out.trans h9));clear h9 h h2;go_wp2_with fail;exact⟨rfl,HA.out⟩
 have h3:=h2.out;rw[Nf c6]at h3;clear h2;have HT:=aa (sd (HG.out _ h5.out) hq.out hs 24 (by omega) (by omega));have e81:n+80+1=n+81:=by omega
 rw[e81]at HT;have hx:=nu (ai s.data.toList) (n+81) 24 hl;generalize val (((ai s.data.toList).drop (n+81)).take 24)=x4 at*;have u4:IntKind.i64.wrap (x4:Int)=x4:=by rw[Oe];omega
 have h2:=aa h3;clear h3 e81;refine HT.out.mono ?_;rintro e w5 ⟨rfl,hF,h9⟩;have hf:=h9.blk hy.out (by simpa using hh.symm) ar;have q0:=(ac hf 0).trans (rfl:_=some (Value.int .u32 0));have q1:=(ac hf 1).trans (rfl:_=some (Value.int .i64 0));have f0:=ae hf 0;have f1:=ae hf 1;have hJ:=aa (h5.out.trans h9);have hI:=aa (show IsR B w5 p s (n+105)from hF);clear hF h9 HT h5 hq hy hx hf;go_wp2_with fail
 have ha:al w.heap.size [w.heap.size] [] w5 ((w5.setCell ⟨w.heap.size,0,none⟩ (.int .u32 x2)).setCell ⟨w.heap.size,1,none⟩ (.int .i64 x4)):=
  ((al.refl _ _ _ _).set (p:=⟨w.heap.size,0,none⟩) (ah _) (List.mem_singleton.2 rfl) _).set (p:=⟨w.heap.size,1,none⟩) (ah _) (List.mem_singleton.2 rfl) _
 refine ND (v:=.agg #[.int .u32 x2,.int .i64 x4]) ?_ rfl ?_;·simp[results,results128,go_sem,q0,q1]
 ·exact hb.out _ _ _ h2.out (hI.out.step ha (by simpa using hh) ar) (hJ.out.after ha hB (fun i hi=>.inr (by rw[List.mem_singleton.1 hi];exact Nm _)) (fun t ht=>ht))
def cJ(l:List Nat)(q:Int):List UInt8×List Nat×Nat×Nat:=
 let u:=S06.ao l q
 if u.2.2≠0 then([], [],0,u.2.2)else
 let g:=dC l (u.2.1:Nat) ((u.1.length+2:Nat):Int)
 if g.2.2.2≠0 then([], [],0,g.2.2.2)else
 let c:=dV g.1 g.2.1 l (g.2.2.1:Nat)
 if c.2.2≠0 then([], [],0,c.2.2)else(u.1,c.1,c.2.1,0)
def js(u:List UInt8)(cl:List Nat)(most:Int):List UInt8×Nat:=
 let d:=S07.dH (u.length:Nat) most (zL cl)
 if d.2≠0 then([],d.2)else S06.cL (zL d.1) u
def lS(bl:List UInt8)(z R:Nat):List UInt8×Nat:=
 let b:=iy bl R
 if b.2≠0 then([],b.2)else
 let x:=S03.eD [] b.1
 if x.2≠0 then([],x.2)else if S02.bW x.1≠z then([],121)else(x.1,0)
theorem Du(l:List Nat)(z R q:Nat)(most:Int):jD l z R q most=
 if(cJ l q).2.2.2≠0 then([],0,0,(cJ l q).2.2.2)
 else if(js (cJ l q).1 (cJ l q).2.1 most).2≠0 then([],0,0,(js (cJ l q).1 (cJ l q).2.1 most).2)
 else if(lS (js (cJ l q).1 (cJ l q).2.1 most).1 z R).2≠0 then([],0,0,(lS (js (cJ l q).1 (cJ l q).2.1 most).1 z R).2)
 else((lS (js (cJ l q).1 (cJ l q).2.1 most).1 z R).1,z,(cJ l q).2.2.1,0):=by
 have h0:=Fc l (q:Nat) most;unfold jD cJ;generalize S06.ao l (q:Nat)=u at*;obtain⟨ul,up,ue⟩:=u;dsimp only at h0 |-;by_cases e1:ue≠0;·simp only[Ng e1]
 simp only[Nf e1];generalize dC l (up:Nat) ((ul.length+2:Nat):Int)=g;obtain⟨T,P,gp,ge⟩:=g;dsimp only;by_cases e2:ge≠0;·simp only[Ng e2]
 simp only[Nf e2];generalize dV T P l (gp:Nat)=c;obtain⟨cl,cp,ce⟩:=c;dsimp only;by_cases e3:ce≠0;·simp only[Ng e3]
 simp only[Nf e3,Sh,not_true_eq_false,RK];have hb:=h0 (zL cl) (Decidable.not_not.1 e1);unfold js lS;generalize S07.dH (ul.length:Nat) most (zL cl)=d at*;obtain⟨dl,de⟩:=d;dsimp only at hb |-;by_cases e4:de≠0;·simp only[Ng e4]
 simp only[Nf e4];generalize S06.cL (zL dl) ul=b at*;obtain⟨bl,be⟩:=b;dsimp only at hb |-;subst hb;simp only[Sh,not_true_eq_false,RK];generalize iy bl R=k;obtain⟨kl,ke⟩:=k;dsimp only;by_cases e5:ke≠0;·simp only[Ng e5]
 simp only[Nf e5];generalize S03.eD [] kl=x;obtain⟨xl,xe⟩:=x;dsimp only;by_cases e6:xe≠0;·simp only[Ng e6]
 simp only[Nf e6];by_cases e7:S02.bW xl≠z;·simp only[Ng e7];rfl
 ·simp only[Nf e7];rfl
def oy(w:World)(r:List UInt8×List Nat×Nat×Nat)(e:Ending)(w':World):Prop:=
 ∃v B0,w.heap.size<=B0/\e=.returned (.tuple #[.string (S06.bq r.1),v,.int .i64 r.2.2.1,.int .i64 r.2.2.2])/\w'.ownsRow B0 3 1 v r.2.1.length (r.2.1.map iv)/\Below w.heap.size w w'
theorem FF(w:World)(s:ByteArray)(q:Nat)(hs:s.size<=2000000)(_hq:q<=8*s.size):
 Calls prog 130 #[.string s,.int .i64 q] w (oy w (cJ (ai s.data.toList) (q:Nat))):=by
 obtain⟨L,hL⟩:∃L,L=ai s.data.toList:=⟨_,rfl⟩;have hy:=aa (show L.length<=16000000 by rw[hL,aq];have:s.data.toList.length=s.size:=rfl;omega);have HU:=S06.FG w s (q:Nat) hs;have HG:=fun(wx:World) (p k:Int)=>Cf wx s p k hs;have HC:=fun(wx:World) (v:Value) (T:List (List Int)) (P:List Int) (hp:aQ wx v T P) (p:Nat) (h:p<=100000000)=>IP wx v T P hp s (p:Nat) hs (by omega) (by omega);rw[<- hL]at HU HG HC |-;have HG:=aa HG;have HC:=aa HC;have HU:=aa HU;obtain⟨ans,h4⟩:∃ans,ans=cJ L (q:Nat):=⟨_,rfl⟩;rw[<- h4];have h5:=aa (fun(w1:World) (e:Nat) (h:ans=([], [],0,e)) (hb:Below w.heap.size w w1)=>(show oy w ans (.returned (.tuple #[.string ⟨#[]⟩,.slice none 0 0,.int .i64 0,.int .i64 e])) w1 from by rw[h];exact⟨_,_,Nm _,rfl,Ns _ _ _ _,hb⟩));have he:=aa (fun(w1:World) (ul:List UInt8) (cl:List Nat) (cp:Nat) (v:Value) (B0:Nat) (h:ans=(ul,cl,cp,0)) (hB:w.heap.size<=B0) (ho:w1.ownsRow B0 3 1 v cl.length (cl.map iv)) (hb:Below w.heap.size w w1)=>(show oy w ans (.returned (.tuple #[.string (S06.bq ul),v,.int .i64 cp,.int .i64 (0:Nat)])) w1 from by rw[h];exact⟨v,B0,hB,rfl,ho,hb⟩));generalize oy w ans=PO at*;unfold cJ at h4;have h6:=qK L (q:Nat);generalize S06.ao L (q:Nat)=u at*;obtain⟨ul,up,ue⟩:=u;dsimp only at h4 h6;have hk:=aa h6;have h3:=aa h4;clear h4 h6 hL;go_enter func130,ntmps130;go_wp2_with fail;refine HU.out.mono ?_;rintro e w1 ⟨rfl,hl⟩;have hh:=aa hl;clear hl HU;dsimp only;by_cases e2:ue≠0;·have dd:=cG e2;have h0:=h3.out;rw[Ng e2]at h0;have HA:=aa (h5.out w1 ue h0 hh.out);clear h0 h3;go_wp2_with fail;(try simp only[Exit.inBlock,Exit.then]);refine ND (aI rfl _ _ _) rfl ?_;exact HA.out
 have dd:=eE e2;have h0:=h3.out;rw[Nf e2]at h0;clear h3;obtain⟨us,ha⟩:∃us,us=S06.bq ul:=⟨_,rfl⟩;have hA:us.size=ul.length:=by rw[ha];rfl
 have hu:us.size<=256:=by have:=hk.out;omega
 have hz:=aa ha;clear hk;rw[<- ha];obtain⟨k2,hq⟩:∃k2,k2=ul.length+2:=⟨_,rfl⟩;have j1:(us.size:Int)+2=(k2:Int):=by omega
 rw[<- hq]at h0;clear hA ha hq e2;have HT:=aa (HG.out w1 (up:Nat) (k2:Nat));have hg:(dC L (up:Nat) (k2:Nat)).2.2.1<=100000000:=by have h1:=KF L (up:Nat) (k2:Nat);have h2:=hy.out;omega
 generalize dC L (up:Nat) ((k2:Nat):Int)=g at*;obtain⟨T,P,gp,ge⟩:=g;dsimp only at h0 hg;have h3:=aa h0;have hv:=aa hg;clear h0 hg;go_wp2_with fail;refine HT.out.mono ?_;rintro e w2 ⟨v,rfl,h9,hm⟩;obtain⟨A',n',c',B',m',d',rfl,h9⟩:=h9.parts;obtain⟨w3,h7⟩:∃w3,w3=w2.alloc (.cells #[.slice A' n' c',.slice B' m' d'] 90):=⟨_,rfl⟩;obtain⟨h8,hf⟩:=tV h9;rw[<- h7]at h8 hf;have ht:=aa (ap hh.out hm);have hc:=aa (ap ht.out hf);have hw:=aa h8;obtain⟨qa,qb⟩:=h8.cells;rw[h7]at qa qb;clear hm hf h8 h9 HT dd;dsimp only;by_cases e3:ge≠0;·have dd:=cG e3;have h0:=h3.out;rw[Ng e3]at h0;have HA:=aa (h5.out w3 ge h0 hc.out);clear h0 h3;go_wp2_with fail;(try simp only[Exit.inBlock,Exit.then]);rw[<- h7];refine ND (aI rfl _ _ _) rfl ?_;exact HA.out
 have dd:=eE e3;have h0:=h3.out;rw[Nf e3]at h0;clear h3;have hj:=aa (HC.out w3 _ T P hw.out.2 gp hv.out);clear e3;generalize dV T P L ((gp:Nat):Int)=cg at*;obtain⟨cl,cp,ce⟩:=cg;dsimp only at h0;have h3:=aa h0;clear h0;go_wp2_with fail;rw[<- h7];clear h7 qa qb;refine hj.out.mono ?_;rintro e w4 ⟨v4,rfl,hr,hn⟩;have hi:=aa (ap hc.out hn);have hx:=aa hr;clear hn hr hj dd;dsimp only;by_cases e4:ce≠0;·have dd:=cG e4;have h0:=h3.out;rw[Ng e4]at h0;have HA:=aa (h5.out w4 ce h0 hi.out);clear h0 h3;go_wp2_with fail;(try simp only[Exit.inBlock,Exit.then]);refine ND (aI rfl _ _ _) rfl ?_;exact HA.out
 have dd:=eE e4;have h0:=h3.out;rw[Nf e4]at h0;have HA:=aa (he.out w4 ul cl cp v4 w3.heap.size h0 hc.out.size hx.out hi.out);rw[<- hz.out]at HA;clear h0 h3 e4;go_wp2_with fail;try simp only[Exit.inBlock,Exit.then]
 refine ND (aI rfl _ _ _) rfl ?_;exact HA.out
theorem IE(w:World)(us:ByteArray)(A:Option Addr)(c:Nat)(cl:List Nat)(m0:Nat)(hi:aw w A cl.length cl)(hc:cl.length<=c)(hf:cl.length<=2000000)(hu:us.size<=256):
 Calls prog 131 #[.string us,.slice A cl.length c,.int .i64 m0] w fun e w'=>e=.returned (.tuple #[.string (S06.bq (js us.data.toList cl m0).1),.int .i64 (js us.data.toList cl m0).2])/\Below w.heap.size w w':=by
 have HD:=aa (S07.IH w A cl.length c (zL cl) (us.size:Nat) (m0:Nat) (dK hi) hc hf);have h5:=tz (us.size:Nat) (m0:Nat) (zL cl);obtain⟨ans,h0⟩:∃ans,ans=js us.data.toList cl m0:=⟨_,rfl⟩;rw[<- h0];unfold js at h0;rw[show us.data.toList.length=us.size from rfl]at h0;generalize S07.dH (us.size:Nat) (m0:Nat) (zL cl)=dg at*;obtain⟨dl,de⟩:=dg;dsimp only at h0 h5;have h3:=aa h0;have hb:=aa h5;clear h0 h5 hi;go_enter func131,ntmps131;go_wp2_with fail;refine HD.out.mono ?_;rintro e w5 ⟨v5,rfl,h2,h8⟩;obtain⟨A5,c5,rfl,h6,_⟩:=ak h2;have he:=aa (aN h2);have h7:=aa h8;clear h2 h8 HD;dsimp only;by_cases e5:de≠0;·have dd:=cG e5;have h1:=h3.out;rw[Ng e5]at h1;clear h3;subst h1;go_wp2_with fail;go_ret2;exact⟨rfl,h7.out⟩
 have dd:=eE e5;have h1:=h3.out;rw[Nf e5]at h1;clear h3 e5;have h4:=aa (S06.pY w5 A5 dl.length c5 (zL dl) us (dK he.out) h6 (by have:=hb.out;omega) (by omega));unfold S06.kG at h4;subst h1;go_wp2_with fail;refine h4.out.mono ?_;rintro e w6 ⟨rfl,h9⟩;have ha:=aa (ap h7.out h9);clear h9 h4;go_wp2_with fail;go_ret2;exact⟨rfl,ha.out⟩
theorem Fa(col:List UInt8)(row:Nat):(iy col row).1.length<=262144:=by
 unfold iy;split;·exact Nh _
 split;·exact Nh _
 ·rw[S05.fv];omega
theorem BY(w:World)(s:ByteArray)(row:Nat):Calls prog 182 #[.string s,.int .i64 row] w fun e w'=>e=.returned (.tuple #[.string (S06.bq (iy s.data.toList row).1),.int .i64 (iy s.data.toList row).2])/\Below w.heap.size w w':=by
 have hl:s.data.toList.length=s.size:=rfl;unfold iy;rw[hl];by_cases h1:262144<s.size;·rw[Ng h1];refine(S05.Fk w s row h1).mono ?_;rintro e w' ⟨rfl,rfl⟩;exact⟨rfl,Nj _ _⟩
 rw[Nf h1];by_cases h2:s.size<=row;·rw[Ng h2];refine(S05.Fl w s row (by omega) (.inr (by omega))).mono ?_;rintro e w' ⟨rfl,rfl⟩;exact⟨rfl,Nj _ _⟩
 ·rw[Nf h2];refine(S05.pY w s row (by omega) (by omega)).mono ?_;rintro e w' ⟨rfl,hb⟩;exact⟨rfl,hb⟩
theorem B5(w:World)(s:ByteArray)(hs:s.size<=9223372036854775807):Calls prog 21 #[.string s] w fun e w'=>e=.returned (.int .u32 (S02.bW s.data.toList))/\Below w.heap.size w w':=by have h:=S02.vT w s hs;rw[<- S02.uh _ _ (by omega)]at h;exact h
theorem FK(w:World)(z R:Nat)(bs:ByteArray):
 Calls prog 132 #[.agg #[.int .u32 z,.int .i64 R],.string bs] w fun e w'=>e=.returned (.tuple #[.string (S06.bq (lS bs.data.toList z R).1),.int .i64 (lS bs.data.toList z R).2])/\Below w.heap.size w w':=by
 obtain⟨w1,h9⟩:∃w1,w1=w.alloc (.cells #[.int .u32 z,.int .i64 R] 96):=⟨_,rfl⟩;have hr:Below w.heap.size w w1:=bQ h9;have hi:Blk w1 w.heap.size 96 #[.int .u32 z,.int .i64 R]:=eJ h9;have HW:=aa (BY w1 bs R);obtain⟨ans,h4⟩:∃ans,ans=lS bs.data.toList z R:=⟨_,rfl⟩;rw[<- h4];unfold lS at h4;have h5:=Fa bs.data.toList R;generalize iy bs.data.toList R=kg at*;obtain⟨kl,ke⟩:=kg;dsimp only at h4 h5;have hx:=aa h5;have h3:=aa h4;have hk:=aa hr;have hm:=aa hi;have ho:=aa h9;have q1:w1.cell? ⟨w.heap.size,1,none⟩=some (.int .i64 R):=(ac hi 1).trans rfl;rw[h9]at q1;clear h4 hr hi h9 h5;go_enter func132,ntmps132;go_wp2_with fail;rw[<- ho.out];clear ho q1;refine HW.out.mono ?_;rintro e w7 ⟨rfl,hf⟩;have hs:=aO hf hm.out;have hb:=aa (ap hk.out hf);have hn:=aa hs;clear hf HW hs hk hm;dsimp only;by_cases e6:ke≠0;·have dd:=cG e6;have h0:=h3.out;rw[Ng e6]at h0;clear h3;subst h0;go_wp2_with fail;go_ret2;exact⟨rfl,hb.out⟩
 have dd:=eE e6;obtain⟨ks,ha⟩:∃ks,ks=S06.bq kl:=⟨_,rfl⟩;have hv:ks.data.toList=kl:=by rw[ha];rfl
 rw[<- ha];have h0:=h3.out;rw[Nf e6,<-hv]at h0;have hw:ks.size<=2097152:=by have h1:ks.size=kl.length:=(by rw[ha];rfl);have h2:=hx.out;omega
 clear h3 e6 ha hv;have HX:=aa (S03.sZ w7 ks hw);have h6:=tA ks.data.toList;generalize S03.eD [] ks.data.toList=xg at*;obtain⟨xl,xe⟩:=xg;dsimp only at h0 h6;have h3:=aa h0;have hp:=aa h6;clear h0 h6 hw;go_wp2_with fail;refine HX.out.mono ?_;rintro e w8 ⟨rfl,hg⟩;have ht:=aO hg hn.out;have hc:=aa (ap hb.out hg);have he:=aa ht;clear hg HX dd hb hn ht;dsimp only;by_cases e7:xe≠0;·have dd:=cG e7;have h0:=h3.out;rw[Ng e7]at h0;clear h3;subst h0;go_wp2_with fail;go_ret2;exact⟨rfl,hc.out⟩
 have dd:=eE e7;obtain⟨xs,hj⟩:∃xs:ByteArray,xs=⟨xl.toArray⟩:=⟨_,rfl⟩;have h6:xs.data.toList=xl:=by rw[hj]
 have hz:xs.size<=262144:=by have h1:xs.data.toList.length=xs.size:=rfl;have h2:=hp.out;rw[h6]at h1;omega
 rw[<- hj];have h0:=h3.out;rw[Nf e7,<-h6]at h0;clear h3 e7 hj h6 hp;have HZ:=fun wx:World=>B5 wx xs (by omega);have hy:S06.bq xs.data.toList=xs:=rfl;generalize S02.bW xs.data.toList=y at*;have h3:=aa h0;clear h0 hz;have q0:w8.cell? ⟨w.heap.size,0,none⟩=some (.int .u32 z):=(ac he.out 0).trans rfl;have h8:=aa (show Blk w8.drew w.heap.size _ _ from he.out);have h7:=aa hc.out.drew;have hq:=aa (HZ w8.drew);clear hc he HZ;go_upto_region 7 with fail
 go_region_held3 (fun w'=>w'.cell? ⟨w.heap.size,0,none⟩=some (.int .u32 z)) (first|exact q0|exact q9|go_keep)
  (first
    | (go_at_call 21;refine hq.out.mono ?_;rintro e w9 ⟨rfl,hh⟩
       have hl:=aa (ap h7.out hh)
       have hu:=aO hh h8.out
       have q9:w9.cell? ⟨w.heap.size,0,none⟩=some (.int .u32 z):=(ac hu 0).trans rfl
       clear hh hu))
 clear hq h8 h7 q0 dd;by_cases e8:y≠z;·have dd:((y:Int) != (z:Int))=true:=(by rw[OP];omega);have h0:=h3.out;rw[Ng e8]at h0;clear h3;subst h0;go_wp2_with fail;go_ret2;exact⟨rfl,hl.out⟩
 have dd:((y:Int) != (z:Int))=false:=by rw[OW];omega
 have h0:=h3.out;rw[Nf e8]at h0;clear h3;subst h0;go_wp2_with fail;go_ret2;exact⟨rfl,hl.out⟩
theorem pZ(a:Nat)(x k:Int)(older:List PanicEntry)(w:World)(ha:w.cell? ⟨a,0,none⟩=some (.int .i64 x))(fa:w.frozen? ⟨a,0,none⟩=false):
 CallsD prog 127 #[.pointer (some ⟨a,0,none⟩)] (.panicking ({ v:=.iface 23 (.int .i64 k),recovered:=false } :: older)) w fun e u' w'=>
  e=.returned (.tuple #[])/\u'=.panicking ({ v:=.iface 23 (.int .i64 k),recovered:=true } :: older)/\w'=w.setCell ⟨a,0,none⟩ (.int .i64 k):=by have h0:(Instr.typeAssert (Value.iface 23 (.int .i64 k)) 20 23 true).run prog w=.ok (.tuple #[.int .i64 k,.bool true]) w:=rfl;refine callsD_of_wpS func127 rfl fun c₀ cs hu=> ?_;apply wpS_seq;apply wpS_region;simp[wpOpsS,go_sem,recoverD,hu,ntmps127,Exit.thenS,h0];apply wpS_seq;apply wpS_region;simp[wpOpsS,go_sem,Exit.thenS];refine wpS_cond (t:=true) (by simp[Act.eval,Array.replicate]) ?_;simp only[if_true];refine wpS_of_wp ?_;rw[show #[Value.pointer (some { block:=a,off:=0 })]++(((((((((Array.replicate 9 undef).setIfInBounds 3 (Value.iface 23 (Value.int IntKind.i64 k))).setIfInBounds 4 (Value.tuple #[Value.int IntKind.i64 k,Value.bool true])).setIfInBounds 2 (Value.tuple #[Value.int IntKind.i64 k,Value.bool true])).setIfInBounds 5 (Value.int IntKind.i64 k)).setIfInBounds 6 (Value.bool true)).setIfInBounds 0 (Value.int IntKind.i64 k)).setIfInBounds 1 (Value.bool true)).setIfInBounds 7 (Value.bool true))=#[Value.pointer (some { block:=a,off:=0 }),Value.int IntKind.i64 k,Value.bool true,Value.tuple #[Value.int IntKind.i64 k,Value.bool true],Value.iface 23 (Value.int IntKind.i64 k),Value.tuple #[Value.int IntKind.i64 k,Value.bool true],Value.int IntKind.i64 k,Value.bool true,Value.bool true,undef]from by simp[Array.replicate]];go_wp2_with fail;simp[bodyPostS,results,results127]
theorem zk(a:Nat)(w:World):
 CallsD prog 127 #[.pointer (some ⟨a,0,none⟩)] .returning w fun e u' w'=>
  e=.returned (.tuple #[])/\u'=.returning/\w'=w:=by have h0:∀wx,(Instr.typeAssert Value.nilIface 20 23 true).run prog wx=.ok (.tuple #[.int .i64 0,.bool false]) wx:=fun _=>rfl;refine callsD_of_wpS func127 rfl fun c₀ cs hu=> ?_;apply wpS_seq;apply wpS_region;simp[wpOpsS,go_sem,recoverD,hu,ntmps127,Exit.thenS,h0];apply wpS_seq;apply wpS_region;simp[wpOpsS,go_sem,Exit.thenS];refine wpS_cond (t:=false) (by simp[Act.eval,Array.replicate]) ?_;simp only[Bool.false_eq_true,RK];refine wpS_of_wp (wp_skip ?_);cases c₀;simp_all [bodyPostS,results,results127]
theorem BV{w:World}{g b:Nat}{t:TypeId}{cs:Array Value}{x:Value}(h:Blk w g t cs)(h0:g≠b):Blk (w.setCell ⟨b,0,none⟩ x) g t cs:=
 (al.set (ps:= [b]) (al.refl 0 [b] [] w) (p:=⟨b,0,none⟩) (Nh _) (List.mem_singleton.2 rfl) x).blk h (by simpa using h0) ar
theorem Ms{w:World}{B b n:Nat}{t:TypeId}{v:Value}{xs:List Value}{x:Value}(h:w.ownsRow B t 1 v n xs)(hb:b<B):(w.setCell ⟨b,0,none⟩ x).ownsRow B t 1 v n xs:=
 (al.set (ps:= [b]) (al.refl 0 [b] [] w) (p:=⟨b,0,none⟩) (Nh _) (List.mem_singleton.2 rfl) x).row h (fun k hk hm=>by
   have h1:=(OD h k hk).1
   have h2:=List.mem_singleton.1 hm
   omega) ar
theorem iq{w w':World}{g:Nat}{t:TypeId}{cs:Array Value}(hb:Below w.heap.size w w')(h:Blk w g t cs):Blk w' g t cs:=aO hb h
theorem Kv(l:List Nat)(q:Int):(cJ l q).1.length<=256/\(cJ l q).2.1.length<=2000000:=by
 unfold cJ;dsimp only;split;·exact⟨Nh _,Nh _⟩
 split;·exact⟨Nh _,Nh _⟩
 split;·exact⟨Nh _,Nh _⟩
 ·exact⟨qK _ _,NH (Ab _ _ _ _) (by omega)⟩
theorem CF{l:List Nat}{p:Nat}(h:(bj l p).2.2=0):p+105<=l.length:=by
 unfold bj at h;split at h;·cases h
 split at h;·cases h
 split at h;·cases h
 split at h;·cases h
 split at h;·cases h
 split at h;·cases h
 ·omega
theorem tF{P:Program}{fn:Func}{R:Ending->World->Prop}{tmps:Array Value}{w:World}{v:Value}(h:(results fn tmps).run P w=.ok v w)(hr:R (.returned v) w):bodyPostD P fn R .ret { tmps:=tmps,defers:= [] } w:=⟨v,h,hr⟩
theorem zV{R:Ending->World->Prop}{tmps:Array Value}{w:World}{v:Value}{g:Nat}{x k:Int}(ha:Blk w g 23 #[.int .i64 x])
 (h:(results Tryz.f73 tmps).run prog (w.setCell ⟨g,0,none⟩ (.int .i64 k))=.ok v (w.setCell ⟨g,0,none⟩ (.int .i64 k))) (hr:R (.returned v) (w.setCell ⟨g,0,none⟩ (.int .i64 k))):
 bodyPostD prog Tryz.f73 R (.panic [{ v:=.iface 23 (.int .i64 k),recovered:=false }]) { tmps:=tmps,defers:= [{ target:=.fn (.func 127) #[.pointer (some ⟨g,0,none⟩)],args:=#[] }] } w:=by refine leaves_cons (f:=127) (args:=#[.pointer (some ⟨g,0,none⟩)]) (by simp) (by simp[go_sem]) ?_;refine(pZ g x k [] w ((ac ha 0).trans rfl) (ae ha 0)).mono ?_;rintro e u' w' ⟨rfl,rfl,rfl⟩;exact⟨v,h,hr⟩
theorem m8{R:Ending->World->Prop}{tmps:Array Value}{w:World}{v:Value}{g:Nat}(h:(results Tryz.f73 tmps).run prog w=.ok v w)(hr:R (.returned v) w):
 bodyPostD prog Tryz.f73 R .ret { tmps:=tmps,defers:= [{ target:=.fn (.func 127) #[.pointer (some ⟨g,0,none⟩)],args:=#[] }] } w:=by refine leaves_cons (f:=127) (args:=#[.pointer (some ⟨g,0,none⟩)]) (by simp) (by simp[go_sem]) ?_;refine(zk g w).mono ?_;rintro e u' w' ⟨rfl,rfl,rfl⟩;exact⟨v,h,hr⟩
theorem B1(w:World)(s:ByteArray)(at' most:Int)(hs:s.size<=2000000)(h:at'<0\/8*(s.size:Int)<at'\/most<1\/262144<most):
 Calls prog 73 #[.string s,.int .i64 at',.int .i64 most] w fun e w'=>e=.returned (.tuple #[.string ⟨#[]⟩,.int .u32 0,.int .i64 0,.int .i64 2])/\Below w.heap.size w w':=by
 obtain⟨w1,h5⟩:∃w1,w1=w.alloc (.cells #[.int .i64 0] 23):=⟨_,rfl⟩;have ha:Below w.heap.size w w1:=bQ h5;have hb:Blk w1 w.heap.size 23 #[.int .i64 0]:=eJ h5;have h0:=aa h5;have h6:=aa ha;have h3:=aa hb;clear h5 ha hb;by_cases h1:at'<0\/8*(s.size:Int)<at';·have HN:=aa (kY w1 s at' (by omega) h1);have q1:=(ac h3.out 0).trans (rfl:_=some (Value.int .i64 0));have f1:=ae h3.out 0;have c1:=(ac (au h3.out 0 (.int .i64 2)) 0).trans (rfl:_=some (Value.int .i64 2));clear h;(go_enter_defers func73,ntmps73);go_wp2_with fail;rw[<- h0.out];clear h0;refine HN.out.mono ?_;rintro e w2 ⟨rfl,rfl⟩;go_wp2_with fail;refine tF (v:=.tuple #[.string ⟨#[]⟩,.int .u32 0,.int .i64 0,.int .i64 2]) ?_ ⟨rfl,h6.out.setCell (p:=⟨w.heap.size,0,none⟩) (ah _) _⟩;simp[results,results73,go_sem,c1]
 ·have HN:=aa (fh w1 s at' (by omega) (by omega) (by omega));obtain⟨w2,h8⟩:∃w2,w2=w1.alloc (.cells #[.bool true,.string s,.int .i64 at'] 120):=⟨_,rfl⟩;have h7:Below w1.heap.size w1 w2:=bQ h8;have h4:=iq h7 h3.out;have h9:=aa (ap h6.out h7);have q1:=(ac h4 0).trans (rfl:_=some (Value.int .i64 0));have f1:=ae h4 0;have c1:=(ac (au h4 0 (.int .i64 2)) 0).trans (rfl:_=some (Value.int .i64 2));rw[<- h8]at HN;clear h7 h4 h6 h3 h8;by_cases h2:most<1;·have d0:decide (most<1)=true:=No h2;clear h;(go_enter_defers func73,ntmps73);go_wp2_with fail;rw[<- h0.out];clear h0;refine HN.out.mono ?_;rintro e w2 ⟨rfl,rfl⟩;go_wp2_with fail;refine tF (v:=.tuple #[.string ⟨#[]⟩,.int .u32 0,.int .i64 0,.int .i64 2]) ?_ ⟨rfl,h9.out.setCell (p:=⟨w.heap.size,0,none⟩) (ah _) _⟩;simp[results,results73,go_sem,c1]
  ·have d0:decide (most<1)=false:=Nk h2;have d1:decide (262144<most)=true:=aX (by omega);clear h;(go_enter_defers func73,ntmps73);go_wp2_with fail;rw[<- h0.out];clear h0;refine HN.out.mono ?_;rintro e w2 ⟨rfl,rfl⟩;go_wp2_with fail;refine tF (v:=.tuple #[.string ⟨#[]⟩,.int .u32 0,.int .i64 0,.int .i64 2]) ?_ ⟨rfl,h9.out.setCell (p:=⟨w.heap.size,0,none⟩) (ah _) _⟩;simp[results,results73,go_sem,c1]
theorem Fp(w:World)(s:ByteArray)(a0 m0:Nat)(hs:s.size<=2000000)(ha:a0<=8*s.size)(q0:1<=m0)(q1:m0<=262144):
 Calls prog 73 #[.string s,.int .i64 a0,.int .i64 m0] w (eQ w (bR (ai s.data.toList) a0 m0)):=by
 obtain⟨L,hL⟩:∃L,L=ai s.data.toList:=⟨_,rfl⟩;have pj:L.length=8*s.size:=by rw[hL];exact aq _
 obtain⟨ans,h2⟩:∃ans,ans=bR L a0 m0:=⟨_,rfl⟩;have h3:ans=if(bj L a0).2.2≠0 then([],0,0,(bj L a0).2.2)else jD L (bj L a0).1 (bj L a0).2.1 (a0+105) m0:=by rw[h2];unfold bR;rw[Nf (by rw[pj];omega),Nn]
 have hZ:=aa fun(wx:World) (g p:Nat) (hg:Blk wx g 71 #[.pointer (some ⟨p,0,none⟩)]) (hR:IsR p wx p s a0)=>vj hg hR hs ha (NV (az hR.blk));rw[<- hL]at hZ;rw[<- hL,<-h2];have h9:=aa (fun(w1:World) (e:Nat) (h:ans=([],0,0,e)) (hb:Below w.heap.size w w1)=>(show eQ w ans (.returned (.tuple #[.string ⟨#[]⟩,.int .u32 0,.int .i64 0,.int .i64 e])) w1 from⟨by rw[h];rfl,hb⟩));have H8:=aa (fun(w1:World) (t:List UInt8) (x q:Nat) (h:ans=(t,x,q,0)) (hb:Below w.heap.size w w1)=>(show eQ w ans (.returned (.tuple #[.string (S06.bq t),.int .u32 x,.int .i64 q,.int .i64 (0:Nat)])) w1 from⟨by rw[h],hb⟩));generalize eQ w ans=PO at*;obtain⟨w1,hS⟩:∃w1,w1=w.alloc (.cells #[.int .i64 0] 23):=⟨_,rfl⟩;have pb:Below w.heap.size w w1:=bQ hS;have HI:Blk w1 w.heap.size 23 #[.int .i64 0]:=eJ hS;obtain⟨p,hp⟩:∃p,p=w1.heap.size:=⟨_,rfl⟩;have HN:=aa (fh w1 s a0 (by omega) (by omega) (by omega));obtain⟨w2,hT⟩:∃w2,w2=w1.alloc (.cells #[.bool true,.string s,.int .i64 a0] 120):=⟨_,rfl⟩;have p5:IsR p w2 p s a0:=by rw[hT,hp];exact iY w1 _ (ah _) s a0
 have HB:Below w1.heap.size w1 w2:=bQ hT;have HW:=aa (iq HB HI);have HL:=aa (ap pb HB);have HZ:=aa p5;have pg:w.heap.size<p:=by rw[hp];exact az HI
 rw[<- hT,<-hp]at HN;have p0:=aa hS;have HR:=aa pg;have d0:decide ((m0:Int)<1)=false:=aD (by omega);have d1:decide (262144<(m0:Int))=false:=aD (by omega);have h4:=aa h3;clear hS pb HI p5 HB hT hp pg h3 h2;go_enter_defers func73,ntmps73
 go_wp2_with fail;rw[<- p0.out];clear p0;refine HN.out.mono ?_;rintro e w3 ⟨rfl,rfl⟩;clear HN;go_wp2_with fail;refine(Cq w3 p).mono ?_;rintro e w4 ⟨rfl,hV⟩;obtain⟨gk,HG⟩:∃gk,gk=w3.heap.size:=⟨_,rfl⟩;have HC:Below w3.heap.size w3 w4:=bQ hV;have hG:Blk w4 gk 71 #[.pointer (some ⟨p,0,none⟩)]:=by rw[hV,HG];exact aj _ _ _
 have p6:IsR p w4 p s a0:=by rw[hV];exact HZ.out.alloc _
 have HX:=aa (iq HC HW.out);have HM:=aa (ap HL.out HC);have HT:=aa (hZ.out w4 gk p hG p6);rw[<- HG];clear hV HG HC hG p6 HW HL HZ hZ;have po:=aa fun h:(bj L a0).2.2=0=>CF h;generalize bj L a0=hd at*;obtain⟨z,R,he⟩:=hd;have h3:=h4.out;dsimp only at h3;clear h4;go_wp2_with fail;refine HT.out.mono ?_;rintro e w5 ⟨hA,hB,hP⟩;have HH:w.heap.size∉ [p]:=by simp;have:=HR.out;omega
 have hC:=aa (hP.blk HX.out HH ar);have hW:=aa (HM.out.trans (hP.below.mono (NV HR.out)));by_cases e1:he≠0;·obtain rfl:=hA e1;rw[Ng e1]at h3;have HA:=aa (h9.out (w5.setCell ⟨w.heap.size,0,none⟩ (.int .i64 he)) he h3 (hW.out.setCell (p:=⟨w.heap.size,0,none⟩) (ah _) _));have c5:=(ac (au hC.out 0 (.int .i64 he)) 0).trans (rfl:_=some (Value.int .i64 he));clear hA hB hP h3;go_wp2_with fail;refine zV (v:=.tuple #[.string ⟨#[]⟩,.int .u32 0,.int .i64 0,.int .i64 he]) hC.out ?_ HA.out;simp[results,results73,go_sem,c5]
 have HF:he=0:=Decidable.not_not.1 e1;obtain⟨rfl,p7⟩:=hB HF;rw[Nf e1,Du]at h3;obtain⟨w6,hI⟩:∃w6,w6=w5.alloc (.cells #[.int .u32 z,.int .i64 R] 96):=⟨_,rfl⟩;obtain⟨gh,hN⟩:∃gh,gh=w5.heap.size:=⟨_,rfl⟩;have HD:Below w5.heap.size w5 w6:=bQ hI;have p4:Blk w6 gh 96 #[.int .u32 z,.int .i64 R]:=by rw[hI,hN];exact aj _ _ _
 have hK:IsR p w6 p s (a0+105):=by rw[hI];exact p7.alloc _
 have H0:=aa (iq HD hC.out);have HO:=aa (ap hW.out HD);have HS:=aa p4;have H2:=aa (show gh≠w.heap.size from by rw[hN];have:=az hC.out;omega);obtain⟨q,hq⟩:∃q,q=a0+105:=⟨_,rfl⟩;have pk:q<=8*s.size:=by rw[hq,<-pj];exact po.out HF
 rw[<- hq]at hK h3;have r0:=(ac hK.blk 0).trans (rfl:_=some (Value.bool true));have r2:=(ac hK.blk 2).trans (rfl:_=some (Value.int .i64 q));have HK:=aa (j7 w6 p q r0 r2);have H4:=aa (FF w6 s q hs pk);rw[<- hL]at H4;have hw:=aa (Kv L (q:Nat));generalize cJ L (q:Nat)=y at*;obtain⟨ul,cl,yq,ye⟩:=y;dsimp only at h3;have pn:Hid (cl.length<=2000000):=aa hw.out.2;have ps:Hid (∀ us:ByteArray,us=S06.bq ul->us.size<=256):=aa fun us h=>by rw[h];exact hw.out.1
 have h4:=aa h3;have p1:=aa hI;have HQ:=aa hN;clear hA hB hP h3 e1 HF p7 hI hN HD p4 hK hq pk r0 r2 hC hW HX HM;go_upto_region 6 with fail;rw[<- p1.out,<-HQ.out];clear p1 HQ;go_wp2_with fail;refine HK.out.mono ?_;rintro e w7 ⟨rfl,rfl⟩;go_wp2_with fail;refine H4.out.mono ?_;rintro e w8 ⟨v8,B8,p3,rfl,HJ,hM⟩;dsimp only at HJ |-;have HU:=aa (iq hM HS.out);have hJ:=aa (iq hM H0.out);have HP:=aa (ap HO.out hM);have HY:=aa HJ;have hF:w.heap.size<B8:=OM (az H0.out) p3;have f8:=ae hJ.out 0;have k8:=(ac hJ.out 0).trans (rfl:_=some (Value.int .i64 0));obtain⟨w9,hr⟩:∃w9,w9=w8.setCell ⟨w.heap.size,0,none⟩ (.int .i64 ye):=⟨_,rfl⟩;have HV:=aa (show Blk w9 gh _ _ from by rw[hr];exact BV HU.out H2.out);have hO:Blk w9 w.heap.size 23 #[.int .i64 ye]:=by rw[hr];exact au hJ.out 0 _
 have hX:=aa (show Below w.heap.size w w9 from by rw[hr];exact HP.out.setCell (p:=⟨w.heap.size,0,none⟩) (ah _) _);have H3:=aa (show w9.ownsRow B8 3 1 v8 cl.length (cl.map iv)from by rw[hr];exact Ms HY.out hF);have H1:=aa hO;have p2:=aa hr;have k9:=(ac hO 0).trans (rfl:_=some (Value.int .i64 ye));have f9:=ae hO 0;clear hM HJ p3 hF HS H0 HO H4 HK hr hO;go_upto_region 7 with fail;rw[<- p2.out];clear p2 k8 f8 HU hJ HP HY;by_cases e2:ye≠0;·have dd:=cG e2;have h2:=h4.out;rw[Ng e2]at h2;have hk:=au H1.out 0 (.int .i64 ye);have ck:=(ac hk 0).trans (rfl:_=some (Value.int .i64 ye));have HA:=aa (h9.out ((w9.setCell ⟨w.heap.size,0,none⟩ (.int .i64 ye)).drew) ye h2 (hX.out.setCell (p:=⟨w.heap.size,0,none⟩) (ah _) _).drew);clear h2 h4 hk;go_wp2_with fail;go_region;go_wp2_with fail;refine m8 (v:=.tuple #[.string ⟨#[]⟩,.int .u32 0,.int .i64 0,.int .i64 ye]) ?_ HA.out;simp[results,results73,go_sem,ck]
 have dd:=eE e2;have h2:=h4.out;rw[Nf e2]at h2;obtain⟨us,hQ⟩:∃us,us=S06.bq ul:=⟨_,rfl⟩;have pl:us.data.toList=ul:=by rw[hQ];rfl
 obtain⟨A9,c9,rfl,pv,_,_⟩:=ak H3.out;have hY:=aa (IE w9 us A9 c9 cl m0 (aN H3.out) pv (pn.out) (ps.out us hQ));rw[pl]at hY;rw[<- hQ];generalize js ul cl m0=cg at*;obtain⟨bl,be⟩:=cg;dsimp only at h2;have h5:=aa h2;clear h2 h4 hQ pl e2 H3;go_wp2_with fail;refine hY.out.mono ?_;rintro e w10 ⟨rfl,hi⟩;dsimp only;have hx:=aa (iq hi HV.out);have hf:=aa (iq hi H1.out);have ht:=aa (ap hX.out hi);have f10:=ae hf.out 0;have k10:=(ac hf.out 0).trans (rfl:_=some (Value.int .i64 ye));obtain⟨w11,h7⟩:∃w11,w11=w10.setCell ⟨w.heap.size,0,none⟩ (.int .i64 be):=⟨_,rfl⟩;have hc:=aa (show Blk w11 gh _ _ from by rw[h7];exact BV hx.out H2.out);have hl:Blk w11 w.heap.size 23 #[.int .i64 be]:=by rw[h7];exact au hf.out 0 _
 have hn:=aa (show Below w.heap.size w w11 from by rw[h7];exact ht.out.setCell (p:=⟨w.heap.size,0,none⟩) (ah _) _);have ho:=aa hl;have hD:=aa h7;have k11:=(ac hl 0).trans (rfl:_=some (Value.int .i64 be));have f11:=ae hl 0;clear hi HV H1 hX hY k9 f9 h7 hl dd;go_upto_region 10 with fail;rw[<- hD.out];clear hD k10 f10 hx hf ht;by_cases e3:be≠0;·have dd:=cG e3;have h2:=h5.out;rw[Ng e3]at h2;have hk:=au ho.out 0 (.int .i64 be);have ck:=(ac hk 0).trans (rfl:_=some (Value.int .i64 be));have HA:=aa (h9.out ((w11.setCell ⟨w.heap.size,0,none⟩ (.int .i64 be)).drew) be h2 (hn.out.setCell (p:=⟨w.heap.size,0,none⟩) (ah _) _).drew);clear h2 h5 hk;go_wp2_with fail;go_region;go_wp2_with fail;refine m8 (v:=.tuple #[.string ⟨#[]⟩,.int .u32 0,.int .i64 0,.int .i64 be]) ?_ HA.out;simp[results,results73,go_sem,ck]
 have dd:=eE e3;have h2:=h5.out;rw[Nf e3]at h2;clear h5 e3;obtain⟨bs,HE⟩:∃bs,bs=S06.bq bl:=⟨_,rfl⟩;have pf:bs.data.toList=bl:=by rw[HE];rfl
 have H5:=aa (FK w11 z R bs);rw[pf]at H5;rw[<- HE];have h0:=(ac hc.out 0).trans (rfl:_=some (Value.int .u32 z));have h1:=(ac hc.out 1).trans (rfl:_=some (Value.int .i64 R));generalize lS bl z R=tg at*;obtain⟨tl,te⟩:=tg;dsimp only at h2;have h6:=aa h2;clear h2 HE pf;go_wp2_with fail;refine H5.out.mono ?_;rintro e w12 ⟨rfl,hj⟩;dsimp only;have hy:=aa (iq hj hc.out);have hh:=aa (iq hj ho.out);have hu:=aa (ap hn.out hj);have f12:=ae hh.out 0;have k12:=(ac hh.out 0).trans (rfl:_=some (Value.int .i64 be));obtain⟨w13,h8⟩:∃w13,w13=w12.setCell ⟨w.heap.size,0,none⟩ (.int .i64 te):=⟨_,rfl⟩;have hH:Blk w13 gh 96 #[.int .u32 z,.int .i64 R]:=by rw[h8];exact BV hy.out H2.out
 have hm:Blk w13 w.heap.size 23 #[.int .i64 te]:=by rw[h8];exact au hh.out 0 _
 have hv:=aa (show Below w.heap.size w w13 from by rw[h8];exact hu.out.setCell (p:=⟨w.heap.size,0,none⟩) (ah _) _);have hz:=aa hm;have hE:=aa h8;have k13:=(ac hm 0).trans (rfl:_=some (Value.int .i64 te));have f13:=ae hm 0;have j0:=(ac hH 0).trans (rfl:_=some (Value.int .u32 z));clear hj hc ho hn H5 k11 f11 h8 hm dd h0 h1 hH;go_upto_region 13 with fail;rw[<- hE.out];clear hE k12 f12 hy hh hu;by_cases e4:te≠0;·have dd:=cG e4;have h2:=h6.out;rw[Ng e4]at h2;have hk:=au hz.out 0 (.int .i64 te);have ck:=(ac hk 0).trans (rfl:_=some (Value.int .i64 te));have HA:=aa (h9.out ((w13.setCell ⟨w.heap.size,0,none⟩ (.int .i64 te)).drew) te h2 (hv.out.setCell (p:=⟨w.heap.size,0,none⟩) (ah _) _).drew);clear h2 h6 hk;go_wp2_with fail;go_region;go_wp2_with fail;refine m8 (v:=.tuple #[.string ⟨#[]⟩,.int .u32 0,.int .i64 0,.int .i64 te]) ?_ HA.out;simp[results,results73,go_sem,ck]
 have dd:=eE e4;have h2:=h6.out;rw[Nf e4]at h2;have hk:=au hz.out 0 (.int .i64 0);have ck:=(ac hk 0).trans (rfl:_=some (Value.int .i64 0));have HA:=aa (H8.out ((w13.setCell ⟨w.heap.size,0,none⟩ (.int .i64 0)).drew) tl z yq h2 (hv.out.setCell (p:=⟨w.heap.size,0,none⟩) (ah _) _).drew);clear h2 h6 hk;go_wp2_with fail;go_region;go_wp2_with fail;refine m8 (v:=.tuple #[.string (S06.bq tl),.int .u32 z,.int .i64 yq,.int .i64 0]) ?_ HA.out;simp[results,results73,go_sem,ck]
theorem BZ(w:World)(s:ByteArray)(at' most:Int)(hs:s.size<=2000000):
 Calls prog 73 #[.string s,.int .i64 at',.int .i64 most] w (eQ w (bR (ai s.data.toList) at' most)):=by
 by_cases h:at'<0\/8*(s.size:Int)<at'\/most<1\/262144<most;·refine(B1 w s at' most hs h).mono ?_;rintro e w' ⟨rfl,hb⟩;unfold bR;rw[Ng (by rw[aq];have:s.data.toList.length=s.size:=rfl;omega)];exact⟨rfl,hb⟩
 ·obtain⟨a0,rfl⟩:∃a0:Nat,at'=a0:=⟨at'.toNat,by omega⟩;obtain⟨m0,rfl⟩:∃m0:Nat,most=m0:=⟨most.toNat,by omega⟩;exact Fp w s a0 m0 hs (by omega) (by omega) (by omega)
theorem bV{w w':World}{g:Nat}{t:TypeId}{cs:Array Value}(hb:Below w.heap.size w w')(h:Blk w g t cs):Blk w' g t cs:=aO hb h
theorem mh{w:World}{g b:Nat}{t:TypeId}{cs:Array Value}{x y:Value}(h:Blk w g t cs)(h0:g≠b):Blk ((w.setCell ⟨b,0,none⟩ x).setCell ⟨b,1,none⟩ y) g t cs:=
 (al.set (ps:= [b]) (al.set (ps:= [b]) (al.refl 0 [b] [] w) (p:=⟨b,0,none⟩) (Nh _) (List.mem_singleton.2 rfl) x) (p:=⟨b,1,none⟩) (Nh _) (List.mem_singleton.2 rfl) y).blk h (by simpa using h0) ar
theorem LO{w:World}{B g:Nat}{ls:List (List Nat)}(hg:Blk w g 43 (cR ls).toArray)(hB:B<=g)(h0:0<ls.length)(hn:ls.length<=1000000)(hl:∀l∈ls,am l):Pcs w B (.slice (some ⟨g,0,none⟩) ls.length ls.length) ls:=by
 have h1:(cR ls).length=ls.length*2:=by
  unfold cR;clear hg h0 hn hl
  induction ls with
  | nil=>rfl
  | cons x xs ih=>rw[N9,Nc,ih,Nv];simp;omega
 refine⟨⟨by rw[h1],.inr ⟨g,ls.length,_,rfl,hB,hg,Nm _,by unfold maxLen;omega,?_,?_⟩⟩,hl⟩;·simp[h1]
 ·simp[<- h1]
theorem Cj(w:World)(s ts cs us ss gs qs:ByteArray)(R z N k2 NG NQ:Nat)(PL LT SH GB CQ:List Nat)(T:List (List Int))(P:List Int)
 (hR:R<16777216) (hz:z<4294967296) (tm:us.size<=256) (tl:(us.size:Int)+2=(k2:Int))
 (te:am SH) (pk:am GB) (pj:am CQ) (HH:(fG z R++SH++(GB++CQ)).length<=100000000)
 (sT:ss=⟨(aF SH).toArray⟩) (hN:N=SH.length) (st:gs=⟨(aF GB).toArray⟩) (sm:NG=GB.length) (sv:qs=⟨(aF CQ).toArray⟩) (sn:NQ=CQ.length)
 (HE:∀wx:World,Calls prog 45 #[.string s] wx fun e w'=>e=.returned (.string ts)/\Below wx.heap.size wx w')
 (HF:∀wx:World,Calls prog 44 #[.string ts] wx fun e w'=>e=.returned (.tuple #[.string cs,.int .i64 R,.int .i64 0])/\Below wx.heap.size wx w')
 (HU:∀wx:World,Calls prog 46 #[.string cs] wx fun e w'=>e=.returned (.string us)/\Below wx.heap.size wx w')
 (HFr:∀wx:World,Calls prog 47 #[.string cs,.string us] wx (cw wx (PL,0)))
 (HZ:∀(wx:World) (A:Option Addr) (c:Nat),aw wx A PL.length PL->PL.length<=c->Calls prog 48 #[.int .i64 us.size,.slice A PL.length c] wx (cw wx (LT,0)))
 (HBe:∀(wx:World) (A:Option Addr) (c:Nat),aw wx A LT.length LT->LT.length<=c->Calls prog 49 #[.slice A LT.length c,.int .i64 k2] wx (eK wx (T,P,0)))
 (HSh:∀wx:World,Calls prog 50 #[.string us] wx fun e w'=>e=.returned (.tuple #[.agg #[.string ss,.int .i64 N],.int .i64 0])/\Below wx.heap.size wx w')
 (HB:∀(wx:World) (v:Value),aQ wx v T P->Calls prog 51 #[v] wx fun e w'=>e=.returned (.tuple #[.agg #[.string gs,.int .i64 NG],.int .i64 0])/\Below wx.heap.size wx w')
 (HC:∀(wx:World) (v:Value),aQ wx v T P->∀(A:Option Addr) (c:Nat),aw wx A LT.length LT->LT.length<=c->Calls prog 52 #[v,.slice A LT.length c] wx fun e w'=>e=.returned (.tuple #[.agg #[.string qs,.int .i64 NQ],.int .i64 0])/\Below wx.heap.size wx w')
 (HS2:∀wx:World,Calls prog 21 #[.string s] wx fun e w'=>e=.returned (.int .u32 z)/\Below wx.heap.size wx w'):
 Calls prog 20 #[.string s] w (aZ w (fG z R++SH++(GB++CQ),0)):=by
 obtain⟨w1,HT⟩:∃w1,w1=w.alloc (.cells #[.string ⟨#[]⟩,.int .i64 0] 43):=⟨_,rfl⟩
 have sx:Blk w1 w.heap.size 43 #[.string ⟨#[]⟩,.int .i64 0]:=eJ HT
 have so:Below w.heap.size w w1:=bQ HT
 have hu: [fG z R,SH,GB,CQ].flatten=fG z R++SH++(GB++CQ):=by simp
 have hE:∀l∈ [fG z R,SH,GB,CQ],am l:=by
  intro l hl
  have hh:am (fG z R):=am.append (am.append (aB _ _) (aB _ _)) (aB _ _)
  simp only[PF,ar,or_false]at hl
  rcases hl with rfl|rfl|rfl|rfl <;>assumption
 obtain⟨hs,q4⟩:∃hs:ByteArray,hs=⟨(aF (fG z R)).toArray⟩:=⟨_,rfl⟩
 have rs:=aa fun wx:World=>Ch wx z R hz hR
 rw[<- q4]at rs
 have hp:=aa (show(cR [fG z R,SH,GB,CQ]).toArray=#[.string hs,.int .i64 105,.string ss,.int .i64 N,.string gs,.int .i64 NG,.string qs,.int .i64 NQ] by
  rw[q4,sT,st,sv,hN,sm,sn]
  simp only[cR,N9,List.flatMap_nil,oW]
  rfl)
 have HJ:=aa fun(wx:World) (g:Nat) (hg:Blk wx g 43 #[.string hs,.int .i64 105,.string ss,.int .i64 N,.string gs,.int .i64 NG,.string qs,.int .i64 NQ])=>ph wx 0 _ [fG z R,SH,GB,CQ] (LO (by rw[hp.out];exact hg) (Nh g) (by simp) (by simp) hE) (by simp) (by rw[hu];exact HH)
 rw[hu]at HJ
 obtain⟨M,hM⟩:∃M,M=(fG z R++SH++(GB++CQ)).length:=⟨_,rfl⟩
 obtain⟨J,hJ⟩:∃J:ByteArray,J=⟨(aF (fG z R++SH++(GB++CQ))).toArray⟩:=⟨_,rfl⟩
 have ta:Hid (∀ (wx:World) (g:Nat),Blk wx g 43 #[.string hs,.int .i64 105,.string ss,.int .i64 N,.string gs,.int .i64 NG,.string qs,.int .i64 NQ]->Calls prog 22 #[.slice (some ⟨g,0,none⟩) 4 4] wx fun e w'=>e=.returned (.tuple #[.agg #[.string J,.int .i64 M],.int .i64 0])/\Below wx.heap.size wx w'):=aa fun wx g hg=>by
  have h:=HJ.out wx g hg
  unfold mY at h
  rw[<- hM,<-hJ]at h
  exact h
 have HV:Hid (∀ w',Below w.heap.size w w'->aZ w (fG z R++SH++(GB++CQ),0) (.returned (.tuple #[.agg #[.string J,.int .i64 M],.int .i64 0])) w'):=aa fun w' hb=>by
  unfold aZ
  rw[<- hM,<-hJ]
  exact⟨rfl,hb⟩
 generalize aZ w (fG z R++SH++(GB++CQ),0)=PO at*
 have r6:=aa HE
 have r7:=aa HF
 have s9:=aa HU
 have hW:=aa HFr
 have sl:=aa HZ
 have hV:=aa HBe
 have pg:=aa HS2
 have H8:=aa HSh
 have q7:=aa HB
 have r2:=aa HC
 have rM:=aa sx
 have q8:=aa so
 have sa:=aa HT
 clear HE HF HU HFr HZ HBe HS2 HSh HB HC sx so HT hu hE HJ hM hJ HH q4 sT st sv hN sm sn te pk pj hp
 go_enter func20,ntmps20
 go_wp2_with fail
 rw[<- sa.out]
 clear sa
 refine(r6.out w1).mono ?_
 rintro e w2 ⟨rfl,pl⟩
 have q9:=aa (ap q8.out pl)
 have rO:=aa (bV pl rM.out)
 clear pl r6 q8 rM
 go_wp2_with fail
 refine(r7.out w2).mono ?_
 rintro e w3 ⟨rfl,pn⟩
 have ql:=aa (ap q9.out pn)
 have rR:=aa (bV pn rO.out)
 clear pn r7 q9 rO
 go_wp2_with fail
 refine(s9.out w3).mono ?_
 rintro e w4 ⟨rfl,po⟩
 have qm:=aa (ap ql.out po)
 have s6:=aa (bV po rR.out)
 clear po s9 ql rR
 go_wp2_with fail
 refine(hW.out w4).mono ?_
 rintro e w5 ⟨v5,rfl,HR,ps⟩
 dsimp only at HR |-
 have qo:=aa (ap qm.out ps)
 have s7:=aa (bV ps s6.out)
 obtain⟨A5,c5,rfl,tg,_⟩:=ak HR
 have rv:=aa (aN HR)
 clear ps hW qm s6 HR
 go_wp2_with fail
 refine(sl.out w5 A5 c5 rv.out tg).mono ?_
 rintro e w6 ⟨v6,rfl,HS,pv⟩
 dsimp only at HS |-
 have qq:=aa (ap qo.out pv)
 have s8:=aa (bV pv s7.out)
 obtain⟨A6,c6,rfl,sr,_⟩:=ak HS
 have p6:=aa (aN HS)
 clear pv sl qo s7 rv HS
 go_wp2_with fail
 refine(hV.out w6 A6 c6 p6.out sr).mono ?_
 rintro e w7 ⟨v7,rfl,HO,HP⟩
 dsimp only at HO |-
 obtain⟨A',n',c',B',m',d',rfl,HO⟩:=HO.parts
 obtain⟨w8,q5⟩:∃w8,w8=w7.alloc (.cells #[.slice A' n' c',.slice B' m' d'] 90):=⟨_,rfl⟩
 obtain⟨HQ,HN⟩:=tV HO
 rw[<- q5]at HQ HN
 have qv:=aa (ap qq.out HP)
 have r0:=aa (ap qv.out HN)
 have pf:=aa (bV HN (bV HP s8.out))
 have rx:=aa (S05.jy (S05.jy p6.out HP) HN)
 obtain⟨gp,q3⟩:∃gp,gp=w7.heap.size:=⟨_,rfl⟩
 rw[<- q3]at HQ
 have rb:=aa HQ
 have sb:=aa q5
 have r8:=aa q3
 clear HP HN HQ HO hV qq qv s8 p6 q5 q3
 go_upto_region 8 with fail
 rw[<- sb.out,<-r8.out]
 clear sb r8
 go_wp2_with fail
 refine(H8.out w8).mono ?_
 rintro e w9 ⟨rfl,q2⟩
 obtain⟨w10,hx⟩:∃w10,w10=w9.alloc (.cells #[.string ss,.int .i64 N] 43):=⟨_,rfl⟩
 have HI:Below w9.heap.size w9 w10:=bQ hx
 have hq:Blk w10 w9.heap.size 43 #[.string ss,.int .i64 N]:=eJ hx
 obtain⟨g14,hL⟩:∃g14,g14=w9.heap.size:=⟨_,rfl⟩
 have h5:=ap q2 HI
 rw[<- hL]at hq
 have hQ:=aa (ap r0.out h5)
 have hG:=aa (bV h5 pf.out)
 have H0:=aa (S05.jy rx.out h5)
 have hv:=aa (rb.out.below h5)
 have hB:=aa hq
 have HA:=aa hx
 have hX:=aa hL
 have H2:=aa (show g14≠w.heap.size from by
  have h1:=az pf.out
  have h2:=q2.size
  omega)
 clear q2 HI h5 hq H8 r0 pf rx rb hx hL
 go_upto_region 9 with fail
 rw[<- HA.out,<-hX.out]
 clear HA hX
 obtain⟨qa,qb⟩:=hv.out.cells
 have r1:=aa (q7.out w10 _ hv.out.2)
 go_wp2_with fail
 refine r1.out.mono ?_
 rintro e w11 ⟨rfl,hI⟩
 obtain⟨w12,hy⟩:∃w12,w12=w11.alloc (.cells #[.string gs,.int .i64 NG] 43):=⟨_,rfl⟩
 have HK:Below w11.heap.size w11 w12:=bQ hy
 have hr:Blk w12 w11.heap.size 43 #[.string gs,.int .i64 NG]:=eJ hy
 obtain⟨g16,hO⟩:∃g16,g16=w11.heap.size:=⟨_,rfl⟩
 have h0:=ap hI HK
 rw[<- hO]at hr
 have hS:=aa (ap hQ.out h0)
 have hH:=aa (bV h0 hG.out)
 have H1:=aa (S05.jy H0.out h0)
 have hF:=aa (hv.out.below h0)
 have hC:=aa (bV h0 hB.out)
 have hD:=aa hr
 have HD:=aa hy
 have hY:=aa hO
 have H3:=aa (show g16≠w.heap.size from by
  have h1:=az hG.out
  have h2:=hI.size
  omega)
 clear hI HK h0 hr r1 q7 hQ hG H0 hv hB qa qb hy hO
 go_upto_region 10 with fail
 rw[<- HD.out,<-hY.out]
 clear HD hY
 obtain⟨qa,qb⟩:=hF.out.cells
 have r3:=aa (r2.out w12 _ hF.out.2 A6 c6 H1.out sr)
 go_wp2_with fail
 refine r3.out.mono ?_
 rintro e w13 ⟨rfl,hK⟩
 obtain⟨w14,hA⟩:∃w14,w14=w13.alloc (.cells #[.string qs,.int .i64 NQ] 43):=⟨_,rfl⟩
 have HL:Below w13.heap.size w13 w14:=bQ hA
 have ht:Blk w14 w13.heap.size 43 #[.string qs,.int .i64 NQ]:=eJ hA
 obtain⟨g18,hP⟩:∃g18,g18=w13.heap.size:=⟨_,rfl⟩
 have h4:=ap hK HL
 rw[<- hP]at ht
 have hT:=aa (ap hS.out h4)
 have H5:=aa (bV h4 hH.out)
 have h6:=aa (bV h4 hC.out)
 have h8:=aa (bV h4 hD.out)
 have ha:=aa ht
 have HG:=aa hA
 have hZ:=aa hP
 have H4:=aa (show g18≠w.heap.size from by
  have h1:=az hH.out
  have h2:=hK.size
  omega)
 clear hK HL h4 ht r3 r2 hS hH H1 hF hC hD qa qb hA hP
 go_upto_region 11 with fail
 rw[<- HG.out,<-hZ.out]
 clear HG hZ
 have p0:w14.cell? ⟨g14,0,none⟩=some (.string ss):=(ac h6.out 0).trans rfl
 have p1:w14.cell? ⟨g14,1,none⟩=some (.int .i64 N):=(ac h6.out 1).trans rfl
 have p2:w14.cell? ⟨g16,0,none⟩=some (.string gs):=(ac h8.out 0).trans rfl
 have p3:w14.cell? ⟨g16,1,none⟩=some (.int .i64 NG):=(ac h8.out 1).trans rfl
 have p4:w14.cell? ⟨g18,0,none⟩=some (.string qs):=(ac ha.out 0).trans rfl
 have p5:w14.cell? ⟨g18,1,none⟩=some (.int .i64 NQ):=(ac ha.out 1).trans rfl
 have D14:=aa (show Blk w14.drew g14 _ _ from h6.out)
 have D16:=aa (show Blk w14.drew g16 _ _ from h8.out)
 have D18:=aa (show Blk w14.drew g18 _ _ from ha.out)
 have DR:=aa (show Blk w14.drew w.heap.size _ _ from H5.out)
 have DB:=aa hT.out.drew
 clear h6 h8 ha H5 hT
 go_region_held3 (fun w'=>w'.cell? ⟨g14,0,none⟩=some (.string ss)/\w'.cell? ⟨g14,1,none⟩=some (.int .i64 N)/\w'.cell? ⟨g16,0,none⟩=some (.string gs)/\w'.cell? ⟨g16,1,none⟩=some (.int .i64 NG)/\w'.cell? ⟨g18,0,none⟩=some (.string qs)/\w'.cell? ⟨g18,1,none⟩=some (.int .i64 NQ))
  (first|exact⟨p0,p1,p2,p3,p4,p5⟩|exact⟨s0,s1,s2,s3,s4,s5⟩|exact⟨t0,t1,t2,t3,t4,t5⟩|exact⟨u0,u1,u2,u3,u4,u5⟩|exact⟨(ac (mh h7.out H2.out) 0).trans rfl,(ac (mh h7.out H2.out) 1).trans rfl,(ac (mh h9.out H3.out) 0).trans rfl,(ac (mh h9.out H3.out) 1).trans rfl,(ac (mh hc.out H4.out) 0).trans rfl,(ac (mh hc.out H4.out) 1).trans rfl⟩|go_keep)
  (first
    | (go_at_call 21;refine(pg.out _).mono ?_;rintro e w15 ⟨rfl,he⟩
       have hi:=aa (bV he D14.out)
       have hk:=aa (bV he D16.out)
       have hn:=aa (bV he D18.out)
       have p7:=aa (bV he DR.out)
       have HW:=aa (ap DB.out he)
       have s0:w15.cell? ⟨g14,0,none⟩=some (.string ss):=(ac hi.out 0).trans rfl
       have s1:w15.cell? ⟨g14,1,none⟩=some (.int .i64 N):=(ac hi.out 1).trans rfl
       have s2:w15.cell? ⟨g16,0,none⟩=some (.string gs):=(ac hk.out 0).trans rfl
       have s3:w15.cell? ⟨g16,1,none⟩=some (.int .i64 NG):=(ac hk.out 1).trans rfl
       have s4:w15.cell? ⟨g18,0,none⟩=some (.string qs):=(ac hn.out 0).trans rfl
       have s5:w15.cell? ⟨g18,1,none⟩=some (.int .i64 NQ):=(ac hn.out 1).trans rfl
       clear he)
    | (go_at_call 53;refine(rs.out _).mono ?_;rintro e w16 ⟨rfl,hf⟩
       have hj:=aa (bV hf hi.out)
       have hm:=aa (bV hf hk.out)
       have ho:=aa (bV hf hn.out)
       have pb:=aa (bV hf p7.out)
       have HX:=aa (ap HW.out hf)
       have t0:w16.cell? ⟨g14,0,none⟩=some (.string ss):=(ac hj.out 0).trans rfl
       have t1:w16.cell? ⟨g14,1,none⟩=some (.int .i64 N):=(ac hj.out 1).trans rfl
       have t2:w16.cell? ⟨g16,0,none⟩=some (.string gs):=(ac hm.out 0).trans rfl
       have t3:w16.cell? ⟨g16,1,none⟩=some (.int .i64 NG):=(ac hm.out 1).trans rfl
       have t4:w16.cell? ⟨g18,0,none⟩=some (.string qs):=(ac ho.out 0).trans rfl
       have t5:w16.cell? ⟨g18,1,none⟩=some (.int .i64 NQ):=(ac ho.out 1).trans rfl
       clear hf)
    | (go_at_call 22;refine(ta.out _ w16.heap.size (aj w16 _ _)).mono ?_;rintro e w17 ⟨rfl,HM⟩
       have h3:Below w16.heap.size w16 w17:=((Nj _ _).alloc (ah _) _).trans (HM.mono (by simp))
       have h7:=aa (bV h3 hj.out)
       have h9:=aa (bV h3 hm.out)
       have hc:=aa (bV h3 ho.out)
       have hw:=aa (bV h3 pb.out)
       have HY:=aa (ap HX.out h3)
       have u0:w17.cell? ⟨g14,0,none⟩=some (.string ss):=(ac h7.out 0).trans rfl
       have u1:w17.cell? ⟨g14,1,none⟩=some (.int .i64 N):=(ac h7.out 1).trans rfl
       have u2:w17.cell? ⟨g16,0,none⟩=some (.string gs):=(ac h9.out 0).trans rfl
       have u3:w17.cell? ⟨g16,1,none⟩=some (.int .i64 NG):=(ac h9.out 1).trans rfl
       have u4:w17.cell? ⟨g18,0,none⟩=some (.string qs):=(ac hc.out 0).trans rfl
       have u5:w17.cell? ⟨g18,1,none⟩=some (.int .i64 NQ):=(ac hc.out 1).trans rfl
       have q0:w17.cell? ⟨w.heap.size,0,none⟩=some (.string ⟨#[]⟩):=(ac hw.out 0).trans rfl
       have q1:w17.cell? ⟨w.heap.size,1,none⟩=some (.int .i64 0):=(ac hw.out 1).trans rfl
       have f0:=ae hw.out 0
       have f1:=ae hw.out 1
       clear HM h3))
 go_wp2_with fail
 refine ND (v:=.tuple #[.agg #[.string J,.int .i64 M],.int .i64 0]) ?_ rfl (HV.out _ ((HY.out.setCell (p:=⟨w.heap.size,0,none⟩) (ah _) _).setCell (p:=⟨w.heap.size,1,none⟩) (ah _) _))
 simp[results,results20,go_sem,q0,q1]
theorem sX(w:World)(s:ByteArray)(hs:s.size<=9223372036854775807):Calls prog 21 #[.string s] w fun e w'=>e=.returned (.int .u32 (S02.bW s.data.toList))/\Below w.heap.size w w':=by have h:=S02.vT w s hs;rw[<- S02.uh _ _ (by omega)]at h;exact h
theorem zi(w:World):Calls prog 20 #[.string ⟨#[]⟩] w (aZ w ([],2)):=by obtain⟨w1,h1⟩:∃w1,w1=w.alloc (.cells #[.string ⟨#[]⟩,.int .i64 0] 43):=⟨_,rfl⟩;have h7:Blk w1 w.heap.size 43 #[.string ⟨#[]⟩,.int .i64 0]:=eJ h1;have h6:Below w.heap.size w w1:=bQ h1;have HE:Hid (Calls prog 45 #[.string ⟨#[]⟩] w1 fun e w'=>e=.returned (.string ⟨#[]⟩)/\Below w1.heap.size w1 w'):=aa (S03.kQ w1 ⟨#[]⟩ (by decide));have HF:=aa fun wx:World=>S05.Ft wx;have h4:=aa h7;have h3:=aa h6;have h5:=aa h1;clear h7 h6 h1;go_enter func20,ntmps20;go_wp2_with fail;rw[<- h5.out];clear h5;refine HE.out.mono ?_;rintro e w2 ⟨rfl,h2⟩;have h0:=bV h2 h4.out;have h8:=aa (ap h3.out h2);have q0:=(ac h0 0).trans (rfl:_=some (Value.string ⟨#[]⟩));have q1:=(ac h0 1).trans (rfl:_=some (Value.int .i64 0));have f0:=ae h0 0;have f1:=ae h0 1;clear h2 h0 HE h3 h4;go_wp2_with fail;refine(HF.out w2).mono ?_;rintro e w3 ⟨rfl,rfl⟩;clear HF;go_wp2_with fail;refine ND (v:=.tuple #[.agg #[.string ⟨#[]⟩,.int .i64 0],.int .i64 2]) ?_ rfl ⟨rfl,(h8.out.setCell (p:=⟨w.heap.size,0,none⟩) (ah _) _).setCell (p:=⟨w.heap.size,1,none⟩) (ah _) _⟩;simp[results,results20,go_sem,q0,q1]
theorem Fo(N:Nat)(S:S05.nK N)(w:World)(s:ByteArray)(h0:0<s.size)(hs:s.size<=200000)(hN:s.size+s.size/4<=N):Calls prog 20 #[.string s] w (aZ w (eM s.data.toList)):=by
 have h1:=BM s.data.toList hs;obtain⟨sl,h8⟩:∃sl,sl=s.data.toList:=⟨_,rfl⟩;have h7:sl.length=s.size:=by rw[h8];rfl
 have he:sl≠ []:=by intro e;rw[e]at h7;simp only[N5]at h7;omega
 obtain⟨t,ht⟩:∃t,t=S03.aU sl:=⟨_,rfl⟩;have htl:t.length<=250000:=by have:=S03.m9 sl;rw[ht];omega
 have hw:t.length<=N:=by have:=S03.m9 sl;rw[ht];omega
 have h4:t≠ []:=by rw[ht];exact lw he
 have hx:0<t.length:=List.length_pos_iff.2 h4;have hO:=la t h4;have hu:=yt hO;have hp:=nN hO;obtain⟨hm,hr,hn⟩:=n6 hO;obtain⟨hM,hE,hq⟩:=kX hO h4 (by omega);have hg:=nh hO h4 (by omega) w;have hf:=pT w hM;have hj:=yf h4;have hl:=C9 t;have h6:=S06.sg t h4;have ho:aY t=((aY t).1,(aY t).2.1,0):=by have h2:(aY t).2.2=0:=hf.2.1;rw[<- h2]
 have h9:eM s.data.toList=(fG (S02.bW sl) (mO t)++S06.dZ (S06.ofL t)++((fC (aY t).1 (aY t).2.1).1++(bX (aY t).1 (aY t).2.1 (zL (ct t))).1),0):=by rw[<- h8];unfold eM;rw[Nf he,Nf (by rw[<- ht];omega)];unfold cP fF gH fG;rw[<- ht]
 have hy:∀(l:List Nat),(zL l).length=l.length:=fun l=>by unfold zL;rw[NC]
 rw[h9]at h1 |-
 refine Cj w s ⟨t.toArray⟩ ⟨(kp t).toArray⟩ (S06.bq (S06.ofL t)) ⟨(aF (S06.dZ (S06.ofL t))).toArray⟩ ⟨(aF (fC (aY t).1 (aY t).2.1).1).toArray⟩ ⟨(aF (bX (aY t).1 (aY t).2.1 (zL (ct t))).1).toArray⟩
  (mO t) (S02.bW sl) (S06.dZ (S06.ofL t)).length ((S06.ofL t).length+2) (fC (aY t).1 (aY t).2.1).1.length (bX (aY t).1 (aY t).2.1 (zL (ct t))).1.length
  (dP t) (ct t) (S06.dZ (S06.ofL t)) (fC (aY t).1 (aY t).2.1).1 (bX (aY t).1 (aY t).2.1 (zL (ct t))).1 (aY t).1 (aY t).2.1
  (by omega) (S02.oE sl) (by show(S06.ofL t).length<=256;omega) (by show((S06.ofL t).length:Int)+2=_;omega) (S06.sN _) (sP _ _) (qZ _ _ _) h1 rfl rfl rfl rfl rfl rfl
  ?HE ?HF ?HU ?HFr ?HZ ?HBe ?HSh ?HB ?HC ?HS2
 case HE=>intro wx;have h:=S03.kQ wx s (by omega);rw[<- h8,<-ht]at h;exact h
 case HF=>intro wx;refine(S05.IN N S wx ⟨t.toArray⟩ (by show 0<t.length;omega) (by show t.length<=N;omega) (by show t.length<=262144;omega)).mono ?_;rintro e w' ⟨L,k,rfl,h3,hk,hh,hb⟩;have h3:S05.eT t L:=h3;have e1:=nf h3;have e2:=yp h3 hk hh;subst e1;subst e2;exact⟨rfl,hb⟩
 case HU=>intro wx;have h:=S06.Eg wx ⟨(kp t).toArray⟩ (by show(kp t).length<=1000000;omega);rw[show (⟨(kp t).toArray⟩:ByteArray).data.toList=kp t from rfl,IW]at h;exact h
 case HFr=>intro wx;refine(S06.Ca wx ⟨(kp t).toArray⟩ (S06.bq (S06.ofL t)) (by show(kp t).length<=1000000;omega) (by show(S06.ofL t).length<=1000000;omega)).mono ?_;rintro e w' ⟨v,L,c,h5,rfl,ha,hb⟩;have h5:S06.my (kp t) (S06.ofL t)=(L,c):=h5;unfold S06.my at h5;rw[Ng h6,hm]at h5;obtain⟨rfl,rfl⟩:=Prod.mk.inj h5;exact⟨v,rfl,ha,hb⟩
 case HZ=>intro wx A c hi hc;have h:=S07.IK wx A (dP t).length c (zL (dP t)) ((S06.ofL t).length:Nat) (dK hi) hc (by omega);rw[Lo hj hl hn]at h;exact h
 case HBe=>intro wx A c hi hc;have h:=Fn wx A (ct t).length c (zL (ct t)) ((S06.ofL t).length+2) (dK hi) hc (by omega) hM;rw[show fN (zL (ct t)) (((S06.ofL t).length+2:Nat):Int)=((aY t).1,(aY t).2.1,0)from ho]at h;exact h
 case HSh=>exact fun wx=>S06.p9 wx (S06.bq (S06.ofL t)) (by show(S06.ofL t).length<=1000000;omega) h6
 case HB=>intro wx v hv;have h:=tc wx v _ _ hv;rw[show fC (aY t).1 (aY t).2.1=((fC (aY t).1 (aY t).2.1).1,0) by rw[pW hg]]at h;exact h
 case HC=>intro wx v hv A c hi hc;have h:=zE wx v _ _ hv A (ct t).length c (zL (ct t)) (dK hi) hc (by omega);rw[show bX (aY t).1 (aY t).2.1 (zL (ct t))=((bX (aY t).1 (aY t).2.1 (zL (ct t))).1,0) by rw[lz hg hM]]at h;exact h
 case HS2=>intro wx;have h:=sX wx s (by omega);rw[<- h8]at h;exact h
theorem zj(N:Nat)(S:S05.nK N)(w:World)(s:ByteArray)(hs:s.size<=200000)(hN:s.size+s.size/4<=N):Calls prog 20 #[.string s] w (aZ w (eM s.data.toList)):=by
 by_cases h0:0<s.size;·exact Fo N S w s h0 hs hN
 ·have e:s=⟨#[]⟩:=by
   obtain⟨⟨l⟩⟩:=s
   have hl:l= []:=Nw (by
    have h1:(⟨⟨l⟩⟩:ByteArray).size=l.length:=rfl
    omega)
   rw[hl]
  rw[e];exact zi w
