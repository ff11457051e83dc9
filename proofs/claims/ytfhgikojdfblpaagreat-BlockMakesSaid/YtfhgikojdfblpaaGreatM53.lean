import Derived.Test.YtfhgikojdfblpaaGreatM32
import Derived.Test.YtfhgikojdfblpaaGreatM12
import Derived.Test.YtfhgikojdfblpaaGreatM51
import Derived.Test.YtfhgikojdfblpaaGreatM52
import Derived.Test.YtfhgikojdfblpaaGreatM46
import Derived.Test.YtfhgikojdfblpaaGreatM44
import Derived.Test.YtfhgikojdfblpaaGreatM39
set_option maxHeartbeats 3200000
set_option maxRecDepth 100000
namespace Go.Proofs.YtfhgikojdfblpaaGreat
open _root_.Go.Proofs.Tryz
open Go.RowKit
theorem tp:∀(l:List Int) (list:List UInt8),(∀ x∈l,0<=x/\x<list.length)->∃t,S06.fB l list=some t
 | [],list,_=>⟨[],rfl⟩
 | x::l,list,h=>by have hx:=h x Nh;(obtain⟨t,ht⟩:=tp l (S06.dO list x.toNat) fun y hy=>by rw[S06.eh _ _ (by omega)];exact h y (Nm _ hy));exact⟨_,by rw[S06.fB,Nf hx,ht];rfl⟩
theorem sE(n most:Nat)(hn:1<=n):∀(l:List Int) (out:List Nat) (wo:Nat) (ended:Bool),(∀ x∈out,x<n)->∀x∈(S07.eT n most l out wo ended).1,x<n
 | [],out,wo,ended,h=>by
  unfold S07.eT;split;·exact h
  ·simp
 | s::l,out,wo,ended,h=>by
  unfold S07.eT;split;·simp
  rename_i h1;split;·simp
  split;·exact sE n most hn l out wo true h
  rename_i h2;split
  ·split;·simp
   ·refine sE n most hn l _ 1 false fun x hx=> ?_;rcases List.mem_append.1 hx with hx|hx;·exact h x hx
    ·have:=List.mem_singleton.1 hx;omega
  split;·simp
  ·refine sE n most hn l _ _ false fun x hx=> ?_;rcases List.mem_append.1 hx with hx|hx;·exact h x hx
   ·have:=(List.mem_replicate.1 hx).2;omega
theorem FN(n:Nat)(most:Int)(L:List Int)(hn:1<=n):∀x∈(S07.fD n most L).1,x<n:=by
 unfold S07.fD;split;·simp
 ·rw[Nv];exact sE n _ hn L [] 1 false (by simp)
theorem DY(l:List Nat)(p i:Nat)(hi:i<16):(S06.gF l p i).Pairwise (· < ·)/\∀b∈S06.gF l p i,16*i<=b.toNat/\b.toNat<16*i+16:=by
 have hv:∀k,k<16->(UInt8.ofNat (16*i+k)).toNat=16*i+k:=fun k hk=>by rw[Oo,NL (by omega)]
 unfold S06.gF;constructor;·rw[PE];refine OG ?_ (List.pairwise_lt_range.filter _);intro a b ha hb h0;have ha:=List.mem_range.1 (List.mem_filter.1 ha).1;have hb:=List.mem_range.1 (List.mem_filter.1 hb).1;rw[PM,hv _ ha,hv _ hb];omega
 ·intro b hb;obtain⟨k,hk,rfl⟩:=List.mem_map.1 hb;have hk:=List.mem_range.1 (List.mem_filter.1 hk).1;rw[hv k hk];omega
theorem oI(l:List Nat)(fl:Nat->Nat):∀(is:List Nat) (p:Nat) (out o:List UInt8) (q:Nat),S06.goT l fl is p out=some (o,q)->is.Pairwise (· < ·)->(∀ i∈is,i<16)->out.Pairwise (· < ·)->(∀ b∈out,∀i∈is,b.toNat<16*i)->o.Pairwise (· < ·)
 | [],p,out,o,q,h,_,_,ho,_=>by simp only[S06.goT,Oj,Ps]at h;rw[<- h.1];exact ho
 | i::is,p,out,o,q,h,hp,hi,ho,hb=>by
  have h3:=List.pairwise_cons.1 hp;have h4:∀j∈is,j<16:=fun j hj=>hi j (Nm _ hj);unfold S06.goT at h;split at h;·exact oI l fl is p out o q h h3.2 h4 ho fun b h0 j hj=>hb b h0 j (Nm _ hj)
  ·split at h;·cases h
   ·obtain⟨r1,r2⟩:=DY l p i (hi i Nh);refine oI l fl is _ _ o q h h3.2 h4 ?_ ?_;·rw[List.pairwise_append];refine⟨ho,r1,fun a ha b h0=> ?_⟩;have h1:=hb a ha i Nh;have h2:=(r2 b h0).1;rw[PM];omega
    ·intro b h0 j hj;rcases List.mem_append.1 h0 with h0|h0;·exact hb b h0 j (Nm _ hj)
     ·have h1:=(r2 b h0).2;have h2:=h3.1 j hj;omega
theorem Hy(l:List Nat)(p:Int)(h:(S06.aN l p).2.2=0):S06.fp (S06.aN l p).1:=by
 unfold S06.aN at h |-;split;·rename_i h0;rw[Nf h0]at h;cases h
 rename_i h0;rw[Nd h0]at h;generalize p.toNat=a at*;unfold S06.gE at h |-;by_cases h1:l.length<a;·rw[Nf h1]at h;cases h
 rw[Nd h1]at h |-;by_cases h2:l.length<a+16;·rw[Nf h2]at h;cases h
 rw[Nd h2]at h |-
 cases hg:S06.goT l (fun i=>l.getD (a+i) 0) (List.range 16) (a+16) []with
 | none=>rw[hg]at h;cases h
 | some r=>
  obtain⟨o,q⟩:=r;rw[hg]at h;dsimp only at h |-;by_cases h3:o= [];·rw[Nf h3]at h;cases h
  rw[Nd h3];exact(S06.JK o).2 ⟨h3,oI l _ _ _ _ _ _ hg Ru (fun i hi=>List.mem_range.1 hi) List.Pairwise.nil (by simp)⟩
theorem Fd(l:List Nat)(p:Int)(most:Int)(L:List Int)(h:(S06.aN l p).2.2=0):(S06.fq (zL (S07.fD ((S06.aN l p).1.length:Nat) most L).1) (S06.aN l p).1).2=0:=by have hM:=Hy l p h;have hn:1<=(S06.aN l p).1.length:=List.length_pos_iff.2 hM.1;(obtain⟨t,ht⟩:=tp (zL (S07.fD ((S06.aN l p).1.length:Nat) most L).1) (S06.aN l p).1 fun x hx=>by obtain⟨y,hy,rfl⟩:=List.mem_map.1 hx;have:=FN _ most L hn y hy;omega);unfold S06.fq;rw[Nf hM,ht]
theorem JT{a b:List UInt8}(h:a.Perm b):S06.ofL a=S06.ofL b:=
 S06.oV (S06.il a) (S06.il b) fun x=>by rw[S06.nN,S06.nN];exact h.mem_iff
theorem I4(t:List UInt8):S06.ofL (iT t)=S06.ofL t:=by obtain⟨L,h⟩:=AZ t;unfold iT;rw[<- md h];exact JT (S05.yh h)
theorem sw(bits:List Nat)(n:Nat):∀(t p:Nat) (acc:List (List Nat)),p<=bits.length->(gG bits n t p acc).2.1<=bits.length
 | 0,_,_,h=>h
 | t+1,p,acc,h=>by
  rw[oW];split
  ·split;·exact sw bits n t _ _ (oo _ _ _).1
   ·exact Ng _
  ·exact Ng _
theorem KL(l:List Nat)(p n:Int):(gD l p n).2.2.1<=l.length:=by
 unfold gD;split;·exact Ng _
 unfold xu;split;·exact Ng _
 split;·exact Ng _
 rename_i h3;split;·exact Ng _
 split;·exact Ng _
 unfold BN;split
 ·split;·exact sw l _ _ _ _ (iW l _ (by omega) _ _ _ _ (by omega)).1
  ·exact Ng _
 ·exact Ng _
abbrev MY (g:Nat):Value:=.func (.func 70) #[] #[.pointer (some ⟨g,0,none⟩)]
abbrev C2 (k:Int):Ending:=.panicked [{ v:=.iface 25 (.int .i64 k),recovered:=false }]
theorem CN(w:World)(p:Nat):Calls prog 25 #[.pointer (some ⟨p,0,none⟩)] w fun e w'=>e=.returned (MY w.heap.size)/\w'=w.alloc (.cells #[.pointer (some ⟨p,0,none⟩)] 56):=by go_enter func25,ntmps25;go_wp2_with fail;go_ret;exact⟨rfl,rfl⟩
section
variable {B:Nat} {w:World} {g p n:Nat} {s:ByteArray} (hg:Blk w g 56 #[.pointer (some ⟨p,0,none⟩)]) (hR:IsR B w p s n) (hs:s.size<=2000000)
include hg hR hs
theorem sG(k:Nat)(hk:k<=64)(h1:n+k<=8*s.size):
 Calls prog 70 #[.int .i64 k,.pointer (some ⟨g,0,none⟩)] w fun e w'=>e=.returned (.int .u64 (val (((ao s.data.toList).drop n).take k)))/\IsR B w' p s (n+k)/\ak B [p] [] w w':=by have HT:=aa (iF B w p s n k hR (by omega) hk h1);generalize val (((ao s.data.toList).drop n).take k)=x at*;have q0:w.cell? ⟨g,0,none⟩=some (.pointer (some ⟨p,0,none⟩)):=(ac hg 0).trans rfl;clear hR hg;go_enter func70,ntmps70;go_wp2_with fail;refine HT.out.mono ?_;rintro e w2 ⟨rfl,h0,h2⟩;go_wp2_with fail;go_ret;exact⟨rfl,h0,h2⟩
theorem lV(k:Nat)(hk:k<=64)(hn:n<=8*s.size)(h1:8*s.size<n+k):
 Calls prog 70 #[.int .i64 k,.pointer (some ⟨g,0,none⟩)] w fun e w'=>e=C2 10/\ak B [p] [] w w':=by
 have HT:=aa (fo B w p s n k hR (by omega) hk hn h1);have q0:w.cell? ⟨g,0,none⟩=some (.pointer (some ⟨p,0,none⟩)):=(ac hg 0).trans rfl;clear hR hg;go_enter func70,ntmps70;go_wp2_with fail;refine HT.out.mono ?_;rintro e w2 ⟨rfl,h2,h0⟩;go_wp2_with fail
 first
 | exact⟨rfl,h0⟩
 | exact⟨rfl,rfl,h0⟩
 | (simp [bodyPost];exact h0)
end
def pp(B:Nat)(w:World)(p:Nat)(s:ByteArray)(n:Nat)(h:Nat×Nat×Nat)(e:Ending)(w':World):Prop:=
 (h.2.2≠0->e=C2 h.2.2)/\(h.2.2=0->e=.returned (.agg #[.int .u32 h.1,.int .i64 h.2.1])/\IsR B w' p s (n+105))/\ak B [p] [] w w'
theorem nW(l:List Nat)(n k:Nat)(hb:au l):val ((l.drop n).take k)<2^k:=fY l n k k hb (ag _)
theorem vB{B:Nat}{w:World}{g p n:Nat}{s:ByteArray}(hg:Blk w g 56 #[.pointer (some ⟨p,0,none⟩)])(hR:IsR B w p s n)(hs:s.size<=2000000)(hn:n<=8*s.size)(hB:B<=w.heap.size):
 Calls prog 24 #[MY g] w (pp B w p s n (dZ (ao s.data.toList) n)):=by
 have hL:(ao s.data.toList).length=8*s.size:=aC _;have hl:=bh s.data.toList;have hK:g≠p:=fun e=>by subst e;have h1:=hg.symm.trans hR.blk;simp at h1
 have HG:=aa (fun(wx:World) (h:ak B [p] [] w wx)=>h.blk hg (by simpa using hK) aw);obtain⟨w1,hj⟩:∃w1,w1=w.alloc (.cells #[.int .u32 0,.int .i64 0] 51):=⟨_,rfl⟩;have hH:ak B [p] [] w w1:=by rw[hj];exact(ak.refl _ _ _ _).alloc hB _
 have hA:IsR B w1 p s n:=by rw[hj];exact hR.alloc _
 have hG:Blk w1 w.heap.size 51 #[.int .u32 0,.int .i64 0]:=dW hj;have hh:p≠w.heap.size:=fun e=>by have:=aA hR.blk;omega
 obtain⟨ans,h3⟩:∃ans,ans=dZ (ao s.data.toList) n:=⟨_,rfl⟩;rw[<- h3];have h4:Hid (∀ (w':World) (a b k:Nat),ans=(a,b,k)->k≠0->ak B [p] [] w w'->pp B w p s n ans (C2 k) w'):=aa fun w' a b k h hk ha=>by rw[h];exact⟨fun _=>rfl,fun h0=>absurd h0 hk,ha⟩
 have hb:Hid (∀ (w':World) (a b:Nat),ans=(a,b,0)->IsR B w' p s (n+105)->ak B [p] [] w w'->pp B w p s n ans (.returned (.agg #[.int .u32 a,.int .i64 b])) w'):=aa fun w' a b h hr ha=>by rw[h];exact⟨fun h0=>absurd rfl h0,fun _=>⟨rfl,hr⟩,ha⟩
 unfold dZ at h3;rw[hL]at h3;have h2:=aa h3;have hc:=aa hH;have hm:=aa hA;have hu:=aa hG;have hz:=aa hj;generalize pp B w p s n ans=PO at*;clear hg hR hH hA hG hj h3;go_enter func24,ntmps24;go_wp2_with fail;rw[<- hz.out];clear hz;by_cases c1:8*s.size<n+48;·refine(lV (HG.out _ hc.out) hm.out hs 48 (by omega) hn c1).mono ?_;rintro e w2 ⟨rfl,h6⟩;have h:=h2.out;rw[Nf c1]at h;have HA:=aa (h4.out w2 _ _ _ h (by omega) (hc.out.trans h6));clear h6 h h2;go_wp2_with fail;exact⟨rfl,HA.out⟩
 have h3:=h2.out;rw[Nd c1]at h3;clear h2;have HT:=aa (sG (HG.out _ hc.out) hm.out hs 48 (by omega) (by omega));have hx:=nW (ao s.data.toList) n 48 hl;generalize val (((ao s.data.toList).drop n).take 48)=x1 at*;have h2:=aa h3;clear h3;refine HT.out.mono ?_;rintro e w2 ⟨rfl,hC,h6⟩;have HS2:=aa (hc.out.trans h6);have ho:=aa hC;have hv:=aa (h6.blk hu.out (by simpa using hh.symm) aw);clear hC h6 HT hc hm hu;by_cases c2:x1≠54156738319193;·have dd:((x1:Int) != 54156738319193)=true:=(by rw[Pe];omega);have h:=h2.out;rw[Nf c2]at h;have HA:=aa (h4.out w2 _ _ _ h (by omega) HS2.out);clear h h2;go_wp2_with fail;exact⟨rfl,HA.out⟩
 have dd:((x1:Int) != 54156738319193)=false:=by rw[Ra];omega
 have h3:=h2.out;rw[Nd c2]at h3;clear h2 hx;have h2:=aa h3;clear h3 c2;go_wp2_with fail;clear dd;by_cases c3:8*s.size<n+48+32;·refine(lV (HG.out _ HS2.out) ho.out hs 32 (by omega) (by omega) c3).mono ?_;rintro e w3 ⟨rfl,h7⟩;have h:=h2.out;rw[Nf c3]at h;have HA:=aa (h4.out w3 _ _ _ h (by omega) (HS2.out.trans h7));clear h7 h h2;go_wp2_with fail;exact⟨rfl,HA.out⟩
 have h3:=h2.out;rw[Nd c3]at h3;clear h2;have HT:=aa (sG (HG.out _ HS2.out) ho.out hs 32 (by omega) (by omega));have hx:=nW (ao s.data.toList) (n+48) 32 hl;generalize val (((ao s.data.toList).drop (n+48)).take 32)=x2 at*;have h2:=aa h3;have u2:IntKind.u32.wrap (x2:Int)=x2:=by rw[IntKind.wrap_u32];omega
 clear h3;refine HT.out.mono ?_;rintro e w3 ⟨rfl,hD,h7⟩;have he:=aa (HS2.out.trans h7);have hp:=aa hD;have hw:=aa (h7.blk hv.out (by simpa using hh.symm) aw);clear hD h7 HT HS2 ho hv hx;go_wp2_with fail;by_cases c4:8*s.size<n+80+1;·refine(lV (HG.out _ he.out) hp.out hs 1 (by omega) (by omega) (by omega)).mono ?_;rintro e w4 ⟨rfl,h8⟩;have h:=h2.out;rw[Nf c4]at h;have HA:=aa (h4.out w4 _ _ _ h (by omega) (he.out.trans h8));clear h8 h h2;go_wp2_with fail;exact⟨rfl,HA.out⟩
 have h3:=h2.out;rw[Nd c4]at h3;clear h2;have HT:=aa (sG (HG.out _ he.out) hp.out hs 1 (by omega) (by omega));have e80:n+48+32=n+80:=by omega
 rw[e80]at HT;have hx:=nW (ao s.data.toList) (n+80) 1 hl;generalize val (((ao s.data.toList).drop (n+80)).take 1)=x3 at*;have h2:=aa h3;clear h3 e80;refine HT.out.mono ?_;rintro e w4 ⟨rfl,hE,h8⟩;have h5:=aa (he.out.trans h8);have hq:=aa hE;have hy:=aa (h8.blk hw.out (by simpa using hh.symm) aw);clear hE h8 HT he hp hw;by_cases c5:x3≠0;·have dd:((x3:Int) != 0)=true:=(by rw[Pe];omega);have h:=h2.out;rw[Nf c5]at h;have HA:=aa (h4.out w4 _ _ _ h (by omega) h5.out);clear h h2;go_wp2_with fail;exact⟨rfl,HA.out⟩
 have dd:((x3:Int) != 0)=false:=by rw[Ra];omega
 have h3:=h2.out;rw[Nd c5]at h3;clear h2 hx;have h2:=aa h3;clear h3 c5;go_wp2_with fail;clear dd;by_cases c6:8*s.size<n+81+24;·refine(lV (HG.out _ h5.out) hq.out hs 24 (by omega) (by omega) (by omega)).mono ?_;rintro e w5 ⟨rfl,h9⟩;have h:=h2.out;rw[Nf c6]at h;have HA:=aa (h4.out w5 _ _ _ h (by omega) (h5.out.trans h9));clear h9 h h2;go_wp2_with fail;exact⟨rfl,HA.out⟩
 have h3:=h2.out;rw[Nd c6]at h3;clear h2;have HT:=aa (sG (HG.out _ h5.out) hq.out hs 24 (by omega) (by omega));have e81:n+80+1=n+81:=by omega
 rw[e81]at HT;have hx:=nW (ao s.data.toList) (n+81) 24 hl;generalize val (((ao s.data.toList).drop (n+81)).take 24)=x4 at*;have u4:IntKind.i64.wrap (x4:Int)=x4:=by rw[Of];omega
 have h2:=aa h3;clear h3 e81;refine HT.out.mono ?_;rintro e w5 ⟨rfl,hF,h9⟩;have hf:=h9.blk hy.out (by simpa using hh.symm) aw;have q0:=(ac hf 0).trans (rfl:_=some (Value.int .u32 0));have q1:=(ac hf 1).trans (rfl:_=some (Value.int .i64 0));have f0:=ae hf 0;have f1:=ae hf 1;have hJ:=aa (h5.out.trans h9);have hI:=aa (show IsR B w5 p s (n+105)from hF);clear hF h9 HT h5 hq hy hx hf;go_wp2_with fail
 have ha:ak w.heap.size [w.heap.size] [] w5 ((w5.setCell ⟨w.heap.size,0,none⟩ (.int .u32 x2)).setCell ⟨w.heap.size,1,none⟩ (.int .i64 x4)):=
  ((ak.refl _ _ _ _).set (p:=⟨w.heap.size,0,none⟩) (ag _) (List.mem_singleton.2 rfl) _).set (p:=⟨w.heap.size,1,none⟩) (ag _) (List.mem_singleton.2 rfl) _
 refine NH (v:=.agg #[.int .u32 x2,.int .i64 x4]) ?_ rfl ?_;·simp[results,results24,go_sem,q0,q1]
 ·exact hb.out _ _ _ h2.out (hI.out.step ha (by simpa using hh) aw) (hJ.out.after ha hB (fun i hi=>.inr (by rw[List.mem_singleton.1 hi];exact Nk _)) (fun t ht=>ht))
def dc(l:List Nat)(q:Int):List UInt8×List Nat×Nat×Nat:=
 let u:=S06.aN l q
 if u.2.2≠0 then([], [],0,u.2.2)else
 let g:=gD l (u.2.1:Nat) ((u.1.length+2:Nat):Int)
 if g.2.2.2≠0 then([], [],0,g.2.2.2)else
 let c:=mD g.1 g.2.1 l (g.2.2.1:Nat)
 if c.2.2≠0 then([], [],0,c.2.2)else(u.1,c.1,c.2.1,0)
def jL(u:List UInt8)(cl:List Nat)(most:Int):List UInt8×Nat:=
 let d:=S07.fD (u.length:Nat) most (zL cl)
 if d.2≠0 then([],d.2)else S06.fq (zL d.1) u
def ml(bl:List UInt8)(z R:Nat):List UInt8×Nat:=
 let b:=mJ bl R
 if b.2≠0 then([],b.2)else
 let x:=S03.fE [] b.1
 if x.2≠0 then([],x.2)else if S02.dQ x.1≠z then([],121)else(x.1,0)
theorem DN(l:List Nat)(z R q:Nat)(most:Int):xh l z R q most=
 if(dc l q).2.2.2≠0 then([],0,0,(dc l q).2.2.2)
 else if(jL (dc l q).1 (dc l q).2.1 most).2≠0 then([],0,0,(jL (dc l q).1 (dc l q).2.1 most).2)
 else if(ml (jL (dc l q).1 (dc l q).2.1 most).1 z R).2≠0 then([],0,0,(ml (jL (dc l q).1 (dc l q).2.1 most).1 z R).2)
 else((ml (jL (dc l q).1 (dc l q).2.1 most).1 z R).1,z,(dc l q).2.2.1,0):=by
 have h0:=Fd l (q:Nat) most;unfold xh dc;generalize S06.aN l (q:Nat)=u at*;obtain⟨ul,up,ue⟩:=u;dsimp only at h0 |-;by_cases e1:ue≠0;·simp only[Nf e1]
 simp only[Nd e1];generalize gD l (up:Nat) ((ul.length+2:Nat):Int)=g;obtain⟨T,P,gp,ge⟩:=g;dsimp only;by_cases e2:ge≠0;·simp only[Nf e2]
 simp only[Nd e2];generalize mD T P l (gp:Nat)=c;obtain⟨cl,cp,ce⟩:=c;dsimp only;by_cases e3:ce≠0;·simp only[Nf e3]
 simp only[Nd e3,R8,not_true_eq_false,RA];have hb:=h0 (zL cl) (Decidable.not_not.1 e1);unfold jL ml;generalize S07.fD (ul.length:Nat) most (zL cl)=d at*;obtain⟨dl,de⟩:=d;dsimp only at hb |-;by_cases e4:de≠0;·simp only[Nf e4]
 simp only[Nd e4];generalize S06.fq (zL dl) ul=b at*;obtain⟨bl,be⟩:=b;dsimp only at hb |-;subst hb;simp only[R8,not_true_eq_false,RA];generalize mJ bl R=k;obtain⟨kl,ke⟩:=k;dsimp only;by_cases e5:ke≠0;·simp only[Nf e5]
 simp only[Nd e5];generalize S03.fE [] kl=x;obtain⟨xl,xe⟩:=x;dsimp only;by_cases e6:xe≠0;·simp only[Nf e6]
 simp only[Nd e6];by_cases e7:S02.dQ xl≠z;·simp only[Nf e7];rfl
 ·simp only[Nd e7];rfl
def py(w:World)(r:List UInt8×List Nat×Nat×Nat)(e:Ending)(w':World):Prop:=
 ∃v B0,w.heap.size<=B0/\e=.returned (.tuple #[.string (S06.eP r.1),v,.int .i64 r.2.2.1,.int .i64 r.2.2.2])/\w'.ownsRow B0 3 1 v r.2.1.length (r.2.1.map iv)/\Below w.heap.size w w'
theorem FJ(w:World)(s:ByteArray)(q:Nat)(hs:s.size<=2000000)(_hq:q<=8*s.size):
 Calls prog 26 #[.string s,.int .i64 q] w (py w (dc (ao s.data.toList) (q:Nat))):=by
 obtain⟨L,hL⟩:∃L,L=ao s.data.toList:=⟨_,rfl⟩;have hy:=aa (show L.length<=16000000 by rw[hL,aC];have:s.data.toList.length=s.size:=rfl;omega);have HU:=S06.FK w s (q:Nat) hs;have HG:=fun(wx:World) (p k:Int)=>CC wx s p k hs;have HC:=fun(wx:World) (v:Value) (T:List (List Int)) (P:List Int) (hp:aJ wx v T P) (p:Nat) (h:p<=100000000)=>IX wx v T P hp s (p:Nat) hs (by omega) (by omega);rw[<- hL]at HU HG HC |-;have HG:=aa HG;have HC:=aa HC;have HU:=aa HU;obtain⟨ans,h4⟩:∃ans,ans=dc L (q:Nat):=⟨_,rfl⟩;rw[<- h4];have h5:=aa (fun(w1:World) (e:Nat) (h:ans=([], [],0,e)) (hb:Below w.heap.size w w1)=>(show py w ans (.returned (.tuple #[.string ⟨#[]⟩,.slice none 0 0,.int .i64 0,.int .i64 e])) w1 from by rw[h];exact⟨_,_,Nk _,rfl,Nt _ _ _ _,hb⟩));have he:=aa (fun(w1:World) (ul:List UInt8) (cl:List Nat) (cp:Nat) (v:Value) (B0:Nat) (h:ans=(ul,cl,cp,0)) (hB:w.heap.size<=B0) (ho:w1.ownsRow B0 3 1 v cl.length (cl.map iv)) (hb:Below w.heap.size w w1)=>(show py w ans (.returned (.tuple #[.string (S06.eP ul),v,.int .i64 cp,.int .i64 (0:Nat)])) w1 from by rw[h];exact⟨v,B0,hB,rfl,ho,hb⟩));generalize py w ans=PO at*;unfold dc at h4;have h6:=xv L (q:Nat);generalize S06.aN L (q:Nat)=u at*;obtain⟨ul,up,ue⟩:=u;dsimp only at h4 h6;have hk:=aa h6;have h3:=aa h4;clear h4 h6 hL;go_enter func26,ntmps26;go_wp2_with fail;refine HU.out.mono ?_;rintro e w1 ⟨rfl,hl⟩;have hh:=aa hl;clear hl HU;dsimp only;by_cases e2:ue≠0;·have dd:=jb e2;have h0:=h3.out;rw[Nf e2]at h0;have HA:=aa (h5.out w1 ue h0 hh.out);clear h0 h3;go_wp2_with fail;(try simp only[Exit.inBlock,Exit.then]);refine NH (jg rfl _ _ _) rfl ?_;exact HA.out
 have dd:=lU e2;have h0:=h3.out;rw[Nd e2]at h0;clear h3;obtain⟨us,ha⟩:∃us,us=S06.eP ul:=⟨_,rfl⟩;have hA:us.size=ul.length:=by rw[ha];rfl
 have hu:us.size<=256:=by have:=hk.out;omega
 have hz:=aa ha;clear hk;rw[<- ha];obtain⟨k2,hq⟩:∃k2,k2=ul.length+2:=⟨_,rfl⟩;have j1:(us.size:Int)+2=(k2:Int):=by omega
 rw[<- hq]at h0;clear hA ha hq e2;have HT:=aa (HG.out w1 (up:Nat) (k2:Nat));have hg:(gD L (up:Nat) (k2:Nat)).2.2.1<=100000000:=by have h1:=KL L (up:Nat) (k2:Nat);have h2:=hy.out;omega
 generalize gD L (up:Nat) ((k2:Nat):Int)=g at*;obtain⟨T,P,gp,ge⟩:=g;dsimp only at h0 hg;have h3:=aa h0;have hv:=aa hg;clear h0 hg;go_wp2_with fail;refine HT.out.mono ?_;rintro e w2 ⟨v,rfl,h9,hm⟩;obtain⟨A',n',c',B',m',d',rfl,h9⟩:=h9.parts;obtain⟨w3,h7⟩:∃w3,w3=w2.alloc (.cells #[.slice A' n' c',.slice B' m' d'] 43):=⟨_,rfl⟩;obtain⟨h8,hf⟩:=uf h9;rw[<- h7]at h8 hf;have ht:=aa (aq hh.out hm);have hc:=aa (aq ht.out hf);have hw:=aa h8;obtain⟨qa,qb⟩:=h8.cells;rw[h7]at qa qb;clear hm hf h8 h9 HT dd;dsimp only;by_cases e3:ge≠0;·have dd:=jb e3;have h0:=h3.out;rw[Nf e3]at h0;have HA:=aa (h5.out w3 ge h0 hc.out);clear h0 h3;go_wp2_with fail;(try simp only[Exit.inBlock,Exit.then]);rw[<- h7];refine NH (jg rfl _ _ _) rfl ?_;exact HA.out
 have dd:=lU e3;have h0:=h3.out;rw[Nd e3]at h0;clear h3;have hj:=aa (HC.out w3 _ T P hw.out.2 gp hv.out);clear e3;generalize mD T P L ((gp:Nat):Int)=cg at*;obtain⟨cl,cp,ce⟩:=cg;dsimp only at h0;have h3:=aa h0;clear h0;go_wp2_with fail;rw[<- h7];clear h7 qa qb;refine hj.out.mono ?_;rintro e w4 ⟨v4,rfl,hr,hn⟩;have hi:=aa (aq hc.out hn);have hx:=aa hr;clear hn hr hj dd;dsimp only;by_cases e4:ce≠0;·have dd:=jb e4;have h0:=h3.out;rw[Nf e4]at h0;have HA:=aa (h5.out w4 ce h0 hi.out);clear h0 h3;go_wp2_with fail;(try simp only[Exit.inBlock,Exit.then]);refine NH (jg rfl _ _ _) rfl ?_;exact HA.out
 have dd:=lU e4;have h0:=h3.out;rw[Nd e4]at h0;have HA:=aa (he.out w4 ul cl cp v4 w3.heap.size h0 hc.out.size hx.out hi.out);rw[<- hz.out]at HA;clear h0 h3 e4;go_wp2_with fail;try simp only[Exit.inBlock,Exit.then]
 refine NH (jg rfl _ _ _) rfl ?_;exact HA.out
theorem IM(w:World)(us:ByteArray)(A:Option Addr)(c:Nat)(cl:List Nat)(m0:Nat)(hi:aB w A cl.length cl)(hc:cl.length<=c)(hf:cl.length<=2000000)(hu:us.size<=256):
 Calls prog 28 #[.string us,.slice A cl.length c,.int .i64 m0] w fun e w'=>e=.returned (.tuple #[.string (S06.eP (jL us.data.toList cl m0).1),.int .i64 (jL us.data.toList cl m0).2])/\Below w.heap.size w w':=by
 have HD:=aa (S07.IQ w A cl.length c (zL cl) (us.size:Nat) (m0:Nat) (dw hi) hc hf);have h5:=CO (us.size:Nat) (m0:Nat) (zL cl);obtain⟨ans,h0⟩:∃ans,ans=jL us.data.toList cl m0:=⟨_,rfl⟩;rw[<- h0];unfold jL at h0;rw[show us.data.toList.length=us.size from rfl]at h0;generalize S07.fD (us.size:Nat) (m0:Nat) (zL cl)=dg at*;obtain⟨dl,de⟩:=dg;dsimp only at h0 h5;have h3:=aa h0;have hb:=aa h5;clear h0 h5 hi;go_enter func28,ntmps28;go_wp2_with fail;refine HD.out.mono ?_;rintro e w5 ⟨v5,rfl,h2,h8⟩;obtain⟨A5,c5,rfl,h6,_⟩:=ai h2;have he:=aa (aE h2);have h7:=aa h8;clear h2 h8 HD;dsimp only;by_cases e5:de≠0;·have dd:=jb e5;have h1:=h3.out;rw[Nf e5]at h1;clear h3;subst h1;go_wp2_with fail;go_ret2;exact⟨rfl,h7.out⟩
 have dd:=lU e5;have h1:=h3.out;rw[Nd e5]at h1;clear h3 e5;have h4:=aa (S06.qN w5 A5 dl.length c5 (zL dl) us (dw he.out) h6 (by have:=hb.out;omega) (by omega));unfold S06.kX at h4;subst h1;go_wp2_with fail;refine h4.out.mono ?_;rintro e w6 ⟨rfl,h9⟩;have ha:=aa (aq h7.out h9);clear h9 h4;go_wp2_with fail;go_ret2;exact⟨rfl,ha.out⟩
theorem Fb(col:List UInt8)(row:Nat):(mJ col row).1.length<=262144:=by
 unfold mJ;split;·exact Ng _
 split;·exact Ng _
 ·rw[S05.iZ];omega
theorem Cq(w:World)(s:ByteArray)(row:Nat):Calls prog 78 #[.string s,.int .i64 row] w fun e w'=>e=.returned (.tuple #[.string (S06.eP (mJ s.data.toList row).1),.int .i64 (mJ s.data.toList row).2])/\Below w.heap.size w w':=by
 have hl:s.data.toList.length=s.size:=rfl;unfold mJ;rw[hl];by_cases h1:262144<s.size;·rw[Nf h1];refine(S05.Fn w s row h1).mono ?_;rintro e w' ⟨rfl,rfl⟩;exact⟨rfl,Nj _ _⟩
 rw[Nd h1];by_cases h2:s.size<=row;·rw[Nf h2];refine(S05.Fo w s row (by omega) (.inr (by omega))).mono ?_;rintro e w' ⟨rfl,rfl⟩;exact⟨rfl,Nj _ _⟩
 ·rw[Nd h2];refine(S05.qN w s row (by omega) (by omega)).mono ?_;rintro e w' ⟨rfl,hb⟩;exact⟨rfl,hb⟩
theorem tu(w:World)(s:ByteArray)(hs:s.size<=9223372036854775807):Calls prog 18 #[.string s] w fun e w'=>e=.returned (.int .u32 (S02.dQ s.data.toList))/\Below w.heap.size w w':=by have h:=S02.wl w s hs;rw[<- S02.uy _ _ (by omega)]at h;exact h
theorem FM(w:World)(z R:Nat)(bs:ByteArray):
 Calls prog 29 #[.agg #[.int .u32 z,.int .i64 R],.string bs] w fun e w'=>e=.returned (.tuple #[.string (S06.eP (ml bs.data.toList z R).1),.int .i64 (ml bs.data.toList z R).2])/\Below w.heap.size w w':=by
 obtain⟨w1,h9⟩:∃w1,w1=w.alloc (.cells #[.int .u32 z,.int .i64 R] 51):=⟨_,rfl⟩;have hr:Below w.heap.size w w1:=cB h9;have hi:Blk w1 w.heap.size 51 #[.int .u32 z,.int .i64 R]:=dW h9;have HW:=aa (Cq w1 bs R);obtain⟨ans,h4⟩:∃ans,ans=ml bs.data.toList z R:=⟨_,rfl⟩;rw[<- h4];unfold ml at h4;have h5:=Fb bs.data.toList R;generalize mJ bs.data.toList R=kg at*;obtain⟨kl,ke⟩:=kg;dsimp only at h4 h5;have hx:=aa h5;have h3:=aa h4;have hk:=aa hr;have hm:=aa hi;have ho:=aa h9;have q1:w1.cell? ⟨w.heap.size,1,none⟩=some (.int .i64 R):=(ac hi 1).trans rfl;rw[h9]at q1;clear h4 hr hi h9 h5;go_enter func29,ntmps29;go_wp2_with fail;rw[<- ho.out];clear ho q1;refine HW.out.mono ?_;rintro e w7 ⟨rfl,hf⟩;have hs:=aO hf hm.out;have hb:=aa (aq hk.out hf);have hn:=aa hs;clear hf HW hs hk hm;dsimp only;by_cases e6:ke≠0;·have dd:=jb e6;have h0:=h3.out;rw[Nf e6]at h0;clear h3;subst h0;go_wp2_with fail;go_ret2;exact⟨rfl,hb.out⟩
 have dd:=lU e6;obtain⟨ks,ha⟩:∃ks,ks=S06.eP kl:=⟨_,rfl⟩;have hv:ks.data.toList=kl:=by rw[ha];rfl
 rw[<- ha];have h0:=h3.out;rw[Nd e6,<-hv]at h0;have hw:ks.size<=2097152:=by have h1:ks.size=kl.length:=(by rw[ha];rfl);have h2:=hx.out;omega
 clear h3 e6 ha hv;have HX:=aa (S03.tx w7 ks hw);have h6:=Jd ks.data.toList;generalize S03.fE [] ks.data.toList=xg at*;obtain⟨xl,xe⟩:=xg;dsimp only at h0 h6;have h3:=aa h0;have hp:=aa h6;clear h0 h6 hw;go_wp2_with fail;refine HX.out.mono ?_;rintro e w8 ⟨rfl,hg⟩;have ht:=aO hg hn.out;have hc:=aa (aq hb.out hg);have he:=aa ht;clear hg HX dd hb hn ht;dsimp only;by_cases e7:xe≠0;·have dd:=jb e7;have h0:=h3.out;rw[Nf e7]at h0;clear h3;subst h0;go_wp2_with fail;go_ret2;exact⟨rfl,hc.out⟩
 have dd:=lU e7;obtain⟨xs,hj⟩:∃xs:ByteArray,xs=⟨xl.toArray⟩:=⟨_,rfl⟩;have h6:xs.data.toList=xl:=by rw[hj]
 have hz:xs.size<=262144:=by have h1:xs.data.toList.length=xs.size:=rfl;have h2:=hp.out;rw[h6]at h1;omega
 rw[<- hj];have h0:=h3.out;rw[Nd e7,<-h6]at h0;clear h3 e7 hj h6 hp;have HZ:=fun wx:World=>tu wx xs (by omega);have hy:S06.eP xs.data.toList=xs:=rfl;generalize S02.dQ xs.data.toList=y at*;have h3:=aa h0;clear h0 hz;have q0:w8.cell? ⟨w.heap.size,0,none⟩=some (.int .u32 z):=(ac he.out 0).trans rfl;have h8:=aa (show Blk w8.drew w.heap.size _ _ from he.out);have h7:=aa hc.out.drew;have hq:=aa (HZ w8.drew);clear hc he HZ;go_upto_region 7 with fail
 go_region_held3 (fun w'=>w'.cell? ⟨w.heap.size,0,none⟩=some (.int .u32 z)) (first|exact q0|exact q9|go_keep)
  (first
    | (go_at_call 18;refine hq.out.mono ?_;rintro e w9 ⟨rfl,hh⟩
       have hl:=aa (aq h7.out hh)
       have hu:=aO hh h8.out
       have q9:w9.cell? ⟨w.heap.size,0,none⟩=some (.int .u32 z):=(ac hu 0).trans rfl
       clear hh hu))
 clear hq h8 h7 q0 dd;by_cases e8:y≠z;·have dd:((y:Int) != (z:Int))=true:=(by rw[Pe];omega);have h0:=h3.out;rw[Nf e8]at h0;clear h3;subst h0;go_wp2_with fail;go_ret2;exact⟨rfl,hl.out⟩
 have dd:((y:Int) != (z:Int))=false:=by rw[Ra];omega
 have h0:=h3.out;rw[Nd e8]at h0;clear h3;subst h0;go_wp2_with fail;go_ret2;exact⟨rfl,hl.out⟩
