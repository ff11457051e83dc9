import Derived.Test.YthakcjehhlpjnaaGreatB27
import Derived.Test.YthakcjehhlpjnaaGreatB09
import Derived.Test.YthakcjehhlpjnaaGreatB44
import Derived.Test.YthakcjehhlpjnaaGreatB45
import Derived.Test.YthakcjehhlpjnaaGreatB41
import Derived.Test.YthakcjehhlpjnaaGreatB39
import Derived.Test.YthakcjehhlpjnaaGreatB35
set_option maxHeartbeats 3200000
set_option maxRecDepth 100000
namespace Go.Proofs.YthakcjehhlpjnaaGreat
open Go.RowKit
theorem sD:∀(l:List Int) (list:List UInt8),(∀ x∈l,0≤x∧x<list.length)→∃t,S06.ch l list=some t
 | [],list,_=>⟨[],rfl⟩
 | x :: l,list,h=>by
   have hx:=h x List.mem_cons_self
   obtain⟨t,ht⟩:=sD l (S06.cE list x.toNat) fun y hy=>by
    rw[S06.da _ _ (by omega)]
    exact h y (List.mem_cons_of_mem _ hy)
   exact⟨_,by rw[S06.ch,if_pos hx,ht];rfl⟩
theorem qn(n most:Nat)(hn:1≤n):∀(l:List Int) (out:List Nat) (wo:Nat) (ended:Bool),(∀ x∈out,x<n)→∀x∈(S07.cT n most l out wo ended).1,x<n
 | [],out,wo,ended,h=>by
   unfold S07.cT
   split
   ·exact h
   ·simp
 | s :: l,out,wo,ended,h=>by
   unfold S07.cT
   split
   ·simp
   rename_i h1
   split
   ·simp
   split
   ·exact qn n most hn l out wo true h
   rename_i h2
   split
   ·split
    ·simp
    ·refine qn n most hn l _ 1 false fun x hx=> ?_
     rcases List.mem_append.1 hx with hx | hx
     ·exact h x hx
     ·have:=List.mem_singleton.1 hx
      omega
   split
   ·simp
   ·refine qn n most hn l _ _ false fun x hx=> ?_
    rcases List.mem_append.1 hx with hx | hx
    ·exact h x hx
    ·have:=(List.mem_replicate.1 hx).2
     omega
theorem CV(n:Nat)(most:Int)(L:List Int)(hn:1≤n):∀x∈(S07.dC n most L).1,x<n:=by
 unfold S07.dC
 split
 ·simp
 ·rw[Int.toNat_natCast]
  exact qn n _ hn L [] 1 false (by simp)
theorem zF(l:List Nat)(p i:Nat)(hi:i<16):(S06.eh l p i).Pairwise (· < ·)∧∀b∈S06.eh l p i,16*i≤b.toNat∧b.toNat<16*i+16:=by
 have hv:∀k,k<16→(UInt8.ofNat (16*i+k)).toNat=16*i+k:=fun k hk=>by
  rw[UInt8.toNat_ofNat',Nat.mod_eq_of_lt (by omega)]
 unfold S06.eh
 constructor
 ·rw[List.pairwise_map]
  refine List.Pairwise.imp_of_mem ?_ (List.pairwise_lt_range.filter _)
  intro a b ha hb h0
  have ha:=List.mem_range.1 (List.mem_filter.1 ha).1
  have hb:=List.mem_range.1 (List.mem_filter.1 hb).1
  rw[UInt8.lt_iff_toNat_lt,hv _ ha,hv _ hb]
  omega
 ·intro b hb
  obtain⟨k,hk,rfl⟩:=List.mem_map.1 hb
  have hk:=List.mem_range.1 (List.mem_filter.1 hk).1
  rw[hv k hk]
  omega
theorem mQ(l:List Nat)(fl:Nat→Nat):∀(is:List Nat) (p:Nat) (out o:List UInt8) (q:Nat),S06.goT l fl is p out=some (o,q)→is.Pairwise (· < ·)→(∀ i∈is,i<16)→out.Pairwise (· < ·)→(∀ b∈out,∀i∈is,b.toNat<16*i)→o.Pairwise (· < ·)
 | [],p,out,o,q,h,_,_,ho,_=>by
   simp only[S06.goT,Option.some.injEq,Prod.mk.injEq]at h
   rw[← h.1]
   exact ho
 | i :: is,p,out,o,q,h,hp,hi,ho,hb=>by
   have h3:=List.pairwise_cons.1 hp
   have h4:∀j∈is,j<16:=fun j hj=>hi j (List.mem_cons_of_mem _ hj)
   unfold S06.goT at h
   split at h
   ·exact mQ l fl is p out o q h h3.2 h4 ho fun b h0 j hj=>hb b h0 j (List.mem_cons_of_mem _ hj)
   ·split at h
    ·cases h
    ·obtain⟨r1,r2⟩:=zF l p i (hi i List.mem_cons_self)
     refine mQ l fl is _ _ o q h h3.2 h4 ?_ ?_
     ·rw[List.pairwise_append]
      refine⟨ho,r1,fun a ha b h0=> ?_⟩
      have h1:=hb a ha i List.mem_cons_self
      have h2:=(r2 b h0).1
      rw[UInt8.lt_iff_toNat_lt]
      omega
     ·intro b h0 j hj
      rcases List.mem_append.1 h0 with h0 | h0
      ·exact hb b h0 j (List.mem_cons_of_mem _ hj)
      ·have h1:=(r2 b h0).2
       have h2:=h3.1 j hj
       omega
theorem CT(l:List Nat)(p:Int)(h:(S06.ax l p).2.2=0):S06.eY (S06.ax l p).1:=by
 unfold S06.ax at h ⊢
 split
 ·rename_i h0
  rw[if_pos h0]at h
  cases h
 rename_i h0
 rw[if_neg h0]at h
 generalize p.toNat=a at*
 unfold S06.dE at h ⊢
 by_cases h1:l.length<a
 ·rw[if_pos h1]at h
  cases h
 rw[if_neg h1]at h ⊢
 by_cases h2:l.length<a+16
 ·rw[if_pos h2]at h
  cases h
 rw[if_neg h2]at h ⊢
 cases hg:S06.goT l (fun i=>l.getD (a+i) 0) (List.range 16) (a+16) []with
 | none=>
   rw[hg]at h
   cases h
 | some r=>
   obtain⟨o,q⟩:=r
   rw[hg]at h
   dsimp only at h ⊢
   by_cases h3:o= []
   ·rw[if_pos h3]at h
    cases h
   rw[if_neg h3]
   exact(S06.Gd o).2 ⟨h3,mQ l _ _ _ _ _ _ hg List.pairwise_lt_range (fun i hi=>List.mem_range.1 hi) List.Pairwise.nil (by simp)⟩
theorem Cl(l:List Nat)(p:Int)(most:Int)(L:List Int)(h:(S06.ax l p).2.2=0):(S06.cw (zL (S07.dC ((S06.ax l p).1.length:Nat) most L).1) (S06.ax l p).1).2=0:=by
 have hM:=CT l p h
 have hn:1≤(S06.ax l p).1.length:=List.length_pos_iff.2 hM.1
 obtain⟨t,ht⟩:=sD (zL (S07.dC ((S06.ax l p).1.length:Nat) most L).1) (S06.ax l p).1 fun x hx=>by
  obtain⟨y,hy,rfl⟩:=List.mem_map.1 hx
  have:=CV _ most L hn y hy
  omega
 unfold S06.cw
 rw[if_pos hM,ht]
theorem Gu{a b:List UInt8}(h:a.Perm b):S06.ofL a=S06.ofL b:=
 S06.mM (S06.fY a) (S06.fY b) fun x=>by rw[S06.lU,S06.lU];exact h.mem_iff
theorem F8(t:List UInt8):S06.ofL (jv t)=S06.ofL t:=by
 obtain⟨L,h⟩:=wY t
 unfold jv
 rw[← mc h]
 exact Gu (S05.vo h)
theorem pB(bits:List Nat)(n:Nat):∀(t p:Nat) (acc:List (List Nat)),p≤bits.length→(eU bits n t p acc).2.1≤bits.length
 | 0,_,_,h=>h
 | t+1,p,acc,h=>by
   rw[kF]
   split
   ·split
    ·exact pB bits n t _ _ (jx _ _ _).1
    ·exact Nat.zero_le _
   ·exact Nat.zero_le _
theorem Fr(l:List Nat)(p n:Int):(eJ l p n).2.2.1≤l.length:=by
 unfold eJ
 split
 ·exact Nat.zero_le _
 unfold jl
 split
 ·exact Nat.zero_le _
 split
 ·exact Nat.zero_le _
 rename_i h3
 split
 ·exact Nat.zero_le _
 split
 ·exact Nat.zero_le _
 unfold rc
 split
 ·split
  ·exact pB l _ _ _ _ (fm l _ (by omega) _ _ _ _ (by omega)).1
  ·exact Nat.zero_le _
 ·exact Nat.zero_le _
abbrev JT (g:Nat):Value:=.func (.func 83) #[] #[.pointer (some ⟨g,0,none⟩)]
abbrev Ay (k:Int):Ending:=.panicked [{ v:=.iface 25 (.int .i64 k),recovered:=false }]
theorem AX(w:World)(p:Nat):Calls Tryz.prog 31 #[.pointer (some ⟨p,0,none⟩)] w fun e w'=>e=.returned (JT w.heap.size)∧w'=w.alloc (.cells #[.pointer (some ⟨p,0,none⟩)] 64):=by
 have h0:∀(fn:Fn) (first cap:Array Value) (wx:World),(Instr.makeFunc fn first cap).run Tryz.prog wx=.ok (.func fn first cap) wx:=fun _ _ _ _=>rfl
 go_enter Tryz.func31,Tryz.ntmps31
 go_wp2_with fail
 go_ret
 exact⟨rfl,rfl⟩
section
variable {B:Nat} {w:World} {g p n:Nat} {s:ByteArray} (hg:Blk w g 64 #[.pointer (some ⟨p,0,none⟩)]) (hR:IsR B w p s n) (hs:s.size≤2000000)
include hg hR hs
theorem qA(k:Nat)(hk:k≤64)(h1:n+k≤8*s.size):
 Calls Tryz.prog 83 #[.int .i64 k,.pointer (some ⟨g,0,none⟩)] w fun e w'=>e=.returned (.int .u64 (val (((al s.data.toList).drop n).take k)))∧IsR B w' p s (n+k)∧ak B [p] [] w w':=by
 have HT:=aa (gz B w p s n k hR (by omega) hk h1)
 generalize val (((al s.data.toList).drop n).take k)=x at*
 have q0:w.cell? ⟨g,0,none⟩=some (.pointer (some ⟨p,0,none⟩)):=(ac hg 0).trans rfl
 clear hR hg
 go_enter Tryz.func83,Tryz.ntmps83
 go_wp2_with fail
 refine HT.out.mono ?_
 rintro e w2 ⟨rfl,h0,h2⟩
 go_wp2_with fail
 go_ret
 exact⟨rfl,h0,h2⟩
theorem kd(k:Nat)(hk:k≤64)(hn:n≤8*s.size)(h1:8*s.size<n+k):
 Calls Tryz.prog 83 #[.int .i64 k,.pointer (some ⟨g,0,none⟩)] w fun e w'=>e=Ay 10∧ak B [p] [] w w':=by
 have HT:=aa (eF B w p s n k hR (by omega) hk hn h1)
 have q0:w.cell? ⟨g,0,none⟩=some (.pointer (some ⟨p,0,none⟩)):=(ac hg 0).trans rfl
 clear hR hg
 go_enter Tryz.func83,Tryz.ntmps83
 go_wp2_with fail
 refine HT.out.mono ?_
 rintro e w2 ⟨rfl,h2,h0⟩
 go_wp2_with fail
 first
 | exact⟨rfl,h0⟩
 | exact⟨rfl,rfl,h0⟩
 | (simp [bodyPost];exact h0)
end
def ni(B:Nat)(w:World)(p:Nat)(s:ByteArray)(n:Nat)(h:Nat×Nat×Nat)(e:Ending)(w':World):Prop:=
 (h.2.2≠0→e=Ay h.2.2)∧(h.2.2=0→e=.returned (.agg #[.int .u32 h.1,.int .i64 h.2.1])∧IsR B w' p s (n+105))∧ak B [p] [] w w'
theorem lS(l:List Nat)(n k:Nat)(hb:an l):val ((l.drop n).take k)<2 ^ k:=fH l n k k hb (ah _)
theorem sW{B:Nat}{w:World}{g p n:Nat}{s:ByteArray}(hg:Blk w g 64 #[.pointer (some ⟨p,0,none⟩)])(hR:IsR B w p s n)(hs:s.size≤2000000)(hn:n≤8*s.size)(hB:B≤w.heap.size):
 Calls Tryz.prog 30 #[JT g] w (ni B w p s n (bJ (al s.data.toList) n)):=by
 have hM:(al s.data.toList).length=8*s.size:=aA _
 have hl:=aM s.data.toList
 have hL:g≠p:=fun e=>by
  subst e
  have h1:=hg.symm.trans hR.blk
  simp at h1
 have HG:=aa (fun(wx:World) (h:ak B [p] [] w wx)=>h.blk hg (by simpa using hL) aq)
 obtain⟨w1,hj⟩:∃w1,w1=w.alloc (.cells #[.int .u32 0,.int .i64 0] 59):=⟨_,rfl⟩
 have hI:ak B [p] [] w w1:=by rw[hj];exact(ak.refl _ _ _ _).alloc hB _
 have hC:IsR B w1 p s n:=by rw[hj];exact hR.alloc _
 have hH:Blk w1 w.heap.size 59 #[.int .u32 0,.int .i64 0]:=ee hj
 have hh:p≠w.heap.size:=fun e=>by
  have:=ay hR.blk
  omega
 have hm:=aa (show bJ (al s.data.toList) n=_ from rfl)
 obtain⟨ans,h3⟩:∃ans,ans=bJ (al s.data.toList) n:=⟨_,rfl⟩
 rw[← h3]
 have h4:Hid (∀ (w':World) (a b k:Nat),ans=(a,b,k)→k≠0→ak B [p] [] w w'→ni B w p s n ans (Ay k) w'):=aa fun w' a b k h hk ha=>by
  rw[h]
  exact⟨fun _=>rfl,fun h0=>absurd h0 hk,ha⟩
 have hb:Hid (∀ (w':World) (a b:Nat),ans=(a,b,0)→IsR B w' p s (n+105)→ak B [p] [] w w'→ni B w p s n ans (.returned (.agg #[.int .u32 a,.int .i64 b])) w'):=aa fun w' a b h hr ha=>by
  rw[h]
  exact⟨fun h0=>absurd rfl h0,fun _=>⟨rfl,hr⟩,ha⟩
 unfold bJ at h3
 rw[hM]at h3
 have h2:=aa h3
 have hc:=aa hI
 have ho:=aa hC
 have hv:=aa hH
 have hA:=aa hj
 generalize ni B w p s n ans=PO at*
 clear hg hR hI hC hH hj h3 hm
 go_enter Tryz.func30,Tryz.ntmps30
 go_wp2_with fail
 rw[← hA.out]
 clear hA
 by_cases c1:8*s.size<n+48
 ·refine(kd (HG.out _ hc.out) ho.out hs 48 (by omega) hn c1).mono ?_
  rintro e w2 ⟨rfl,h6⟩
  have h:=h2.out
  rw[if_pos c1]at h
  have HA:=aa (h4.out w2 _ _ _ h (by omega) (hc.out.trans h6))
  clear h6 h h2
  go_wp2_with fail
  exact⟨rfl,HA.out⟩
 have h3:=h2.out
 rw[if_neg c1]at h3
 clear h2
 have HT:=aa (qA (HG.out _ hc.out) ho.out hs 48 (by omega) (by omega))
 have hx:=lS (al s.data.toList) n 48 hl
 generalize val (((al s.data.toList).drop n).take 48)=x1 at*
 have h2:=aa h3
 clear h3
 refine HT.out.mono ?_
 rintro e w2 ⟨rfl,hD,h6⟩
 have HS2:=aa (hc.out.trans h6)
 have hp:=aa hD
 have hw:=aa (h6.blk hv.out (by simpa using hh.symm) aq)
 clear hD h6 HT hc ho hv
 by_cases c2:x1≠54156738319193
 ·have dd:((x1:Int) != 54156738319193)=true:=by
   rw[bne_iff_ne]
   omega
  have h:=h2.out
  rw[if_pos c2]at h
  have HA:=aa (h4.out w2 _ _ _ h (by omega) HS2.out)
  clear h h2
  go_wp2_with fail
  exact⟨rfl,HA.out⟩
 have dd:((x1:Int) != 54156738319193)=false:=by
  rw[bne_eq_false_iff_eq]
  omega
 have h3:=h2.out
 rw[if_neg c2]at h3
 clear h2 hx
 have h2:=aa h3
 clear h3 c2
 go_wp2_with fail
 clear dd
 by_cases c3:8*s.size<n+48+32
 ·refine(kd (HG.out _ HS2.out) hp.out hs 32 (by omega) (by omega) c3).mono ?_
  rintro e w3 ⟨rfl,h7⟩
  have h:=h2.out
  rw[if_pos c3]at h
  have HA:=aa (h4.out w3 _ _ _ h (by omega) (HS2.out.trans h7))
  clear h7 h h2
  go_wp2_with fail
  exact⟨rfl,HA.out⟩
 have h3:=h2.out
 rw[if_neg c3]at h3
 clear h2
 have HT:=aa (qA (HG.out _ HS2.out) hp.out hs 32 (by omega) (by omega))
 have hx:=lS (al s.data.toList) (n+48) 32 hl
 generalize val (((al s.data.toList).drop (n+48)).take 32)=x2 at*
 have h2:=aa h3
 have u2:IntKind.u32.wrap (x2:Int)=x2:=by rw[IntKind.wrap_u32];omega
 clear h3
 refine HT.out.mono ?_
 rintro e w3 ⟨rfl,hE,h7⟩
 have he:=aa (HS2.out.trans h7)
 have hq:=aa hE
 have hy:=aa (h7.blk hw.out (by simpa using hh.symm) aq)
 clear hE h7 HT HS2 hp hw hx
 go_wp2_with fail
 by_cases c4:8*s.size<n+80+1
 ·refine(kd (HG.out _ he.out) hq.out hs 1 (by omega) (by omega) (by omega)).mono ?_
  rintro e w4 ⟨rfl,h8⟩
  have h:=h2.out
  rw[if_pos c4]at h
  have HA:=aa (h4.out w4 _ _ _ h (by omega) (he.out.trans h8))
  clear h8 h h2
  go_wp2_with fail
  exact⟨rfl,HA.out⟩
 have h3:=h2.out
 rw[if_neg c4]at h3
 clear h2
 have HT:=aa (qA (HG.out _ he.out) hq.out hs 1 (by omega) (by omega))
 have e80:n+48+32=n+80:=by omega
 rw[e80]at HT
 have hx:=lS (al s.data.toList) (n+80) 1 hl
 generalize val (((al s.data.toList).drop (n+80)).take 1)=x3 at*
 have h2:=aa h3
 clear h3 e80
 refine HT.out.mono ?_
 rintro e w4 ⟨rfl,hF,h8⟩
 have h5:=aa (he.out.trans h8)
 have hu:=aa hF
 have hz:=aa (h8.blk hy.out (by simpa using hh.symm) aq)
 clear hF h8 HT he hq hy
 by_cases c5:x3≠0
 ·have dd:((x3:Int) != 0)=true:=by
   rw[bne_iff_ne]
   omega
  have h:=h2.out
  rw[if_pos c5]at h
  have HA:=aa (h4.out w4 _ _ _ h (by omega) h5.out)
  clear h h2
  go_wp2_with fail
  exact⟨rfl,HA.out⟩
 have dd:((x3:Int) != 0)=false:=by
  rw[bne_eq_false_iff_eq]
  omega
 have h3:=h2.out
 rw[if_neg c5]at h3
 clear h2 hx
 have h2:=aa h3
 clear h3 c5
 go_wp2_with fail
 clear dd
 by_cases c6:8*s.size<n+81+24
 ·refine(kd (HG.out _ h5.out) hu.out hs 24 (by omega) (by omega) (by omega)).mono ?_
  rintro e w5 ⟨rfl,h9⟩
  have h:=h2.out
  rw[if_pos c6]at h
  have HA:=aa (h4.out w5 _ _ _ h (by omega) (h5.out.trans h9))
  clear h9 h h2
  go_wp2_with fail
  exact⟨rfl,HA.out⟩
 have h3:=h2.out
 rw[if_neg c6]at h3
 clear h2
 have HT:=aa (qA (HG.out _ h5.out) hu.out hs 24 (by omega) (by omega))
 have e81:n+80+1=n+81:=by omega
 rw[e81]at HT
 have hx:=lS (al s.data.toList) (n+81) 24 hl
 generalize val (((al s.data.toList).drop (n+81)).take 24)=x4 at*
 have u4:IntKind.i64.wrap (x4:Int)=x4:=by rw[IntKind.wrap_i64];omega
 have h2:=aa h3
 clear h3 e81
 refine HT.out.mono ?_
 rintro e w5 ⟨rfl,hG,h9⟩
 have hf:=h9.blk hz.out (by simpa using hh.symm) aq
 have q0:=(ac hf 0).trans (rfl:_=some (Value.int .u32 0))
 have q1:=(ac hf 1).trans (rfl:_=some (Value.int .i64 0))
 have f0:=ae hf 0
 have f1:=ae hf 1
 have hK:=aa (h5.out.trans h9)
 have hJ:=aa (show IsR B w5 p s (n+105)from hG)
 clear hG h9 HT h5 hu hz hx hf
 go_wp2_with fail
 have ha:ak w.heap.size [w.heap.size] [] w5 ((w5.setCell ⟨w.heap.size,0,none⟩ (.int .u32 x2)).setCell ⟨w.heap.size,1,none⟩ (.int .i64 x4)):=
  ((ak.refl _ _ _ _).set (p:=⟨w.heap.size,0,none⟩) (ah _) (List.mem_singleton.2 rfl) _).set (p:=⟨w.heap.size,1,none⟩) (ah _) (List.mem_singleton.2 rfl) _
 refine bodyPost_ret (v:=.agg #[.int .u32 x2,.int .i64 x4]) ?_ rfl ?_
 ·simp[results,Tryz.results30,go_sem,q0,q1]
 ·exact hb.out _ _ _ h2.out (hJ.out.step ha (by simpa using hh) aq) (hK.out.after ha hB (fun i hi=>.inr (by rw[List.mem_singleton.1 hi];exact Nat.le_refl _)) (fun t ht=>ht))
def b6(l:List Nat)(q:Int):List UInt8×List Nat×Nat×Nat:=
 let u:=S06.ax l q
 if u.2.2≠0 then([], [],0,u.2.2)else
 let g:=eJ l (u.2.1:Nat) ((u.1.length+2:Nat):Int)
 if g.2.2.2≠0 then([], [],0,g.2.2.2)else
 let c:=eK g.1 g.2.1 l (g.2.2.1:Nat)
 if c.2.2≠0 then([], [],0,c.2.2)else(u.1,c.1,c.2.1,0)
def iW(u:List UInt8)(cl:List Nat)(most:Int):List UInt8×Nat:=
 let d:=S07.dC (u.length:Nat) most (zL cl)
 if d.2≠0 then([],d.2)else S06.cw (zL d.1) u
def kx(bl:List UInt8)(z R:Nat):List UInt8×Nat:=
 let b:=iL bl R
 if b.2≠0 then([],b.2)else
 let x:=S03.dZ [] b.1
 if x.2≠0 then([],x.2)else if S02.db x.1≠z then([],121)else(x.1,0)
theorem AU(l:List Nat)(z R q:Nat)(most:Int):pP l z R q most=
 if(b6 l q).2.2.2≠0 then([],0,0,(b6 l q).2.2.2)
 else if(iW (b6 l q).1 (b6 l q).2.1 most).2≠0 then([],0,0,(iW (b6 l q).1 (b6 l q).2.1 most).2)
 else if(kx (iW (b6 l q).1 (b6 l q).2.1 most).1 z R).2≠0 then([],0,0,(kx (iW (b6 l q).1 (b6 l q).2.1 most).1 z R).2)
 else((kx (iW (b6 l q).1 (b6 l q).2.1 most).1 z R).1,z,(b6 l q).2.2.1,0):=by
 have h0:=Cl l (q:Nat) most
 unfold pP b6
 generalize S06.ax l (q:Nat)=u at*
 obtain⟨ul,up,ue⟩:=u
 dsimp only at h0 ⊢
 by_cases e1:ue≠0
 ·simp only[if_pos e1]
 simp only[if_neg e1]
 generalize eJ l (up:Nat) ((ul.length+2:Nat):Int)=g
 obtain⟨T,P,gp,ge⟩:=g
 dsimp only
 by_cases e2:ge≠0
 ·simp only[if_pos e2]
 simp only[if_neg e2]
 generalize eK T P l (gp:Nat)=c
 obtain⟨cl,cp,ce⟩:=c
 dsimp only
 by_cases e3:ce≠0
 ·simp only[if_pos e3]
 simp only[if_neg e3,ne_eq,not_true_eq_false,if_false]
 have hb:=h0 (zL cl) (Decidable.not_not.1 e1)
 unfold iW kx
 generalize S07.dC (ul.length:Nat) most (zL cl)=d at*
 obtain⟨dl,de⟩:=d
 dsimp only at hb ⊢
 by_cases e4:de≠0
 ·simp only[if_pos e4]
 simp only[if_neg e4]
 generalize S06.cw (zL dl) ul=b at*
 obtain⟨bl,be⟩:=b
 dsimp only at hb ⊢
 subst hb
 simp only[ne_eq,not_true_eq_false,if_false]
 generalize iL bl R=k
 obtain⟨kl,ke⟩:=k
 dsimp only
 by_cases e5:ke≠0
 ·simp only[if_pos e5]
 simp only[if_neg e5]
 generalize S03.dZ [] kl=x
 obtain⟨xl,xe⟩:=x
 dsimp only
 by_cases e6:xe≠0
 ·simp only[if_pos e6]
 simp only[if_neg e6]
 by_cases e7:S02.db xl≠z
 ·simp only[if_pos e7]
  rfl
 ·simp only[if_neg e7]
  rfl
def np(w:World)(r:List UInt8×List Nat×Nat×Nat)(e:Ending)(w':World):Prop:=
 ∃v B0,w.heap.size≤B0∧e=.returned (.tuple #[.string (S06.cN r.1),v,.int .i64 r.2.2.1,.int .i64 r.2.2.2])∧w'.ownsRow B0 3 1 v r.2.1.length (r.2.1.map iv)∧Below w.heap.size w w'
theorem Eh(w:World)(s:ByteArray)(q:Nat)(hs:s.size≤2000000)(_hq:q≤8*s.size):
 Calls Tryz.prog 32 #[.string s,.int .i64 q] w (np w (b6 (al s.data.toList) (q:Nat))):=by
 obtain⟨L,hL⟩:∃L,L=al s.data.toList:=⟨_,rfl⟩
 have hy:=aa (show L.length≤16000000 by rw[hL,aA];have:s.data.toList.length=s.size:=rfl;omega)
 have HU:=S06.EJ w s (q:Nat) hs
 have HG:=fun(wx:World) (p k:Int)=>zT wx s p k hs
 have HC:=fun(wx:World) (v:Value) (T:List (List Int)) (P:List Int) (hp:aN wx v T P) (p:Nat) (h:p≤100000000)=>GQ wx v T P hp s (p:Nat) hs (by omega) (by omega)
 rw[← hL]at HU HG HC ⊢
 have HG:=aa HG
 have HC:=aa HC
 have HU:=aa HU
 obtain⟨ans,h4⟩:∃ans,ans=b6 L (q:Nat):=⟨_,rfl⟩
 rw[← h4]
 have h5:=aa (fun(w1:World) (e:Nat) (h:ans=([], [],0,e)) (hb:Below w.heap.size w w1)=>(show np w ans (.returned (.tuple #[.string ⟨#[]⟩,.slice none 0 0,.int .i64 0,.int .i64 e])) w1 from by rw[h];exact⟨_,_,Nat.le_refl _,rfl,World.ownsRow_nil _ _ _ _,hb⟩))
 have he:=aa (fun(w1:World) (ul:List UInt8) (cl:List Nat) (cp:Nat) (v:Value) (B0:Nat) (h:ans=(ul,cl,cp,0)) (hB:w.heap.size≤B0) (ho:w1.ownsRow B0 3 1 v cl.length (cl.map iv)) (hb:Below w.heap.size w w1)=>(show np w ans (.returned (.tuple #[.string (S06.cN ul),v,.int .i64 cp,.int .i64 (0:Nat)])) w1 from by rw[h];exact⟨v,B0,hB,rfl,ho,hb⟩))
 generalize np w ans=PO at*
 unfold b6 at h4
 have h6:=nX L (q:Nat)
 generalize S06.ax L (q:Nat)=u at*
 obtain⟨ul,up,ue⟩:=u
 dsimp only at h4 h6
 have hk:=aa h6
 have h3:=aa h4
 clear h4 h6 hL
 go_enter Tryz.func32,Tryz.ntmps32
 go_wp2_with fail
 refine HU.out.mono ?_
 rintro e w1 ⟨rfl,hl⟩
 have hh:=aa hl
 clear hl HU
 dsimp only
 by_cases e2:ue≠0
 ·have dd:=dG e2
  have h0:=h3.out
  rw[if_pos e2]at h0
  have HA:=aa (h5.out w1 ue h0 hh.out)
  clear h0 h3
  go_wp2_with fail
  try simp only[Exit.inBlock,Exit.then]
  refine bodyPost_ret (aS rfl _ _ _) rfl ?_
  exact HA.out
 have dd:=eV e2
 have h0:=h3.out
 rw[if_neg e2]at h0
 clear h3
 obtain⟨us,ha⟩:∃us,us=S06.cN ul:=⟨_,rfl⟩
 have hA:us.size=ul.length:=by rw[ha];rfl
 have hu:us.size≤256:=by
  have:=hk.out
  omega
 have hz:=aa ha
 clear hk
 rw[← ha]
 obtain⟨k2,hq⟩:∃k2,k2=ul.length+2:=⟨_,rfl⟩
 have j1:(us.size:Int)+2=(k2:Int):=by omega
 rw[← hq]at h0
 clear hA ha hq e2
 have HT:=aa (HG.out w1 (up:Nat) (k2:Nat))
 have hg:(eJ L (up:Nat) (k2:Nat)).2.2.1≤100000000:=by
  have h1:=Fr L (up:Nat) (k2:Nat)
  have h2:=hy.out
  omega
 generalize eJ L (up:Nat) ((k2:Nat):Int)=g at*
 obtain⟨T,P,gp,ge⟩:=g
 dsimp only at h0 hg
 have h3:=aa h0
 have hv:=aa hg
 clear h0 hg
 go_wp2_with fail
 refine HT.out.mono ?_
 rintro e w2 ⟨v,rfl,h9,hm⟩
 obtain⟨A',n',c',B',m',d',rfl,h9⟩:=h9.parts
 obtain⟨w3,h7⟩:∃w3,w3=w2.alloc (.cells #[.slice A' n' c',.slice B' m' d'] 52):=⟨_,rfl⟩
 obtain⟨h8,hf⟩:=sK h9
 rw[← h7]at h8 hf
 have ht:=aa (ap hh.out hm)
 have hc:=aa (ap ht.out hf)
 have hw:=aa h8
 obtain⟨qa,qb⟩:=h8.cells
 rw[h7]at qa qb
 clear hm hf h8 h9 HT dd
 dsimp only
 by_cases e3:ge≠0
 ·have dd:=dG e3
  have h0:=h3.out
  rw[if_pos e3]at h0
  have HA:=aa (h5.out w3 ge h0 hc.out)
  clear h0 h3
  go_wp2_with fail
  try simp only[Exit.inBlock,Exit.then]
  rw[← h7]
  refine bodyPost_ret (aS rfl _ _ _) rfl ?_
  exact HA.out
 have dd:=eV e3
 have h0:=h3.out
 rw[if_neg e3]at h0
 clear h3
 have hj:=aa (HC.out w3 _ T P hw.out.2 gp hv.out)
 clear e3
 generalize eK T P L ((gp:Nat):Int)=cg at*
 obtain⟨cl,cp,ce⟩:=cg
 dsimp only at h0
 have h3:=aa h0
 clear h0
 go_wp2_with fail
 rw[← h7]
 clear h7 qa qb
 refine hj.out.mono ?_
 rintro e w4 ⟨v4,rfl,hr,hn⟩
 have hi:=aa (ap hc.out hn)
 have hx:=aa hr
 clear hn hr hj dd
 dsimp only
 by_cases e4:ce≠0
 ·have dd:=dG e4
  have h0:=h3.out
  rw[if_pos e4]at h0
  have HA:=aa (h5.out w4 ce h0 hi.out)
  clear h0 h3
  go_wp2_with fail
  try simp only[Exit.inBlock,Exit.then]
  refine bodyPost_ret (aS rfl _ _ _) rfl ?_
  exact HA.out
 have dd:=eV e4
 have h0:=h3.out
 rw[if_neg e4]at h0
 have HA:=aa (he.out w4 ul cl cp v4 w3.heap.size h0 hc.out.size hx.out hi.out)
 rw[← hz.out]at HA
 clear h0 h3 e4
 go_wp2_with fail
 try simp only[Exit.inBlock,Exit.then]
 refine bodyPost_ret (aS rfl _ _ _) rfl ?_
 exact HA.out
theorem Fo(w:World)(us:ByteArray)(A:Option Addr)(c:Nat)(cl:List Nat)(m0:Nat)(hi:aw w A cl.length cl)(hc:cl.length≤c)(hf:cl.length≤2000000)(hu:us.size≤256):
 Calls Tryz.prog 34 #[.string us,.slice A cl.length c,.int .i64 m0] w fun e w'=>e=.returned (.tuple #[.string (S06.cN (iW us.data.toList cl m0).1),.int .i64 (iW us.data.toList cl m0).2])∧Below w.heap.size w w':=by
 have HD:=aa (S07.E8 w A cl.length c (zL cl) (us.size:Nat) (m0:Nat) (cR hi) hc hf)
 have h5:=rt (us.size:Nat) (m0:Nat) (zL cl)
 obtain⟨ans,h0⟩:∃ans,ans=iW us.data.toList cl m0:=⟨_,rfl⟩
 rw[← h0]
 unfold iW at h0
 rw[show us.data.toList.length=us.size from rfl]at h0
 generalize S07.dC (us.size:Nat) (m0:Nat) (zL cl)=dg at*
 obtain⟨dl,de⟩:=dg
 dsimp only at h0 h5
 have h3:=aa h0
 have hb:=aa h5
 clear h0 h5 hi
 go_enter Tryz.func34,Tryz.ntmps34
 go_wp2_with fail
 refine HD.out.mono ?_
 rintro e w5 ⟨v5,rfl,h2,h8⟩
 obtain⟨A5,c5,rfl,h6,_⟩:=aj h2
 have he:=aa (aJ h2)
 have h7:=aa h8
 clear h2 h8 HD
 dsimp only
 by_cases e5:de≠0
 ·have dd:=dG e5
  have h1:=h3.out
  rw[if_pos e5]at h1
  clear h3
  subst h1
  go_wp2_with fail
  go_ret2
  exact⟨rfl,h7.out⟩
 have dd:=eV e5
 have h1:=h3.out
 rw[if_neg e5]at h1
 clear h3 e5
 have h4:=aa (S06.oQ w5 A5 dl.length c5 (zL dl) us (cR he.out) h6 (by have:=hb.out;omega) (by omega))
 unfold S06.j7 at h4
 subst h1
 go_wp2_with fail
 refine h4.out.mono ?_
 rintro e w6 ⟨rfl,h9⟩
 have ha:=aa (ap h7.out h9)
 clear h9 h4
 go_wp2_with fail
 go_ret2
 exact⟨rfl,ha.out⟩
theorem CC(col:List UInt8)(row:Nat):(iL col row).1.length≤262144:=by
 unfold iL
 split
 ·exact Nat.zero_le _
 split
 ·exact Nat.zero_le _
 ·rw[S05.eR]
  omega
theorem zf(w:World)(s:ByteArray)(row:Nat):Calls Tryz.prog 91 #[.string s,.int .i64 row] w fun e w'=>e=.returned (.tuple #[.string (S06.cN (iL s.data.toList row).1),.int .i64 (iL s.data.toList row).2])∧Below w.heap.size w w':=by
 have hl:s.data.toList.length=s.size:=rfl
 unfold iL
 rw[hl]
 by_cases h1:262144<s.size
 ·rw[if_pos h1]
  refine(S05.D0 w s row h1).mono ?_
  rintro e w' ⟨rfl,rfl⟩
  exact⟨rfl,Below.refl _ _⟩
 rw[if_neg h1]
 by_cases h2:s.size≤row
 ·rw[if_pos h2]
  refine(S05.C8 w s row (by omega) (.inr (by omega))).mono ?_
  rintro e w' ⟨rfl,rfl⟩
  exact⟨rfl,Below.refl _ _⟩
 ·rw[if_neg h2]
  refine(S05.oQ w s row (by omega) (by omega)).mono ?_
  rintro e w' ⟨rfl,hb⟩
  exact⟨rfl,hb⟩
theorem mB(w:World)(s:ByteArray)(hs:s.size≤9223372036854775807):Calls Tryz.prog 14 #[.string s] w fun e w'=>e=.returned (.int .u32 (S02.db s.data.toList))∧Below w.heap.size w w':=by
 have h:=S02.tF w s hs
 rw[← S02.sg _ _ (by omega)]at h
 exact h
theorem Cv(w:World)(z R:Nat)(bs:ByteArray):
 Calls Tryz.prog 35 #[.agg #[.int .u32 z,.int .i64 R],.string bs] w fun e w'=>e=.returned (.tuple #[.string (S06.cN (kx bs.data.toList z R).1),.int .i64 (kx bs.data.toList z R).2])∧Below w.heap.size w w':=by
 obtain⟨w1,h9⟩:∃w1,w1=w.alloc (.cells #[.int .u32 z,.int .i64 R] 59):=⟨_,rfl⟩
 have hr:Below w.heap.size w w1:=bR h9
 have hi:Blk w1 w.heap.size 59 #[.int .u32 z,.int .i64 R]:=ee h9
 have HW:=aa (zf w1 bs R)
 obtain⟨ans,h4⟩:∃ans,ans=kx bs.data.toList z R:=⟨_,rfl⟩
 rw[← h4]
 unfold kx at h4
 have h5:=CC bs.data.toList R
 generalize iL bs.data.toList R=kg at*
 obtain⟨kl,ke⟩:=kg
 dsimp only at h4 h5
 have hx:=aa h5
 have h3:=aa h4
 have hk:=aa hr
 have hm:=aa hi
 have ho:=aa h9
 have q1:w1.cell? ⟨w.heap.size,1,none⟩=some (.int .i64 R):=(ac hi 1).trans rfl
 rw[h9]at q1
 clear h4 hr hi h9 h5
 go_enter Tryz.func35,Tryz.ntmps35
 go_wp2_with fail
 rw[← ho.out]
 clear ho q1
 refine HW.out.mono ?_
 rintro e w7 ⟨rfl,hf⟩
 have hs:=aL hf hm.out
 have hb:=aa (ap hk.out hf)
 have hn:=aa hs
 clear hf HW hs hk hm
 dsimp only
 by_cases e6:ke≠0
 ·have dd:=dG e6
  have h0:=h3.out
  rw[if_pos e6]at h0
  clear h3
  subst h0
  go_wp2_with fail
  go_ret2
  exact⟨rfl,hb.out⟩
 have dd:=eV e6
 obtain⟨ks,ha⟩:∃ks,ks=S06.cN kl:=⟨_,rfl⟩
 have hv:ks.data.toList=kl:=by rw[ha];rfl
 rw[← ha]
 have h0:=h3.out
 rw[if_neg e6,←hv]at h0
 have hw:ks.size≤2097152:=by
  have h1:ks.size=kl.length:=by rw[ha];rfl
  have h2:=hx.out
  omega
 clear h3 e6 ha hv
 have HX:=aa (S03.qW w7 ks hw)
 have h6:=yu ks.data.toList
 generalize S03.dZ [] ks.data.toList=xg at*
 obtain⟨xl,xe⟩:=xg
 dsimp only at h0 h6
 have h3:=aa h0
 have hp:=aa h6
 clear h0 h6 hw
 go_wp2_with fail
 refine HX.out.mono ?_
 rintro e w8 ⟨rfl,hg⟩
 have ht:=aL hg hn.out
 have hc:=aa (ap hb.out hg)
 have he:=aa ht
 clear hg HX dd hb hn ht
 dsimp only
 by_cases e7:xe≠0
 ·have dd:=dG e7
  have h0:=h3.out
  rw[if_pos e7]at h0
  clear h3
  subst h0
  go_wp2_with fail
  go_ret2
  exact⟨rfl,hc.out⟩
 have dd:=eV e7
 obtain⟨xs,hj⟩:∃xs:ByteArray,xs=⟨xl.toArray⟩:=⟨_,rfl⟩
 have h6:xs.data.toList=xl:=by rw[hj]
 have hz:xs.size≤262144:=by
  have h1:xs.data.toList.length=xs.size:=rfl
  have h2:=hp.out
  rw[h6]at h1
  omega
 rw[← hj]
 have h0:=h3.out
 rw[if_neg e7,←h6]at h0
 clear h3 e7 hj h6 hp
 have HZ:=fun wx:World=>mB wx xs (by omega)
 have hy:S06.cN xs.data.toList=xs:=rfl
 generalize S02.db xs.data.toList=y at*
 have h3:=aa h0
 clear h0 hz
 have q0:w8.cell? ⟨w.heap.size,0,none⟩=some (.int .u32 z):=(ac he.out 0).trans rfl
 have h8:=aa (show Blk w8.drew w.heap.size _ _ from he.out)
 have h7:=aa hc.out.drew
 have hq:=aa (HZ w8.drew)
 clear hc he HZ
 go_upto_region 7 with fail
 go_region_held3 (fun w'=>w'.cell? ⟨w.heap.size,0,none⟩=some (.int .u32 z)) (first | exact q0 | exact q9 | go_keep)
  (first
    | (go_at_call 14;refine hq.out.mono ?_;rintro e w9 ⟨rfl,hh⟩
       have hl:=aa (ap h7.out hh)
       have hu:=aL hh h8.out
       have q9:w9.cell? ⟨w.heap.size,0,none⟩=some (.int .u32 z):=(ac hu 0).trans rfl
       clear hh hu))
 clear hq h8 h7 q0 dd
 by_cases e8:y≠z
 ·have dd:((y:Int) != (z:Int))=true:=by
   rw[bne_iff_ne]
   omega
  have h0:=h3.out
  rw[if_pos e8]at h0
  clear h3
  subst h0
  go_wp2_with fail
  go_ret2
  exact⟨rfl,hl.out⟩
 have dd:((y:Int) != (z:Int))=false:=by
  rw[bne_eq_false_iff_eq]
  omega
 have h0:=h3.out
 rw[if_neg e8]at h0
 clear h3
 subst h0
 go_wp2_with fail
 go_ret2
 exact⟨rfl,hl.out⟩
theorem oP(a:Nat)(x k:Int)(older:List PanicEntry)(w:World)(ha:w.cell? ⟨a,0,none⟩=some (.int .i64 x))(fa:w.frozen? ⟨a,0,none⟩=false):
 CallsD Tryz.prog 29 #[.pointer (some ⟨a,0,none⟩)] (.panicking ({ v:=.iface 25 (.int .i64 k),recovered:=false } :: older)) w fun e u' w'=>
  e=.returned (.tuple #[])∧u'=.panicking ({ v:=.iface 25 (.int .i64 k),recovered:=true } :: older)∧w'=w.setCell ⟨a,0,none⟩ (.int .i64 k):=by
 have h0:(Instr.typeAssert (Value.iface 25 (.int .i64 k)) 20 25 true).run Tryz.prog w=.ok (.tuple #[.int .i64 k,.bool true]) w:=rfl
 refine callsD_of_wpS Tryz.func29 rfl fun c₀ cs hu=> ?_
 apply wpS_seq
 apply wpS_region
 simp[wpOpsS,go_sem,recoverD,hu,Tryz.ntmps29,Exit.thenS,h0]
 apply wpS_seq
 apply wpS_region
 simp[wpOpsS,go_sem,Exit.thenS]
 refine wpS_cond (t:=true) (by simp[Act.eval,Array.replicate]) ?_
 simp only[if_true]
 refine wpS_of_wp ?_
 rw[show #[Value.pointer (some { block:=a,off:=0 })]++(((((((((Array.replicate 9 undef).setIfInBounds 3 (Value.iface 25 (Value.int IntKind.i64 k))).setIfInBounds 4 (Value.tuple #[Value.int IntKind.i64 k,Value.bool true])).setIfInBounds 2 (Value.tuple #[Value.int IntKind.i64 k,Value.bool true])).setIfInBounds 5 (Value.int IntKind.i64 k)).setIfInBounds 6 (Value.bool true)).setIfInBounds 0 (Value.int IntKind.i64 k)).setIfInBounds 1 (Value.bool true)).setIfInBounds 7 (Value.bool true))=#[Value.pointer (some { block:=a,off:=0 }),Value.int IntKind.i64 k,Value.bool true,Value.tuple #[Value.int IntKind.i64 k,Value.bool true],Value.iface 25 (Value.int IntKind.i64 k),Value.tuple #[Value.int IntKind.i64 k,Value.bool true],Value.int IntKind.i64 k,Value.bool true,Value.bool true,undef]from by simp[Array.replicate]]
 go_wp2_with fail
 simp[bodyPostS,results,Tryz.results29]
theorem yi(a:Nat)(w:World):
 CallsD Tryz.prog 29 #[.pointer (some ⟨a,0,none⟩)] .returning w fun e u' w'=>
  e=.returned (.tuple #[])∧u'=.returning∧w'=w:=by
 have h0:∀wx,(Instr.typeAssert Value.nilIface 20 25 true).run Tryz.prog wx=.ok (.tuple #[.int .i64 0,.bool false]) wx:=fun _=>rfl
 refine callsD_of_wpS Tryz.func29 rfl fun c₀ cs hu=> ?_
 apply wpS_seq
 apply wpS_region
 simp[wpOpsS,go_sem,recoverD,hu,Tryz.ntmps29,Exit.thenS,h0]
 apply wpS_seq
 apply wpS_region
 simp[wpOpsS,go_sem,Exit.thenS]
 refine wpS_cond (t:=false) (by simp[Act.eval,Array.replicate]) ?_
 simp only[Bool.false_eq_true,if_false]
 refine wpS_of_wp (wp_skip ?_)
 cases c₀
 simp_all [bodyPostS,results,Tryz.results29]
theorem Av{w:World}{g b:Nat}{t:TypeId}{cs:Array Value}{x:Value}(h:Blk w g t cs)(h0:g≠b):Blk (w.setCell ⟨b,0,none⟩ x) g t cs:=
 (ak.set (ps:= [b]) (ak.refl 0 [b] [] w) (p:=⟨b,0,none⟩) (Nat.zero_le _) (List.mem_singleton.2 rfl) x).blk h (by simpa using h0) aq
theorem JL{w:World}{B b n:Nat}{t:TypeId}{v:Value}{xs:List Value}{x:Value}(h:w.ownsRow B t 1 v n xs)(hb:b<B):(w.setCell ⟨b,0,none⟩ x).ownsRow B t 1 v n xs:=
 (ak.set (ps:= [b]) (ak.refl 0 [b] [] w) (p:=⟨b,0,none⟩) (Nat.zero_le _) (List.mem_singleton.2 rfl) x).row h (fun k hk hm=>by
   have h1:=(World.ownsRow.lt h k hk).1
   have h2:=List.mem_singleton.1 hm
   omega) aq
theorem gx{w w':World}{g:Nat}{t:TypeId}{cs:Array Value}(hb:Below w.heap.size w w')(h:Blk w g t cs):Blk w' g t cs:=aL hb h
theorem u6(fn:Fn)(first cap:Array Value)(w:World):(Instr.makeFunc fn first cap).run Tryz.prog w=.ok (.func fn first cap) w:=rfl
theorem Hl(l:List Nat)(q:Int):(b6 l q).1.length≤256∧(b6 l q).2.1.length≤2000000:=by
 unfold b6
 dsimp only
 split
 ·exact⟨Nat.zero_le _,Nat.zero_le _⟩
 split
 ·exact⟨Nat.zero_le _,Nat.zero_le _⟩
 split
 ·exact⟨Nat.zero_le _,Nat.zero_le _⟩
 ·exact⟨nX _ _,Nat.le_trans (wA _ _ _ _) (by omega)⟩
theorem zt{l:List Nat}{p:Nat}(h:(bJ l p).2.2=0):p+105≤l.length:=by
 unfold bJ at h
 split at h
 ·cases h
 split at h
 ·cases h
 split at h
 ·cases h
 split at h
 ·cases h
 split at h
 ·cases h
 split at h
 ·cases h
 ·omega
theorem sd{P:Program}{fn:Func}{R:Ending→World→Prop}{tmps:Array Value}{w:World}{v:Value}(h:(results fn tmps).run P w=.ok v w)(hr:R (.returned v) w):bodyPostD P fn R .ret { tmps:=tmps,defers:= [] } w:=⟨v,h,hr⟩
theorem wP{R:Ending→World→Prop}{tmps:Array Value}{w:World}{v:Value}{g:Nat}{x k:Int}(ha:Blk w g 25 #[.int .i64 x])
 (h:(results Tryz.f11 tmps).run Tryz.prog (w.setCell ⟨g,0,none⟩ (.int .i64 k))=.ok v (w.setCell ⟨g,0,none⟩ (.int .i64 k))) (hr:R (.returned v) (w.setCell ⟨g,0,none⟩ (.int .i64 k))):
 bodyPostD Tryz.prog Tryz.f11 R (.panic [{ v:=.iface 25 (.int .i64 k),recovered:=false }]) { tmps:=tmps,defers:= [{ target:=.fn (.func 29) #[.pointer (some ⟨g,0,none⟩)],args:=#[] }] } w:=by
 refine leaves_cons (f:=29) (args:=#[.pointer (some ⟨g,0,none⟩)]) (by simp) (by simp[go_sem]) ?_
 refine(oP g x k [] w ((ac ha 0).trans rfl) (ae ha 0)).mono ?_
 rintro e u' w' ⟨rfl,rfl,rfl⟩
 exact⟨v,h,hr⟩
theorem lZ{R:Ending→World→Prop}{tmps:Array Value}{w:World}{v:Value}{g:Nat}(h:(results Tryz.f11 tmps).run Tryz.prog w=.ok v w)(hr:R (.returned v) w):
 bodyPostD Tryz.prog Tryz.f11 R .ret { tmps:=tmps,defers:= [{ target:=.fn (.func 29) #[.pointer (some ⟨g,0,none⟩)],args:=#[] }] } w:=by
 refine leaves_cons (f:=29) (args:=#[.pointer (some ⟨g,0,none⟩)]) (by simp) (by simp[go_sem]) ?_
 refine(yi g w).mono ?_
 rintro e u' w' ⟨rfl,rfl,rfl⟩
 exact⟨v,h,hr⟩
theorem zv(w:World)(s:ByteArray)(at' most:Int)(hs:s.size≤2000000)(h:at'<0∨8*(s.size:Int)<at'∨most<1∨262144<most):
 Calls Tryz.prog 11 #[.string s,.int .i64 at',.int .i64 most] w fun e w'=>e=.returned (.tuple #[.string ⟨#[]⟩,.int .u32 0,.int .i64 0,.int .i64 2])∧Below w.heap.size w w':=by
 obtain⟨w1,h5⟩:∃w1,w1=w.alloc (.cells #[.int .i64 0] 25):=⟨_,rfl⟩
 have ha:Below w.heap.size w w1:=bR h5
 have hb:Blk w1 w.heap.size 25 #[.int .i64 0]:=ee h5
 have h0:=aa h5
 have h6:=aa ha
 have h3:=aa hb
 clear h5 ha hb
 by_cases h1:at'<0∨8*(s.size:Int)<at'
 ·have HN:=aa (j8 w1 s at' (by omega) h1)
  have q1:=(ac h3.out 0).trans (rfl:_=some (Value.int .i64 0))
  have f1:=ae h3.out 0
  have c1:=(ac (au h3.out 0 (.int .i64 2)) 0).trans (rfl:_=some (Value.int .i64 2))
  clear h
  go_enter_defers Tryz.func11,Tryz.ntmps11
  go_wp2_with fail
  rw[← h0.out]
  clear h0
  refine HN.out.mono ?_
  rintro e w2 ⟨rfl,rfl⟩
  go_wp2_with fail
  refine sd (v:=.tuple #[.string ⟨#[]⟩,.int .u32 0,.int .i64 0,.int .i64 2]) ?_ ⟨rfl,h6.out.setCell (p:=⟨w.heap.size,0,none⟩) (ah _) _⟩
  simp[results,Tryz.results11,go_sem,c1]
 ·have HN:=aa (fR w1 s at' (by omega) (by omega) (by omega))
  obtain⟨w2,h8⟩:∃w2,w2=w1.alloc (.cells #[.bool true,.string s,.int .i64 at'] 126):=⟨_,rfl⟩
  have h7:Below w1.heap.size w1 w2:=bR h8
  have h4:=gx h7 h3.out
  have h9:=aa (ap h6.out h7)
  have q1:=(ac h4 0).trans (rfl:_=some (Value.int .i64 0))
  have f1:=ae h4 0
  have c1:=(ac (au h4 0 (.int .i64 2)) 0).trans (rfl:_=some (Value.int .i64 2))
  rw[← h8]at HN
  clear h7 h4 h6 h3 h8
  by_cases h2:most<1
  ·have d0:decide (most<1)=true:=decide_eq_true h2
   clear h
   go_enter_defers Tryz.func11,Tryz.ntmps11
   go_wp2_with fail
   rw[← h0.out]
   clear h0
   refine HN.out.mono ?_
   rintro e w2 ⟨rfl,rfl⟩
   go_wp2_with fail
   refine sd (v:=.tuple #[.string ⟨#[]⟩,.int .u32 0,.int .i64 0,.int .i64 2]) ?_ ⟨rfl,h9.out.setCell (p:=⟨w.heap.size,0,none⟩) (ah _) _⟩
   simp[results,Tryz.results11,go_sem,c1]
  ·have d0:decide (most<1)=false:=decide_eq_false h2
   have d1:decide (262144<most)=true:=ar (by omega)
   clear h
   go_enter_defers Tryz.func11,Tryz.ntmps11
   go_wp2_with fail
   rw[← h0.out]
   clear h0
   refine HN.out.mono ?_
   rintro e w2 ⟨rfl,rfl⟩
   go_wp2_with fail
   refine sd (v:=.tuple #[.string ⟨#[]⟩,.int .u32 0,.int .i64 0,.int .i64 2]) ?_ ⟨rfl,h9.out.setCell (p:=⟨w.heap.size,0,none⟩) (ah _) _⟩
   simp[results,Tryz.results11,go_sem,c1]
theorem EG(w:World)(s:ByteArray)(a0 m0:Nat)(hs:s.size≤2000000)(ha:a0≤8*s.size)(q1:1≤m0)(q2:m0≤262144):
 Calls Tryz.prog 11 #[.string s,.int .i64 a0,.int .i64 m0] w (dI w (fE (al s.data.toList) a0 m0)):=by
 have q3:=u6
 obtain⟨L,hL⟩:∃L,L=al s.data.toList:=⟨_,rfl⟩
 have pl:L.length=8*s.size:=by rw[hL];exact aA _
 obtain⟨ans,h2⟩:∃ans,ans=fE L a0 m0:=⟨_,rfl⟩
 have h3:ans=if(bJ L a0).2.2≠0 then([],0,0,(bJ L a0).2.2)else pP L (bJ L a0).1 (bJ L a0).2.1 (a0+105) m0:=by
  rw[h2]
  unfold fE
  rw[if_neg (by rw[pl];omega),Int.toNat_natCast]
 have hZ:=aa fun(wx:World) (g p:Nat) (hg:Blk wx g 64 #[.pointer (some ⟨p,0,none⟩)]) (hR:IsR p wx p s a0)=>sW hg hR hs ha (Nat.le_of_lt (ay hR.blk))
 rw[← hL]at hZ
 rw[← hL,←h2]
 have h9:=aa (fun(w1:World) (e:Nat) (h:ans=([],0,0,e)) (hb:Below w.heap.size w w1)=>(show dI w ans (.returned (.tuple #[.string ⟨#[]⟩,.int .u32 0,.int .i64 0,.int .i64 e])) w1 from⟨by rw[h];rfl,hb⟩))
 have H8:=aa (fun(w1:World) (t:List UInt8) (x q:Nat) (h:ans=(t,x,q,0)) (hb:Below w.heap.size w w1)=>(show dI w ans (.returned (.tuple #[.string (S06.cN t),.int .u32 x,.int .i64 q,.int .i64 (0:Nat)])) w1 from⟨by rw[h],hb⟩))
 generalize dI w ans=PO at*
 obtain⟨w1,hS⟩:∃w1,w1=w.alloc (.cells #[.int .i64 0] 25):=⟨_,rfl⟩
 have pg:Below w.heap.size w w1:=bR hS
 have HI:Blk w1 w.heap.size 25 #[.int .i64 0]:=ee hS
 obtain⟨p,hp⟩:∃p,p=w1.heap.size:=⟨_,rfl⟩
 have HN:=aa (fR w1 s a0 (by omega) (by omega) (by omega))
 obtain⟨w2,hT⟩:∃w2,w2=w1.alloc (.cells #[.bool true,.string s,.int .i64 a0] 126):=⟨_,rfl⟩
 have p5:IsR p w2 p s a0:=by rw[hT,hp];exact kp w1 _ (ah _) s a0
 have HB:Below w1.heap.size w1 w2:=bR hT
 have HW:=aa (gx HB HI)
 have HL:=aa (ap pg HB)
 have HZ:=aa p5
 have pk:w.heap.size<p:=by rw[hp];exact ay HI
 rw[← hT,←hp]at HN
 have p0:=aa hS
 have HR:=aa pk
 have d0:decide ((m0:Int)<1)=false:=ao (by omega)
 have d1:decide (262144<(m0:Int))=false:=ao (by omega)
 have h4:=aa h3
 clear hS pg HI p5 HB hT hp pk h3 h2
 go_enter_defers Tryz.func11,Tryz.ntmps11
 go_wp2_with fail
 rw[← p0.out]
 clear p0
 refine HN.out.mono ?_
 rintro e w3 ⟨rfl,rfl⟩
 clear HN
 go_wp2_with fail
 refine(AX w3 p).mono ?_
 rintro e w4 ⟨rfl,hV⟩
 obtain⟨gk,HG⟩:∃gk,gk=w3.heap.size:=⟨_,rfl⟩
 have HC:Below w3.heap.size w3 w4:=bR hV
 have hG:Blk w4 gk 64 #[.pointer (some ⟨p,0,none⟩)]:=by rw[hV,HG];exact ag _ _ _
 have pb:IsR p w4 p s a0:=by rw[hV];exact HZ.out.alloc _
 have HX:=aa (gx HC HW.out)
 have HM:=aa (ap HL.out HC)
 have HT:=aa (hZ.out w4 gk p hG pb)
 rw[← HG]
 clear hV HG HC hG pb HW HL HZ hZ
 have pv:=aa fun h:(bJ L a0).2.2=0=>zt h
 generalize bJ L a0=hd at*
 obtain⟨z,R,he⟩:=hd
 have h3:=h4.out
 dsimp only at h3
 clear h4
 go_wp2_with fail
 refine HT.out.mono ?_
 rintro e w5 ⟨hA,hB,hP⟩
 have HH:w.heap.size∉ [p]:=by simp;have:=HR.out;omega
 have hr:=aa (hP.blk HX.out HH aq)
 have hW:=aa (HM.out.trans (hP.below.mono (Nat.le_of_lt HR.out)))
 by_cases e1:he≠0
 ·obtain rfl:=hA e1
  rw[if_pos e1]at h3
  have q5:=(ac hr.out 0).trans (rfl:_=some (Value.int .i64 0))
  have HA:=aa (h9.out (w5.setCell ⟨w.heap.size,0,none⟩ (.int .i64 he)) he h3 (hW.out.setCell (p:=⟨w.heap.size,0,none⟩) (ah _) _))
  have c5:=(ac (au hr.out 0 (.int .i64 he)) 0).trans (rfl:_=some (Value.int .i64 he))
  clear hA hB hP h3
  go_wp2_with fail
  refine wP (v:=.tuple #[.string ⟨#[]⟩,.int .u32 0,.int .i64 0,.int .i64 he]) hr.out ?_ HA.out
  simp[results,Tryz.results11,go_sem,c5]
 have HF:he=0:=Decidable.not_not.1 e1
 obtain⟨rfl,pf⟩:=hB HF
 rw[if_neg e1,AU]at h3
 obtain⟨w6,hI⟩:∃w6,w6=w5.alloc (.cells #[.int .u32 z,.int .i64 R] 59):=⟨_,rfl⟩
 obtain⟨gh,hN⟩:∃gh,gh=w5.heap.size:=⟨_,rfl⟩
 have HD:Below w5.heap.size w5 w6:=bR hI
 have p4:Blk w6 gh 59 #[.int .u32 z,.int .i64 R]:=by rw[hI,hN];exact ag _ _ _
 have hK:IsR p w6 p s (a0+105):=by rw[hI];exact pf.alloc _
 have H0:=aa (gx HD hr.out)
 have HO:=aa (ap hW.out HD)
 have HS:=aa p4
 have H2:=aa (show gh≠w.heap.size from by rw[hN];have:=ay hr.out;omega)
 obtain⟨q,hq⟩:∃q,q=a0+105:=⟨_,rfl⟩
 have pn:q≤8*s.size:=by rw[hq,←pl];exact pv.out HF
 rw[← hq]at hK h3
 have r0:=(ac hK.blk 0).trans (rfl:_=some (Value.bool true))
 have r2:=(ac hK.blk 2).trans (rfl:_=some (Value.int .i64 q))
 have HK:=aa (lT w6 p q r0 r2)
 have H4:=aa (Eh w6 s q hs pn)
 rw[← hL]at H4
 have hx:=aa (Hl L (q:Nat))
 generalize b6 L (q:Nat)=y at*
 obtain⟨ul,cl,yq,ye⟩:=y
 dsimp only at h3
 have ps:Hid (cl.length≤2000000):=aa hx.out.2
 have pM:Hid (∀ us:ByteArray,us=S06.cN ul→us.size≤256):=aa fun us h=>by rw[h];exact hx.out.1
 have h4:=aa h3
 have p1:=aa hI
 have HQ:=aa hN
 clear hA hB hP h3 e1 HF pf hI hN HD p4 hK hq pn r0 r2 hr hW HX HM
 go_upto_region 6 with fail
 rw[← p1.out,←HQ.out]
 clear p1 HQ
 go_wp2_with fail
 refine HK.out.mono ?_
 rintro e w7 ⟨rfl,rfl⟩
 go_wp2_with fail
 refine H4.out.mono ?_
 rintro e w8 ⟨v8,B8,p3,rfl,HJ,hM⟩
 dsimp only at HJ ⊢
 have HU:=aa (gx hM HS.out)
 have hJ:=aa (gx hM H0.out)
 have HP:=aa (ap HO.out hM)
 have HY:=aa HJ
 have hF:w.heap.size<B8:=Nat.lt_of_lt_of_le (ay H0.out) p3
 have f8:=ae hJ.out 0
 have k8:=(ac hJ.out 0).trans (rfl:_=some (Value.int .i64 0))
 obtain⟨w9,ht⟩:∃w9,w9=w8.setCell ⟨w.heap.size,0,none⟩ (.int .i64 ye):=⟨_,rfl⟩
 have HV:=aa (show Blk w9 gh _ _ from by rw[ht];exact Av HU.out H2.out)
 have hO:Blk w9 w.heap.size 25 #[.int .i64 ye]:=by rw[ht];exact au hJ.out 0 _
 have hX:=aa (show Below w.heap.size w w9 from by rw[ht];exact HP.out.setCell (p:=⟨w.heap.size,0,none⟩) (ah _) _)
 have H3:=aa (show w9.ownsRow B8 3 1 v8 cl.length (cl.map iv)from by rw[ht];exact JL HY.out hF)
 have H1:=aa hO
 have p2:=aa ht
 have k9:=(ac hO 0).trans (rfl:_=some (Value.int .i64 ye))
 have f9:=ae hO 0
 clear hM HJ p3 hF HS H0 HO H4 HK ht hO
 go_upto_region 7 with fail
 rw[← p2.out]
 clear p2 k8 f8 HU hJ HP HY
 by_cases e2:ye≠0
 ·have dd:=dG e2
  have h2:=h4.out
  rw[if_pos e2]at h2
  have hk:=au H1.out 0 (.int .i64 ye)
  have ck:=(ac hk 0).trans (rfl:_=some (Value.int .i64 ye))
  have HA:=aa (h9.out ((w9.setCell ⟨w.heap.size,0,none⟩ (.int .i64 ye)).drew) ye h2 (hX.out.setCell (p:=⟨w.heap.size,0,none⟩) (ah _) _).drew)
  clear h2 h4 hk
  go_wp2_with fail
  go_region
  go_wp2_with fail
  refine lZ (v:=.tuple #[.string ⟨#[]⟩,.int .u32 0,.int .i64 0,.int .i64 ye]) ?_ HA.out
  simp[results,Tryz.results11,go_sem,ck]
 have dd:=eV e2
 have h2:=h4.out
 rw[if_neg e2]at h2
 obtain⟨us,hQ⟩:∃us,us=S06.cN ul:=⟨_,rfl⟩
 have po:us.data.toList=ul:=by rw[hQ];rfl
 obtain⟨A9,c9,rfl,q0,_,_⟩:=aj H3.out
 have hY:=aa (Fo w9 us A9 c9 cl m0 (aJ H3.out) q0 (ps.out) (pM.out us hQ))
 rw[po]at hY
 rw[← hQ]
 generalize iW ul cl m0=cg at*
 obtain⟨bl,be⟩:=cg
 dsimp only at h2
 have h5:=aa h2
 clear h2 h4 hQ po e2 H3
 go_wp2_with fail
 refine hY.out.mono ?_
 rintro e w10 ⟨rfl,hi⟩
 dsimp only
 have hy:=aa (gx hi HV.out)
 have hf:=aa (gx hi H1.out)
 have hu:=aa (ap hX.out hi)
 have f10:=ae hf.out 0
 have k10:=(ac hf.out 0).trans (rfl:_=some (Value.int .i64 ye))
 obtain⟨w11,h7⟩:∃w11,w11=w10.setCell ⟨w.heap.size,0,none⟩ (.int .i64 be):=⟨_,rfl⟩
 have hc:=aa (show Blk w11 gh _ _ from by rw[h7];exact Av hy.out H2.out)
 have hl:Blk w11 w.heap.size 25 #[.int .i64 be]:=by rw[h7];exact au hf.out 0 _
 have hn:=aa (show Below w.heap.size w w11 from by rw[h7];exact hu.out.setCell (p:=⟨w.heap.size,0,none⟩) (ah _) _)
 have ho:=aa hl
 have hD:=aa h7
 have k11:=(ac hl 0).trans (rfl:_=some (Value.int .i64 be))
 have f11:=ae hl 0
 clear hi HV H1 hX hY k9 f9 h7 hl dd
 go_upto_region 10 with fail
 rw[← hD.out]
 clear hD k10 f10 hy hf hu
 by_cases e3:be≠0
 ·have dd:=dG e3
  have h2:=h5.out
  rw[if_pos e3]at h2
  have hk:=au ho.out 0 (.int .i64 be)
  have ck:=(ac hk 0).trans (rfl:_=some (Value.int .i64 be))
  have HA:=aa (h9.out ((w11.setCell ⟨w.heap.size,0,none⟩ (.int .i64 be)).drew) be h2 (hn.out.setCell (p:=⟨w.heap.size,0,none⟩) (ah _) _).drew)
  clear h2 h5 hk
  go_wp2_with fail
  go_region
  go_wp2_with fail
  refine lZ (v:=.tuple #[.string ⟨#[]⟩,.int .u32 0,.int .i64 0,.int .i64 be]) ?_ HA.out
  simp[results,Tryz.results11,go_sem,ck]
 have dd:=eV e3
 have h2:=h5.out
 rw[if_neg e3]at h2
 clear h5 e3
 obtain⟨bs,HE⟩:∃bs,bs=S06.cN bl:=⟨_,rfl⟩
 have pj:bs.data.toList=bl:=by rw[HE];rfl
 have H5:=aa (Cv w11 z R bs)
 rw[pj]at H5
 rw[← HE]
 have h0:=(ac hc.out 0).trans (rfl:_=some (Value.int .u32 z))
 have h1:=(ac hc.out 1).trans (rfl:_=some (Value.int .i64 R))
 generalize kx bl z R=tg at*
 obtain⟨tl,te⟩:=tg
 dsimp only at h2
 have h6:=aa h2
 clear h2 HE pj
 go_wp2_with fail
 refine H5.out.mono ?_
 rintro e w12 ⟨rfl,hj⟩
 dsimp only
 have hz:=aa (gx hj hc.out)
 have hh:=aa (gx hj ho.out)
 have hv:=aa (ap hn.out hj)
 have f12:=ae hh.out 0
 have k12:=(ac hh.out 0).trans (rfl:_=some (Value.int .i64 be))
 obtain⟨w13,h8⟩:∃w13,w13=w12.setCell ⟨w.heap.size,0,none⟩ (.int .i64 te):=⟨_,rfl⟩
 have hH:Blk w13 gh 59 #[.int .u32 z,.int .i64 R]:=by rw[h8];exact Av hz.out H2.out
 have hm:Blk w13 w.heap.size 25 #[.int .i64 te]:=by rw[h8];exact au hh.out 0 _
 have hw:=aa (show Below w.heap.size w w13 from by rw[h8];exact hv.out.setCell (p:=⟨w.heap.size,0,none⟩) (ah _) _)
 have hC:=aa hm
 have hE:=aa h8
 have k13:=(ac hm 0).trans (rfl:_=some (Value.int .i64 te))
 have f13:=ae hm 0
 have j0:=(ac hH 0).trans (rfl:_=some (Value.int .u32 z))
 clear hj hc ho hn H5 k11 f11 h8 hm dd h0 h1 hH
 go_upto_region 13 with fail
 rw[← hE.out]
 clear hE k12 f12 hz hh hv
 by_cases e4:te≠0
 ·have dd:=dG e4
  have h2:=h6.out
  rw[if_pos e4]at h2
  have hk:=au hC.out 0 (.int .i64 te)
  have ck:=(ac hk 0).trans (rfl:_=some (Value.int .i64 te))
  have HA:=aa (h9.out ((w13.setCell ⟨w.heap.size,0,none⟩ (.int .i64 te)).drew) te h2 (hw.out.setCell (p:=⟨w.heap.size,0,none⟩) (ah _) _).drew)
  clear h2 h6 hk
  go_wp2_with fail
  go_region
  go_wp2_with fail
  refine lZ (v:=.tuple #[.string ⟨#[]⟩,.int .u32 0,.int .i64 0,.int .i64 te]) ?_ HA.out
  simp[results,Tryz.results11,go_sem,ck]
 have dd:=eV e4
 have h2:=h6.out
 rw[if_neg e4]at h2
 have hk:=au hC.out 0 (.int .i64 0)
 have ck:=(ac hk 0).trans (rfl:_=some (Value.int .i64 0))
 have HA:=aa (H8.out ((w13.setCell ⟨w.heap.size,0,none⟩ (.int .i64 0)).drew) tl z yq h2 (hw.out.setCell (p:=⟨w.heap.size,0,none⟩) (ah _) _).drew)
 clear h2 h6 hk
 go_wp2_with fail
 go_region
 go_wp2_with fail
 refine lZ (v:=.tuple #[.string (S06.cN tl),.int .u32 z,.int .i64 yq,.int .i64 0]) ?_ HA.out
 simp[results,Tryz.results11,go_sem,ck]
theorem rI(w:World)(s:ByteArray)(at' most:Int)(hs:s.size≤2000000):
 Calls Tryz.prog 11 #[.string s,.int .i64 at',.int .i64 most] w (dI w (fE (al s.data.toList) at' most)):=by
 by_cases h:at'<0∨8*(s.size:Int)<at'∨most<1∨262144<most
 ·refine(zv w s at' most hs h).mono ?_
  rintro e w' ⟨rfl,hb⟩
  unfold fE
  rw[if_pos (by rw[aA];have:s.data.toList.length=s.size:=rfl;omega)]
  exact⟨rfl,hb⟩
 ·obtain⟨a0,rfl⟩:∃a0:Nat,at'=a0:=⟨at'.toNat,by omega⟩
  obtain⟨m0,rfl⟩:∃m0:Nat,most=m0:=⟨most.toNat,by omega⟩
  exact EG w s a0 m0 hs (by omega) (by omega) (by omega)
end Go.Proofs.YthakcjehhlpjnaaGreat
