import Derived.Test.YtepokmggbfoakaaGreatDoorT00
import Derived.Lib.AppendZeros
set_option maxHeartbeats 1600000
set_option maxRecDepth 100000
namespace Go.Proofs.YtepokmggbfoakaaGreatDoor.S05
open _root_.Go.Proofs.Tryz
def rat(s:List UInt8)(k:Nat):UInt8:=s.getD (k%s.length) 0
def ee(s:List UInt8)(i:Nat):List UInt8:=s.drop i++s.take i
theorem eA(s:List UInt8)(i:Nat):(ee s i).length=s.length:=by rw[ee,Nc,Nq,Nz];omega
theorem ym(s:List UInt8)(k:Nat):rat s (k%s.length)=rat s k:=by unfold rat;rw[Nat.mod_mod]
theorem EC(s:List UInt8)(i k:Nat):rat s (i+k%s.length)=rat s (i+k):=by unfold rat;rw[Nat.add_mod_mod]
theorem nk(s:List UInt8)(k:Nat):rat s (k+s.length)=rat s k:=by unfold rat;rw[Nat.add_mod_right]
theorem uE(s:List UInt8)(k:Nat)(h:k<s.length):s[k]? =some (rat s k):=by unfold rat;rw[NJ h,Nb,Nd h];rfl
theorem gB(s:List UInt8)(i k:Nat)(hi:i<=s.length)(hk:k<s.length):(ee s i)[k]? =some (rat s (i+k)):=by
 unfold ee;by_cases h:k<s.length-i;·rw[NT (by rw[Nq];exact h),Pa,uE s (i+k) (by omega)]
 ·rw[NU (by rw[Nq];omega),Nq,PY (by omega),uE s (k-(s.length-i)) (by omega)];have:=nk s (k-(s.length-i));rw[<- this,show k-(s.length-i)+s.length=i+k by omega]
theorem EE(s:List UInt8)(i j:Nat)(hi:i<=s.length)(hj:j<=s.length):ee s i=ee s j↔∀k,rat s (i+k)=rat s (j+k):=by
 constructor
 ·intro h k;by_cases h0:s.length=0;·have:s= []:=Nw h0;subst this;simp[rat]
  ·have hk:k%s.length<s.length:=PV _ (by omega);have h1:=gB s i (k%s.length) hi hk;rw[h,gB s j (k%s.length) hj hk,EC,EC]at h1;exact(Om h1).symm
 ·intro h;apply Oa;intro k;by_cases hk:k<s.length;·rw[gB s i k hi hk,gB s j k hj hk,h k]
  ·rw[Ny (by rw[eA];omega),Ny (by rw[eA];omega)]
theorem G0(s:List UInt8):ee s 0=s:=by simp[ee]
def RLt(s:List UInt8)(i j:Nat):Prop:=ee s i<ee s j\/(ee s i=ee s j/\i<j)
instance (s:List UInt8) (i j:Nat):Decidable (RLt s i j):=inferInstanceAs (Decidable (_\/_))
theorem RLt.irrefl(s:List UInt8)(i:Nat):¬RLt s i i:=by
 rintro(h|⟨_,h⟩);·exact List.lt_irrefl _ h
 ·exact Rd _ h
theorem RLt.trans{s:List UInt8}{i j k:Nat}(h1:RLt s i j)(h2:RLt s j k):RLt s i k:=by
 rcases h1 with h1|⟨e1,h1⟩ <;>rcases h2 with h2|⟨e2,h2⟩;·exact .inl (List.lt_trans h1 h2)
 ·exact .inl (e2 ▸ h1)
 ·exact .inl (e1 ▸ h2)
 ·exact .inr ⟨e1.trans e2,Nat.lt_trans h1 h2⟩
theorem RLt.total(s:List UInt8)(i j:Nat)(h:i≠j):RLt s i j\/RLt s j i:=by
 by_cases h1:ee s i<ee s j;·exact .inl (.inl h1)
 ·by_cases h2:ee s j<ee s i;·exact .inr (.inl h2)
  ·have e:ee s i=ee s j:=List.le_antisymm (List.not_lt.1 h2) (List.not_lt.1 h1);rcases Nat.lt_or_gt_of_ne h with h3|h3;·exact .inl (.inr ⟨e,h3⟩)
   ·exact .inr (.inr ⟨e.symm,h3⟩)
def eT(s:List UInt8)(L:List Nat):Prop:=L.Pairwise (RLt s)/\∀i,i∈L↔i<s.length
theorem uP{s:List UInt8}:∀{L M:List Nat},L.Pairwise (RLt s)->M.Pairwise (RLt s)->(∀ i,i∈L↔i∈M)->L=M
 | [],M,_,_,h=>by
  cases M with
  | nil=>rfl
  | cons b M=>exact absurd ((h b).2 Nl) ar
 | a::L,M,hL,hM,h=>by
  cases M with
  | nil=>exact absurd ((h a).1 Nl) ar
  | cons b M=>
   rw[List.pairwise_cons]at hL hM;have h0:a=b:=by
    by_cases e:a=b;·exact e
    ·have h1:a∈M:=by
      rcases List.mem_cons.1 ((h a).1 Nl)with h1|h1;·exact absurd h1 e
      ·exact h1
     have h2:b∈L:=by
      rcases List.mem_cons.1 ((h b).2 Nl)with h2|h2;·exact absurd h2.symm e
      ·exact h2
     exact absurd ((hM.1 a h1).trans (hL.1 b h2)) (RLt.irrefl s b)
   subst h0;congr 1;refine uP hL.2 hM.2 fun i=> ?_;constructor
   ·intro hi;rcases List.mem_cons.1 ((h i).1 (Nu _ hi))with e|h1;·exact absurd (e ▸ hL.1 i hi) (RLt.irrefl s a)
    ·exact h1
   ·intro hi;rcases List.mem_cons.1 ((h i).2 (Nu _ hi))with e|h1;·exact absurd (e ▸ hM.1 i hi) (RLt.irrefl s a)
    ·exact h1
theorem Gm{s:List UInt8}{L M:List Nat}(h:eT s L)(k:eT s M):L=M:=uP h.1 k.1 fun i=>(h.2 i).trans (k.2 i).symm
theorem jZ{s:List UInt8}{L:List Nat}(h:eT s L):L.Nodup:=h.1.imp fun {a b} hab e=>by
 subst e
 exact RLt.irrefl s a hab
theorem dN{s:List UInt8}{L:List Nat}(h:eT s L):L.length=s.length:=by (have hp:L.Perm (List.range s.length):=(Pp (jZ h) OS).2 fun i=>by rw[h.2 i,QV]);rw[hp.length_eq,NK]
open Go.RowKit
theorem ED(s:ByteArray)(k j:Nat)(hj:j=k%s.size)(h:j<s.size):s[j]=rat s.data.toList k:=by have hl:s.data.toList.length=s.size:=rfl;have h2:=uE s.data.toList j (by rw[hl];exact h);have h3:s.data.toList[j]? =some s[j]:=(by rw[Nd (by rw[hl];exact h)];rfl);rw[h3]at h2;rw[Om h2,hj];have:=ym s.data.toList k;rw[hl]at this;exact this
theorem jy{w w':World}{A:Option Addr}{n:Nat}{L:List Nat}(h:aw w A n L)(hb:Below w.heap.size w w'):aw w' A n L:=by refine⟨h.1,fun hn=> ?_⟩;obtain⟨b,off,rfl,hc⟩:=h.2 hn;refine⟨b,off,rfl,fun i hi=> ?_⟩;exact(hb.cell (p:=⟨b,off+i,none⟩) (Nr w _ (hc i hi))).trans (hc i hi)
def Kq:Value->Nat
 | .slice _ n _=>n
 | _=>0
theorem bn(w:World)(v:Value)(t:TypeId):∀(j:Nat) (u:Value), [v][j]? =some u->(w.alloc (.cells #[v] t)).cell? ((⟨w.heap.size,0,none⟩:Addr).add j)=some u:=by intro j u hu;have hj:j=0:=(by have:=(List.getElem?_eq_some_iff.1 hu).1;simp at this;exact this);subst hj;simp at hu;subst hu;rw[OX,ac (aj w t _)];rfl
