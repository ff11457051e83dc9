import Derived.Test.YtepokmggbfoakaaGreatDoorA00
import Derived.Lib.AppendZeros
set_option maxHeartbeats 1600000
set_option maxRecDepth 100000
namespace Go.Proofs.YtepokmggbfoakaaGreatDoor.S05
def rat(s:List UInt8)(k:Nat):UInt8:=s.getD (k % s.length) 0
def dN(s:List UInt8)(i:Nat):List UInt8:=s.drop i++s.take i
theorem dY(s:List UInt8)(i:Nat):(dN s i).length=s.length:=by rw[dN,LR,Mc,Mj];omega
theorem xF(s:List UInt8)(k:Nat):rat s (k % s.length)=rat s k:=by unfold rat;rw[Nat.mod_mod]
theorem DN(s:List UInt8)(i k:Nat):rat s (i+k % s.length)=rat s (i+k):=by unfold rat;rw[Nat.add_mod_mod]
theorem m3(s:List UInt8)(k:Nat):rat s (k+s.length)=rat s k:=by unfold rat;rw[Nat.add_mod_right]
theorem t9(s:List UInt8)(k:Nat)(h:k<s.length):s[k]? =some (rat s k):=by unfold rat;rw[Ms h,LU,LV h];rfl
theorem gg(s:List UInt8)(i k:Nat)(hi:i≤s.length)(hk:k<s.length):(dN s i)[k]? =some (rat s (i+k)):=by
 unfold dN;by_cases h:k<s.length - i;·rw[ME (by rw[Mc];exact h),N3,t9 s (i+k) (by omega)]
 ·rw[MC (by rw[Mc];omega),Mc,NW (by omega),t9 s (k - (s.length - i)) (by omega)];have:=m3 s (k - (s.length - i));rw[← this,show k - (s.length - i)+s.length=i+k by omega]
theorem DP(s:List UInt8)(i j:Nat)(hi:i≤s.length)(hj:j≤s.length):dN s i=dN s j↔∀k,rat s (i+k)=rat s (j+k):=by
 constructor
 ·intro h k;by_cases h0:s.length=0;·have:s= []:=Mg h0;subst this;simp[rat]
  ·have hk:k % s.length<s.length:=OG _ (by omega);have h1:=gg s i (k % s.length) hi hk;rw[h,gg s j (k % s.length) hj hk,DN,DN]at h1;exact(My h1).symm
 ·intro h;apply ML;intro k;by_cases hk:k<s.length;·rw[gg s i k hi hk,gg s j k hj hk,h k]
  ·rw[Mf (by rw[dY];omega),Mf (by rw[dY];omega)]
theorem F6(s:List UInt8):dN s 0=s:=by simp[dN]
def RLt(s:List UInt8)(i j:Nat):Prop:=dN s i<dN s j∨(dN s i=dN s j∧i<j)
instance (s:List UInt8) (i j:Nat):Decidable (RLt s i j):=inferInstanceAs (Decidable (_∨_))
theorem RLt.irrefl(s:List UInt8)(i:Nat):¬RLt s i i:=by
 rintro(h | ⟨_,h⟩);·exact List.lt_irrefl _ h
 ·exact PC _ h
theorem RLt.trans{s:List UInt8}{i j k:Nat}(h1:RLt s i j)(h2:RLt s j k):RLt s i k:=by
 rcases h1 with h1 | ⟨e1,h1⟩ <;>rcases h2 with h2 | ⟨e2,h2⟩;·exact .inl (List.lt_trans h1 h2)
 ·exact .inl (e2 ▸ h1)
 ·exact .inl (e1 ▸ h2)
 ·exact .inr ⟨e1.trans e2,Nat.lt_trans h1 h2⟩
theorem RLt.total(s:List UInt8)(i j:Nat)(h:i≠j):RLt s i j∨RLt s j i:=by
 by_cases h1:dN s i<dN s j;·exact .inl (.inl h1)
 ·by_cases h2:dN s j<dN s i;·exact .inr (.inl h2)
  ·have e:dN s i=dN s j:=List.le_antisymm (List.not_lt.1 h2) (List.not_lt.1 h1);rcases Nat.lt_or_gt_of_ne h with h3 | h3;·exact .inl (.inr ⟨e,h3⟩)
   ·exact .inr (.inr ⟨e.symm,h3⟩)
def eD(s:List UInt8)(L:List Nat):Prop:=L.Pairwise (RLt s)∧∀i,i∈L↔i<s.length
theorem uj{s:List UInt8}:∀{L M:List Nat},L.Pairwise (RLt s)→M.Pairwise (RLt s)→(∀ i,i∈L↔i∈M)→L=M
 | [],M,_,_,h=>by
  cases M with
  | nil=>rfl
  | cons b M=>exact absurd ((h b).2 L4) ay
 | a :: L,M,hL,hM,h=>by
  cases M with
  | nil=>exact absurd ((h a).1 L4) ay
  | cons b M=>
   rw[List.pairwise_cons]at hL hM;have h0:a=b:=by
    by_cases e:a=b;·exact e
    ·have h1:a∈M:=by
      rcases List.mem_cons.1 ((h a).1 L4)with h1 | h1;·exact absurd h1 e
      ·exact h1
     have h2:b∈L:=by
      rcases List.mem_cons.1 ((h b).2 L4)with h2 | h2;·exact absurd h2.symm e
      ·exact h2
     exact absurd ((hM.1 a h1).trans (hL.1 b h2)) (RLt.irrefl s b)
   subst h0;congr 1;refine uj hL.2 hM.2 fun i=> ?_;constructor
   ·intro hi;rcases List.mem_cons.1 ((h i).1 (Ma _ hi))with e | h1;·exact absurd (e ▸ hL.1 i hi) (RLt.irrefl s a)
    ·exact h1
   ·intro hi;rcases List.mem_cons.1 ((h i).2 (Ma _ hi))with e | h1;·exact absurd (e ▸ hM.1 i hi) (RLt.irrefl s a)
    ·exact h1
theorem FA{s:List UInt8}{L M:List Nat}(h:eD s L)(k:eD s M):L=M:=uj h.1 k.1 fun i=>(h.2 i).trans (k.2 i).symm
theorem jR{s:List UInt8}{L:List Nat}(h:eD s L):L.Nodup:=h.1.imp fun {a b} hab e=>by
 subst e
 exact RLt.irrefl s a hab
theorem dH{s:List UInt8}{L:List Nat}(h:eD s L):L.length=s.length:=by (have hp:L.Perm (List.range s.length):=(NP (jR h) Nk).2 fun i=>by rw[h.2 i,Po]);rw[hp.length_eq,Mt]
open Go.RowKit
theorem DO(s:ByteArray)(k j:Nat)(hj:j=k % s.size)(h:j<s.size):s[j]=rat s.data.toList k:=by have hl:s.data.toList.length=s.size:=rfl;have h2:=t9 s.data.toList j (by rw[hl];exact h);have h3:s.data.toList[j]? =some s[j]:=(by rw[LV (by rw[hl];exact h)];rfl);rw[h3]at h2;rw[My h2,hj];have:=xF s.data.toList k;rw[hl]at this;exact this
theorem lx{w w':World}{A:Option Addr}{n:Nat}{L:List Nat}(h:aU w A n L)(hb:Below w.heap.size w w'):aU w' A n L:=by refine⟨h.1,fun hn=> ?_⟩;obtain⟨b,off,rfl,hc⟩:=h.2 hn;refine⟨b,off,rfl,fun i hi=> ?_⟩;exact(hb.cell (p:=⟨b,off+i,none⟩) (Md w _ (hc i hi))).trans (hc i hi)
theorem cQ(w:World)(v:Value)(t:TypeId):∀(j:Nat) (u:Value), [v][j]? =some u→(w.alloc (.cells #[v] t)).cell? ((⟨w.heap.size,0,none⟩:Addr).add j)=some u:=by intro j u hu;have hj:j=0:=(by have:=(List.getElem?_eq_some_iff.1 hu).1;simp at this;exact this);subst hj;simp at hu;subst hu;rw[NX,ac (ah w t _)];rfl
end Go.Proofs.YtepokmggbfoakaaGreatDoor.S05
