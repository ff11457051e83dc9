import Derived.Test.YthakcjehhlpjnaaGreatB00
import Derived.Lib.AppendZeros
set_option maxHeartbeats 1600000
set_option maxRecDepth 100000
namespace Go.Proofs.YthakcjehhlpjnaaGreat.S05
def rat(s:List UInt8)(k:Nat):UInt8:=s.getD (k % s.length) 0
def dF(s:List UInt8)(i:Nat):List UInt8:=s.drop i++s.take i
theorem dN(s:List UInt8)(i:Nat):(dF s i).length=s.length:=by
 rw[dF,List.length_append,List.length_drop,List.length_take]
 omega
theorem vw(s:List UInt8)(k:Nat):rat s (k % s.length)=rat s k:=by
 unfold rat
 rw[Nat.mod_mod]
theorem BQ(s:List UInt8)(i k:Nat):rat s (i+k % s.length)=rat s (i+k):=by
 unfold rat
 rw[Nat.add_mod_mod]
theorem me(s:List UInt8)(k:Nat):rat s (k+s.length)=rat s k:=by
 unfold rat
 rw[Nat.add_mod_right]
theorem rf(s:List UInt8)(k:Nat)(h:k<s.length):s[k]? =some (rat s k):=by
 unfold rat
 rw[Nat.mod_eq_of_lt h,List.getD_eq_getElem?_getD,List.getElem?_eq_getElem h]
 rfl
theorem fN(s:List UInt8)(i k:Nat)(hi:i≤s.length)(hk:k<s.length):(dF s i)[k]? =some (rat s (i+k)):=by
 unfold dF
 by_cases h:k<s.length - i
 ·rw[List.getElem?_append_left (by rw[List.length_drop];exact h),List.getElem?_drop,rf s (i+k) (by omega)]
 ·rw[List.getElem?_append_right (by rw[List.length_drop];omega),List.length_drop,List.getElem?_take_of_lt (by omega),rf s (k - (s.length - i)) (by omega)]
  have:=me s (k - (s.length - i))
  rw[← this,show k - (s.length - i)+s.length=i+k by omega]
theorem BP(s:List UInt8)(i j:Nat)(hi:i≤s.length)(hj:j≤s.length):dF s i=dF s j↔∀k,rat s (i+k)=rat s (j+k):=by
 constructor
 ·intro h k
  by_cases h0:s.length=0
  ·have:s= []:=List.eq_nil_of_length_eq_zero h0
   subst this
   simp[rat]
  ·have hk:k % s.length<s.length:=Nat.mod_lt _ (by omega)
   have h1:=fN s i (k % s.length) hi hk
   rw[h,fN s j (k % s.length) hj hk,BQ,BQ]at h1
   exact(Option.some.inj h1).symm
 ·intro h
  apply List.ext_getElem?
  intro k
  by_cases hk:k<s.length
  ·rw[fN s i k hi hk,fN s j k hj hk,h k]
  ·rw[List.getElem?_eq_none (by rw[dN];omega),List.getElem?_eq_none (by rw[dN];omega)]
theorem Dl(s:List UInt8):dF s 0=s:=by simp[dF]
def RLt(s:List UInt8)(i j:Nat):Prop:=dF s i<dF s j∨(dF s i=dF s j∧i<j)
instance (s:List UInt8) (i j:Nat):Decidable (RLt s i j):=inferInstanceAs (Decidable (_∨_))
theorem RLt.irrefl(s:List UInt8)(i:Nat):¬RLt s i i:=by
 rintro(h | ⟨_,h⟩)
 ·exact List.lt_irrefl _ h
 ·exact Nat.lt_irrefl _ h
theorem RLt.trans{s:List UInt8}{i j k:Nat}(h1:RLt s i j)(h2:RLt s j k):RLt s i k:=by
 rcases h1 with h1 | ⟨e1,h1⟩ <;>rcases h2 with h2 | ⟨e2,h2⟩
 ·exact .inl (List.lt_trans h1 h2)
 ·exact .inl (e2 ▸ h1)
 ·exact .inl (e1 ▸ h2)
 ·exact .inr ⟨e1.trans e2,Nat.lt_trans h1 h2⟩
theorem RLt.total(s:List UInt8)(i j:Nat)(h:i≠j):RLt s i j∨RLt s j i:=by
 by_cases h1:dF s i<dF s j
 ·exact .inl (.inl h1)
 ·by_cases h2:dF s j<dF s i
  ·exact .inr (.inl h2)
  ·have e:dF s i=dF s j:=List.le_antisymm (List.not_lt.1 h2) (List.not_lt.1 h1)
   rcases Nat.lt_or_gt_of_ne h with h3 | h3
   ·exact .inl (.inr ⟨e,h3⟩)
   ·exact .inr (.inr ⟨e.symm,h3⟩)
def ef(s:List UInt8)(L:List Nat):Prop:=L.Pairwise (RLt s)∧∀i,i∈L↔i<s.length
theorem rh{s:List UInt8}:∀{L M:List Nat},L.Pairwise (RLt s)→M.Pairwise (RLt s)→(∀ i,i∈L↔i∈M)→L=M
 | [],M,_,_,h=>by
   cases M with
   | nil=>rfl
   | cons b M=>exact absurd ((h b).2 List.mem_cons_self) aq
 | a :: L,M,hL,hM,h=>by
   cases M with
   | nil=>exact absurd ((h a).1 List.mem_cons_self) aq
   | cons b M=>
     rw[List.pairwise_cons]at hL hM
     have h0:a=b:=by
      by_cases e:a=b
      ·exact e
      ·have h1:a∈M:=by
        rcases List.mem_cons.1 ((h a).1 List.mem_cons_self)with h1 | h1
        ·exact absurd h1 e
        ·exact h1
       have h2:b∈L:=by
        rcases List.mem_cons.1 ((h b).2 List.mem_cons_self)with h2 | h2
        ·exact absurd h2.symm e
        ·exact h2
       exact absurd ((hM.1 a h1).trans (hL.1 b h2)) (RLt.irrefl s b)
     subst h0
     congr 1
     refine rh hL.2 hM.2 fun i=> ?_
     constructor
     ·intro hi
      rcases List.mem_cons.1 ((h i).1 (List.mem_cons_of_mem _ hi))with e | h1
      ·exact absurd (e ▸ hL.1 i hi) (RLt.irrefl s a)
      ·exact h1
     ·intro hi
      rcases List.mem_cons.1 ((h i).2 (List.mem_cons_of_mem _ hi))with e | h1
      ·exact absurd (e ▸ hM.1 i hi) (RLt.irrefl s a)
      ·exact h1
theorem Ek{s:List UInt8}{L M:List Nat}(h:ef s L)(k:ef s M):L=M:=rh h.1 k.1 fun i=>(h.2 i).trans (k.2 i).symm
theorem jt{s:List UInt8}{L:List Nat}(h:ef s L):L.Nodup:=h.1.imp fun {a b} hab e=>by
 subst e
 exact RLt.irrefl s a hab
theorem dw{s:List UInt8}{L:List Nat}(h:ef s L):L.length=s.length:=by
 have hp:L.Perm (List.range s.length):=(List.perm_ext_iff_of_nodup (jt h) List.nodup_range).2 fun i=>by rw[h.2 i,List.mem_range]
 rw[hp.length_eq,List.length_range]
open Go.RowKit
theorem Bt(s:ByteArray)(k j:Nat)(hj:j=k % s.size)(h:j<s.size):s[j]=rat s.data.toList k:=by
 have hl:s.data.toList.length=s.size:=rfl
 have h2:=rf s.data.toList j (by rw[hl];exact h)
 have h3:s.data.toList[j]? =some s[j]:=by
  rw[List.getElem?_eq_getElem (by rw[hl];exact h)]
  rfl
 rw[h3]at h2
 rw[Option.some.inj h2,hj]
 have:=vw s.data.toList k
 rw[hl]at this
 exact this
theorem iT{w w':World}{A:Option Addr}{n:Nat}{L:List Nat}(h:aw w A n L)(hb:Below w.heap.size w w'):aw w' A n L:=by
 refine⟨h.1,fun hn=> ?_⟩
 obtain⟨b,off,rfl,hc⟩:=h.2 hn
 refine⟨b,off,rfl,fun i hi=> ?_⟩
 exact(hb.cell (p:=⟨b,off+i,none⟩) (World.block_lt_of_cell? w _ (hc i hi))).trans (hc i hi)
def FT:Value→Nat
 | .slice _ n _=>n
 | _=>0
theorem bi(w:World)(v:Value)(t:TypeId):∀(j:Nat) (u:Value), [v][j]? =some u→(w.alloc (.cells #[v] t)).cell? ((⟨w.heap.size,0,none⟩:Addr).add j)=some u:=by
 intro j u hu
 have hj:j=0:=by
  have:=(List.getElem?_eq_some_iff.1 hu).1
  simp at this
  exact this
 subst hj
 simp at hu
 subst hu
 rw[Addr.add_lit,ac (ag w t _)]
 rfl
end Go.Proofs.YthakcjehhlpjnaaGreat.S05
