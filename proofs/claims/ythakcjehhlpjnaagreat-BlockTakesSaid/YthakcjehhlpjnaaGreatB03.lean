import Derived.Test.YthakcjehhlpjnaaGreatB02
set_option maxRecDepth 100000
namespace Go.Proofs.YthakcjehhlpjnaaGreat
open Go.RowKit
theorem wI:∀(l:List Nat) (x:Nat),(∀ y∈l,1≤y)→x∈l→x+(l.length - 1)≤l.sum
 | [],x,_,hx=>absurd hx aq
 | z :: l,x,h,hx=>by
   have hl:∀l:List Nat,(∀ y∈l,1≤y)→l.length≤l.sum:=by
    intro l
    induction l with
    | nil=>intro _;exact Nat.le_refl _
    | cons a l ih=>
      intro h
      have:=ih fun y hy=>h y (List.mem_cons_of_mem _ hy)
      have:=h a List.mem_cons_self
      rw[List.length_cons,List.sum_cons]
      omega
   rw[List.length_cons,List.sum_cons]
   rcases List.mem_cons.1 hx with rfl | hx
   ·have:=hl l fun y hy=>h y (List.mem_cons_of_mem _ hy)
    omega
   ·have h1:=wI l x (fun y hy=>h y (List.mem_cons_of_mem _ hy)) hx
    have h2:=h z List.mem_cons_self
    have h3:0<l.length:=List.length_pos_of_mem hx
    omega
def EA(a:List Nat):List Int:=a.map fun(x:Nat)=>(x:Int)
theorem Gp{n:Nat}{len:Nat→Nat}(h2:2≤n)(hn:n≤258)(hl:∀i,i<n→len i≤20)(hs:((List.range n).map fun i=>2 ^ (20 - len i)).sum=2 ^ 20):aY (EA ((List.range n).map len))∧bc (EA ((List.range n).map len))=1048576:=by
 have hk:bc (EA ((List.range n).map len))=1048576:=by
  unfold bc EA
  rw[List.map_map,List.map_map]
  have e:(((fun x:Int=>2 ^ (20 - x.toNat)) ∘ fun(x:Nat)=>(x:Int)) ∘ len)=fun i=>2 ^ (20 - len i):=by
   funext i
   show 2 ^ (20 - ((len i:Nat):Int).toNat)=_
   rw[Int.toNat_natCast]
  rw[e,hs]
 have h3:(EA ((List.range n).map len)).length=n:=by simp[EA]
 refine⟨⟨by rw[h3];exact h2,by rw[h3];exact hn,fun x hx=> ?_,by rw[hk];exact Nat.le_refl _⟩,hk⟩
 obtain⟨y,hy,rfl⟩:=List.mem_map.1 hx
 obtain⟨i,hi,rfl⟩:=List.mem_map.1 hy
 have hi:=List.mem_range.1 hi
 have h4:=hl i hi
 have h1:1≤len i:=by
  rcases Nat.eq_zero_or_pos (len i)with h0 | h0
  ·exfalso
   have hm:2 ^ 20∈(List.range n).map fun i=>2 ^ (20 - len i):=List.mem_map.2 ⟨i,List.mem_range.2 hi,by rw[h0]⟩
   have:=wI _ _ (fun y hy=>by
    obtain⟨j,_,rfl⟩:=List.mem_map.1 hy
    exact Nat.one_le_two_pow) hm
   rw[hs,List.length_map,List.length_range]at this
   omega
  ·exact h0
 omega
theorem FM(w:World)(L:List Nat):aw (w.alloc (.cells (L.map iv).toArray 3)) (some ⟨w.heap.size,0,none⟩) L.length L:=by
 refine⟨rfl,fun _=>⟨w.heap.size,0,rfl,fun i hi=> ?_⟩⟩
 rw[Nat.zero_add,ac (ag w 3 _)]
 simp[iv,hi]
end Go.Proofs.YthakcjehhlpjnaaGreat
