import Derived.Test.YthakcjehhlpjnaaGreatB00
set_option maxRecDepth 100000
namespace Go.Proofs.YthakcjehhlpjnaaGreat.S07
def mi(m:Nat):List Nat:=if h:m≤1 then []else m % 2 :: mi (m / 2)
termination_by m
decreasing_by omega
def dig(k:Nat):List Nat:=mi (k+1)
theorem nN{m:Nat}(h:m≤1):mi m= []:=by
 rw[mi,dif_pos h]
theorem iy{m:Nat}(h:1<m):mi m=m % 2 :: mi (m / 2):=by
 rw[mi,dif_neg (by omega)]
theorem wF(n:Nat):∀m,1≤m→m<2 ^ n→2 ^ (mi m).length≤m∧m<2 ^ ((mi m).length+1):=by
 induction n with
 | zero=>intro m h1 h2;omega
 | succ n ih=>
   intro m h1 h2
   rcases Nat.lt_or_ge 1 m with h | h
   ·rw[Nat.pow_succ]at h2
    have:=ih (m / 2) (by omega) (by omega)
    rw[iy h,List.length_cons,Nat.pow_succ,Nat.pow_succ _ ((mi (m / 2)).length+1)]
    omega
   ·rw[nN h]
    simp
    omega
theorem qO(k:Nat):2 ^ (dig k).length≤k+1∧k+1<2 ^ ((dig k).length+1):=
 wF (k+1) (k+1) (by omega) Nat.lt_two_pow_self
theorem Bl(k:Nat):∀d∈dig k,d<2:=by
 have h:∀n m,m<n→∀d∈mi m,d<2:=by
  intro n
  induction n with
  | zero=>intro m h;omega
  | succ n ih=>
    intro m hm d hd
    rcases Nat.lt_or_ge 1 m with h | h
    ·rw[iy h]at hd
     rcases List.mem_cons.1 hd with rfl | hd
     ·omega
     ·exact ih (m / 2) (by omega) d hd
    ·rw[nN h]at hd
     exact absurd hd aq
 exact h (k+2) (k+1) (by omega)
def fy(n:Nat):Nat→List Nat→List Nat
 | r, []=>dig r++ [n+1]
 | r,x :: l=>if x=0 then fy n (r+1) l else dig r++(x+1) :: fy n 0 l
def cT(n most:Nat):List Int→List Nat→Nat→Bool→List Nat×Nat
 | [],out,_,ended=>if ended then(out,0)else([],70)
 | s :: l,out,wo,ended=>
   if s<0∨(n:Int)+1<s then([],60)
   else if ended then([],70)
   else if s=(n:Int)+1 then cT n most l out wo true
   else if 1<s then(if most≤out.length then([],3)else cT n most l (out++ [s.toNat - 1]) 1 false)
   else if most<out.length+(s.toNat+1)*wo then([],3)else cT n most l (out++List.replicate ((s.toNat+1)*wo) 0) (wo*2) false
def ints(l:List Nat):List Int:=l.map fun(x:Nat)=>(x:Int)
theorem pm(a b:List Nat):ints (a++b)=ints a++ints b:=by
 unfold ints
 rw[List.map_append]
theorem qu(n most:Nat)(hn:1≤n)(k:Nat):∀m,m≤k→1≤m→∀(rest:List Int) (out:List Nat) (wo:Nat),1≤wo→
 cT n most (ints (mi m)++rest) out wo false=if out.length+(m - 1)*wo≤most then cT n most rest (out++List.replicate ((m - 1)*wo) 0) (wo*2 ^ (mi m).length) false else if(mi m)= []then cT n most rest out wo false else([],3):=by
 induction k with
 | zero=>intro m h1 h2;omega
 | succ k ih=>
   intro m hk h1 rest out wo hw
   rcases Nat.lt_or_ge 1 m with h | h
   ·rw[iy h]
    have hd:m % 2<2:=Nat.mod_lt _ (by omega)
    have h4:¬(m % 2 :: mi (m / 2))= []:=by simp
    rw[if_neg h4]
    show cT n most (((m % 2:Nat):Int) :: (ints (mi (m / 2))++rest)) out wo false=_
    rw[cT,if_neg (by omega),if_neg (by simp),if_neg (by omega),if_neg (by omega),Int.toNat_natCast]
    have h0:(m - 1)*wo=(m % 2+1)*wo+(m / 2 - 1)*(wo*2):=by
     have e:m - 1=(m % 2+1)+(m / 2 - 1)*2:=by omega
     rw[e,Nat.add_mul,Nat.mul_assoc,Nat.mul_comm 2 wo]
    by_cases e1:most<out.length+(m % 2+1)*wo
    ·rw[if_pos e1,if_neg (by rw[h0];omega)]
    ·rw[if_neg e1,ih (m / 2) (by omega) (by omega) rest _ (wo*2) (by omega)]
     rw[List.length_append,List.length_replicate]
     by_cases e2:out.length+(m - 1)*wo≤most
     ·rw[if_pos (by rw[h0]at e2;omega),if_pos e2,List.append_assoc,List.replicate_append_replicate,←h0,List.length_cons,Nat.pow_succ,Nat.mul_assoc,Nat.mul_comm 2]
     ·rw[if_neg (by rw[h0]at e2;omega),if_neg e2]
      rcases Nat.lt_or_ge 1 (m / 2)with h3 | h3
      ·rw[iy h3,if_neg (by simp)]
      ·exfalso
       have e0:m / 2 - 1=0:=by omega
       rw[e0]at h0
       omega
   ·have hm:m=1:=by omega
    subst hm
    rw[nN (ah _)]
    simp only[Nat.sub_self,Nat.zero_mul,Nat.add_zero,List.replicate_zero,List.append_nil,List.length_nil,Nat.pow_zero,Nat.mul_one]
    split <;>rfl
theorem BS(n most:Nat)(hn:1≤n)(r:Nat)(rest:List Int)(out:List Nat)(ho:out.length≤most):
 ∃wo,1≤wo∧cT n most (ints (dig r)++rest) out 1 false=if out.length+r≤most then cT n most rest (out++List.replicate r 0) wo false else([],3):=by
 have h:=qu n most hn (r+1) (r+1) (ah _) (by omega) rest out 1 (ah _)
 refine⟨1*2 ^ (dig r).length,by have:0<2 ^ (dig r).length:=Nat.pow_pos (by omega);omega,?_⟩
 rw[Nat.add_sub_cancel,Nat.mul_one]at h
 unfold dig at*
 rw[h]
 by_cases e:out.length+r≤most
 ·rw[if_pos e,if_pos e]
 ·rw[if_neg e,if_neg e]
  rcases Nat.lt_or_ge 1 (r+1)with h3 | h3
  ·rw[iy h3,if_neg (by simp)]
  ·omega
theorem mY(n most:Nat)(hn:1≤n):∀(l:List Nat) (r:Nat) (out:List Nat),(∀ x∈l,x<n)→out.length≤most→
 cT n most (ints (fy n r l)) out 1 false=if out.length+r+l.length≤most then(out++List.replicate r 0++l,0)else([],3)
 | [],r,out,_,ho=>by
   rw[fy,pm]
   obtain⟨wo,_,h⟩:=BS n most hn r (ints [n+1]) out ho
   rw[h,List.length_nil]
   by_cases e:out.length+r≤most
   ·rw[if_pos e,if_pos (show out.length+r+0≤most from e)]
    show cT n most [((n+1:Nat):Int)] _ _ _=_
    rw[cT,if_neg (by omega),if_neg (by simp),if_pos (by omega),cT,if_pos rfl,List.append_nil]
   ·rw[if_neg e,if_neg (show ¬out.length+r+0≤most from e)]
 | x :: l,r,out,h,ho=>by
   rw[fy]
   by_cases e:x=0
   ·subst e
    rw[if_pos rfl,mY n most hn l (r+1) out (fun y hy=>h y (List.mem_cons_of_mem _ hy)) ho,List.length_cons]
    have e2:out.length+(r+1)+l.length=out.length+r+(l.length+1):=by omega
    rw[e2]
    by_cases e3:out.length+r+(l.length+1)≤most
    ·rw[if_pos e3,if_pos e3,List.replicate_succ',List.append_assoc,List.append_assoc,List.append_assoc]
     rfl
    ·rw[if_neg e3,if_neg e3]
   ·rw[if_neg e,pm]
    obtain⟨wo,_,hd⟩:=BS n most hn r (ints ((x+1) :: fy n 0 l)) out ho
    rw[hd,List.length_cons]
    have hx:=h x List.mem_cons_self
    by_cases e3:out.length+r≤most
    ·rw[if_pos e3]
     show cT n most (((x+1:Nat):Int) :: ints (fy n 0 l)) _ _ _=_
     rw[cT,if_neg (by omega),if_neg (by simp),if_neg (by omega),if_pos (by omega),List.length_append,List.length_replicate]
     by_cases e4:most≤out.length+r
     ·rw[if_pos e4,if_neg (by omega)]
     ·rw[if_neg e4,mY n most hn l 0 _ (fun y hy=>h y (List.mem_cons_of_mem _ hy)) (by rw[List.length_append,List.length_append,List.length_replicate];simp;omega)]
      have e5:(((x+1:Nat):Int)).toNat - 1=x:=by omega
      rw[e5,List.length_append,List.length_append,List.length_replicate,List.length_singleton]
      by_cases e6:out.length+r+(l.length+1)≤most
      ·rw[if_pos (by omega),if_pos e6,List.replicate_zero,List.append_nil,List.append_assoc (out++List.replicate r 0)]
       rfl
      ·rw[if_neg (by omega),if_neg e6]
    ·rw[if_neg e3,if_neg (by omega)]
theorem vT(k:Nat):(dig k).length≤k:=by
 have h:=(qO k).1
 have h2:(dig k).length<2 ^ (dig k).length:=Nat.lt_two_pow_self
 omega
theorem mV(n:Nat):∀(l:List Nat) (r:Nat),(fy n r l).length≤r+l.length+1
 | [],r=>by
   rw[fy,List.length_append,List.length_singleton]
   have:=vT r
   simp
   omega
 | x :: l,r=>by
   rw[fy]
   by_cases e:x=0
   ·rw[if_pos e,List.length_cons]
    have:=mV n l (r+1)
    omega
   ·rw[if_neg e,List.length_append,List.length_cons,List.length_cons]
    have:=mV n l 0
    have:=vT r
    omega
end Go.Proofs.YthakcjehhlpjnaaGreat.S07
