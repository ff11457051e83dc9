import Derived.Test.YtepokmggbfoakaaGreatDoorA00
set_option maxRecDepth 100000
namespace Go.Proofs.YtepokmggbfoakaaGreatDoor.S07
def m9(m:Nat):List Nat:=if h:m≤1 then []else m % 2 :: m9 (m / 2)
 termination_by m
 decreasing_by omega
def dig(k:Nat):List Nat:=m9 (k+1)
theorem oD{m:Nat}(h:m≤1):m9 m= []:=by rw[m9,dif_pos h]
theorem i8{m:Nat}(h:1<m):m9 m=m % 2 :: m9 (m / 2):=by rw[m9,dif_neg (by omega)]
theorem zf(n:Nat):∀m,1≤m→m<2 ^ n→2 ^ (m9 m).length≤m∧m<2 ^ ((m9 m).length+1):=by
 induction n with
 | zero=>intro m h1 h2;omega
 | succ n ih=>
  intro m h1 h2;rcases MF 1 m with h | h;·rw[ND]at h2;have:=ih (m / 2) (by omega) (by omega);rw[i8 h,Mb,ND,ND _ ((m9 (m / 2)).length+1)];omega
  ·rw[oD h];simp;omega
theorem sO(k:Nat):2 ^ (dig k).length≤k+1∧k+1<2 ^ ((dig k).length+1):=
 zf (k+1) (k+1) (by omega) Nat.lt_two_pow_self
theorem Dt(k:Nat):∀d∈dig k,d<2:=by
 have h:∀n m,m<n→∀d∈m9 m,d<2:=by
  intro n
  induction n with
  | zero=>intro m h;omega
  | succ n ih=>
   intro m hm d hd;rcases MF 1 m with h | h
   ·rw[i8 h]at hd;rcases List.mem_cons.1 hd with rfl | hd;·omega
    ·exact ih (m / 2) (by omega) d hd
   ·rw[oD h]at hd;exact absurd hd ay
 exact h (k+2) (k+1) (by omega)
def fG(n:Nat):Nat→List Nat→List Nat
 | r, []=>dig r++ [n+1]
 | r,x :: l=>if x=0 then fG n (r+1) l else dig r++(x+1) :: fG n 0 l
def eu(n most:Nat):List Int→List Nat→Nat→Bool→List Nat×Nat
 | [],out,_,ended=>if ended then(out,0)else([],70)
 | s :: l,out,wo,ended=>
   if s<0∨(n:Int)+1<s then([],60)
   else if ended then([],70)
   else if s=(n:Int)+1 then eu n most l out wo true
   else if 1<s then(if most≤out.length then([],3)else eu n most l (out++ [s.toNat - 1]) 1 false)
   else if most<out.length+(s.toNat+1)*wo then([],3)else eu n most l (out++List.replicate ((s.toNat+1)*wo) 0) (wo*2) false
def ints(l:List Nat):List Int:=l.map fun(x:Nat)=>(x:Int)
theorem qR(a b:List Nat):ints (a++b)=ints a++ints b:=by unfold ints;rw[Mw]
theorem rB(n most:Nat)(hn:1≤n)(k:Nat):∀m,m≤k→1≤m→∀(rest:List Int) (out:List Nat) (wo:Nat),1≤wo→
 eu n most (ints (m9 m)++rest) out wo false=if out.length+(m - 1)*wo≤most then eu n most rest (out++List.replicate ((m - 1)*wo) 0) (wo*2 ^ (m9 m).length) false else if(m9 m)= []then eu n most rest out wo false else([],3):=by
 induction k with
 | zero=>intro m h1 h2;omega
 | succ k ih=>
  intro m hk h1 rest out wo hw;rcases MF 1 m with h | h
  ·rw[i8 h];have hd:m % 2<2:=OG _ (by omega);have h4:¬(m % 2 :: m9 (m / 2))= []:=(by simp);rw[LW h4];show eu n most (((m % 2:Nat):Int) :: (ints (m9 (m / 2))++rest)) out wo false=_;rw[eu,LW (by omega),LW (by simp),LW (by omega),LW (by omega),L9];have h0:(m - 1)*wo=(m % 2+1)*wo+(m / 2 - 1)*(wo*2):=(by have e:m - 1=(m % 2+1)+(m / 2 - 1)*2:=(by omega);rw[e,On,Nz,MU 2 wo]);by_cases e1:most<out.length+(m % 2+1)*wo;·rw[LX e1,LW (by rw[h0];omega)]
   ·rw[LW e1,ih (m / 2) (by omega) (by omega) rest _ (wo*2) (by omega)];rw[LR,Mo];by_cases e2:out.length+(m - 1)*wo≤most;·rw[LX (by rw[h0]at e2;omega),LX e2,LZ,OW,←h0,Mb,ND,Nz,MU 2]
    ·rw[LW (by rw[h0]at e2;omega),LW e2];rcases MF 1 (m / 2)with h3 | h3;·rw[i8 h3,LW (by simp)]
     ·exfalso;have e0:m / 2 - 1=0:=(by omega);rw[e0]at h0;omega
  ·have hm:m=1:=(by omega);subst hm;rw[oD (ag _)];simp only[Ng,Nat.zero_mul,MM,OY,Mv,MH,Pu,MR];split <;>rfl
theorem Ds(n most:Nat)(hn:1≤n)(r:Nat)(rest:List Int)(out:List Nat)(ho:out.length≤most):
 ∃wo,1≤wo∧eu n most (ints (dig r)++rest) out 1 false=if out.length+r≤most then eu n most rest (out++List.replicate r 0) wo false else([],3):=by
 have h:=rB n most hn (r+1) (r+1) (ag _) (by omega) rest out 1 (ag _);refine⟨1*2 ^ (dig r).length,by have:0<2 ^ (dig r).length:=Nat.pow_pos (by omega);omega,?_⟩;rw[QD,MR]at h;unfold dig at*;rw[h];by_cases e:out.length+r≤most;·rw[LX e,LX e]
 ·rw[LW e,LW e];rcases MF 1 (r+1)with h3 | h3;·rw[i8 h3,LW (by simp)]
  ·omega
theorem oC(n most:Nat)(hn:1≤n):∀(l:List Nat) (r:Nat) (out:List Nat),(∀ x∈l,x<n)→out.length≤most→
 eu n most (ints (fG n r l)) out 1 false=if out.length+r+l.length≤most then(out++List.replicate r 0++l,0)else([],3)
 | [],r,out,_,ho=>by
  rw[fG,qR];obtain⟨wo,_,h⟩:=Ds n most hn r (ints [n+1]) out ho;rw[h,MH];by_cases e:out.length+r≤most;·rw[LX e,LX (show out.length+r+0≤most from e)];show eu n most [((n+1:Nat):Int)] _ _ _=_;rw[eu,LW (by omega),LW (by simp),LX (by omega),eu,LX rfl,Mv]
  ·rw[LW e,LW (show ¬out.length+r+0≤most from e)]
 | x :: l,r,out,h,ho=>by
  rw[fG];by_cases e:x=0
  ·subst e;rw[LX rfl,oC n most hn l (r+1) out (fun y hy=>h y (Ma _ hy)) ho,Mb];have e2:out.length+(r+1)+l.length=out.length+r+(l.length+1):=(by omega);rw[e2];by_cases e3:out.length+r+(l.length+1)≤most;·rw[LX e3,LX e3,ON,LZ,LZ,LZ];rfl
   ·rw[LW e3,LW e3]
  ·rw[LW e,qR];obtain⟨wo,_,hd⟩:=Ds n most hn r (ints ((x+1) :: fG n 0 l)) out ho;rw[hd,Mb];have hx:=h x L4;by_cases e3:out.length+r≤most
   ·rw[LX e3];show eu n most (((x+1:Nat):Int) :: ints (fG n 0 l)) _ _ _=_;rw[eu,LW (by omega),LW (by simp),LW (by omega),LX (by omega),LR,Mo];by_cases e4:most≤out.length+r;·rw[LX e4,LW (by omega)]
    ·rw[LW e4,oC n most hn l 0 _ (fun y hy=>h y (Ma _ hy)) (by rw[LR,LR,Mo];simp;omega)];have e5:(((x+1:Nat):Int)).toNat - 1=x:=(by omega);rw[e5,LR,LR,Mo,Mq];by_cases e6:out.length+r+(l.length+1)≤most;·rw[LX (by omega),LX e6,OY,Mv,LZ (out++List.replicate r 0)];rfl
     ·rw[LW (by omega),LW e6]
   ·rw[LW e3,LW (by omega)]
theorem wY(k:Nat):(dig k).length≤k:=by have h:=(sO k).1;have h2:(dig k).length<2 ^ (dig k).length:=Nat.lt_two_pow_self;omega
theorem nB(n:Nat):∀(l:List Nat) (r:Nat),(fG n r l).length≤r+l.length+1
 | [],r=>by rw[fG,LR,Mq];have:=wY r;simp;omega
 | x :: l,r=>by
  rw[fG];by_cases e:x=0;·rw[LX e,Mb];have:=nB n l (r+1);omega
  ·rw[LW e,LR,Mb,Mb];have:=nB n l 0;have:=wY r;omega
end Go.Proofs.YtepokmggbfoakaaGreatDoor.S07
