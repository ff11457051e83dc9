import Derived.Test.YtepokmggbfoakaaGreatDoorT00
set_option maxRecDepth 100000
namespace Go.Proofs.YtepokmggbfoakaaGreatDoor.S07
open _root_.Go.Proofs.Tryz
def nx(m:Nat):List Nat:=if h:m<=1 then []else m%2::nx (m/2)
 termination_by m
 decreasing_by omega
def dig(k:Nat):List Nat:=nx (k+1)
theorem oP{m:Nat}(h:m<=1):nx m= []:=by rw[nx,dif_pos h]
theorem jc{m:Nat}(h:1<m):nx m=m%2::nx (m/2):=by rw[nx,dif_neg (by omega)]
theorem zT(n:Nat):∀m,1<=m->m<2^n->2^(nx m).length<=m/\m<2^((nx m).length+1):=by
 induction n with
 | zero=>intro m h1 h2;omega
 | succ n ih=>
  intro m h1 h2;rcases NZ 1 m with h|h;·rw[O4]at h2;have:=ih (m/2) (by omega) (by omega);rw[jc h,Nv,O4,O4 _ ((nx (m/2)).length+1)];omega
  ·rw[oP h];simp;omega
theorem tE(k:Nat):2^(dig k).length<=k+1/\k+1<2^((dig k).length+1):=
 zT (k+1) (k+1) (by omega) Nat.lt_two_pow_self
theorem Ei(k:Nat):∀d∈dig k,d<2:=by
 have h:∀n m,m<n->∀d∈nx m,d<2:=by
  intro n
  induction n with
  | zero=>intro m h;omega
  | succ n ih=>
   intro m hm d hd;rcases NZ 1 m with h|h
   ·rw[jc h]at hd;rcases List.mem_cons.1 hd with rfl|hd;·omega
    ·exact ih (m/2) (by omega) d hd
   ·rw[oP h]at hd;exact absurd hd ar
 exact h (k+2) (k+1) (by omega)
def fY(n:Nat):Nat->List Nat->List Nat
 | r, []=>dig r++ [n+1]
 | r,x::l=>if x=0 then fY n (r+1) l else dig r++(x+1)::fY n 0 l
def dI(n most:Nat):List Int->List Nat->Nat->Bool->List Nat×Nat
 | [],out,_,ended=>if ended then(out,0)else([],70)
 | s :: l,out,wo,ended=>
   if s<0\/(n:Int)+1<s then([],60)
   else if ended then([],70)
   else if s=(n:Int)+1 then dI n most l out wo true
   else if 1<s then(if most<=out.length then([],3)else dI n most l (out++ [s.toNat-1]) 1 false)
   else if most<out.length+(s.toNat+1)*wo then([],3)else dI n most l (out++List.replicate ((s.toNat+1)*wo) 0) (wo*2) false
def ints(l:List Nat):List Int:=l.map fun(x:Nat)=>(x:Int)
theorem rl(a b:List Nat):ints (a++b)=ints a++ints b:=by unfold ints;rw[NF]
theorem r9(n most:Nat)(hn:1<=n)(k:Nat):∀m,m<=k->1<=m->∀(rest:List Int) (out:List Nat) (wo:Nat),1<=wo->
 dI n most (ints (nx m)++rest) out wo false=if out.length+(m-1)*wo<=most then dI n most rest (out++List.replicate ((m-1)*wo) 0) (wo*2^(nx m).length) false else if(nx m)= []then dI n most rest out wo false else([],3):=by
 induction k with
 | zero=>intro m h1 h2;omega
 | succ k ih=>
  intro m hk h1 rest out wo hw;rcases NZ 1 m with h|h
  ·rw[jc h];have hd:m%2<2:=PV _ (by omega);have h4:¬(m%2::nx (m/2))= []:=(by simp);rw[Nf h4];show dI n most (((m%2:Nat):Int)::(ints (nx (m/2))++rest)) out wo false=_;rw[dI,Nf (by omega),Nf (by simp),Nf (by omega),Nf (by omega),Nn];have h0:(m-1)*wo=(m%2+1)*wo+(m/2-1)*(wo*2):=(by have e:m-1=(m%2+1)+(m/2-1)*2:=(by omega);rw[e,P3,O8,Oq 2 wo]);by_cases e1:most<out.length+(m%2+1)*wo;·rw[Ng e1,Nf (by rw[h0];omega)]
   ·rw[Nf e1,ih (m/2) (by omega) (by omega) rest _ (wo*2) (by omega)];rw[Nc,NE];by_cases e2:out.length+(m-1)*wo<=most;·rw[Ng (by rw[h0]at e2;omega),Ng e2,Ni,QE,<-h0,Nv,O4,O8,Oq 2]
    ·rw[Nf (by rw[h0]at e2;omega),Nf e2];rcases NZ 1 (m/2)with h3|h3;·rw[jc h3,Nf (by simp)]
     ·exfalso;have e0:m/2-1=0:=(by omega);rw[e0]at h0;omega
  ·have hm:m=1:=(by omega);subst hm;rw[oP (ah _)];simp only[Ow,Nat.zero_mul,Og,PN,NR,N5,Q6,Of];split <;>rfl
theorem Eh(n most:Nat)(hn:1<=n)(r:Nat)(rest:List Int)(out:List Nat)(ho:out.length<=most):
 ∃wo,1<=wo/\dI n most (ints (dig r)++rest) out 1 false=if out.length+r<=most then dI n most rest (out++List.replicate r 0) wo false else([],3):=by
 have h:=r9 n most hn (r+1) (r+1) (ah _) (by omega) rest out 1 (ah _);refine⟨1*2^(dig r).length,by have:0<2^(dig r).length:=Nat.pow_pos (by omega);omega,?_⟩;rw[Sb,Of]at h;unfold dig at*;rw[h];by_cases e:out.length+r<=most;·rw[Ng e,Ng e]
 ·rw[Nf e,Nf e];rcases NZ 1 (r+1)with h3|h3;·rw[jc h3,Nf (by simp)]
  ·omega
theorem oO(n most:Nat)(hn:1<=n):∀(l:List Nat) (r:Nat) (out:List Nat),(∀ x∈l,x<n)->out.length<=most->
 dI n most (ints (fY n r l)) out 1 false=if out.length+r+l.length<=most then(out++List.replicate r 0++l,0)else([],3)
 | [],r,out,_,ho=>by
  rw[fY,rl];obtain⟨wo,_,h⟩:=Eh n most hn r (ints [n+1]) out ho;rw[h,N5];by_cases e:out.length+r<=most;·rw[Ng e,Ng (show out.length+r+0<=most from e)];show dI n most [((n+1:Nat):Int)] _ _ _=_;rw[dI,Nf (by omega),Nf (by simp),Ng (by omega),dI,Ng rfl,NR]
  ·rw[Nf e,Nf (show ¬out.length+r+0<=most from e)]
 | x::l,r,out,h,ho=>by
  rw[fY];by_cases e:x=0
  ·subst e;rw[Ng rfl,oO n most hn l (r+1) out (fun y hy=>h y (Nu _ hy)) ho,Nv];have e2:out.length+(r+1)+l.length=out.length+r+(l.length+1):=(by omega);rw[e2];by_cases e3:out.length+r+(l.length+1)<=most;·rw[Ng e3,Ng e3,PC,Ni,Ni,Ni];rfl
   ·rw[Nf e3,Nf e3]
  ·rw[Nf e,rl];obtain⟨wo,_,hd⟩:=Eh n most hn r (ints ((x+1)::fY n 0 l)) out ho;rw[hd,Nv];have hx:=h x Nl;by_cases e3:out.length+r<=most
   ·rw[Ng e3];show dI n most (((x+1:Nat):Int)::ints (fY n 0 l)) _ _ _=_;rw[dI,Nf (by omega),Nf (by simp),Nf (by omega),Ng (by omega),Nc,NE];by_cases e4:most<=out.length+r;·rw[Ng e4,Nf (by omega)]
    ·rw[Nf e4,oO n most hn l 0 _ (fun y hy=>h y (Nu _ hy)) (by rw[Nc,Nc,NE];simp;omega)];have e5:(((x+1:Nat):Int)).toNat-1=x:=(by omega);rw[e5,Nc,Nc,NE,NM];by_cases e6:out.length+r+(l.length+1)<=most;·rw[Ng (by omega),Ng e6,PN,NR,Ni (out++List.replicate r 0)];rfl
     ·rw[Nf (by omega),Nf e6]
   ·rw[Nf e3,Nf (by omega)]
theorem xN(k:Nat):(dig k).length<=k:=by have h:=(tE k).1;have h2:(dig k).length<2^(dig k).length:=Nat.lt_two_pow_self;omega
theorem nP(n:Nat):∀(l:List Nat) (r:Nat),(fY n r l).length<=r+l.length+1
 | [],r=>by rw[fY,Nc,NM];have:=xN r;simp;omega
 | x::l,r=>by
  rw[fY];by_cases e:x=0;·rw[Ng e,Nv];have:=nP n l (r+1);omega
  ·rw[Nf e,Nc,Nv,Nv];have:=nP n l 0;have:=xN r;omega
