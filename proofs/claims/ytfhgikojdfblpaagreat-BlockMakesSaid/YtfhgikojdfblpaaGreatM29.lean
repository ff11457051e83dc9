import Derived.Test.YtfhgikojdfblpaaGreatM00
set_option maxRecDepth 100000
namespace Go.Proofs.YtfhgikojdfblpaaGreat.S07
open _root_.Go.Proofs.Tryz
def mB(m:Nat):List Nat:=if h:m<=1 then []else m%2::mB (m/2)
 termination_by m
 decreasing_by omega
def dig(k:Nat):List Nat:=mB (k+1)
theorem lk{m:Nat}(h:m<=1):mB m= []:=by rw[mB,dif_pos h]
theorem fV{m:Nat}(h:1<m):mB m=m%2::mB (m/2):=by rw[mB,dif_neg (by omega)]
theorem Mc(n:Nat):∀m,2^n<=m->m<2^(n+1)->(mB m).length=n:=by
 induction n with
 | zero=>intro m h1 h2;rw[lk (by omega)];rfl
 | succ n ih=>intro m h1 h2;have h0:0<2^n:=Nat.pow_pos (by omega);rw[Ot]at h1;rw[Ot]at h2;rw[fV (by omega),Ns,ih (m/2) (by omega) (by omega)]
theorem Al(n:Nat):∀m,1<=m->m<2^n->2^(mB m).length<=m/\m<2^((mB m).length+1):=by
 induction n with
 | zero=>intro m h1 h2;omega
 | succ n ih=>
  intro m h1 h2;rcases N1 1 m with h|h;·rw[Ot]at h2;have:=ih (m/2) (by omega) (by omega);rw[fV h,Ns,Ot,Ot _ ((mB (m/2)).length+1)];omega
  ·rw[lk h];simp;omega
theorem tN(k:Nat):2^(dig k).length<=k+1/\k+1<2^((dig k).length+1):=
 Al (k+1) (k+1) (by omega) Nat.lt_two_pow_self
theorem Em(k:Nat):∀d∈dig k,d<2:=by
 have h:∀n m,m<n->∀d∈mB m,d<2:=by
  intro n
  induction n with
  | zero=>intro m h;omega
  | succ n ih=>
   intro m hm d hd;rcases N1 1 m with h|h
   ·rw[fV h]at hd;rcases List.mem_cons.1 hd with rfl|hd;·omega
    ·exact ih (m/2) (by omega) d hd
   ·rw[lk h]at hd;exact absurd hd aw
 exact h (k+2) (k+1) (by omega)
def rc:Nat->Nat->List Nat
 | 0,_=> []
 | n+1,left=>left%2::rc n (left/2)
theorem Jg(n:Nat):∀m,2^n<=m->m<2^(n+1)->mB m=rc n (m-2^n):=by
 induction n with
 | zero=>intro m h1 h2;rw[lk (by omega)];rfl
 | succ n ih=>
  intro m h1 h2;have h0:0<2^n:=Nat.pow_pos (by omega);rw[Ot]at h1;rw[Ot]at h2;rw[fV (by omega),ih (m/2) (by omega) (by omega),rc,Ot];congr 1;·omega
  ·congr 1;omega
def eM(n:Nat):Nat->List Nat->List Nat
 | r, []=>dig r++ [n+1]
 | r,x::l=>if x=0 then eM n (r+1) l else dig r++(x+1)::eM n 0 l
def eT(n most:Nat):List Int->List Nat->Nat->Bool->List Nat×Nat
 | [],out,_,ended=>if ended then(out,0)else([],70)
 | s :: l,out,wo,ended=>
   if s<0\/(n:Int)+1<s then([],60)
   else if ended then([],70)
   else if s=(n:Int)+1 then eT n most l out wo true
   else if 1<s then(if most<=out.length then([],3)else eT n most l (out++ [s.toNat-1]) 1 false)
   else if most<out.length+(s.toNat+1)*wo then([],3)else eT n most l (out++List.replicate ((s.toNat+1)*wo) 0) (wo*2) false
def ints(l:List Nat):List Int:=l.map fun(x:Nat)=>(x:Int)
theorem rU(a b:List Nat):ints (a++b)=ints a++ints b:=by unfold ints;rw[Nz]
theorem sF(n most:Nat)(hn:1<=n)(k:Nat):∀m,m<=k->1<=m->∀(rest:List Int) (out:List Nat) (wo:Nat),1<=wo->
 eT n most (ints (mB m)++rest) out wo false=if out.length+(m-1)*wo<=most then eT n most rest (out++List.replicate ((m-1)*wo) 0) (wo*2^(mB m).length) false else if(mB m)= []then eT n most rest out wo false else([],3):=by
 induction k with
 | zero=>intro m h1 h2;omega
 | succ k ih=>
  intro m hk h1 rest out wo hw;rcases N1 1 m with h|h
  ·rw[fV h];have hd:m%2<2:=Po _ (by omega);have h4:¬(m%2::mB (m/2))= []:=(by simp);rw[Nd h4];show eT n most (((m%2:Nat):Int)::(ints (mB (m/2))++rest)) out wo false=_;rw[eT,Nd,Nd (by simp),Nd,Nd,Nv];have h0:(m-1)*wo=(m%2+1)*wo+(m/2-1)*(wo*2):=(by have e:m-1=(m%2+1)+(m/2-1)*2:=(by omega);rw[e,PU,OY,Om 2 wo]);by_cases e1:most<out.length+(m%2+1)*wo;·rw[Nf e1,Nd (by rw[h0];omega)]
   ·rw[Nd e1,ih (m/2) (by omega) (by omega) rest _ (wo*2) (by omega)];rw[Nb,NA];by_cases e2:out.length+(m-1)*wo<=most;·rw[Nf (by rw[h0]at e2;omega),Nf e2,Ni,Qs,<-h0,Ns,Ot,OY,Om 2]
    ·rw[Nd (by rw[h0]at e2;omega),Nd e2];rcases N1 1 (m/2)with h3|h3;·rw[fV h3,Nd (by simp)]
     ·exfalso;have e0:m/2-1=0:=(by omega);rw[e0]at h0;omega
  ·have hm:m=1:=(by omega);subst hm;rw[lk (ag _)];simp only[Oz,Nat.zero_mul,NY,P6,NU,Ox,Q1,Oc];split <;>rfl
theorem El(n most:Nat)(hn:1<=n)(r:Nat)(rest:List Int)(out:List Nat)(ho:out.length<=most):
 ∃wo,1<=wo/\eT n most (ints (dig r)++rest) out 1 false=if out.length+r<=most then eT n most rest (out++List.replicate r 0) wo false else([],3):=by
 have h:=sF n most hn (r+1) (r+1) (ag _) (by omega) rest out 1 (ag _);refine⟨1*2^(dig r).length,by have:0<2^(dig r).length:=Nat.pow_pos (by omega);omega,?_⟩;rw[RV,Oc]at h;unfold dig at*;rw[h];by_cases e:out.length+r<=most;·rw[Nf e,Nf e]
 ·rw[Nd e,Nd e];rcases N1 1 (r+1)with h3|h3;·rw[fV h3,Nd (by simp)]
  ·omega
theorem pO(n most:Nat)(hn:1<=n):∀(l:List Nat) (r:Nat) (out:List Nat),(∀ x∈l,x<n)->out.length<=most->
 eT n most (ints (eM n r l)) out 1 false=if out.length+r+l.length<=most then(out++List.replicate r 0++l,0)else([],3)
 | [],r,out,_,ho=>by
  rw[eM,rU];obtain⟨wo,_,h⟩:=El n most hn r (ints [n+1]) out ho;rw[h,Ox];by_cases e:out.length+r<=most;·rw[Nf e,Nf (show out.length+r+0<=most from e)];show eT n most [((n+1:Nat):Int)] _ _ _=_;rw[eT,Nd,Nd (by simp),Nf,eT,Nf rfl,NU]
  ·rw[Nd e,Nd (show ¬out.length+r+0<=most from e)]
 | x::l,r,out,h,ho=>by
  rw[eM];by_cases e:x=0
  ·subst e;rw[Nf rfl,pO n most hn l (r+1) out (fun y hy=>h y (Nm _ hy)) ho,Ns];have e2:out.length+(r+1)+l.length=out.length+r+(l.length+1):=(by omega);rw[e2];by_cases e3:out.length+r+(l.length+1)<=most;·rw[Nf e3,Nf e3,Px,Ni,Ni,Ni];rfl
   ·rw[Nd e3,Nd e3]
  ·rw[Nd e,rU];obtain⟨wo,_,hd⟩:=El n most hn r (ints ((x+1)::eM n 0 l)) out ho;rw[hd,Ns];have hx:=h x Nh;by_cases e3:out.length+r<=most
   ·rw[Nf e3];show eT n most (((x+1:Nat):Int)::ints (eM n 0 l)) _ _ _=_;rw[eT,Nd,Nd (by simp),Nd,Nf,Nb,NA];by_cases e4:most<=out.length+r;·rw[Nf e4,Nd]
    ·rw[Nd e4,pO n most hn l 0 _ (fun y hy=>h y (Nm _ hy)) (by rw[Nb,Nb,NA];simp;omega)];have e5:(((x+1:Nat):Int)).toNat-1=x:=(by omega);rw[e5,Nb,Nb,NA,NP];by_cases e6:out.length+r+(l.length+1)<=most;·rw[Nf,Nf e6,P6,NU,Ni (out++List.replicate r 0)];rfl
     ·rw[Nd,Nd e6]
   ·rw[Nd e3,Nd]
theorem qS(k:Nat):(dig k).length<=k:=by have h:=(tN k).1;have h2:(dig k).length<2^(dig k).length:=Nat.lt_two_pow_self;omega
theorem oG(n:Nat):∀(l:List Nat) (r:Nat),(eM n r l).length<=r+l.length+1
 | [],r=>by rw[eM,Nb,NP];have:=qS r;simp;omega
 | x::l,r=>by
  rw[eM];by_cases e:x=0;·rw[Nf e,Ns];have:=oG n l (r+1);omega
  ·rw[Nd e,Nb,Ns,Ns];have:=oG n l 0;have:=qS r;omega
