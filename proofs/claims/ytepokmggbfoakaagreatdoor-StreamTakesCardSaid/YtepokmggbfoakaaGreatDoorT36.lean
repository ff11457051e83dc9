import Derived.Test.YtepokmggbfoakaaGreatDoorT22
set_option maxHeartbeats 6400000
set_option maxRecDepth 100000
namespace Go.Proofs.YtepokmggbfoakaaGreatDoor
open _root_.Go.Proofs.Tryz
open Go.RowKit
theorem dt{l u:List Nat}{p k:Nat}(h:p+k<=l.length):((l++u).drop p).take k=(l.drop p).take k:=by rw[OA (by omega),OH (by rw[Nq];omega)]
theorem gd{l u:List Nat}{i:Nat}(h:i<l.length):(l++u).getD i 0=l.getD i 0:=by rw[Nb,NT h,Nb]
theorem yC{l:List Nat}(u:List Nat){p:Nat}(i:Nat)(h:p+16<=l.length):S06.dR (l++u) p i=S06.dR l p i:=by unfold S06.dR;congr 1;apply Rz;intro k hk;rw[gd (by have:=List.mem_range.1 hk;omega)]
theorem tO(l u:List Nat)(fl fl':Nat->Nat):∀(is:List Nat) (p:Nat) (out o:List UInt8) (q:Nat),(∀ i∈is,fl' i=fl i)->p<=l.length->S06.goT l fl is p out=some (o,q)->p<=q/\q<=l.length/\S06.goT (l++u) fl' is p out=some (o,q)
 | [],p,out,o,q,_,hp,h=>by rw[S06.goT]at h;obtain⟨rfl,rfl⟩:=Prod.mk.inj (Om h);exact⟨Nm _,hp,rfl⟩
 | i::is,p,out,o,q,hf,hp,h=>by
  have h2:=hf i Nl;have h3:=fun j hj=>hf j (Nu _ hj);rw[S06.goT]at h;by_cases h0:fl i=0;·rw[Ng h0]at h;obtain⟨a,b,c⟩:=tO l u fl fl' is p out o q h3 hp h;exact⟨a,b,by rw[S06.goT,h2,Ng h0];exact c⟩
  ·rw[Nf h0]at h;by_cases h1:l.length<p+16;·rw[Ng h1]at h;cases h
   ·rw[Nf h1]at h;obtain⟨a,b,c⟩:=tO l u fl fl' is (p+16) _ o q h3 (by omega) h;refine⟨by omega,b,?_⟩;rw[S06.goT,h2,Nf h0,Nf (by rw[Nc];omega),yC u i (by omega)];exact c
theorem DV{l:List Nat}(u:List Nat){p:Nat}(h:(S06.ao l (p:Nat)).2.2=0):p+16<=(S06.ao l (p:Nat)).2.1/\(S06.ao l (p:Nat)).2.1<=l.length/\S06.ao (l++u) (p:Nat)=S06.ao l (p:Nat):=by
 unfold S06.ao at*;rw[Nf (by omega),Nn]at h |-;rw[Nf (by omega)];unfold S06.dQ at*;by_cases h1:l.length<p;·rw[Ng h1]at h;cases h
 rw[Nf h1]at h |-;by_cases h2:l.length<p+16;·rw[Ng h2]at h;cases h
 rw[Nf h2]at h |-;rw[Nf (by rw[Nc];omega),Nf (by rw[Nc];omega)]
 cases hg:S06.goT l (fun i=>l.getD (p+i) 0) (List.range 16) (p+16) []with
 | none=>rw[hg]at h;cases h
 | some x=>
  obtain⟨o,q⟩:=x;obtain⟨a,b,c⟩:=tO l u (fun i=>l.getD (p+i) 0) (fun i=>(l++u).getD (p+i) 0) (List.range 16) (p+16) [] o q (fun i hi=>gd (by have:=List.mem_range.1 hi;omega)) (by omega) hg;rw[hg]at h;rw[c];dsimp only at h |-;by_cases ho:o= [];·rw[Ng ho]at h;cases h
  ·rw[Nf ho];exact⟨a,b,rfl⟩
theorem DP(u:List Nat):∀(bs:List Nat) (now n p:Nat) (out:List Nat),(bu bs now n p out).2.2=0->p<=(bu bs now n p out).2.1/\(bu bs now n p out).2.1<=p+bs.length/\bu (bs++u) now n p out=bu bs now n p out:=by
 intro bs
 induction h:bs.length using Nat.strongRecOn generalizing bs with
 | _ m ih=>
  intro now n p out hz;subst h;rcases n with _|n;·rw[eG,eG];exact⟨Nm _,QF _ _,rfl⟩
  ·by_cases hb:now<1\/20<now;·rw[f6 _ _ _ _ _ hb]at hz;cases hz
   ·rcases bs with _|⟨b,bs⟩;·rw[ik _ _ _ _ hb]at hz;cases hz
    ·by_cases h0:b=0;·subst h0;rw[ft _ _ _ _ _ hb]at hz |-;obtain⟨a,c,d⟩:=ih bs.length (by simp) bs rfl now n (p+1) (out++ [now]) hz;refine⟨by omega,by rw[Nv];omega,?_⟩;rw[Od,ft _ _ _ _ _ hb];exact d
     ·rcases bs with _|⟨d,bs⟩;·rw[ji _ _ _ _ _ hb h0]at hz;cases hz
      ·rw[eH _ _ _ _ _ _ _ hb h0]at hz |-;obtain⟨a,c,e⟩:=ih bs.length (by simp;omega) bs rfl _ (n+1) (p+2) out hz;refine⟨by omega,by rw[Nv,Nv];omega,?_⟩;rw[Od,Od,eH _ _ _ _ _ _ _ hb h0];exact e
theorem DO{l:List Nat}(u:List Nat){p:Nat}{n:Int}(h:(ao l (p:Nat) n).2.2=0):p<=(ao l (p:Nat) n).2.1/\(ao l (p:Nat) n).2.1<=l.length/\ao (l++u) (p:Nat) n=ao l (p:Nat) n:=by
 unfold ao at*;by_cases h1:(p:Int)<0\/(l.length:Int)<(p:Int)\/n<2\/258<n;·rw[Ng h1]at h;cases h
 rw[Nf h1]at h |-;rw[Nn]at h |-;rw[Nf (show ¬((p:Int)<0\/((l++u).length:Int)<(p:Int)\/n<2\/258<n) by rw[Nc];omega)];by_cases h2:l.length<p+5;·rw[Ng h2]at h;cases h
 rw[Nf h2]at h |-;rw[Nf (show ¬((l++u).length<p+5) by rw[Nc];omega),dt (by omega),OA (by omega)];obtain⟨a,b,c⟩:=DP u _ _ _ _ _ h;rw[Nq]at b;exact⟨by omega,by omega,c⟩
theorem rA(u:List Nat):∀(l:List Nat) (n T k:Nat),bO l n T=.hit k->bO (l++u) n T=.hit k
 | [],n,T,k,h=>by simp[bO]at h
 | b::l,n,T,k,h=>by
  rw[Od];rw[bO]at h |-;by_cases e:b=0;·rw[Ng e]at h |-;exact h
  ·rw[Nf e]at h |-;by_cases e2:n+1=T;·rw[Ng e2]at h;cases h
   ·rw[Nf e2]at h |-;exact rA u l (n+1) T k h
theorem mS{bits:List Nat}(u:List Nat){T:Nat}(hT:0<T):∀(k:Nat) (o:List Nat) (p:Nat) (out:List Nat),p<=bits.length->(ax bits T k o p out).2.2=0->p<=(ax bits T k o p out).2.1/\(ax bits T k o p out).2.1<=bits.length/\ax (bits++u) T k o p out=ax bits T k o p out
 | 0,_,_,_,h,_=>⟨Nm _,h,rfl⟩
 | k+1,o,p,out,h,hz=>by
  cases hp:bO (bits.drop p) 0 T with
  | hit n=>have hl:=(tW (bits.drop p) 0 T n hp hT).2.1;rw[Nq]at hl;rw[dW hp]at hz |-;obtain⟨a,b,c⟩:=mS u hT k _ _ _ (by omega) hz;refine⟨by omega,b,?_⟩;rw[dW (n:=n) (by rw[OA h];exact rA u _ _ _ _ hp)];exact c
  | short=>rw[dL hp]at hz;cases hz
  | bad=>rw[eS hp]at hz;cases hz
theorem xi(bits:List Nat)(n t p:Nat)(acc:List (List Nat)):dF bits n (t+1) p acc=if(ao bits p n).2.2=0 then(if a6 (zL (ao bits p n).1)then dF bits n t (ao bits p n).2.1 (acc++ [(ao bits p n).1])else([],0,80))else([],0,(ao bits p n).2.2):=rfl
theorem uV{bits:List Nat}(u:List Nat){n:Nat}:∀(t p:Nat) (acc:List (List Nat)),p<=bits.length->(dF bits n t p acc).2.2=0->p<=(dF bits n t p acc).2.1/\(dF bits n t p acc).2.1<=bits.length/\dF (bits++u) n t p acc=dF bits n t p acc
 | 0,_,_,h,_=>⟨Nm _,h,rfl⟩
 | t+1,p,acc,h,hz=>by
  rw[xi]at hz |-;rw[xi];by_cases h1:(ao bits p n).2.2=0
  ·obtain⟨a,b,c⟩:=DO u h1;rw[Ng h1]at hz |-;rw[c,Ng h1];by_cases h2:a6 (zL (ao bits p n).1);·rw[Ng h2]at hz |-;rw[Ng h2];obtain⟨d,e,f⟩:=uV u t _ _ b hz;exact⟨by omega,e,f⟩
   ·rw[Nf h2]at hz;cases hz
  ·rw[Nf h1]at hz;exact absurd hz h1
theorem DQ{l:List Nat}(u:List Nat){p:Nat}{n:Int}(h:(dC l (p:Nat) n).2.2.2=0):p<=(dC l (p:Nat) n).2.2.1/\(dC l (p:Nat) n).2.2.1<=l.length/\dC (l++u) (p:Nat) n=dC l (p:Nat) n:=by
 unfold dC at*;by_cases h1:(p:Int)<0\/(l.length:Int)<(p:Int)\/n<3\/258<n;·rw[Ng h1]at h;cases h
 rw[Nf h1]at h |-;rw[Nn]at h |-;rw[Nf (show ¬((p:Int)<0\/((l++u).length:Int)<(p:Int)\/n<3\/258<n) by rw[Nc];omega)];unfold jI at*;by_cases h2:l.length<p+3;·rw[Ng h2]at h;cases h
 rw[Nf h2]at h |-;rw[Nf (show ¬((l++u).length<p+3) by rw[Nc];omega),dt (by omega)];by_cases h3:val ((l.drop p).take 3)<2\/6<val ((l.drop p).take 3);·rw[Ng h3]at h;cases h
 rw[Nf h3]at h |-;rw[Nf h3];by_cases h4:l.length<p+18;·rw[Ng h4]at h;cases h
 rw[Nf h4]at h |-;rw[Nf (show ¬((l++u).length<p+18) by rw[Nc];omega),dt (by omega)];by_cases h5:val ((l.drop (p+3)).take 15)=0;·rw[Ng h5]at h;cases h
 rw[Nf h5]at h |-;rw[Nf h5];generalize val ((l.drop p).take 3)=T at*;generalize val ((l.drop (p+3)).take 15)=K at*;unfold rP at*;by_cases h6:(ax l T K [0,1,2,3,4,5] (p+18) []).2.2=0
 ·obtain⟨a,b,c⟩:=mS u (by omega) K _ _ _ (by omega) h6;rw[Ng h6]at h |-;rw[c,Ng h6];by_cases h7:(dF l n.toNat T (ax l T K [0,1,2,3,4,5] (p+18) []).2.1 []).2.2=0;·obtain⟨d,e,f⟩:=uV u _ _ _ b h7;rw[Ng h7];rw[f,Ng h7];exact⟨NH (NH (QF p 18) a) d,e,rfl⟩
  ·rw[Nf h7]at h;exact absurd h h7
 ·rw[Nf h6]at h;exact absurd h h6
theorem ui(u l bs:List Nat):∀(k n x:Nat),fk l bs k n=.hit x->l.getD x 0<=bs.length/\fk l (bs++u) k n=.hit x
 | 0,n,x,h=>by cases h
 | k+1,n,x,h=>by
  rw[fk]at h |-;by_cases h1:bs.length<n;·rw[Ng h1]at h;cases h
  rw[Nf h1]at h;rw[Nf (by rw[Nc];omega),OH (by omega)]
  cases hi:lA l n (val (bs.take n))with
  | some i=>rw[hi]at h;have e:i=x:=(by cases h;rfl);subst e;have h2:=(iX hi).2.1;exact⟨by omega,rfl⟩
  | none=>
   rw[hi]at h;dsimp only at h |-;by_cases h3:val (bs.take n)*pw n<jP l;·rw[Ng h3]at h |-;exact ui u l bs k (n+1) x h
   ·rw[Nf h3]at h;cases h
theorem wB{T:List (List Nat)}{P bits:List Nat}(u:List Nat){n0:Nat}:∀(k i a:Nat) (out:List Nat),a<=bits.length->(iW T P bits n0 k i a out).2.2=0->a<=(iW T P bits n0 k i a out).2.1/\(iW T P bits n0 k i a out).2.1<=bits.length/\iW T P (bits++u) n0 k i a out=iW T P bits n0 k i a out
 | 0,_,_,_,_,h=>by cases h
 | k+1,i,a,out,ha,hz=>by
  rw[jf]at hz |-;rw[jf,OA ha]
  cases hn:fm (T.getD (P.getD (i/50) 0) []) (bits.drop a)with
  | hit x=>
   obtain⟨h1,h2⟩:=ui u _ _ _ _ _ hn;rw[Nq]at h1;have h3:fm (T.getD (P.getD (i/50) 0) []) (bits.drop a++u)=.hit x:=h2;rw[hn]at hz;rw[h3];dsimp only at hz |-;by_cases h4:x+1=n0;·rw[Ng h4,Ng h4];exact⟨by show a<=a+_;omega,by show a+_<=_;omega,rfl⟩
   ·rw[Nf h4]at hz |-;rw[Nf h4];obtain⟨d,e,f⟩:=wB u k _ _ _ (by omega) hz;exact⟨by omega,e,f⟩
  | short=>rw[hn]at hz;cases hz
  | code=>rw[hn]at hz;cases hz
theorem F6{T:List (List Int)}{P:List Int}{l:List Nat}(u:List Nat){p:Nat}(h:(dV T P l (p:Nat)).2.2=0):p<=(dV T P l (p:Nat)).2.1/\(dV T P l (p:Nat)).2.1<=l.length/\dV T P (l++u) (p:Nat)=dV T P l (p:Nat):=by
 unfold dV at*;by_cases h1:aP T P
 ·rw[Ng h1]at h |-;rw[Ng h1];by_cases h2:(p:Int)<0\/(l.length:Int)<(p:Int);·rw[Ng h2]at h;cases h
  ·rw[Nf h2]at h |-;rw[Nn]at h |-;rw[Nf (show ¬((p:Int)<0\/((l++u).length:Int)<(p:Int)) by rw[Nc];omega)];exact wB u _ _ _ _ (by omega) h
 ·rw[Nf h1]at h;cases h
theorem xX{l:List Nat}(u:List Nat){p:Nat}(h:(bj l p).2.2=0):p+105<=l.length/\bj (l++u) p=bj l p:=by
 unfold bj at*;by_cases h1:l.length<p+48;·rw[Ng h1]at h;cases h
 rw[Nf h1]at h |-;rw[Nf (show ¬((l++u).length<p+48) by rw[Nc];omega),dt (by omega)];by_cases h2:val ((l.drop p).take 48)≠54156738319193;·rw[Ng h2]at h;cases h
 rw[Nf h2]at h |-;rw[Nf h2];by_cases h3:l.length<p+48+32;·rw[Ng h3]at h;cases h
 rw[Nf h3]at h |-;rw[Nf (show ¬((l++u).length<p+48+32) by rw[Nc];omega)];by_cases h4:l.length<p+80+1;·rw[Ng h4]at h;cases h
 rw[Nf h4]at h |-;rw[Nf (show ¬((l++u).length<p+80+1) by rw[Nc];omega),dt (by omega)];by_cases h5:val ((l.drop (p+80)).take 1)≠0;·rw[Ng h5]at h;cases h
 rw[Nf h5]at h |-;rw[Nf h5];by_cases h6:l.length<p+81+24;·rw[Ng h6]at h;cases h
 rw[Nf h6,Nf (show ¬((l++u).length<p+81+24) by rw[Nc];omega),dt (by omega),dt (by omega)];exact⟨by omega,rfl⟩
theorem Dt{l:List Nat}(u:List Nat){sum row q:Nat}{most:Int}(h:(jD l sum row q most).2.2.2=0):q<=(jD l sum row q most).2.2.1/\(jD l sum row q most).2.2.1<=l.length/\jD (l++u) sum row q most=jD l sum row q most:=by
 unfold jD at*;dsimp only at*;by_cases h1:(S06.ao l (q:Nat)).2.2≠0;·rw[Ng h1]at h;exact absurd h h1
 have h1:=Decidable.not_not.1 h1;obtain⟨a1,b1,c1⟩:=DV u h1;rw[c1];rw[Nf (Pe h1)]at h |-;generalize S06.ao l (q:Nat)=U at*;by_cases h2:(dC l (U.2.1:Nat) ((U.1.length+2:Nat):Int)).2.2.2≠0;·rw[Ng h2]at h;exact absurd h h2
 have h2:=Decidable.not_not.1 h2;obtain⟨a2,b2,c2⟩:=DQ u h2;rw[c2];rw[Nf (Pe h2)]at h |-;generalize dC l (U.2.1:Nat) ((U.1.length+2:Nat):Int)=G at*;by_cases h3:(dV G.1 G.2.1 l (G.2.2.1:Nat)).2.2≠0;·rw[Ng h3]at h;exact absurd h h3
 have h3:=Decidable.not_not.1 h3;obtain⟨a3,b3,c3⟩:=F6 u h3;rw[c3];rw[Nf (Pe h3)]at h |-;generalize dV G.1 G.2.1 l (G.2.2.1:Nat)=C at*;generalize S07.dH (U.1.length:Nat) most (zL C.1)=D at*;by_cases h4:D.2≠0;·rw[Ng h4]at h;exact absurd h h4
 have h4:=Decidable.not_not.1 h4;rw[Nf (Pe h4)]at h |-;generalize iy (S06.cL (zL D.1) U.1).1 row=B at*;by_cases h5:B.2≠0;·rw[Ng h5]at h;exact absurd h h5
 have h5:=Decidable.not_not.1 h5;rw[Nf (Pe h5)]at h |-;generalize S03.eD [] B.1=X at*;by_cases h6:X.2≠0;·rw[Ng h6]at h;exact absurd h h6
 have h6:=Decidable.not_not.1 h6;rw[Nf (Pe h6)]at h |-;by_cases h7:S02.bW X.1≠sum;·rw[Ng h7]at h;cases h
 rw[Nf h7];exact⟨by show q<=C.2.1;omega,by show C.2.1<=l.length;omega,by rw[Nf (Pe h1),Nf (Pe h2)]⟩
theorem ll{l:List Nat}(u:List Nat){p:Nat}{most:Int}(h:(bR l (p:Nat) most).2.2.2=0):p+105<=(bR l (p:Nat) most).2.2.1/\(bR l (p:Nat) most).2.2.1<=l.length/\bR (l++u) (p:Nat) most=bR l (p:Nat) most:=by
 unfold bR at*;by_cases h1:(p:Int)<0\/(l.length:Int)<(p:Int)\/most<1\/262144<most;·rw[Ng h1]at h;cases h
 rw[Nf h1]at h |-;rw[Nn]at h |-;rw[Nf (show ¬((p:Int)<0\/((l++u).length:Int)<(p:Int)\/most<1\/262144<most) by rw[Nc];omega)];by_cases h2:(bj l p).2.2≠0;·rw[Ng h2]at h;exact absurd h h2
 have h2:=Decidable.not_not.1 h2;obtain⟨a,b⟩:=xX u h2;rw[Nf (Pe h2)]at h |-;rw[b,Nf (Pe h2)];exact Dt u h
def iH(level:Nat):Nat:=if 262144<level*100000 then 262144 else level*100000
theorem pu(level:Nat):iH level<=262144:=by unfold iH;split <;>omega
def jR(level most:Int):Prop:=1<=level/\level<=9/\1<=most/\most<=(iH level.toNat:Int)
instance (level most:Int):Decidable (jR level most):=inferInstanceAs (Decidable (_/\_))
theorem Jg(l:List UInt8)(most:Int):∀k,k<=l.length->(∃ n,S03.md l most n)\/∀m,1<=m->m<=k->((S03.aU (l.take m)).length:Int)<=most
 | 0,_=>.inr fun m h1 h2=>by omega
 | k+1,h=>by
  rcases Jg l most k (by omega)with h1|h1;·exact .inl h1
  ·by_cases h2:((S03.aU (l.take (k+1))).length:Int)<=most
   ·refine .inr fun m h3 h4=> ?_;by_cases e:m=k+1;·rw[e];exact h2
    ·exact h1 m h3 (by omega)
   ·exact .inl ⟨k,by omega,h1,fun _=>by omega⟩
theorem z9(l:List UInt8)(most:Int):∃n,S03.md l most n:=by
 rcases Jg l most l.length (ah _)with h|h;·exact h
 ·exact⟨l.length,Nm _,h,fun h2=>by omega⟩
noncomputable def jv (l:List UInt8) (most:Int):Nat:=Classical.choose (z9 l most)
theorem sc(l:List UInt8)(most:Int):S03.md l most (jv l most):=Classical.choose_spec (z9 l most)
theorem Lr{l:List UInt8}{most:Int}{n:Nat}(h:S03.md l most n):n=jv l most:=S03.Gl h (sc l most)
theorem Lp(x:UInt8):S03.aU [x]= [x]:=by
 have h1:=S03.m9 [x];have h3:=S03.qd [] x 1 (ah _) (by omega);rw[<- S03.g9]at h3;have h4:(S03.aU [x]).length<=1:=NH h1 (by simp);generalize S03.aU [x]=l at*
 match l,h3,h4 with
 | [y],h3,_=>exact congrArg (fun z=> [z]) (Om h3)
theorem tI{l:List UInt8}{most:Int}(h:l≠ [])(hm:1<=most):1<=jv l most:=by
 obtain⟨_,_,h3⟩:=sc l most;rcases NZ 0 (jv l most)with h0|h0;·exact h0
 ·exfalso;have e:jv l most=0:=by omega
  rw[e]at h3
  cases l with
  | nil=>exact h rfl
  | cons x l=>have h4:=h3 (by simp);rw[show ((x::l).take (0+1))= [x]from rfl,Lp]at h4;have h5:(([x]:List UInt8).length:Int)=1:=rfl;omega
theorem xQ(l:List UInt8)(most:Int):jv l most<=l.length:=(sc l most).1
theorem Je{l:List UInt8}{most:Int}(h:l≠ [])(hm:1<=most):((S03.aU (l.take (jv l most))).length:Int)<=most:=(sc l most).2.1 _ (tI h hm) (ah _)
noncomputable def cB (most:Int):Nat->List UInt8->List Nat×List Nat
 | 0,_=>([], [])
 | k+1,s=>if s= []then([], [])else((eM (s.take (jv s most))).1++(cB most k (s.drop (jv s most))).1,S02.bW (s.take (jv s most))::(cB most k (s.drop (jv s most))).2)
noncomputable def bf (s:List UInt8) (level:Nat) (most:Int):List Nat:=
 ai [66,90,104,UInt8.ofNat (48+level)]++(cB most s.length s).1++(ag 25779555029136 48++ag (S02.cn (cB most s.length s).2) 32)
noncomputable def l4 (s:List UInt8) (level most:Int):List UInt8×Nat:=
 if ¬jR level most then([],2)else if 262144<s.length then([],3)else(aF (bf s level.toNat most),0)
def aT(t:List UInt8):Nat×Nat:=
 if t.length<1 then(0,10)else if(t.getD 0 0).toNat≠66 then(0,130)
 else if t.length<2 then(0,10)else if(t.getD 1 0).toNat≠90 then(0,130)
 else if t.length<3 then(0,10)else if(t.getD 2 0).toNat≠104 then(0,130)
 else if t.length<4 then(0,10)else if(t.getD 3 0).toNat<49\/57<(t.getD 3 0).toNat then(0,130)
 else((t.getD 3 0).toNat-48,0)
def bh(l:List Nat)(room:Nat):Nat->Nat->List UInt8->List Nat->List UInt8×List Nat×Nat×Nat
 | 0,bit,out,sums=>(out,sums,bit,0)
 | k+1,bit,out,sums=>
   if l.length<bit+48 then([], [],0,10)
   else if val ((l.drop bit).take 48)=25779555029136 then(out,sums,bit,0)
   else if val ((l.drop bit).take 48)≠54156738319193 then([], [],0,130)
   else if(bR l (bit:Nat) (room:Nat)).2.2.2≠0 then([], [],0,(bR l (bit:Nat) (room:Nat)).2.2.2)
   else if 262144<out.length+(bR l (bit:Nat) (room:Nat)).1.length then([], [],0,3)
   else bh l room k (bR l (bit:Nat) (room:Nat)).2.2.1 (out++(bR l (bit:Nat) (room:Nat)).1) (sums++ [(bR l (bit:Nat) (room:Nat)).2.1])
theorem cT(l:List Nat)(room k bit:Nat)(out:List UInt8)(sums:List Nat):bh l room (k+1) bit out sums=
 if l.length<bit+48 then([], [],0,10)
 else if val ((l.drop bit).take 48)=25779555029136 then(out,sums,bit,0)
 else if val ((l.drop bit).take 48)≠54156738319193 then([], [],0,130)
 else if(bR l (bit:Nat) (room:Nat)).2.2.2≠0 then([], [],0,(bR l (bit:Nat) (room:Nat)).2.2.2)
 else if 262144<out.length+(bR l (bit:Nat) (room:Nat)).1.length then([], [],0,3)
 else bh l room k (bR l (bit:Nat) (room:Nat)).2.2.1 (out++(bR l (bit:Nat) (room:Nat)).1) (sums++ [(bR l (bit:Nat) (room:Nat)).2.1]):=rfl
def oS(l:List Nat)(b:List UInt8×List Nat×Nat×Nat):List UInt8×Nat×Nat:=
 if b.2.2.2≠0 then([],0,b.2.2.2)
 else if l.length<b.2.2.1+48+32 then([],0,10)
 else if val ((l.drop (b.2.2.1+48)).take 32)≠S02.cn b.2.1 then([],0,121)
 else(b.1,(b.2.2.1+80+7)/8,0)
def aK(t:List UInt8)(at':Int):List UInt8×Nat×Nat:=
 if at'<0\/(t.length:Int)<at' then([],0,2)
 else if(aT (t.drop at'.toNat)).2≠0 then([],0,(aT (t.drop at'.toNat)).2)
 else oS (ai t) (bh (ai t) (iH (aT (t.drop at'.toNat)).1) (ai t).length (8*at'.toNat+32) [] [])
def lT(t:List UInt8):Nat->Nat->List UInt8->List UInt8×Nat
 | 0,_,out=>(out,0)
 | k+1,a,out=>
   if(aK t (a:Nat)).2.2≠0 then([],(aK t (a:Nat)).2.2)
   else if 262144<out.length+(aK t (a:Nat)).1.length then([],3)
   else if(aK t (a:Nat)).2.1<t.length then lT t k (aK t (a:Nat)).2.1 (out++(aK t (a:Nat)).1)
   else(out++(aK t (a:Nat)).1,0)
theorem pD(t:List UInt8)(k a:Nat)(out:List UInt8):lT t (k+1) a out=
 if(aK t (a:Nat)).2.2≠0 then([],(aK t (a:Nat)).2.2)
 else if 262144<out.length+(aK t (a:Nat)).1.length then([],3)
 else if(aK t (a:Nat)).2.1<t.length then lT t k (aK t (a:Nat)).2.1 (out++(aK t (a:Nat)).1)
 else(out++(aK t (a:Nat)).1,0):=rfl
def nt(t:List UInt8):List UInt8×Nat:=lT t (t.length+1) 0 []
theorem bg{l u:List UInt8}{i:Nat}(h:i<l.length):(l++u).getD i 0=l.getD i 0:=by rw[Nb,NT h,Nb]
theorem nS{t:List UInt8}(u:List UInt8)(h:(aT t).2=0):4<=t.length/\aT (t++u)=aT t/\1<=(aT t).1/\(aT t).1<=9:=by
 have key:4<=t.length:=by
  unfold aT at h;by_cases h1:t.length<1;·rw[Ng h1]at h;cases h
  rw[Nf h1]at h;by_cases h2:(t.getD 0 0).toNat≠66;·rw[Ng h2]at h;cases h
  rw[Nf h2]at h;by_cases h3:t.length<2;·rw[Ng h3]at h;cases h
  rw[Nf h3]at h;by_cases h4:(t.getD 1 0).toNat≠90;·rw[Ng h4]at h;cases h
  rw[Nf h4]at h;by_cases h5:t.length<3;·rw[Ng h5]at h;cases h
  rw[Nf h5]at h;by_cases h6:(t.getD 2 0).toNat≠104;·rw[Ng h6]at h;cases h
  rw[Nf h6]at h;by_cases h7:t.length<4;·rw[Ng h7]at h;cases h
  omega
 have e:aT (t++u)=aT t:=by unfold aT;rw[bg (by omega),bg (by omega),bg (by omega),bg (by omega),Nc];(have k1:∀k,k<=4->(t.length+u.length<k)=(t.length<k):=fun k hk=>by apply propext;constructor <;>intro _ <;>omega);simp only[k1 1 (by omega),k1 2 (by omega),k1 3 (by omega),k1 4 (by omega)]
 refine⟨key,e,?_⟩;unfold aT at h |-;rw[Nf (show ¬t.length<1 by omega)]at h |-;by_cases h2:(t.getD 0 0).toNat≠66;·rw[Ng h2]at h;cases h
 rw[Nf h2]at h |-;rw[Nf (show ¬t.length<2 by omega)]at h |-;by_cases h4:(t.getD 1 0).toNat≠90;·rw[Ng h4]at h;cases h
 rw[Nf h4]at h |-;rw[Nf (show ¬t.length<3 by omega)]at h |-;by_cases h6:(t.getD 2 0).toNat≠104;·rw[Ng h6]at h;cases h
 rw[Nf h6]at h |-;rw[Nf (show ¬t.length<4 by omega)]at h |-;by_cases h8:(t.getD 3 0).toNat<49\/57<(t.getD 3 0).toNat;·rw[Ng h8]at h;cases h
 rw[Nf h8];show 1<=(t.getD 3 0).toNat-48/\(t.getD 3 0).toNat-48<=9;omega
theorem oD{l:List Nat}(u:List Nat){room:Nat}:∀(k k' bit:Nat) (out:List UInt8) (sums:List Nat),k<=k'->(bh l room k bit out sums).2.2.2=0->(bh l room k bit out sums).2.2.1+48<=l.length->l.length<bit+105*k+48->
 bit<=(bh l room k bit out sums).2.2.1/\bh (l++u) room k' bit out sums=bh l room k bit out sums
 | 0,_,bit,out,sums,_,_,h,h2=>by have h3:bit+48<=l.length:=h;omega
 | k+1,k',bit,out,sums,hk,hz,h,h2=>by
  obtain⟨k',rfl⟩:∃j,k'=j+1:=⟨k'-1,by omega⟩;rw[cT]at hz h |-;rw[cT];by_cases h3:l.length<bit+48;·rw[Ng h3]at hz;cases hz
  rw[Nf h3]at hz h |-;rw[Nf (show ¬(l++u).length<bit+48 by rw[Nc];omega),dt (by omega)];by_cases h4:val ((l.drop bit).take 48)=25779555029136;·rw[Ng h4,Ng h4];exact⟨Nm _,rfl⟩
  rw[Nf h4]at hz h |-;rw[Nf h4];by_cases h5:val ((l.drop bit).take 48)≠54156738319193;·rw[Ng h5]at hz;cases hz
  rw[Nf h5]at hz h |-;rw[Nf h5];by_cases h6:(bR l (bit:Nat) (room:Nat)).2.2.2≠0;·rw[Ng h6]at hz;exact absurd hz h6
  obtain⟨a,b,c⟩:=ll u (Decidable.not_not.1 h6);rw[Nf h6]at hz h |-;rw[c,Nf h6];by_cases h7:262144<out.length+(bR l (bit:Nat) (room:Nat)).1.length;·rw[Ng h7]at hz;cases hz
  rw[Nf h7]at hz h |-;rw[Nf h7];obtain⟨d,e⟩:=oD u k k' _ _ _ (by omega) hz h (by omega);exact⟨by omega,e⟩
theorem DU{t:List UInt8}(u:List UInt8){p:Nat}(h:(aK t (p:Nat)).2.2=0):p+14<=(aK t (p:Nat)).2.1/\(aK t (p:Nat)).2.1<=t.length/\aK (t++u) (p:Nat)=aK t (p:Nat):=by
 unfold aK at*;by_cases h1:(p:Int)<0\/(t.length:Int)<(p:Int);·rw[Ng h1]at h;cases h
 rw[Nf h1]at h |-;rw[Nn]at h |-;rw[Nf (show ¬((p:Int)<0\/((t++u).length:Int)<(p:Int)) by rw[Nc];omega)];rw[OA (by omega)];by_cases h2:(aT (t.drop p)).2≠0;·rw[Ng h2]at h;exact absurd h h2
 obtain⟨h4,he,_,_⟩:=nS u (Decidable.not_not.1 h2);rw[Nq]at h4;rw[Nf h2]at h |-;rw[he,Nf h2,fw];have hl:(ai t).length=8*t.length:=aq t;generalize ai t=l at*;generalize iH (aT (t.drop p)).1=room at*;have hk:=fun hz hb=>oD (l:=l) (ai u) (room:=room) l.length (l++ai u).length (8*p+32) [] [] (by rw[Nc];omega) hz hb (by omega);generalize bh l room l.length (8*p+32) [] []=b at*;unfold oS at*;by_cases h5:b.2.2.2≠0;·rw[Ng h5]at h;exact absurd h h5
 rw[Nf h5]at h |-;by_cases h6:l.length<b.2.2.1+48+32;·rw[Ng h6]at h;cases h
 rw[Nf h6]at h |-;obtain⟨h7,h8⟩:=hk (Decidable.not_not.1 h5) (by omega);rw[h8,Nf h5,Nf (show ¬(l++ai u).length<b.2.2.1+48+32 by rw[Nc];omega),dt (by omega)];by_cases h9:val ((l.drop (b.2.2.1+48)).take 32)≠S02.cn b.2.1;·rw[Ng h9]at h;cases h
 rw[Nf h9];refine⟨?_,?_,rfl⟩;·show p+14<=(b.2.2.1+80+7)/8;omega
 ·show(b.2.2.1+80+7)/8<=t.length;omega
theorem gm(most:Int)(k:Nat)(s:List UInt8)(h:s≠ []):cB most (k+1) s=((eM (s.take (jv s most))).1++(cB most k (s.drop (jv s most))).1,S02.bW (s.take (jv s most))::(cB most k (s.drop (jv s most))).2):=Nf h
theorem fc(most:Int)(k:Nat):cB most k []=([], []):=by
 cases k with
 | zero=>rfl
 | succ k=>exact Ng rfl
theorem jV(most:Int):∀(k:Nat) (s:List UInt8),am (cB most k s).1
 | 0,_=>fun b hb=>by cases hb
 | k+1,s=>by
  by_cases h:s= [];·rw[h,fc];exact fun b hb=>by cases hb
  ·rw[gm most k s h];exact(vM _).append (jV most k _)
theorem lL(most:Int):∀(k:Nat) (s:List UInt8) (x:Nat),x∈(cB most k s).2->x<4294967296
 | 0,_,_,h=>absurd h ar
 | k+1,s,x,hx=>by
  by_cases h:s= [];·rw[h,fc]at hx;exact absurd hx ar
  ·rw[gm most k s h]at hx;rcases List.mem_cons.1 hx with e|hx;·rw[e];exact S02.oE _
   ·exact lL most k _ x hx
theorem vr(s:List UInt8):∃X,cP s=ag 54156738319193 48++X:=⟨ag (S02.bW s) 32++(ag (mO (S03.aU s)) 25++(S06.dZ (S06.ofL (S03.aU s))++gH (S03.aU s))),by unfold cP fF;simp only[Ni]⟩
theorem D5(B:List Nat)(x n:Nat)(h:x<2^n)(R:List Nat):val (((B++(ag x n++R)).drop B.length).take n)=x:=by rw[Pw];exact lf x n h R
theorem qY(w:World)(most:Int)(hm:1<=most)(room:Nat)(hr:most<=room)(h8:room<=262144)(R:List Nat)(hR:am R):
 ∀(k:Nat) (s:List UInt8) (B:List Nat) (fuel:Nat) (out:List UInt8) (sums:List Nat),s.length<=k->out.length+s.length<=262144->
  (B++((cB most k s).1++(ag 25779555029136 48++R))).length<B.length+105*fuel+48->
  bh (B++((cB most k s).1++(ag 25779555029136 48++R))) room fuel B.length out sums=(out++s,sums++(cB most k s).2,B.length+(cB most k s).1.length,0)
 | 0,s,B,fuel,out,sums,hk,ho,hf=>by have hs:s= []:=Nw (by omega);subst hs;rw[fc,NX]at*;have h2:(B++(ag 25779555029136 48++R)).length=B.length+48+R.length:=(by rw[Nc,Nc,af];omega);obtain⟨f,rfl⟩:∃f,fuel=f+1:=⟨fuel-1,by omega⟩;rw[cT,Nf (by omega),Ng (D5 B _ 48 (by omega) R)];simp
 | k+1,s,B,fuel,out,sums,hk,ho,hf=>by
  by_cases hs:s= [];·subst hs;rw[fc,NX]at*;have h2:(B++(ag 25779555029136 48++R)).length=B.length+48+R.length:=(by rw[Nc,Nc,af];omega);obtain⟨f,rfl⟩:∃f,fuel=f+1:=⟨fuel-1,by omega⟩;rw[cT,Nf (by omega),Ng (D5 B _ 48 (by omega) R)];simp
  ·rw[gm most k s hs]at hf |-;have hb:=tI hs hm;have hc:=xQ s most;have ha:=Je hs hm;generalize jv s most=n at*;have htl:(s.take n).length=n:=(by rw[Nz];omega);(have h1:s.take n≠ []:=fun e=>by rw[e]at htl;simp at htl;omega);have h7:(s.drop n).length=s.length-n:=Nq;have ePut:(eM (s.take n)).1=cP (s.take n):=(by unfold eM;rw[Nf h1,Nf (by omega)]);have h3:=Fb w h1 (show(S03.aU (s.take n)).length<=262144 by omega);obtain⟨X,hX⟩:=vr (s.take n);obtain⟨Y,hY⟩:∃Y,Y=(cB most k (s.drop n)).1:=⟨_,rfl⟩;obtain⟨P,hP⟩:∃P,P=(eM (s.take n)).1:=⟨_,rfl⟩;have h4:am Y:=(by rw[hY];exact jV most k _);obtain⟨Z,hZ⟩:∃Z,Z=Y++(ag 25779555029136 48++R):=⟨_,rfl⟩;have h5:am Z:=(by rw[hZ];exact h4.append ((aB _ _).append hR));have h0:=sS w h1 (by omega) (by omega) B Z h5 room (by omega) (by omega);rw[Ng (by omega),<-hP]at h0;dsimp only at hf |-;rw[<- hP,<-hY]at hf |-;rw[<- hP]at h3;have eL:B++(P++Y++(ag 25779555029136 48++R))=B++P++Z:=(by rw[hZ];simp only[Ni]);rw[eL]at hf |-;have h2:(B++P++Z).length=B.length+P.length+Z.length:=(by rw[Nc,Nc]);have h6:(B++P).length=B.length+P.length:=Nc;have h9:48<=Z.length:=(by rw[hZ,Nc,Nc,af];omega);obtain⟨f,rfl⟩:∃f,fuel=f+1:=⟨fuel-1,by omega⟩;have hv:val (((B++P++Z).drop B.length).take 48)=54156738319193:=(by rw[hP,ePut,hX,show B++(ag 54156738319193 48++X)++Z=B++(ag 54156738319193 48++(X++Z)) by simp only[Ni]];exact D5 B _ 48 (by omega) _);rw[cT,Nf (by omega),hv,Nf (by omega),Nf (by simp),h0];dsimp only;rw[Nf (by omega),Nf (by rw[htl];omega)]
   have ih:=qY w most hm room hr h8 R hR k (s.drop n) (B++P) f (out++s.take n) (sums++ [S02.bW (s.take n)]) (by omega) (by rw[Nc,htl,h7];omega) (by
    rw[<- hY,<-hZ,h6]
    omega)
   rw[<- hY,<-hZ,h6]at ih;rw[ih];simp only[Ni,OF,Nc,List.singleton_append,OL]
theorem iT(level:Nat):(ai [66,90,104,UInt8.ofNat (48+level)]).length=32:=by rw[aq];rfl
theorem lZ(s:List UInt8)(level:Nat)(most:Int):(bf s level most).length=112+(cB most s.length s).1.length:=by unfold bf;simp only[Nc,iT,af];omega
theorem xG(s:List UInt8)(level:Nat)(most:Int):am (bf s level most):=by unfold bf;exact((aG _).append (jV most _ _)).append ((aB _ _).append (aB _ _))
theorem ur(a:List UInt8)(l:List Nat)(h:am l):∃r,aF (ai a++l)=a++r:=by have hb:=lq (ai a++l) ((aG a).append h);obtain⟨Q,hQ⟩:∃Q,Q=aF (ai a++l):=⟨_,rfl⟩;rw[<- hQ]at hb |-;have h0:a.length<=Q.length:=(by rw[hQ,db,Nc,aq];omega);have e1:ai (Q.take a.length)++ai (Q.drop a.length)=ai a++(l++List.replicate (8*(((ai a++l).length+7)/8)-(ai a++l).length) 0):=(by rw[<- fw,OF,hb,Ni]);have e2:=(List.append_inj e1 (by rw[aq,aq,Nz,Oh h0])).1;have e3:Q.take a.length=a:=(by rw[<- uq (Q.take a.length),e2,uq]);exact⟨Q.drop a.length,by rw[<- e3,Nz,Oh h0];exact(OF _ _).symm⟩
theorem CH(x:UInt8)(r:List UInt8)(h1:49<=x.toNat)(h2:x.toNat<=57):aT ([66,90,104,x]++r)=(x.toNat-48,0):=by have hl:([66,90,104,x]++r).length=r.length+4:=(by simp);unfold aT;rw[hl,Nf (show ¬r.length+4<1 by omega),Nf (show ¬(([66,90,104,x]++r).getD 0 0).toNat≠66 by simp),Nf (show ¬r.length+4<2 by omega),Nf (show ¬(([66,90,104,x]++r).getD 1 0).toNat≠90 by simp),Nf (show ¬r.length+4<3 by omega),Nf (show ¬(([66,90,104,x]++r).getD 2 0).toNat≠104 by simp),Nf (show ¬r.length+4<4 by omega)];have e:([66,90,104,x]++r).getD 3 0=x:=rfl;rw[e,Nf (by omega)]
theorem CI{level:Nat}(h1:1<=level)(h2:level<=9)(r:List UInt8):aT ([66,90,104,UInt8.ofNat (48+level)]++r)=(level,0):=by have e:(UInt8.ofNat (48+level)).toNat=48+level:=UInt8.toNat_ofNat_of_lt' (show 48+level<256 by omega);rw[CH _ r (by omega) (by omega),e,show 48+level-48=level by omega]
theorem Bk(w:World){s:List UInt8}{level most:Int}(hl:jR level most)(hs:s.length<=262144)(pre post:List UInt8):
 aK (pre++aF (bf s level.toNat most)++post) (pre.length:Nat)=(s,pre.length+(aF (bf s level.toNat most)).length,0):=by
 obtain⟨h1,h2,h3,h4⟩:=hl;obtain⟨lv,rfl⟩:∃lv:Nat,level=lv:=⟨level.toNat,by omega⟩;rw[Nn]at*;have h7:=pu lv;obtain⟨S,hS⟩:∃S,S=ag (S02.cn (cB most s.length s).2) 32:=⟨_,rfl⟩;obtain⟨Y,hY⟩:∃Y,Y=(cB most s.length s).1:=⟨_,rfl⟩;obtain⟨F,hF⟩:∃F,F=ai [66,90,104,UInt8.ofNat (48+lv)]:=⟨_,rfl⟩;have hh:F.length=32:=by rw[hF,iT]
 have hi:S.length=32:=by rw[hS,af]
 have h8:am Y:=by rw[hY];exact jV most _ _
 have h5:am S:=by rw[hS];exact aB _ _
 have hc:bf s lv most=F++(Y++(ag 25779555029136 48++S)):=by unfold bf;rw[<- hF,<-hY,<-hS,Ni]
 obtain⟨T,hT⟩:∃T,T=aF (bf s lv most):=⟨_,rfl⟩;have h0:∃r,T= [66,90,104,UInt8.ofNat (48+lv)]++r:=by rw[hT,hc,hF];exact ur _ _ (h8.append ((aB _ _).append h5))
 obtain⟨r,hr⟩:=h0;have hf:=lq (bf s lv most) (xG s lv most);have hj:T.length=((bf s lv most).length+7)/8:=by rw[hT,db]
 rw[<- hT]at hf |-;obtain⟨Z,hZ⟩:∃Z,Z=List.replicate (8*(((bf s lv most).length+7)/8)-(bf s lv most).length) 0++ai post:=⟨_,rfl⟩;have h9:am Z:=by rw[hZ];refine am.append (fun b hb=> ?_) (aG post);rw[(List.mem_replicate.1 hb).2];omega
 have h6:ai (pre++T++post)=(ai pre++F)++(Y++(ag 25779555029136 48++(S++Z))):=by rw[fw,fw,hf,hc,hZ,hc];simp only[Ni]
 have hB:(ai pre++F).length=8*pre.length+32:=by rw[Nc,aq,hh]
 unfold aK
 rw[Nf (by
  rintro(h|h)
  ·omega
  ·rw[Nc,Nc]at h
   omega),Nn]
 have hd:(pre++T++post).drop pre.length= [66,90,104,UInt8.ofNat (48+lv)]++(r++post):=by rw[Ni,Pw,hr,Ni]
 rw[hd,CI (by omega) (by omega),Nf (by simp),h6];dsimp only
 have hg:=qY w most h3 (iH lv) h4 h7 (S++Z) (h5.append h9) s.length s (ai pre++F) ((ai pre++F)++(Y++(ag 25779555029136 48++(S++Z)))).length [] [] (ah _) (by simpa using hs) (by
  rw[<- hY]
  omega)
 rw[<- hY,hB,NX,NX]at hg;rw[hg];have ha:((ai pre++F)++(Y++(ag 25779555029136 48++(S++Z)))).length=8*pre.length+32+Y.length+48+32+Z.length:=by rw[Nc,hB];simp only[Nc,af,hi];omega
 have he:val ((((ai pre++F)++(Y++(ag 25779555029136 48++(S++Z)))).drop (8*pre.length+32+Y.length+48)).take 32)=S02.cn (cB most s.length s).2:=by have e:(ai pre++F)++(Y++(ag 25779555029136 48++(S++Z)))=((ai pre++F)++(Y++ag 25779555029136 48))++(S++Z):=(by simp only[Ni]);have e2:((ai pre++F)++(Y++ag 25779555029136 48)).length=8*pre.length+32+Y.length+48:=(by rw[Nc,hB,Nc,af];omega);rw[e,<-e2,Pw,hS];exact lf _ 32 (S02.lK _ fun x hx=>lL most _ _ x hx) _
 have hk:(bf s lv most).length=112+Y.length:=by rw[lZ,<-hY]
 unfold oS;dsimp only;rw[Nf (by omega),ha,Nf (by omega),he,Nf (by simp),hj,hk];rw[show (8*pre.length+32+Y.length+80+7)/8=pre.length+(112+Y.length+7)/8 by omega]
theorem D4(w:World){s:List UInt8}{level most:Int}(hl:jR level most)(hs:s.length<=262144):nt (aF (bf s level.toNat most))=(s,0):=by have h:=Bk w hl hs [] [];rw[NX,NR]at h;have h2:aK (aF (bf s level.toNat most)) ((0:Nat):Int)=(s,(aF (bf s level.toNat most)).length,0):=(by rw[show (([]:List UInt8).length)=0 from rfl,N8]at h;exact h);unfold nt;rw[pD,h2];dsimp only;rw[Nf (by simp),Nf (by simp;omega),Nf (by omega),NX]
theorem rT:nt []=([],10):=by decide +kernel
theorem G4(w:World)(lv:Nat)(h:lv<=1000000):Calls prog 25 #[.int .i64 lv] w fun e w'=>e=.returned (.int .i64 (iH lv))/\w'=w:=by
 obtain⟨p,hp⟩:∃p,p=lv*100000:=⟨_,rfl⟩;have h2:(lv:Int)*100000=(p:Int):=by omega
 have h1:p<=100000000000:=by omega
 have h0:iH lv=if 262144<p then 262144 else p:=by rw[hp];rfl
 have HA:=aa h0;clear h0 hp h;go_enter func25,ntmps25;by_cases e:262144<p;·have d0:decide ((262144:Int)<(p:Int))=true:=aX (by omega);go_wp2_with fail;go_ret;rw[HA.out,Ng e];exact⟨rfl,rfl⟩
 ·have d0:decide ((262144:Int)<(p:Int))=false:=aD (by omega);go_wp2_with fail;go_ret;rw[HA.out,Nf e];exact⟨rfl,rfl⟩
def EM(j:Nat):Nat:=([66,90,104]:List Nat).getD j 0
def sB(l:List UInt8)(i:Nat):Prop:=i<=l.length/\∀j,j<i->(l.getD j 0).toNat=EM j
theorem CJ{l:List UInt8}{i:Nat}(h:sB l i)(hi:i<3)(hl:l.length<=i):aT l=(0,10):=by
 have h1:=h.1;have e:l.length=i:=by omega
 have:i=0\/i=1\/i=2:=by omega
 unfold aT;rcases this with rfl|rfl|rfl;·rw[Ng (by omega)]
 ·have q0:(l.getD 0 0).toNat=66:=h.2 0 (by omega);rw[Nf (by omega),Nf (by omega),Ng (by omega)]
 ·have q0:(l.getD 0 0).toNat=66:=h.2 0 (by omega);have q1:(l.getD 1 0).toNat=90:=h.2 1 (by omega);rw[Nf (by omega),Nf (by omega),Nf (by omega),Nf (by omega),Ng (by omega)]
theorem CL{l:List UInt8}{i:Nat}(h:sB l i)(hi:i<3)(hl:i<l.length)(hw:(l.getD i 0).toNat≠EM i):aT l=(0,130):=by
 have:i=0\/i=1\/i=2:=by omega
 unfold aT;rcases this with rfl|rfl|rfl;·have hw:(l.getD 0 0).toNat≠66:=hw;rw[Nf (by omega),Ng hw]
 ·have q0:(l.getD 0 0).toNat=66:=h.2 0 (by omega);have hw:(l.getD 1 0).toNat≠90:=hw;rw[Nf (by omega),Nf (by omega),Nf (by omega),Ng hw]
 ·have q0:(l.getD 0 0).toNat=66:=h.2 0 (by omega);have q1:(l.getD 1 0).toNat=90:=h.2 1 (by omega);have hw:(l.getD 2 0).toNat≠104:=hw;rw[Nf (by omega),Nf (by omega),Nf (by omega),Nf (by omega),Nf (by omega),Ng hw]
theorem CK{l:List UInt8}(h:sB l 3):aT l=if l.length<4 then(0,10)else if(l.getD 3 0).toNat<49\/57<(l.getD 3 0).toNat then(0,130)else((l.getD 3 0).toNat-48,0):=by have h1:=h.1;have q0:(l.getD 0 0).toNat=66:=h.2 0 (by omega);have q1:(l.getD 1 0).toNat=90:=h.2 1 (by omega);have q2:(l.getD 2 0).toNat=104:=h.2 2 (by omega);unfold aT;rw[Nf (by omega),Nf (by omega),Nf (by omega),Nf (by omega),Nf (by omega),Nf (by omega)]
theorem KP(i:Nat)(h:i<3):(((⟨#[66,90,104]⟩:ByteArray)[i]'h).toNat:Nat)=EM i:=by have:i=0\/i=1\/i=2:=(by omega);rcases this with rfl|rfl|rfl <;>rfl
theorem sU(t:ByteArray)(i:Nat)(h:i<t.size):(t.data.toList.getD i 0)=t[i]:=by rw[Nb,Nd (by show i<t.size;exact h)];rfl
theorem uH(w:World)(t:ByteArray):Calls prog 38 #[.string t] w fun e w'=>e=.returned (.tuple #[.int .i64 (aT t.data.toList).1,.int .i64 (aT t.data.toList).2])/\Below w.heap.size w w':=by
 have h5:t.data.toList.length=t.size:=rfl;have h3:=aa h5;have HP:Hid (∀ (a b:Nat) (w':World),aT t.data.toList=(a,b)->Below w.heap.size w w'->(fun e w'=>e=Ending.returned (.tuple #[.int .i64 (aT t.data.toList).1,.int .i64 (aT t.data.toList).2])/\Below w.heap.size w w') (.returned (.tuple #[.int .i64 a,.int .i64 b])) w'):=aa fun a b w' h hb=>⟨by rw[h],hb⟩;generalize (fun e w'=>e=Ending.returned (.tuple #[.int .i64 (aT t.data.toList).1,.int .i64 (aT t.data.toList).2])/\Below w.heap.size w w')=PO at*;clear h5;go_enter func38,ntmps38;go_wp2_with fail;go_loopw [5] (fun i wx=>∃k:Nat,k<=3/\i=.int .i64 k/\Hid (sB t.data.toList k)/\Below w.heap.size w wx) (fun i _=>3-(intOf i).toNat)
 case atStart=>exact⟨0,Nh _,rfl,aa ⟨Nh _,fun j hj=>by omega⟩,Nj _ _⟩
 case round=>
  obtain⟨k,hk,rfl,hg,h4⟩:=hrel;have h1:=aa h4;clear h4;by_cases e:k<3
  ·have d0:decide ((k:Int)<3)=true:=aX (by omega);by_cases e2:k<t.size
   ·have d1:decide ((t.size:Int)<=(k:Int))=false:=aD (by omega);have hz:(k:Int)<t.size:=(by omega);have g1:=sU t k e2;have g2:=KP k e;have h9:(k:Int)<3:=(by omega);by_cases e3:(t[k]).toNat=EM k
    ·have d2:((((t[k]).toNat:Nat):Int) != ((((⟨#[66,90,104]⟩:ByteArray)[k]'e).toNat:Nat):Int))=false:=by rw[g2,e3];exact bne_self_eq_false _
     have HG:=aa (show sB t.data.toList (k+1)from⟨by rw[h3.out];omega,fun j hj=>by
      by_cases ej:j=k
      ·rw[ej,g1,e3]
      ·exact hg.out.2 j (by omega)⟩)
     clear g1 g2 e3 hg;go_wp2_with fail;go_region;go_wp2_with fail;go_roundw;case rel=>exact⟨k+1,by omega,by go_num,HG,h1.out.drew⟩
     case measure=>simp[intOf];omega
    ·have d2:((((t[k]).toNat:Nat):Int) != ((((⟨#[66,90,104]⟩:ByteArray)[k]'e).toNat:Nat):Int))=true:=(by rw[g2];exact bne_iff_ne.2 (by omega));have HW:=aa (CL hg.out e (by rw[h3.out];exact e2) (by rw[g1];exact e3));clear g1 g2 e3 hg;go_wp2_with fail;go_region;go_wp2_with fail;exact HP.out 0 130 _ HW.out h1.out.drew
   ·have d1:decide ((t.size:Int)<=(k:Int))=true:=aX (by omega);have HW:=aa (CJ hg.out e (by rw[h3.out];omega));clear hg;go_wp2_with fail;exact HP.out 0 10 _ HW.out h1.out
  ·obtain rfl:k=3:=(by omega);have h0:=CK hg.out;rw[h3.out]at h0;clear hg;by_cases e4:t.size<4;·have d1:decide ((t.size:Int)<4)=true:=aX (by omega);rw[Ng e4]at h0;have HW:=aa h0;clear h0;go_wp2_with fail;exact HP.out 0 10 _ HW.out h1.out
   ·have d1:decide ((t.size:Int)<4)=false:=aD (by omega);have g3:=sU t 3 (by omega);have hz:(3:Int)<t.size:=(by omega);rw[Nf e4,g3]at h0;have hx:(t[3]'(by omega)).toNat<256:=Pr _;obtain⟨x,h2⟩:∃x,x=(t[3]'(by omega)).toNat:=⟨_,rfl⟩;rw[<- h2]at h0 hx;have h6:=aa h2.symm;by_cases e5:x<49;·have d2:decide (((t[3]'(by omega)).toNat:Int)<49)=true:=aX (by omega);rw[Ng (.inl e5)]at h0;have HW:=aa h0;clear h0 h2 g3;go_wp2_with fail;exact HP.out 0 130 _ HW.out h1.out
    ·have d2:decide (((t[3]'(by omega)).toNat:Int)<49)=false:=aD (by omega);by_cases e6:57<x;·have d3:decide ((57:Int)<((t[3]'(by omega)).toNat:Int))=true:=aX (by omega);rw[Ng (.inr e6)]at h0;have HW:=aa h0;clear h0 h2 g3;go_wp2_with fail;exact HP.out 0 130 _ HW.out h1.out
     ·have d3:decide ((57:Int)<((t[3]'(by omega)).toNat:Int))=false:=aD (by omega);rw[Nf (by omega)]at h0;have HW:=aa h0;obtain⟨y,hy⟩:∃y,y=x-48:=⟨_,rfl⟩;have h8:((t[3]'(by omega)).toNat:Int)-48=(y:Int):=(by omega);have h7:y<=9:=(by omega);rw[<- hy]at HW;clear h0 h2 g3 hy;go_wp2_with fail;exact HP.out y 0 _ HW.out h1.out
def bU(w:World)(ans:List UInt8×Nat×Nat)(e:Ending)(w':World):Prop:=e=.returned (.tuple #[.string (S06.bq ans.1),.int .i64 ans.2.1,.int .i64 ans.2.2])/\Below w.heap.size w w'
def iw(w:World)(ans:List UInt8×Nat)(e:Ending)(w':World):Prop:=e=.returned (.tuple #[.string (S06.bq ans.1),.int .i64 ans.2])/\Below w.heap.size w w'
theorem qX(l:List Nat)(room:Nat):∀(k bit:Nat) (out:List UInt8) (sums:List Nat),out.length<=262144->(bh l room k bit out sums).1.length<=262144
 | 0,_,_,_,h=>h
 | k+1,bit,out,sums,h=>by
  rw[cT];split;·exact Nh _
  split;·exact h
  split;·exact Nh _
  split;·exact Nh _
  split;·exact Nh _
  ·exact qX l room k _ _ _ (by rw[Nc];omega)
theorem Hu(t:List UInt8)(a:Int):(aK t a).1.length<=262144:=by
 unfold aK;split;·exact Nh _
 split;·exact Nh _
 ·unfold oS;split;·exact Nh _
  split;·exact Nh _
  split;·exact Nh _
  ·exact qX _ _ _ _ _ _ (Nh _)
theorem Ku(S:ByteArray)(l:List UInt8):S++S06.bq l=S06.bq (S.data.toList++l):=by apply QN;simp[S06.bq]
theorem nr(l:List UInt8):(S06.bq l).data.toList=l:=rfl
theorem qI(l:List UInt8):(S06.bq l).size=l.length:=rfl
def wv(n:Nat):Value:=.int .u32 n
theorem gF{w:World}{B n:Nat}{v:Value}{L:List Nat}(h:w.ownsRow B 52 1 v n (L.map wv)):∃A c,v=.slice A n c/\n<=c/\c<=maxLen/\S02.xz w A n L:=by
 obtain⟨A,c,rfl,hc,hm,hA⟩:=ak h;have hl:L.length=n:=by have:=h.1;simpa using this
 refine⟨A,c,rfl,hc,hm,hl,fun h0=> ?_⟩;obtain⟨g,rfl⟩:=hA h0;refine⟨g,0,rfl,fun i hi=> ?_⟩
 have h1:=h.cells (g:=g) rfl i (wv (L.getD i 0)) (by
  rw[Np,Nb,Nd (by omega)]
  rfl)
 have e:(⟨g,0,none⟩:Addr).add i=⟨g,0+i,none⟩:=by unfold Addr.add;split <;>simp_all
 rw[e]at h1;exact h1
theorem Aj:∃i,prog.info? 52=some i/\i.zero=some (.int .u32 0)/\i.size=1/\i.bytes=4:=by
 have h0:(prog.info? 52).map (·.zero)=some (some (.int .u32 0)):=by kernel_rfl
 have h1:(prog.info? 52).map (·.size)=some 1:=by kernel_rfl
 have h2:(prog.info? 52).map (·.bytes)=some 4:=by kernel_rfl
 cases hq:prog.info? 52 with
 | none=>simp[hq]at h1
 | some i=>exact⟨i,rfl,by simpa [hq]using h0,by simpa [hq]using h1,by simpa [hq]using h2⟩
theorem KQ(w:World)(B:Nat)(v:Value)(n:Nat)(L:List Nat)(h:w.ownsRow B 52 1 v n (L.map wv))(x:Nat)(hn:n<=1000000)(hB:B<=w.heap.size):
 ∃v2 w2,(Builtin.append_ #[46,46] 46 #[v,.slice (some ⟨w.heap.size,0,none⟩) 1 1]).run prog (w.alloc (.cells #[.int .u32 x] 52))=.ok v2 w2/\
  w2.ownsRow B 52 1 v2 (n+1) ((L++ [x]).map wv)/\Below B w w2:=by
 obtain⟨i3,h3,h0,h1,h2⟩:=Aj
 obtain⟨v2,w2,hr,ho,hg,_,h4⟩:=Qz (P:=prog) (w.alloc (.cells #[.int .u32 x] 52)) B 46 46 52 i3 (.int .u32 0) 1 4 underlying46 h3 h0 h1 h2 rfl (by decide) _ _ _ (h.alloc _) ⟨w.heap.size,0,none⟩ 1 1 [wv x] rfl (bn w (wv x) 52)
  (fun u hu=>by rw[List.mem_singleton.1 hu];rfl) (by unfold maxLen;omega) (by omega) (by simp;omega)
 refine⟨v2,w2,hr,by rw[NF];exact ho,?_⟩;refine((Nj B w).alloc hB _).grown hg (by simp;omega) fun k hk=> ?_;rcases h.2 with⟨rfl,_⟩|⟨g,cap,cur,rfl,h5,_⟩;·cases hk
 ·have:g=k:=(by simpa [Value.ownBlock]using hk);omega
theorem DD(w:World)(t:ByteArray)(at':Int)(_hs:t.size<=125000)(h:at'<0\/(t.size:Int)<at'):Calls prog 14 #[.string t,.int .i64 at'] w (bU w (aK t.data.toList at')):=by
 have h0:aK t.data.toList at'=([],0,2):=Ng h;rw[h0];have HP:Hid (bU w ([],0,2) (.returned (.tuple #[.string ⟨#[]⟩,.int .i64 0,.int .i64 2])) w):=aa ⟨rfl,Nj _ _⟩;generalize bU w ([],0,2)=PO at*;clear h0;by_cases h1:at'<0;·have d0:decide (at'<0)=true:=No h1;clear h;go_enter func14,ntmps14;go_wp2_with fail;go_ret3;exact HP.out
 ·have d0:decide (at'<0)=false:=Nk h1;have d1:decide ((t.size:Int)<at')=true:=aX (by omega);clear h;go_enter func14,ntmps14;go_wp2_with fail;go_ret3;exact HP.out
theorem Ba(w:World)(t:ByteArray)(a:Nat)(_:t.size<=125000)(ha:a<=t.size)(h:(aT (t.data.toList.drop a)).2≠0):Calls prog 14 #[.string t,.int .i64 a] w (bU w (aK t.data.toList (a:Nat))):=by have h2:t.data.toList.length=t.size:=rfl;have h0:aK t.data.toList (a:Nat)=([],0,(aT (t.data.toList.drop a)).2):=(by unfold aK;rw[Nf (by rw[h2];omega),Nn,Ng h]);rw[h0];have HC:=uH w (t.extract a t.size);rw[S03.eP]at HC;generalize aT (t.data.toList.drop a)=ans at*;obtain⟨x,k⟩:=ans;have h4:Hid (Calls prog 38 #[.string (t.extract a t.size)] w fun e w'=>e=.returned (.tuple #[.int .i64 x,.int .i64 k])/\Below w.heap.size w w'):=aa HC;have hk:k≠0:=h;have d3:=cG hk;have HP:Hid (∀ w',Below w.heap.size w w'->bU w ([],0,k) (.returned (.tuple #[.string ⟨#[]⟩,.int .i64 0,.int .i64 k])) w'):=aa fun w' hb=>⟨rfl,hb⟩;generalize bU w ([],0,(x,k).2)=PO at*;have d0:decide ((a:Int)<0)=false:=aD (by omega);have d1:decide ((t.size:Int)<(a:Int))=false:=aD (by omega);clear HC h h0 h2 hk;go_enter func14,ntmps14;go_wp2_with fail;refine h4.out.mono ?_;rintro e w2 ⟨rfl,h1⟩;have h3:=aa h1;clear h1;go_wp2_with fail;go_ret3;exact HP.out _ h3.out
theorem qR(l:List Nat)(p most:Int):(bR l p most).1.length<=262144/\(bR l p most).2.1<4294967296:=by
 unfold bR;split;·exact⟨Nh _,by show 0<4294967296;omega⟩
 split;·exact⟨Nh _,by show 0<4294967296;omega⟩
 ·generalize (bj l p.toNat).1=sum;generalize (bj l p.toNat).2.1=row;generalize p.toNat+105=q;unfold jD;dsimp only;split;·exact⟨Nh _,by show 0<4294967296;omega⟩
  split;·exact⟨Nh _,by show 0<4294967296;omega⟩
  split;·exact⟨Nh _,by show 0<4294967296;omega⟩
  split;·exact⟨Nh _,by show 0<4294967296;omega⟩
  split;·exact⟨Nh _,by show 0<4294967296;omega⟩
  split;·exact⟨Nh _,by show 0<4294967296;omega⟩
  ·generalize iy _ row=B;have h1:=tA B.1;generalize S03.eD [] B.1=X at*;split;·exact⟨Nh _,by show 0<4294967296;omega⟩
   ·rename_i h;refine⟨h1,?_⟩;show sum<4294967296;rw[<- Decidable.not_not.1 h];exact S02.oE _
theorem G7(w:World)(t:ByteArray)(a:Nat)(hs:t.size<=125000)(ha:a<=t.size)(h:(aT (t.data.toList.drop a)).2=0):Calls prog 14 #[.string t,.int .i64 a] w (bU w (aK t.data.toList (a:Nat))):=by
 have hP:t.data.toList.length=t.size:=rfl;obtain⟨h4,_,H8,HA⟩:=nS [] h;rw[Nq,hP]at h4;have hz:aK t.data.toList (a:Nat)=oS (ai t.data.toList) (bh (ai t.data.toList) (iH (aT (t.data.toList.drop a)).1) (ai t.data.toList).length (8*a+32) [] []):=by unfold aK;rw[Nf (by rw[hP];omega),Nn,Nf (Pe h)]
 rw[hz];have HC:=uH w (t.extract a t.size);rw[S03.eP]at HC;generalize aT (t.data.toList.drop a)=hd at*;obtain⟨lv,k⟩:=hd;have hk:k=0:=h;subst hk;have hT:Hid (Calls prog 38 #[.string (t.extract a t.size)] w fun e w'=>e=.returned (.tuple #[.int .i64 lv,.int .i64 0])/\Below w.heap.size w w'):=aa HC;have H8:1<=lv:=H8;have HA:lv<=9:=HA;have hh:(ai t.data.toList).length=8*t.size:=aq _;have hB:=aG t.data.toList;have hI:=aa fun wx=>JR wx t (by omega);obtain⟨m,hm⟩:∃m,m=8*t.size:=⟨_,rfl⟩;have p2:m<=1000000:=by omega
 generalize ai t.data.toList=bits at*;rw[<- hm]at hI hh;have HM:=aa hm;have HR:=aa fun wx=>G4 wx lv (by omega);have H5:=pu lv;dsimp only;generalize iH lv=room at*;obtain⟨a8,HQ⟩:∃a8,a8=8*a:=⟨_,rfl⟩;have HU:(8:Int)*(a:Int)=(a8:Int):=by omega
 obtain⟨b0,hW⟩:∃b0,b0=8*a+32:=⟨_,rfl⟩;have HV:(a8:Int)+32=(b0:Int):=by omega
 have hK:b0<=m:=by omega
 have hY:32<=b0:=by omega
 rw[<- hW,hh];have HP:Hid (∀ (X:List UInt8) (p k:Nat) (w':World),oS bits (bh bits room m b0 [] [])=(X,p,k)->Below w.heap.size w w'->bU w (oS bits (bh bits room m b0 [] [])) (.returned (.tuple #[.string (S06.bq X),.int .i64 p,.int .i64 k])) w'):=aa fun X p k w' h hb=>by rw[h];exact⟨rfl,hb⟩
 generalize bU w (oS bits (bh bits room m b0 [] []))=PO at*;obtain⟨ANS,h7⟩:∃x,x=bh bits room m b0 [] []:=⟨_,rfl⟩;rw[<- h7]at HP;have hE:=aa h7;have h3:=aa fun(wx:World) (A:Option Addr) (c p k:Nat) (hp:p<=m) (hk:k<=64) (h:m<p+k)=>nc wx A m c p k (by omega) hp hk h;have h2:=aa fun(wx:World) (A:Option Addr) (c p k:Nat) (hi:aw wx A m bits) (hc:m<=c) (h8:c<=maxLen) (hk:k<=64) (h:p+k<=m)=>yd wx A m c bits p k hi hB hc h8 hk h;have h6:=aa fun(p k:Nat) (h:p+k<=m)=>nw hB p k (by rw[hh];exact h);have ht:=aa fun(wx:World) (A:Option Addr) (c p:Nat) (hi:aw wx A m bits) (hc:m<=c) (h8:c<=maxLen)=>Dp wx A m c p room bits hi hc h8 p2 hB;have h9:=aa fun(p:Nat) (h:(bR bits (p:Nat) (room:Nat)).2.2.2=0)=>ll (l:=bits) [] h;have hl:=aa fun(p:Nat)=>qR bits (p:Nat) (room:Nat);rw[hh]at h9;have hS:=aa hh;have d0:decide ((a:Int)<0)=false:=aD (by omega);have d1:decide ((t.size:Int)<(a:Int))=false:=aD (by omega);clear HC h hz hP h7 hB hh hm HQ hW;go_enter func14,ntmps14;go_wp2_with fail;refine hT.out.mono ?_;rintro e w2 ⟨rfl,hZ⟩;have HD:=aa hZ;clear hZ hT;go_wp2_with fail;refine(hI.out w2).mono ?_;rintro e wl ⟨vl,rfl,ho,H1⟩;obtain⟨B,c,rfl,hQ,h8,_⟩:=ak ho;have HI:=aa (aN ho);have hF:=aa (ap HD.out H1);clear ho H1 hI;go_wp2_with fail
 go_loopw [10,11,12,13] (fun sb so ss sn wx=>∃(L:List UInt8) (Z:List Nat) (bit n:Nat),sb=.int .i64 bit/\so=.string (S06.bq L)/\sn=.int .i64 n/\wx.ownsRow wl.heap.size 52 1 ss n (Z.map wv)/\bit<=m/\105*n+32<=bit/\L.length<=262144/\Below wl.heap.size wl wx/\
  Hid (ANS=bh bits room (m-n) bit L Z/\∀x∈Z,x<4294967296)) (fun _ _ _ sn _=>m-(intOf sn).toNat)
 case atStart=>refine⟨[], [],b0,0,rfl,rfl,rfl,Ns _ _ _ _,hK,by omega,Nh _,Nj _ _,aa ⟨by rw[Qf];exact hE.out,fun x hx=>absurd hx ar⟩⟩
 case round=>
  obtain⟨L,Z,bit,n,rfl,rfl,rfl,hA,hM,hn,hL,hD,hJ⟩:=hrel;have h5:=aa hA;have HH:=aa hD;have hH:=aa (bN HI.out hD);have hg:=aa (ap hF.out hD);clear hA hD;have pj:n<m:=by omega
  obtain⟨f,hf⟩:∃f,m-n=f+1:=⟨m-n-1,by omega⟩;have h0:=hJ.out.1;rw[hf,cT,hS.out]at h0;have HZ:=aa hJ.out.2;have dn:decide ((n:Int)<(m:Int))=true:=aX (by omega);clear hJ;by_cases e1:m<bit+48;·rw[Ng e1]at h0;have N1:=aa (h3.out wr B c bit 48 hM (by omega) e1);have HF:=aa (HP.out [] 0 10 wr (by rw[h0];rfl) hg.out);clear h0 h3 h2 h6 ht h9 hl HP HR;go_wp2_with fail;refine N1.out.mono ?_;rintro e w5 ⟨rfl,rfl⟩;go_wp2_with fail;go_ret3;exact HF.out
  rw[Nf e1]at h0;have N1:=aa (h2.out wr B c bit 48 hH.out hQ h8 (by omega) (by omega));have v1:=h6.out bit 48 (by omega);obtain⟨v,hv⟩:∃x,x=val ((bits.drop bit).take 48):=⟨_,rfl⟩;rw[<- hv]at N1 v1 h0;have v1:v<281474976710656:=by simpa using v1
  clear hv;by_cases e2:v=25779555029136
  ·rw[Ng e2]at h0;have d2:((v:Int)==25779555029136)=true:=beq_iff_eq.2 (by omega);obtain⟨p48,h1⟩:∃x,x=bit+48:=⟨_,rfl⟩;have H3:(bit:Int)+48=(p48:Int):=by omega
   have HE:Hid (oS bits ANS=if m<p48+32 then([],0,10)else if val ((bits.drop p48).take 32)≠S02.cn Z then([],0,121)else(L,(bit+80+7)/8,0)):=aa (by
    rw[h0,h1]
    unfold oS
    dsimp only
    rw[Nf (by omega),hS.out])
   clear h0 ht h9 hl HR e2;go_wp2_with fail;refine N1.out.mono ?_;rintro e w5 ⟨rfl,rfl⟩;by_cases e3:m<p48+32;·have N2:=aa (h3.out wr B c p48 32 (by omega) (by omega) e3);have HF:=aa (HP.out [] 0 10 wr (by rw[HE.out,Ng e3]) hg.out);clear h3 h2 h6 HP HE h1 e1;go_wp2_with fail;refine N2.out.mono ?_;rintro e w6 ⟨rfl,rfl⟩;go_wp2_with fail;go_ret3;exact HF.out
   ·have N2:=aa (h2.out wr B c p48 32 hH.out hQ h8 (by omega) (by omega));have v2:=h6.out p48 32 (by omega);obtain⟨y,hy⟩:∃x,x=val ((bits.drop p48).take 32):=⟨_,rfl⟩;have he:=HE.out;rw[Nf e3,<-hy]at he;rw[<- hy]at N2 v2;have v2:y<4294967296:=(by simpa using v2);obtain⟨A6,c6,rfl,p6,HY,HB⟩:=gF h5.out;have HS:=aa (S02.DN wr A6 n c6 Z HB HZ.out (by omega));have ps:=S02.lK Z HZ.out;generalize S02.cn Z=sm at*;clear hy HE HB h5 h3 h2 h6;by_cases e4:y≠sm;·rw[Ng e4]at he;have d4:((y:Int) != (sm:Int))=true:=(by rw[OP];omega);have HF:=aa (HP.out [] 0 121 wr he hg.out);clear he HP h1 e1;go_wp2_with fail;refine N2.out.mono ?_;rintro e w6 ⟨rfl,rfl⟩;go_wp2_with fail;refine HS.out.mono ?_;rintro e w7 ⟨rfl,rfl⟩;go_wp2_with fail;go_ret3;exact HF.out
    ·rw[Nf e4]at he;have d4:((y:Int) != (sm:Int))=false:=(by rw[OW];omega);obtain⟨q,hq⟩:∃q,q=(bit+80+7)/8:=⟨_,rfl⟩;rw[<- hq]at he;have HF:=aa (HP.out L q 0 wr he hg.out);obtain⟨b8,HW⟩:∃x,x=bit+80:=⟨_,rfl⟩;have HX:(bit:Int)+80=(b8:Int):=(by omega);have p3:b8<=8*q:=(by omega);have pl:8*q<b8+8:=(by omega);have pn:b8<=1000000:=(by omega);clear he HP h1 e1 hq HW;go_wp2_with fail;refine N2.out.mono ?_;rintro e w6 ⟨rfl,rfl⟩;go_wp2_with fail;refine HS.out.mono ?_;rintro e w7 ⟨rfl,rfl⟩;go_wp2_with fail;(go_loopw [10] (fun sb wx=>∃k:Nat,sb=.int .i64 k/\b8<=k/\k<=8*q/\wx=wr) (fun sb _=>8*q-(intOf sb).toNat));case atStart=>exact⟨b8,rfl,Nm _,p3,rfl⟩
     case round=>
      obtain⟨k,rfl,pb,pf,rfl⟩:=hrel;obtain⟨r,hr⟩:∃r,r=k%8:=⟨_,rfl⟩;have po:Int.tmod (k:Int) 8=(r:Int):=(by rw[hr];exact(Q4 (by omega)).trans (by omega));by_cases e5:r=0;·have d5:((r:Int) != 0)=false:=(by rw[OW];omega);have p1:k=8*q:=(by omega);have p0:(k:Int)/8=(q:Int):=(by omega);have p7:Int.tdiv (k:Int) 8=(q:Int):=(by rw[Q3 (by omega)];exact p0);clear p1 hr e5;go_wp2_with fail;go_ret3;exact HF.out
      ·have d5:((r:Int) != 0)=true:=(by rw[OP];omega);have pg:k<8*q:=(by omega);clear hr e5;go_wp2_with fail;go_roundw;case rel=>exact⟨k+1,by go_num,by omega,by omega,by first|rfl|trivial⟩
       case measure=>simp[intOf];omega
  rw[Nf e2]at h0;have d2:((v:Int)==25779555029136)=false:=Qw (by omega);by_cases e3:v≠54156738319193;·rw[Ng e3]at h0;have d3:((v:Int) != 54156738319193)=true:=(by rw[OP];omega);have HF:=aa (HP.out [] 0 130 wr (by rw[h0];rfl) hg.out);clear h0 h3 h2 h6 ht h9 hl HP HR e2 e3;go_wp2_with fail;refine N1.out.mono ?_;rintro e w5 ⟨rfl,rfl⟩;go_wp2_with fail;go_ret3;exact HF.out
  rw[Nf e3]at h0;have d3:((v:Int) != 54156738319193)=false:=by rw[OW];omega
  have HT:=ht.out wr B c bit hH.out hQ h8;have hN:=h9.out bit;have hO:=hl.out bit;generalize bR bits (bit:Nat) (room:Nat)=ans at*;obtain⟨X,sm,bt,er⟩:=ans;have HO:Hid (Calls prog 40 #[.slice B m c,.int .i64 bit,.int .i64 room] wr fun e w'=>e=.returned (.tuple #[.string (S06.bq X),.int .u32 sm,.int .i64 bt,.int .i64 er])/\Below wr.heap.size wr w'):=aa HT;have hX:X.length<=262144:=hO.1;have p4:sm<4294967296:=hO.2;dsimp only at h0 hN;have q0:(S06.bq L).size=L.length:=rfl;have pv:(S06.bq X).size=X.length:=rfl;have hV:=aa h0;have hG:=aa hN;have HN:=aa (HR.out wr);clear h0 h3 h2 h6 ht h9 hl HR HT hN hO e2 e3;go_wp2_with fail;refine N1.out.mono ?_;rintro e w5 ⟨rfl,rfl⟩;go_wp2_with fail;refine HN.out.mono ?_;rintro e w5 ⟨rfl,rfl⟩;go_wp2_with fail;refine HO.out.mono ?_;rintro e w6 ⟨rfl,hC⟩;have hR:=aa (ap hg.out hC);have hu:=aa (ap HH.out hC);have hw:=aa (ef h5.out hC);clear hC;by_cases e4:er≠0;·have d4:=cG e4;have hj:=hV.out;rw[Ng e4]at hj;have HF:=aa (HP.out [] 0 er w6 (by rw[hj];unfold oS;rw[Ng e4]) hR.out);clear hj HP e4;go_wp2_with fail;go_ret3;exact HF.out
  ·have d4:=eE e4;have hj:=hV.out;rw[Nf e4]at hj;obtain⟨g1,g2,_⟩:=hG.out (Decidable.not_not.1 e4);by_cases e5:262144<L.length+X.length;·have d5:decide ((262144:Int)<((S06.bq L).size:Int)+((S06.bq X).size:Int))=true:=aX (by omega);rw[Ng e5]at hj;have HF:=aa (HP.out [] 0 3 w6 (by rw[hj];rfl) hR.out);clear hj HP e4;go_wp2_with fail;go_ret3;exact HF.out
   ·have d5:decide ((262144:Int)<((S06.bq L).size:Int)+((S06.bq X).size:Int))=false:=aD (by omega);rw[Nf e5]at hj;have p5:wl.heap.size<=w6.heap.size:=hu.out.size;obtain⟨v7,w7,H4,H2,H0⟩:=KQ w6 wl.heap.size _ n Z hw.out sm (by omega) p5;have HL:=aa H4;have HK:=aa H2;have HG:=aa (hu.out.trans H0);have HJ:=aa hj;have pk:n<=1000000:=(by omega);clear hj HP e4 H4 H2 H0;(go_wp2_with (at_builtin;refine Lib.wpList_append_run _ rfl (.tmp 84) (.tmp 86) 46 46 rfl _ (.slice (some ⟨w6.heap.size,0,none⟩) 1 1) rfl rfl v7 w7 HL.out ?_));go_roundw;case rel=>
     refine⟨L++X,Z++ [sm],bt,n+1,rfl,by rw[Ku,nr],by go_num,HK.out,g2,by omega,by rw[Nc];omega,HG.out,aa ⟨?_,?_⟩⟩;·rw[HJ.out,show m-(n+1)=f by omega]
     ·intro x hx;rcases List.mem_append.1 hx with hx|hx;·exact HZ.out x hx
      ·rw[List.mem_singleton.1 hx];exact p4
    case measure=>simp[intOf];omega
theorem DC(w:World)(t:ByteArray)(at':Int)(hs:t.size<=125000):Calls prog 14 #[.string t,.int .i64 at'] w (bU w (aK t.data.toList at')):=by
 by_cases h:at'<0\/(t.size:Int)<at';·exact DD w t at' hs h
 ·obtain⟨a,rfl⟩:∃a:Nat,at'=a:=⟨at'.toNat,by omega⟩;by_cases h2:(aT (t.data.toList.drop a)).2=0;·exact G7 w t a hs (by omega) h2
  ·exact Ba w t a hs (by omega) h2
theorem mi(w:World)(most:Int):∀(k:Nat) (s:List UInt8),(cB most k s).1.length<=12*s.length+4000*k
 | 0,_=>Nh _
 | k+1,s=>by
  by_cases h:s= [];·rw[h,fc];exact Nh _
  ·rw[gm most k s h];have h1:=BN w (s.take (jv s most));have h2:=mi w most k (s.drop (jv s most));have h3:=xQ s most;rw[Nz,Oh h3]at h1;rw[Nq]at h2;dsimp only;rw[Nc];omega
noncomputable def gx (most:Int):Nat->List UInt8->List (List UInt8)
 | 0,_=> []
 | k+1,s=>if s= []then []else s.take (jv s most)::gx most k (s.drop (jv s most))
theorem n3(most:Int)(k:Nat):gx most k []= []:=by
 cases k with
 | zero=>rfl
 | succ k=>exact Ng rfl
theorem mI(most:Int)(k:Nat)(s:List UInt8)(h:s≠ []):gx most (k+1) s=s.take (jv s most)::gx most k (s.drop (jv s most)):=Nf h
theorem nA(most:Int):∀(k:Nat) (s:List UInt8),cB most k s=(((gx most k s).map fun p=>(eM p).1).flatten,(gx most k s).map S02.bW)
 | 0,_=>rfl
 | k+1,s=>by
  by_cases h:s= [];·subst h;rw[fc,n3];rfl
  ·rw[gm most k s h,mI most k s h,nA most k];rfl
def dU(t:List UInt8):Nat->Nat->Nat->List UInt8->List UInt8×Nat
 | 0,_,n,out=>if 262144<n then([],3)else(out,0)
 | k+1,a,n,out=>
   if(aK t (a:Nat)).2.2≠0 then([],(aK t (a:Nat)).2.2)
   else if(aK t (a:Nat)).2.1<t.length then dU t k (aK t (a:Nat)).2.1 (n+(aK t (a:Nat)).1.length) (if n+(aK t (a:Nat)).1.length<=262144 then out++(aK t (a:Nat)).1 else out)
   else if 262144<n+(aK t (a:Nat)).1.length then([],3)else(out++(aK t (a:Nat)).1,0)
theorem kE(t:List UInt8)(k a n:Nat)(out:List UInt8):dU t (k+1) a n out=
 if(aK t (a:Nat)).2.2≠0 then([],(aK t (a:Nat)).2.2)
 else if(aK t (a:Nat)).2.1<t.length then dU t k (aK t (a:Nat)).2.1 (n+(aK t (a:Nat)).1.length) (if n+(aK t (a:Nat)).1.length<=262144 then out++(aK t (a:Nat)).1 else out)
 else if 262144<n+(aK t (a:Nat)).1.length then([],3)else(out++(aK t (a:Nat)).1,0):=rfl
def kd(t:List UInt8):List UInt8×Nat:=dU t (t.length+1) 0 0 []
theorem mV(t:List UInt8):∀(k a n:Nat) (out:List UInt8),262144<n->(dU t k a n out).1= []/\(dU t k a n out).2≠0
 | 0,a,n,out,h=>by unfold dU;rw[Ng h];exact⟨rfl,by decide⟩
 | k+1,a,n,out,h=>by
  rw[kE];by_cases h1:(aK t (a:Nat)).2.2≠0;·rw[Ng h1];exact⟨rfl,h1⟩
  rw[Nf h1];by_cases h2:(aK t (a:Nat)).2.1<t.length;·rw[Ng h2];exact mV t k _ _ _ (by omega)
  ·rw[Nf h2,Ng (by omega)];exact⟨rfl,by decide⟩
theorem rS(t:List UInt8):∀(k a:Nat) (out:List UInt8),out.length<=262144->
 dU t k a out.length out=lT t k a out\/(lT t k a out=([],3)/\(dU t k a out.length out).1= []/\(dU t k a out.length out).2≠0)
 | 0,a,out,h=>by refine .inl ?_;unfold dU lT;rw[Nf (by omega)]
 | k+1,a,out,h=>by
  rw[kE,pD];by_cases h1:(aK t (a:Nat)).2.2≠0;·rw[Ng h1,Ng h1];exact .inl rfl
  rw[Nf h1,Nf h1];by_cases h3:262144<out.length+(aK t (a:Nat)).1.length
  ·simp only[Ng h3];refine .inr ⟨trivial,?_⟩;by_cases h2:(aK t (a:Nat)).2.1<t.length;·simp only[Ng h2];exact mV t k _ _ _ h3
   ·simp only[Nf h2];exact⟨trivial,by decide⟩
  ·simp only[Nf h3];by_cases h2:(aK t (a:Nat)).2.1<t.length;·simp only[Ng h2];rw[Ng (by omega)];have h4:=rS t k (aK t (a:Nat)).2.1 (out++(aK t (a:Nat)).1) (by rw[Nc];omega);rw[Nc]at h4;exact h4
   ·simp only[Nf h2];exact .inl trivial
theorem og{t:List UInt8}(h:(nt t).2≠3):kd t=nt t:=by
 rcases rS t (t.length+1) 0 [] (Nh _)with h1|h1;·exact h1
 ·exact absurd (congrArg (·.2) h1.1) h
structure fU (K:Nat):Prop where
 three:3<=K
 packOk:∀(w:World) (s:ByteArray) (level most:Int),jR level most->s.size<=K->Calls prog 11 #[.string s,.int .i64 level,.int .i64 most] w (iw w (l4 s.data.toList level most))
 take:∀(w:World) (t:ByteArray) (at':Int),t.size<=1100000-> -9223372036854775808<=at'->at'<=9223372036854775807->Calls prog 13 #[.string t,.int .i64 at'] w (bU w (aK t.data.toList at'))
 unpack:∀(w:World) (t:ByteArray),t.size<=1100000->Calls prog 15 #[.string t] w (iw w (kd t.data.toList))
theorem yg:l4 (⟨#[]⟩:ByteArray).data.toList 1 1=([66,90,104,49,23,114,69,56,80,144,0,0,0,0],0):=by have h:bf ([]:List UInt8) 1 1=ai [66,90,104,UInt8.ofNat (48+1)]++ []++(ag 25779555029136 48++ag (S02.cn []) 32):=(by unfold bf;rw[fc]);show l4 [] 1 1=_;unfold l4;rw[Nf (Pe (by decide)),Nf (by simp),show((1:Int).toNat)=1 from rfl,h];decide +kernel
theorem vc:nt ((⟨#[66,90,104,49,23,114,69,56,80,144,0,0,0,0]⟩:ByteArray)++(⟨#[66,90,104,49,23,114,69,56,80,144,0,0,0,0]⟩:ByteArray)).data.toList=([],0):=by decide +kernel
theorem LN{s:List UInt8}{level most:Int}(h:jR level most)(hs:s.length<=262144):l4 s level most=(aF (bf s level.toNat most),0):=by unfold l4;rw[Nf (Pe h),Nf (by omega)]
theorem JV(w:World)(s:List UInt8)(level:Nat)(most:Int):(aF (bf s level most)).length<=(119+4012*s.length)/8:=by have h:=mi w most s.length s;rw[db,lZ];omega
section
variable {K:Nat} (R:fU K)
include R
theorem xB(w:World):Calls prog 10 #[] w fun e w'=>e=.returned (.bool true)/\Below w.heap.size w w':=by
 have h2:jR 9 2:=by decide
 have h3:=LN (s:= [97,98,99]) h2 (by decide);have h0:=D4 w (s:= [97,98,99]) h2 (by decide);have h1:=JV w [97,98,99] (9:Int).toNat 2;obtain⟨L2,h4⟩:∃x,x=aF (bf [97,98,99] (9:Int).toNat 2):=⟨_,rfl⟩;rw[<- h4]at h3 h0 h1;have hg:L2.length<=5000:=NH h1 (by decide);have P1:Hid (∀ wx:World,Calls prog 11 #[.string ⟨#[]⟩,.int .i64 1,.int .i64 1] wx fun e w'=>e=.returned (.tuple #[.string ⟨#[66,90,104,49,23,114,69,56,80,144,0,0,0,0]⟩,.int .i64 0])/\Below wx.heap.size wx w'):=aa fun wx=>by have h:=R.packOk wx ⟨#[]⟩ 1 1 (by decide) (Nh _);rw[yg]at h;exact h
 have U1:Hid (∀ wx:World,Calls prog 15 #[.string ((⟨#[66,90,104,49,23,114,69,56,80,144,0,0,0,0]⟩:ByteArray)++(⟨#[66,90,104,49,23,114,69,56,80,144,0,0,0,0]⟩:ByteArray))] wx fun e w'=>e=.returned (.tuple #[.string ⟨#[]⟩,.int .i64 0])/\Below wx.heap.size wx w'):=aa fun wx=>by have h:=R.unpack wx ((⟨#[66,90,104,49,23,114,69,56,80,144,0,0,0,0]⟩:ByteArray)++(⟨#[66,90,104,49,23,114,69,56,80,144,0,0,0,0]⟩:ByteArray)) (by decide);rw[og (by rw[vc];decide),vc]at h;exact h
 have U2:Hid (∀ wx:World,Calls prog 15 #[.string ⟨#[]⟩] wx fun e w'=>e=.returned (.tuple #[.string ⟨#[]⟩,.int .i64 10])/\Below wx.heap.size wx w'):=aa fun wx=>by have h:=R.unpack wx ⟨#[]⟩ (by decide);rw[show kd (⟨#[]⟩:ByteArray).data.toList=([],10)from(og (by rw[rT];decide)).trans rT]at h;exact h
 have P2:Hid (∀ wx:World,Calls prog 11 #[.string ⟨#[97,98,99]⟩,.int .i64 9,.int .i64 2] wx fun e w'=>e=.returned (.tuple #[.string (S06.bq L2),.int .i64 0])/\Below wx.heap.size wx w'):=aa fun wx=>by have h:=R.packOk wx ⟨#[97,98,99]⟩ 9 2 (by decide) R.three;rw[show l4 (⟨#[97,98,99]⟩:ByteArray).data.toList 9 2=(L2,0)from h3]at h;exact h
 have U3:Hid (∀ wx:World,Calls prog 15 #[.string (S06.bq L2)] wx fun e w'=>e=.returned (.tuple #[.string ⟨#[97,98,99]⟩,.int .i64 0])/\Below wx.heap.size wx w'):=aa fun wx=>by have h:=R.unpack wx (S06.bq L2) (by rw[qI];omega);rw[nr,og (by rw[h0];exact Nat.zero_ne_add_one 2),h0]at h;exact h
 clear R h3 h0 h1 h4 h2;generalize S06.bq L2=T2 at*;go_enter func10,ntmps10;go_wp2_with fail;refine(P1.out w).mono ?_;rintro e w1 ⟨rfl,h5⟩;have ha:=aa h5;clear h5;go_wp2_with fail;refine(U1.out w1).mono ?_;rintro e w2 ⟨rfl,h6⟩;have hb:=aa (ap ha.out h6);clear h6;go_wp2_with fail;refine(U2.out w2).mono ?_;rintro e w3 ⟨rfl,h7⟩;have hc:=aa (ap hb.out h7);clear h7;go_wp2_with fail;refine(P2.out w3).mono ?_;rintro e w4 ⟨rfl,h8⟩;have he:=aa (ap hc.out h8);clear h8;go_wp2_with fail;refine(U3.out w4).mono ?_;rintro e w5 ⟨rfl,h9⟩;have hf:=aa (ap he.out h9);clear h9;go_wp2_with fail;go_ret;exact⟨rfl,hf.out⟩
end
section
variable {K:Nat} (R:fU K)
include R
theorem DJ(w:World)(t:ByteArray)(at':Int)(hs:t.size<=9223372036854775807)(h1: -9223372036854775808<=at')(h2:at'<=9223372036854775807):
 Calls prog 4 #[.string t,.int .i64 at'] w fun e w'=>e=.returned (.bool true)/\Below w.heap.size w w':=by
 have h0:=aa (xB R);by_cases he:500<t.size;·have d0:decide ((500:Int)<(t.size:Int))=true:=aX (by omega);clear R;go_enter func4,ntmps4;go_wp2_with fail;refine(h0.out _).mono ?_;rintro e w7 ⟨rfl,h6⟩;have hb:=aa h6;clear h6;go_wp2_with fail;go_ret;exact⟨rfl,hb.out⟩
 have d0:decide ((500:Int)<(t.size:Int))=false:=aD (by omega);have HA:=aa (R.take w t at' (by omega) h1 h2);have HR:=aa fun wx=>DC wx t at' (by omega);generalize aK t.data.toList at'=ans at*;obtain⟨L,p,k⟩:=ans;have h7:Hid (Calls prog 13 #[.string t,.int .i64 at'] w fun e w'=>e=.returned (.tuple #[.string (S06.bq L),.int .i64 p,.int .i64 k])/\Below w.heap.size w w'):=HA;have hc:Hid (∀ wx:World,Calls prog 14 #[.string t,.int .i64 at'] wx fun e w'=>e=.returned (.tuple #[.string (S06.bq L),.int .i64 p,.int .i64 k])/\Below wx.heap.size wx w'):=HR;generalize S06.bq L=T at*;have e2:((p:Int)==(p:Int))=true:=OK _;have e3:((k:Int)==(k:Int))=true:=OK _;clear HA HR R;go_enter func4,ntmps4;go_wp2_with fail;refine h7.out.mono ?_;rintro e w1 ⟨rfl,h3⟩;have h8:=aa h3;clear h3;go_wp2_with fail;refine(hc.out w1).mono ?_;rintro e w2 ⟨rfl,h4⟩;have h9:=aa (ap h8.out h4);clear h4;go_wp2_with fail;refine(h0.out _).mono ?_;rintro e w5 ⟨rfl,h5⟩;have ha:=aa (ap h9.out h5);clear h5;go_wp2_with fail;go_ret;exact⟨rfl,ha.out⟩
end
