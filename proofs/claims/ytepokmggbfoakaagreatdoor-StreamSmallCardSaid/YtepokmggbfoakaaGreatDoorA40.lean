import Derived.Test.YtepokmggbfoakaaGreatDoorA22
set_option maxHeartbeats 6400000
set_option maxRecDepth 100000
namespace Go.Proofs.YtepokmggbfoakaaGreatDoor
open Go.RowKit
theorem dt{l u:List Nat}{p k:Nat}(h:p+k≤l.length):((l++u).drop p).take k=(l.drop p).take k:=by rw[Nc (by omega),Nb (by rw[Mc];omega)]
theorem gd{l u:List Nat}{i:Nat}(h:i<l.length):(l++u).getD i 0=l.getD i 0:=by rw[LU,ME h,LU]
theorem xT{l:List Nat}(u:List Nat){p:Nat}(i:Nat)(h:p+16≤l.length):S06.eH (l++u) p i=S06.eH l p i:=by unfold S06.eH;congr 1;apply P4;intro k hk;rw[gd (by have:=List.mem_range.1 hk;omega)]
theorem sY(l u:List Nat)(fl fl':Nat→Nat):∀(is:List Nat) (p:Nat) (out o:List UInt8) (q:Nat),(∀ i∈is,fl' i=fl i)→p≤l.length→S06.goT l fl is p out=some (o,q)→p≤q∧q≤l.length∧S06.goT (l++u) fl' is p out=some (o,q)
 | [],p,out,o,q,_,hp,h=>by rw[S06.goT]at h;obtain⟨rfl,rfl⟩:=Prod.mk.inj (My h);exact⟨L5 _,hp,rfl⟩
 | i :: is,p,out,o,q,hf,hp,h=>by
  have h2:=hf i L4;have h3:=fun j hj=>hf j (Ma _ hj);rw[S06.goT]at h;by_cases h0:fl i=0;·rw[LX h0]at h;obtain⟨a,b,c⟩:=sY l u fl fl' is p out o q h3 hp h;exact⟨a,b,by rw[S06.goT,h2,LX h0];exact c⟩
  ·rw[LW h0]at h;by_cases h1:l.length<p+16;·rw[LX h1]at h;cases h
   ·rw[LW h1]at h;obtain⟨a,b,c⟩:=sY l u fl fl' is (p+16) _ o q h3 (by omega) h;refine⟨by omega,b,?_⟩;rw[S06.goT,h2,LW h0,LW (by rw[LR];omega),xT u i (by omega)];exact c
theorem C7{l:List Nat}(u:List Nat){p:Nat}(h:(S06.ax l (p:Nat)).2.2=0):p+16≤(S06.ax l (p:Nat)).2.1∧(S06.ax l (p:Nat)).2.1≤l.length∧S06.ax (l++u) (p:Nat)=S06.ax l (p:Nat):=by
 unfold S06.ax at*;rw[LW (by omega),L9]at h ⊢;rw[LW (by omega)];unfold S06.fN at*;by_cases h1:l.length<p;·rw[LX h1]at h;cases h
 rw[LW h1]at h ⊢;by_cases h2:l.length<p+16;·rw[LX h2]at h;cases h
 rw[LW h2]at h ⊢;rw[LW (by rw[LR];omega),LW (by rw[LR];omega)]
 cases hg:S06.goT l (fun i=>l.getD (p+i) 0) (List.range 16) (p+16) []with
 | none=>rw[hg]at h;cases h
 | some x=>
  obtain⟨o,q⟩:=x;obtain⟨a,b,c⟩:=sY l u (fun i=>l.getD (p+i) 0) (fun i=>(l++u).getD (p+i) 0) (List.range 16) (p+16) [] o q (fun i hi=>gd (by have:=List.mem_range.1 hi;omega)) (by omega) hg;rw[hg]at h;rw[c];dsimp only at h ⊢;by_cases ho:o= [];·rw[LX ho]at h;cases h
  ·rw[LW ho];exact⟨a,b,rfl⟩
theorem C3(u:List Nat):∀(bs:List Nat) (now n p:Nat) (out:List Nat),(bj bs now n p out).2.2=0→p≤(bj bs now n p out).2.1∧(bj bs now n p out).2.1≤p+bs.length∧bj (bs++u) now n p out=bj bs now n p out:=by
 intro bs
 induction h:bs.length using Nat.strongRecOn generalizing bs with
 | _ m ih=>
  intro now n p out hz;subst h;rcases n with _ | n;·rw[eX,eX];exact⟨L5 _,O0 _ _,rfl⟩
  ·by_cases hb:now<1∨20<now;·rw[gQ _ _ _ _ _ hb]at hz;cases hz
   ·rcases bs with _ | ⟨b,bs⟩;·rw[jf _ _ _ _ hb]at hz;cases hz
    ·by_cases h0:b=0;·subst h0;rw[fJ _ _ _ _ _ hb]at hz ⊢;obtain⟨a,c,d⟩:=ih bs.length (by simp) bs rfl now n (p+1) (out++ [now]) hz;refine⟨by omega,by rw[Mb];omega,?_⟩;rw[MI,fJ _ _ _ _ _ hb];exact d
     ·rcases bs with _ | ⟨d,bs⟩;·rw[kY _ _ _ _ _ hb h0]at hz;cases hz
      ·rw[eY _ _ _ _ _ _ _ hb h0]at hz ⊢;obtain⟨a,c,e⟩:=ih bs.length (by simp;omega) bs rfl _ (n+1) (p+2) out hz;refine⟨by omega,by rw[Mb,Mb];omega,?_⟩;rw[MI,MI,eY _ _ _ _ _ _ _ hb h0];exact e
theorem C2{l:List Nat}(u:List Nat){p:Nat}{n:Int}(h:(ax l (p:Nat) n).2.2=0):p≤(ax l (p:Nat) n).2.1∧(ax l (p:Nat) n).2.1≤l.length∧ax (l++u) (p:Nat) n=ax l (p:Nat) n:=by
 unfold ax at*;by_cases h1:(p:Int)<0∨(l.length:Int)<(p:Int)∨n<2∨258<n;·rw[LX h1]at h;cases h
 rw[LW h1]at h ⊢;rw[L9]at h ⊢;rw[LW (show ¬((p:Int)<0∨((l++u).length:Int)<(p:Int)∨n<2∨258<n) by rw[LR];omega)];by_cases h2:l.length<p+5;·rw[LX h2]at h;cases h
 rw[LW h2]at h ⊢;rw[LW (show ¬((l++u).length<p+5) by rw[LR];omega),dt (by omega),Nc (by omega)];obtain⟨a,b,c⟩:=C3 u _ _ _ _ _ h;rw[Mc]at b;exact⟨by omega,by omega,c⟩
theorem q7(u:List Nat):∀(l:List Nat) (n T k:Nat),cN l n T=.hit k→cN (l++u) n T=.hit k
 | [],n,T,k,h=>by simp[cN]at h
 | b :: l,n,T,k,h=>by
  rw[MI];rw[cN]at h ⊢;by_cases e:b=0;·rw[LX e]at h ⊢;exact h
  ·rw[LW e]at h ⊢;by_cases e2:n+1=T;·rw[LX e2]at h;cases h
   ·rw[LW e2]at h ⊢;exact q7 u l (n+1) T k h
theorem mF{bits:List Nat}(u:List Nat){T:Nat}(hT:0<T):∀(k:Nat) (o:List Nat) (p:Nat) (out:List Nat),p≤bits.length→(aC bits T k o p out).2.2=0→p≤(aC bits T k o p out).2.1∧(aC bits T k o p out).2.1≤bits.length∧aC (bits++u) T k o p out=aC bits T k o p out
 | 0,_,_,_,h,_=>⟨L5 _,h,rfl⟩
 | k+1,o,p,out,h,hz=>by
  cases hp:cN (bits.drop p) 0 T with
  | hit n=>have hl:=(xp (bits.drop p) 0 T n hp hT).2.1;rw[Mc]at hl;rw[eB hp]at hz ⊢;obtain⟨a,b,c⟩:=mF u hT k _ _ _ (by omega) hz;refine⟨by omega,b,?_⟩;rw[eB (n:=n) (by rw[Nc h];exact q7 u _ _ _ _ hp)];exact c
  | short=>rw[ew hp]at hz;cases hz
  | bad=>rw[fu hp]at hz;cases hz
theorem wj(bits:List Nat)(n t p:Nat)(acc:List (List Nat)):dV bits n (t+1) p acc=if(ax bits p n).2.2=0 then(if bU (zL (ax bits p n).1)then dV bits n t (ax bits p n).2.1 (acc++ [(ax bits p n).1])else([],0,80))else([],0,(ax bits p n).2.2):=rfl
theorem ur{bits:List Nat}(u:List Nat){n:Nat}:∀(t p:Nat) (acc:List (List Nat)),p≤bits.length→(dV bits n t p acc).2.2=0→p≤(dV bits n t p acc).2.1∧(dV bits n t p acc).2.1≤bits.length∧dV (bits++u) n t p acc=dV bits n t p acc
 | 0,_,_,h,_=>⟨L5 _,h,rfl⟩
 | t+1,p,acc,h,hz=>by
  rw[wj]at hz ⊢;rw[wj];by_cases h1:(ax bits p n).2.2=0
  ·obtain⟨a,b,c⟩:=C2 u h1;rw[LX h1]at hz ⊢;rw[c,LX h1];by_cases h2:bU (zL (ax bits p n).1);·rw[LX h2]at hz ⊢;rw[LX h2];obtain⟨d,e,f⟩:=ur u t _ _ b hz;exact⟨by omega,e,f⟩
   ·rw[LW h2]at hz;cases hz
  ·rw[LW h1]at hz;exact absurd hz h1
theorem C4{l:List Nat}(u:List Nat){p:Nat}{n:Int}(h:(dU l (p:Nat) n).2.2.2=0):p≤(dU l (p:Nat) n).2.2.1∧(dU l (p:Nat) n).2.2.1≤l.length∧dU (l++u) (p:Nat) n=dU l (p:Nat) n:=by
 unfold dU at*;by_cases h1:(p:Int)<0∨(l.length:Int)<(p:Int)∨n<3∨258<n;·rw[LX h1]at h;cases h
 rw[LW h1]at h ⊢;rw[L9]at h ⊢;rw[LW (show ¬((p:Int)<0∨((l++u).length:Int)<(p:Int)∨n<3∨258<n) by rw[LR];omega)];unfold un at*;by_cases h2:l.length<p+3;·rw[LX h2]at h;cases h
 rw[LW h2]at h ⊢;rw[LW (show ¬((l++u).length<p+3) by rw[LR];omega),dt (by omega)];by_cases h3:val ((l.drop p).take 3)<2∨6<val ((l.drop p).take 3);·rw[LX h3]at h;cases h
 rw[LW h3]at h ⊢;rw[LW h3];by_cases h4:l.length<p+18;·rw[LX h4]at h;cases h
 rw[LW h4]at h ⊢;rw[LW (show ¬((l++u).length<p+18) by rw[LR];omega),dt (by omega)];by_cases h5:val ((l.drop (p+3)).take 15)=0;·rw[LX h5]at h;cases h
 rw[LW h5]at h ⊢;rw[LW h5];generalize val ((l.drop p).take 3)=T at*;generalize val ((l.drop (p+3)).take 15)=K at*;unfold wh at*;by_cases h6:(aC l T K [0,1,2,3,4,5] (p+18) []).2.2=0
 ·obtain⟨a,b,c⟩:=mF u (by omega) K _ _ _ (by omega) h6;rw[LX h6]at h ⊢;rw[c,LX h6];by_cases h7:(dV l n.toNat T (aC l T K [0,1,2,3,4,5] (p+18) []).2.1 []).2.2=0;·obtain⟨d,e,f⟩:=ur u _ _ _ b h7;rw[LX h7];rw[f,LX h7];exact⟨Mk (Mk (O0 p 18) a) d,e,rfl⟩
  ·rw[LW h7]at h;exact absurd h h7
 ·rw[LW h6]at h;exact absurd h h6
theorem tG(u l bs:List Nat):∀(k n x:Nat),fp l bs k n=.hit x→l.getD x 0≤bs.length∧fp l (bs++u) k n=.hit x
 | 0,n,x,h=>by cases h
 | k+1,n,x,h=>by
  rw[fp]at h ⊢;by_cases h1:bs.length<n;·rw[LX h1]at h;cases h
  rw[LW h1]at h;rw[LW (by rw[LR];omega),Nb (by omega)]
  cases hi:ml l n (val (bs.take n))with
  | some i=>rw[hi]at h;have e:i=x:=(by cases h;rfl);subst e;have h2:=(jQ hi).2.1;exact⟨by omega,rfl⟩
  | none=>
   rw[hi]at h;dsimp only at h ⊢;by_cases h3:val (bs.take n)*pw n<jI l;·rw[LX h3]at h ⊢;exact tG u l bs k (n+1) x h
   ·rw[LW h3]at h;cases h
theorem vE{T:List (List Nat)}{P bits:List Nat}(u:List Nat){n0:Nat}:∀(k i a:Nat) (out:List Nat),a≤bits.length→(j8 T P bits n0 k i a out).2.2=0→a≤(j8 T P bits n0 k i a out).2.1∧(j8 T P bits n0 k i a out).2.1≤bits.length∧j8 T P (bits++u) n0 k i a out=j8 T P bits n0 k i a out
 | 0,_,_,_,_,h=>by cases h
 | k+1,i,a,out,ha,hz=>by
  rw[kL]at hz ⊢;rw[kL,Nc ha]
  cases hn:iI (T.getD (P.getD (i / 50) 0) []) (bits.drop a)with
  | hit x=>
   obtain⟨h1,h2⟩:=tG u _ _ _ _ _ hn;rw[Mc]at h1;have h3:iI (T.getD (P.getD (i / 50) 0) []) (bits.drop a++u)=.hit x:=h2;rw[hn]at hz;rw[h3];dsimp only at hz ⊢;by_cases h4:x+1=n0;·rw[LX h4,LX h4];exact⟨by show a≤a+_;omega,by show a+_≤_;omega,rfl⟩
   ·rw[LW h4]at hz ⊢;rw[LW h4];obtain⟨d,e,f⟩:=vE u k _ _ _ (by omega) hz;exact⟨by omega,e,f⟩
  | short=>rw[hn]at hz;cases hz
  | code=>rw[hn]at hz;cases hz
theorem Fk{T:List (List Int)}{P:List Int}{l:List Nat}(u:List Nat){p:Nat}(h:(ij T P l (p:Nat)).2.2=0):p≤(ij T P l (p:Nat)).2.1∧(ij T P l (p:Nat)).2.1≤l.length∧ij T P (l++u) (p:Nat)=ij T P l (p:Nat):=by
 unfold ij at*;by_cases h1:cJ T P
 ·rw[LX h1]at h ⊢;rw[LX h1];by_cases h2:(p:Int)<0∨(l.length:Int)<(p:Int);·rw[LX h2]at h;cases h
  ·rw[LW h2]at h ⊢;rw[L9]at h ⊢;rw[LW (show ¬((p:Int)<0∨((l++u).length:Int)<(p:Int)) by rw[LR];omega)];exact vE u _ _ _ _ (by omega) h
 ·rw[LW h1]at h;cases h
theorem xm{l:List Nat}(u:List Nat){p:Nat}(h:(bY l p).2.2=0):p+105≤l.length∧bY (l++u) p=bY l p:=by
 unfold bY at*;by_cases h1:l.length<p+48;·rw[LX h1]at h;cases h
 rw[LW h1]at h ⊢;rw[LW (show ¬((l++u).length<p+48) by rw[LR];omega),dt (by omega)];by_cases h2:val ((l.drop p).take 48)≠54156738319193;·rw[LX h2]at h;cases h
 rw[LW h2]at h ⊢;rw[LW h2];by_cases h3:l.length<p+48+32;·rw[LX h3]at h;cases h
 rw[LW h3]at h ⊢;rw[LW (show ¬((l++u).length<p+48+32) by rw[LR];omega)];by_cases h4:l.length<p+80+1;·rw[LX h4]at h;cases h
 rw[LW h4]at h ⊢;rw[LW (show ¬((l++u).length<p+80+1) by rw[LR];omega),dt (by omega)];by_cases h5:val ((l.drop (p+80)).take 1)≠0;·rw[LX h5]at h;cases h
 rw[LW h5]at h ⊢;rw[LW h5];by_cases h6:l.length<p+81+24;·rw[LX h6]at h;cases h
 rw[LW h6,LW (show ¬((l++u).length<p+81+24) by rw[LR];omega),dt (by omega),dt (by omega)];exact⟨by omega,rfl⟩
theorem CN{l:List Nat}(u:List Nat){sum row q:Nat}{most:Int}(h:(kW l sum row q most).2.2.2=0):q≤(kW l sum row q most).2.2.1∧(kW l sum row q most).2.2.1≤l.length∧kW (l++u) sum row q most=kW l sum row q most:=by
 unfold kW at*;dsimp only at*;by_cases h1:(S06.ax l (q:Nat)).2.2≠0;·rw[LX h1]at h;exact absurd h h1
 have h1:=Decidable.not_not.1 h1;obtain⟨a1,b1,c1⟩:=C7 u h1;rw[c1];rw[LW (NI h1)]at h ⊢;generalize S06.ax l (q:Nat)=U at*;by_cases h2:(dU l (U.2.1:Nat) ((U.1.length+2:Nat):Int)).2.2.2≠0;·rw[LX h2]at h;exact absurd h h2
 have h2:=Decidable.not_not.1 h2;obtain⟨a2,b2,c2⟩:=C4 u h2;rw[c2];rw[LW (NI h2)]at h ⊢;generalize dU l (U.2.1:Nat) ((U.1.length+2:Nat):Int)=G at*;by_cases h3:(ij G.1 G.2.1 l (G.2.2.1:Nat)).2.2≠0;·rw[LX h3]at h;exact absurd h h3
 have h3:=Decidable.not_not.1 h3;obtain⟨a3,b3,c3⟩:=Fk u h3;rw[c3];rw[LW (NI h3)]at h ⊢;generalize ij G.1 G.2.1 l (G.2.2.1:Nat)=C at*;generalize S07.eQ (U.1.length:Nat) most (zL C.1)=D at*;by_cases h4:D.2≠0;·rw[LX h4]at h;exact absurd h h4
 have h4:=Decidable.not_not.1 h4;rw[LW (NI h4)]at h ⊢;generalize kC (S06.eE (zL D.1) U.1).1 row=B at*;by_cases h5:B.2≠0;·rw[LX h5]at h;exact absurd h h5
 have h5:=Decidable.not_not.1 h5;rw[LW (NI h5)]at h ⊢;generalize S03.e9 [] B.1=X at*;by_cases h6:X.2≠0;·rw[LX h6]at h;exact absurd h h6
 have h6:=Decidable.not_not.1 h6;rw[LW (NI h6)]at h ⊢;by_cases h7:S02.b6 X.1≠sum;·rw[LX h7]at h;cases h
 rw[LW h7];exact⟨by show q≤C.2.1;omega,by show C.2.1≤l.length;omega,by rw[LW (NI h1),LW (NI h2)]⟩
theorem nw{l:List Nat}(u:List Nat){p:Nat}{most:Int}(h:(cH l (p:Nat) most).2.2.2=0):p+105≤(cH l (p:Nat) most).2.2.1∧(cH l (p:Nat) most).2.2.1≤l.length∧cH (l++u) (p:Nat) most=cH l (p:Nat) most:=by
 unfold cH at*;by_cases h1:(p:Int)<0∨(l.length:Int)<(p:Int)∨most<1∨262144<most;·rw[LX h1]at h;cases h
 rw[LW h1]at h ⊢;rw[L9]at h ⊢;rw[LW (show ¬((p:Int)<0∨((l++u).length:Int)<(p:Int)∨most<1∨262144<most) by rw[LR];omega)];by_cases h2:(bY l p).2.2≠0;·rw[LX h2]at h;exact absurd h h2
 have h2:=Decidable.not_not.1 h2;obtain⟨a,b⟩:=xm u h2;rw[LW (NI h2)]at h ⊢;rw[b,LW (NI h2)];exact CN u h
def gm(level:Nat):Nat:=if 262144<level*100000 then 262144 else level*100000
theorem ub(level:Nat):gm level≤262144:=by unfold gm;split <;>omega
theorem Jg{level:Nat}(h:1≤level):100000≤gm level:=by unfold gm;split <;>omega
def cU(level most:Int):Prop:=1≤level∧level≤9∧1≤most∧most≤(gm level.toNat:Int)
instance (level most:Int):Decidable (cU level most):=inferInstanceAs (Decidable (_∧_))
theorem Ij(l:List UInt8)(most:Int):∀k,k≤l.length→(∃ n,S03.lJ l most n)∨∀m,1≤m→m≤k→((S03.aT (l.take m)).length:Int)≤most
 | 0,_=>.inr fun m h1 h2=>by omega
 | k+1,h=>by
  rcases Ij l most k (by omega)with h1 | h1;·exact .inl h1
  ·by_cases h2:((S03.aT (l.take (k+1))).length:Int)≤most
   ·refine .inr fun m h3 h4=> ?_;by_cases e:m=k+1;·rw[e];exact h2
    ·exact h1 m h3 (by omega)
   ·exact .inl ⟨k,by omega,h1,fun _=>by omega⟩
theorem zy(l:List UInt8)(most:Int):∃n,S03.lJ l most n:=by
 rcases Ij l most l.length (ag _)with h | h;·exact h
 ·exact⟨l.length,L5 _,h,fun h2=>by omega⟩
noncomputable def fP (l:List UInt8) (most:Int):Nat:=Classical.choose (zy l most)
theorem oG(l:List UInt8)(most:Int):S03.lJ l most (fP l most):=Classical.choose_spec (zy l most)
theorem xd{l:List UInt8}{most:Int}{n:Nat}(h:S03.lJ l most n):n=fP l most:=S03.Fz h (oG l most)
theorem Kl(x:UInt8):S03.aT [x]= [x]:=by
 have h1:=S03.gE [x];have h3:=S03.pP [] x 1 (ag _) (by omega);rw[← S03.gD]at h3;have h4:(S03.aT [x]).length≤1:=Mk h1 (by simp);generalize S03.aT [x]=l at*
 match l,h3,h4 with
 | [y],h3,_=>exact congrArg (fun z=> [z]) (My h3)
theorem sS{l:List UInt8}{most:Int}(h:l≠ [])(hm:1≤most):1≤fP l most:=by
 obtain⟨_,_,h3⟩:=oG l most;rcases MF 0 (fP l most)with h0 | h0;·exact h0
 ·exfalso;have e:fP l most=0:=by omega
  rw[e]at h3
  cases l with
  | nil=>exact h rfl
  | cons x l=>have h4:=h3 (by simp);rw[show ((x :: l).take (0+1))= [x]from rfl,Kl]at h4;have h5:(([x]:List UInt8).length:Int)=1:=rfl;omega
theorem rC(l:List UInt8)(most:Int):fP l most≤l.length:=(oG l most).1
theorem Ih{l:List UInt8}{most:Int}(h:l≠ [])(hm:1≤most):((S03.aT (l.take (fP l most))).length:Int)≤most:=(oG l most).2.1 _ (sS h hm) (ag _)
noncomputable def bX (most:Int):Nat→List UInt8→List Nat×List Nat
 | 0,_=>([], [])
 | k+1,s=>if s= []then([], [])else((dX (s.take (fP s most))).1++(bX most k (s.drop (fP s most))).1,S02.b6 (s.take (fP s most)) :: (bX most k (s.drop (fP s most))).2)
noncomputable def aF (s:List UInt8) (level:Nat) (most:Int):List Nat:=
 ai [66,90,104,UInt8.ofNat (48+level)]++(bX most s.length s).1++(aj 25779555029136 48++aj (S02.dc (bX most s.length s).2) 32)
noncomputable def ff (s:List UInt8) (level most:Int):List UInt8×Nat:=
 if ¬cU level most then([],2)else if 262144<s.length then([],3)else(pack (aF s level.toNat most),0)
def bQ(t:List UInt8):Nat×Nat:=
 if t.length<1 then(0,10)else if(t.getD 0 0).toNat≠66 then(0,130)
 else if t.length<2 then(0,10)else if(t.getD 1 0).toNat≠90 then(0,130)
 else if t.length<3 then(0,10)else if(t.getD 2 0).toNat≠104 then(0,130)
 else if t.length<4 then(0,10)else if(t.getD 3 0).toNat<49∨57<(t.getD 3 0).toNat then(0,130)
 else((t.getD 3 0).toNat - 48,0)
def bN(l:List Nat)(room:Nat):Nat→Nat→List UInt8→List Nat→List UInt8×List Nat×Nat×Nat
 | 0,bit,out,sums=>(out,sums,bit,0)
 | k+1,bit,out,sums=>
   if l.length<bit+48 then([], [],0,10)
   else if val ((l.drop bit).take 48)=25779555029136 then(out,sums,bit,0)
   else if val ((l.drop bit).take 48)≠54156738319193 then([], [],0,130)
   else if(cH l (bit:Nat) (room:Nat)).2.2.2≠0 then([], [],0,(cH l (bit:Nat) (room:Nat)).2.2.2)
   else if 262144<out.length+(cH l (bit:Nat) (room:Nat)).1.length then([], [],0,3)
   else bN l room k (cH l (bit:Nat) (room:Nat)).2.2.1 (out++(cH l (bit:Nat) (room:Nat)).1) (sums++ [(cH l (bit:Nat) (room:Nat)).2.1])
theorem dF(l:List Nat)(room k bit:Nat)(out:List UInt8)(sums:List Nat):bN l room (k+1) bit out sums=
 if l.length<bit+48 then([], [],0,10)
 else if val ((l.drop bit).take 48)=25779555029136 then(out,sums,bit,0)
 else if val ((l.drop bit).take 48)≠54156738319193 then([], [],0,130)
 else if(cH l (bit:Nat) (room:Nat)).2.2.2≠0 then([], [],0,(cH l (bit:Nat) (room:Nat)).2.2.2)
 else if 262144<out.length+(cH l (bit:Nat) (room:Nat)).1.length then([], [],0,3)
 else bN l room k (cH l (bit:Nat) (room:Nat)).2.2.1 (out++(cH l (bit:Nat) (room:Nat)).1) (sums++ [(cH l (bit:Nat) (room:Nat)).2.1]):=rfl
def BW(l:List Nat)(b:List UInt8×List Nat×Nat×Nat):List UInt8×Nat×Nat:=
 if b.2.2.2≠0 then([],0,b.2.2.2)
 else if l.length<b.2.2.1+48+32 then([],0,10)
 else if val ((l.drop (b.2.2.1+48)).take 32)≠S02.dc b.2.1 then([],0,121)
 else(b.1,(b.2.2.1+80+7) / 8,0)
def aM(t:List UInt8)(at':Int):List UInt8×Nat×Nat:=
 if at'<0∨(t.length:Int)<at' then([],0,2)
 else if(bQ (t.drop at'.toNat)).2≠0 then([],0,(bQ (t.drop at'.toNat)).2)
 else BW (ai t) (bN (ai t) (gm (bQ (t.drop at'.toNat)).1) (ai t).length (8*at'.toNat+32) [] [])
def jX(t:List UInt8):Nat→Nat→List UInt8→List UInt8×Nat
 | 0,_,out=>(out,0)
 | k+1,a,out=>
   if(aM t (a:Nat)).2.2≠0 then([],(aM t (a:Nat)).2.2)
   else if 262144<out.length+(aM t (a:Nat)).1.length then([],3)
   else if(aM t (a:Nat)).2.1<t.length then jX t k (aM t (a:Nat)).2.1 (out++(aM t (a:Nat)).1)
   else(out++(aM t (a:Nat)).1,0)
theorem fd(t:List UInt8)(k a:Nat)(out:List UInt8):jX t (k+1) a out=
 if(aM t (a:Nat)).2.2≠0 then([],(aM t (a:Nat)).2.2)
 else if 262144<out.length+(aM t (a:Nat)).1.length then([],3)
 else if(aM t (a:Nat)).2.1<t.length then jX t k (aM t (a:Nat)).2.1 (out++(aM t (a:Nat)).1)
 else(out++(aM t (a:Nat)).1,0):=rfl
def eh(t:List UInt8):List UInt8×Nat:=jX t (t.length+1) 0 []
theorem bg{l u:List UInt8}{i:Nat}(h:i<l.length):(l++u).getD i 0=l.getD i 0:=by rw[LU,ME h,LU]
theorem ti{t:List UInt8}(u:List UInt8)(h:(bQ t).2=0):4≤t.length∧bQ (t++u)=bQ t∧1≤(bQ t).1∧(bQ t).1≤9:=by
 have key:4≤t.length:=by
  unfold bQ at h;by_cases h1:t.length<1;·rw[LX h1]at h;cases h
  rw[LW h1]at h;by_cases h2:(t.getD 0 0).toNat≠66;·rw[LX h2]at h;cases h
  rw[LW h2]at h;by_cases h3:t.length<2;·rw[LX h3]at h;cases h
  rw[LW h3]at h;by_cases h4:(t.getD 1 0).toNat≠90;·rw[LX h4]at h;cases h
  rw[LW h4]at h;by_cases h5:t.length<3;·rw[LX h5]at h;cases h
  rw[LW h5]at h;by_cases h6:(t.getD 2 0).toNat≠104;·rw[LX h6]at h;cases h
  rw[LW h6]at h;by_cases h7:t.length<4;·rw[LX h7]at h;cases h
  omega
 have e:bQ (t++u)=bQ t:=by unfold bQ;rw[bg (by omega),bg (by omega),bg (by omega),bg (by omega),LR];(have k1:∀k,k≤4→(t.length+u.length<k)=(t.length<k):=fun k hk=>by apply propext;constructor <;>intro _ <;>omega);simp only[k1 1 (by omega),k1 2 (by omega),k1 3 (by omega),k1 4 (by omega)]
 refine⟨key,e,?_⟩;unfold bQ at h ⊢;rw[LW (show ¬t.length<1 by omega)]at h ⊢;by_cases h2:(t.getD 0 0).toNat≠66;·rw[LX h2]at h;cases h
 rw[LW h2]at h ⊢;rw[LW (show ¬t.length<2 by omega)]at h ⊢;by_cases h4:(t.getD 1 0).toNat≠90;·rw[LX h4]at h;cases h
 rw[LW h4]at h ⊢;rw[LW (show ¬t.length<3 by omega)]at h ⊢;by_cases h6:(t.getD 2 0).toNat≠104;·rw[LX h6]at h;cases h
 rw[LW h6]at h ⊢;rw[LW (show ¬t.length<4 by omega)]at h ⊢;by_cases h8:(t.getD 3 0).toNat<49∨57<(t.getD 3 0).toNat;·rw[LX h8]at h;cases h
 rw[LW h8];show 1≤(t.getD 3 0).toNat - 48∧(t.getD 3 0).toNat - 48≤9;omega
theorem oj{l:List Nat}(u:List Nat){room:Nat}:∀(k k' bit:Nat) (out:List UInt8) (sums:List Nat),k≤k'→(bN l room k bit out sums).2.2.2=0→(bN l room k bit out sums).2.2.1+48≤l.length→l.length<bit+105*k+48→
 bit≤(bN l room k bit out sums).2.2.1∧bN (l++u) room k' bit out sums=bN l room k bit out sums
 | 0,_,bit,out,sums,_,_,h,h2=>by have h3:bit+48≤l.length:=h;omega
 | k+1,k',bit,out,sums,hk,hz,h,h2=>by
  obtain⟨k',rfl⟩:∃j,k'=j+1:=⟨k' - 1,by omega⟩;rw[dF]at hz h ⊢;rw[dF];by_cases h3:l.length<bit+48;·rw[LX h3]at hz;cases hz
  rw[LW h3]at hz h ⊢;rw[LW (show ¬(l++u).length<bit+48 by rw[LR];omega),dt (by omega)];by_cases h4:val ((l.drop bit).take 48)=25779555029136;·rw[LX h4,LX h4];exact⟨L5 _,rfl⟩
  rw[LW h4]at hz h ⊢;rw[LW h4];by_cases h5:val ((l.drop bit).take 48)≠54156738319193;·rw[LX h5]at hz;cases hz
  rw[LW h5]at hz h ⊢;rw[LW h5];by_cases h6:(cH l (bit:Nat) (room:Nat)).2.2.2≠0;·rw[LX h6]at hz;exact absurd hz h6
  obtain⟨a,b,c⟩:=nw u (Decidable.not_not.1 h6);rw[LW h6]at hz h ⊢;rw[c,LW h6];by_cases h7:262144<out.length+(cH l (bit:Nat) (room:Nat)).1.length;·rw[LX h7]at hz;cases hz
  rw[LW h7]at hz h ⊢;rw[LW h7];obtain⟨d,e⟩:=oj u k k' _ _ _ (by omega) hz h (by omega);exact⟨by omega,e⟩
theorem uo{t:List UInt8}(u:List UInt8){p:Nat}(h:(aM t (p:Nat)).2.2=0):p+14≤(aM t (p:Nat)).2.1∧(aM t (p:Nat)).2.1≤t.length∧aM (t++u) (p:Nat)=aM t (p:Nat):=by
 unfold aM at*;by_cases h1:(p:Int)<0∨(t.length:Int)<(p:Int);·rw[LX h1]at h;cases h
 rw[LW h1]at h ⊢;rw[L9]at h ⊢;rw[LW (show ¬((p:Int)<0∨((t++u).length:Int)<(p:Int)) by rw[LR];omega)];rw[Nc (by omega)];by_cases h2:(bQ (t.drop p)).2≠0;·rw[LX h2]at h;exact absurd h h2
 obtain⟨h4,he,_,_⟩:=ti u (Decidable.not_not.1 h2);rw[Mc]at h4;rw[LW h2]at h ⊢;rw[he,LW h2,fV];have hl:(ai t).length=8*t.length:=aw t;generalize ai t=l at*;generalize gm (bQ (t.drop p)).1=room at*;have hk:=fun hz hb=>oj (l:=l) (ai u) (room:=room) l.length (l++ai u).length (8*p+32) [] [] (by rw[LR];omega) hz hb (by omega);generalize bN l room l.length (8*p+32) [] []=b at*;unfold BW at*;by_cases h5:b.2.2.2≠0;·rw[LX h5]at h;exact absurd h h5
 rw[LW h5]at h ⊢;by_cases h6:l.length<b.2.2.1+48+32;·rw[LX h6]at h;cases h
 rw[LW h6]at h ⊢;obtain⟨h7,h8⟩:=hk (Decidable.not_not.1 h5) (by omega);rw[h8,LW h5,LW (show ¬(l++ai u).length<b.2.2.1+48+32 by rw[LR];omega),dt (by omega)];by_cases h9:val ((l.drop (b.2.2.1+48)).take 32)≠S02.dc b.2.1;·rw[LX h9]at h;cases h
 rw[LW h9];refine⟨?_,?_,rfl⟩;·show p+14≤(b.2.2.1+80+7) / 8;omega
 ·show(b.2.2.1+80+7) / 8≤t.length;omega
theorem ed(most:Int)(k:Nat)(s:List UInt8)(h:s≠ []):bX most (k+1) s=((dX (s.take (fP s most))).1++(bX most k (s.drop (fP s most))).1,S02.b6 (s.take (fP s most)) :: (bX most k (s.drop (fP s most))).2):=LW h
theorem cI(most:Int)(k:Nat):bX most k []=([], []):=by
 cases k with
 | zero=>rfl
 | succ k=>exact LX rfl
theorem jL(most:Int):∀(k:Nat) (s:List UInt8),au (bX most k s).1
 | 0,_=>fun b hb=>by cases hb
 | k+1,s=>by
  by_cases h:s= [];·rw[h,cI];exact fun b hb=>by cases hb
  ·rw[ed most k s h];exact(vh _).append (jL most k _)
theorem lF(most:Int):∀(k:Nat) (s:List UInt8) (x:Nat),x∈(bX most k s).2→x<4294967296
 | 0,_,_,h=>absurd h ay
 | k+1,s,x,hx=>by
  by_cases h:s= [];·rw[h,cI]at hx;exact absurd hx ay
  ·rw[ed most k s h]at hx;rcases List.mem_cons.1 hx with e | hx;·rw[e];exact S02.om _
   ·exact lF most k _ x hx
theorem uP(s:List UInt8):∃X,cL s=aj 54156738319193 48++X:=⟨aj (S02.b6 s) 32++(aj (mB (S03.aT s)) 25++(S06.dM (S06.ofL (S03.aT s))++gn (S03.aT s))),by unfold cL fm;simp only[LZ]⟩
theorem Df(B:List Nat)(x n:Nat)(h:x<2 ^ n)(R:List Nat):val (((B++(aj x n++R)).drop B.length).take n)=x:=by rw[NS];exact k5 x n h R
theorem qC(w:World)(most:Int)(hm:1≤most)(room:Nat)(hr:most≤room)(h8:room≤262144)(R:List Nat)(hR:au R):
 ∀(k:Nat) (s:List UInt8) (B:List Nat) (fuel:Nat) (out:List UInt8) (sums:List Nat),s.length≤k→out.length+s.length≤262144→
  (B++((bX most k s).1++(aj 25779555029136 48++R))).length<B.length+105*fuel+48→
  bN (B++((bX most k s).1++(aj 25779555029136 48++R))) room fuel B.length out sums=(out++s,sums++(bX most k s).2,B.length+(bX most k s).1.length,0)
 | 0,s,B,fuel,out,sums,hk,ho,hf=>by have hs:s= []:=Mg (by omega);subst hs;rw[cI,Mz]at*;have h2:(B++(aj 25779555029136 48++R)).length=B.length+48+R.length:=(by rw[LR,LR,af];omega);obtain⟨f,rfl⟩:∃f,fuel=f+1:=⟨fuel - 1,by omega⟩;rw[dF,LW (by omega),LX (Df B _ 48 (by omega) R)];simp
 | k+1,s,B,fuel,out,sums,hk,ho,hf=>by
  by_cases hs:s= [];·subst hs;rw[cI,Mz]at*;have h2:(B++(aj 25779555029136 48++R)).length=B.length+48+R.length:=(by rw[LR,LR,af];omega);obtain⟨f,rfl⟩:∃f,fuel=f+1:=⟨fuel - 1,by omega⟩;rw[dF,LW (by omega),LX (Df B _ 48 (by omega) R)];simp
  ·rw[ed most k s hs]at hf ⊢;have hb:=sS hs hm;have hc:=rC s most;have ha:=Ih hs hm;generalize fP s most=n at*;have htl:(s.take n).length=n:=(by rw[Mj];omega);(have h1:s.take n≠ []:=fun e=>by rw[e]at htl;simp at htl;omega);have h7:(s.drop n).length=s.length - n:=Mc;have ePut:(dX (s.take n)).1=cL (s.take n):=(by unfold dX;rw[LW h1,LW (by omega)]);have h3:=Ej w h1 (show(S03.aT (s.take n)).length≤262144 by omega);obtain⟨X,hX⟩:=uP (s.take n);obtain⟨Y,hY⟩:∃Y,Y=(bX most k (s.drop n)).1:=⟨_,rfl⟩;obtain⟨P,hP⟩:∃P,P=(dX (s.take n)).1:=⟨_,rfl⟩;have h4:au Y:=(by rw[hY];exact jL most k _);obtain⟨Z,hZ⟩:∃Z,Z=Y++(aj 25779555029136 48++R):=⟨_,rfl⟩;have h5:au Z:=(by rw[hZ];exact h4.append ((aD _ _).append hR));have h0:=sk w h1 (by omega) (by omega) B Z h5 room (by omega) (by omega);rw[LX (by omega),←hP]at h0;dsimp only at hf ⊢;rw[← hP,←hY]at hf ⊢;rw[← hP]at h3;have eL:B++(P++Y++(aj 25779555029136 48++R))=B++P++Z:=(by rw[hZ];simp only[LZ]);rw[eL]at hf ⊢;have h2:(B++P++Z).length=B.length+P.length+Z.length:=(by rw[LR,LR]);have h6:(B++P).length=B.length+P.length:=LR;have h9:48≤Z.length:=(by rw[hZ,LR,LR,af];omega);obtain⟨f,rfl⟩:∃f,fuel=f+1:=⟨fuel - 1,by omega⟩;have hv:val (((B++P++Z).drop B.length).take 48)=54156738319193:=(by rw[hP,ePut,hX,show B++(aj 54156738319193 48++X)++Z=B++(aj 54156738319193 48++(X++Z)) by simp only[LZ]];exact Df B _ 48 (by omega) _);rw[dF,LW (by omega),hv,LW (by omega),LW (by simp),h0];dsimp only;rw[LW (by omega),LW (by rw[htl];omega)]
   have ih:=qC w most hm room hr h8 R hR k (s.drop n) (B++P) f (out++s.take n) (sums++ [S02.b6 (s.take n)]) (by omega) (by rw[LR,htl,h7];omega) (by
    rw[← hY,←hZ,h6]
    omega)
   rw[← hY,←hZ,h6]at ih;rw[ih];simp only[LZ,MY,LR,List.singleton_append,Nu]
theorem iK(level:Nat):(ai [66,90,104,UInt8.ofNat (48+level)]).length=32:=by rw[aw];rfl
theorem bP(s:List UInt8)(level:Nat)(most:Int):(aF s level most).length=112+(bX most s.length s).1.length:=by unfold aF;simp only[LR,iK,af];omega
theorem wP(s:List UInt8)(level:Nat)(most:Int):au (aF s level most):=by unfold aF;exact((aI _).append (jL most _ _)).append ((aD _ _).append (aD _ _))
theorem tP(a:List UInt8)(l:List Nat)(h:au l):∃r,pack (ai a++l)=a++r:=by have hb:=lk (ai a++l) ((aI a).append h);obtain⟨Q,hQ⟩:∃Q,Q=pack (ai a++l):=⟨_,rfl⟩;rw[← hQ]at hb ⊢;have h0:a.length≤Q.length:=(by rw[hQ,a8,LR,aw];omega);have e1:ai (Q.take a.length)++ai (Q.drop a.length)=ai a++(l++List.replicate (8*(((ai a++l).length+7) / 8) - (ai a++l).length) 0):=(by rw[← fV,MY,hb,LZ]);have e2:=(List.append_inj e1 (by rw[aw,aw,Mj,MN h0])).1;have e3:Q.take a.length=a:=(by rw[← tO (Q.take a.length),e2,tO]);exact⟨Q.drop a.length,by rw[← e3,Mj,MN h0];exact(MY _ _).symm⟩
theorem Ca(x:UInt8)(r:List UInt8)(h1:49≤x.toNat)(h2:x.toNat≤57):bQ ([66,90,104,x]++r)=(x.toNat - 48,0):=by have hl:([66,90,104,x]++r).length=r.length+4:=(by simp);unfold bQ;rw[hl,LW (show ¬r.length+4<1 by omega),LW (show ¬(([66,90,104,x]++r).getD 0 0).toNat≠66 by simp),LW (show ¬r.length+4<2 by omega),LW (show ¬(([66,90,104,x]++r).getD 1 0).toNat≠90 by simp),LW (show ¬r.length+4<3 by omega),LW (show ¬(([66,90,104,x]++r).getD 2 0).toNat≠104 by simp),LW (show ¬r.length+4<4 by omega)];have e:([66,90,104,x]++r).getD 3 0=x:=rfl;rw[e,LW (by omega)]
theorem Cb{level:Nat}(h1:1≤level)(h2:level≤9)(r:List UInt8):bQ ([66,90,104,UInt8.ofNat (48+level)]++r)=(level,0):=by have e:(UInt8.ofNat (48+level)).toNat=48+level:=UInt8.toNat_ofNat_of_lt' (show 48+level<256 by omega);rw[Ca _ r (by omega) (by omega),e,show 48+level - 48=level by omega]
theorem iu(w:World){s:List UInt8}{level most:Int}(hl:cU level most)(hs:s.length≤262144)(pre post:List UInt8):
 aM (pre++pack (aF s level.toNat most)++post) (pre.length:Nat)=(s,pre.length+(pack (aF s level.toNat most)).length,0):=by
 obtain⟨h1,h2,h3,h4⟩:=hl;obtain⟨lv,rfl⟩:∃lv:Nat,level=lv:=⟨level.toNat,by omega⟩;rw[L9]at*;have h7:=ub lv;obtain⟨S,hS⟩:∃S,S=aj (S02.dc (bX most s.length s).2) 32:=⟨_,rfl⟩;obtain⟨Y,hY⟩:∃Y,Y=(bX most s.length s).1:=⟨_,rfl⟩;obtain⟨F,hF⟩:∃F,F=ai [66,90,104,UInt8.ofNat (48+lv)]:=⟨_,rfl⟩;have hh:F.length=32:=by rw[hF,iK]
 have hi:S.length=32:=by rw[hS,af]
 have h8:au Y:=by rw[hY];exact jL most _ _
 have h5:au S:=by rw[hS];exact aD _ _
 have hc:aF s lv most=F++(Y++(aj 25779555029136 48++S)):=by unfold aF;rw[← hF,←hY,←hS,LZ]
 obtain⟨T,hT⟩:∃T,T=pack (aF s lv most):=⟨_,rfl⟩;have h0:∃r,T= [66,90,104,UInt8.ofNat (48+lv)]++r:=by rw[hT,hc,hF];exact tP _ _ (h8.append ((aD _ _).append h5))
 obtain⟨r,hr⟩:=h0;have hf:=lk (aF s lv most) (wP s lv most);have hj:T.length=((aF s lv most).length+7) / 8:=by rw[hT,a8]
 rw[← hT]at hf ⊢;obtain⟨Z,hZ⟩:∃Z,Z=List.replicate (8*(((aF s lv most).length+7) / 8) - (aF s lv most).length) 0++ai post:=⟨_,rfl⟩;have h9:au Z:=by rw[hZ];refine au.append (fun b hb=> ?_) (aI post);rw[(List.mem_replicate.1 hb).2];omega
 have h6:ai (pre++T++post)=(ai pre++F)++(Y++(aj 25779555029136 48++(S++Z))):=by rw[fV,fV,hf,hc,hZ,hc];simp only[LZ]
 have hB:(ai pre++F).length=8*pre.length+32:=by rw[LR,aw,hh]
 unfold aM
 rw[LW (by
  rintro(h | h)
  ·omega
  ·rw[LR,LR]at h
   omega),L9]
 have hd:(pre++T++post).drop pre.length= [66,90,104,UInt8.ofNat (48+lv)]++(r++post):=by rw[LZ,NS,hr,LZ]
 rw[hd,Cb (by omega) (by omega),LW (by simp),h6];dsimp only
 have hg:=qC w most h3 (gm lv) h4 h7 (S++Z) (h5.append h9) s.length s (ai pre++F) ((ai pre++F)++(Y++(aj 25779555029136 48++(S++Z)))).length [] [] (ag _) (by simpa using hs) (by
  rw[← hY]
  omega)
 rw[← hY,hB,Mz,Mz]at hg;rw[hg];have ha:((ai pre++F)++(Y++(aj 25779555029136 48++(S++Z)))).length=8*pre.length+32+Y.length+48+32+Z.length:=by rw[LR,hB];simp only[LR,af,hi];omega
 have he:val ((((ai pre++F)++(Y++(aj 25779555029136 48++(S++Z)))).drop (8*pre.length+32+Y.length+48)).take 32)=S02.dc (bX most s.length s).2:=by have e:(ai pre++F)++(Y++(aj 25779555029136 48++(S++Z)))=((ai pre++F)++(Y++aj 25779555029136 48))++(S++Z):=(by simp only[LZ]);have e2:((ai pre++F)++(Y++aj 25779555029136 48)).length=8*pre.length+32+Y.length+48:=(by rw[LR,hB,LR,af];omega);rw[e,←e2,NS,hS];exact k5 _ 32 (S02.nS _ fun x hx=>lF most _ _ x hx) _
 have hk:(aF s lv most).length=112+Y.length:=by rw[bP,←hY]
 unfold BW;dsimp only;rw[LW (by omega),ha,LW (by omega),he,LW (by simp),hj,hk];rw[show (8*pre.length+32+Y.length+80+7) / 8=pre.length+(112+Y.length+7) / 8 by omega]
theorem uA(w:World){s:List UInt8}{level most:Int}(hl:cU level most)(hs:s.length≤262144):eh (pack (aF s level.toNat most))=(s,0):=by have h:=iu w hl hs [] [];rw[Mz,Mv]at h;have h2:aM (pack (aF s level.toNat most)) ((0:Nat):Int)=(s,(pack (aF s level.toNat most)).length,0):=(by rw[show (([]:List UInt8).length)=0 from rfl,MG]at h;exact h);unfold eh;rw[fd,h2];dsimp only;rw[LW (by simp),LW (by simp;omega),LW (by omega),Mz]
theorem rm(w:World):∀(l:List (List UInt8×Int×Int)) (fuel:Nat) (pre out:List UInt8),l≠ []→(∀ x∈l,cU x.2.1 x.2.2)→out.length+(l.flatMap (·.1)).length≤262144→l.length≤fuel→
 jX (pre++l.flatMap fun x=>pack (aF x.1 x.2.1.toNat x.2.2)) fuel pre.length out=(out++l.flatMap (·.1),0)
 | [],_,_,_,h,_,_,_=>absurd rfl h
 | x :: l,0,_,_,_,_,_,hf=>by simp at hf
 | x :: l,f+1,pre,out,_,hl,ho,hf=>by
  have hx:=hl x L4;rw[MD,LR]at ho;have h:=iu w hx (show x.1.length≤262144 by omega) pre (l.flatMap fun x=>pack (aF x.1 x.2.1.toNat x.2.2));obtain⟨P,hP⟩:∃P,P=pack (aF x.1 x.2.1.toNat x.2.2):=⟨_,rfl⟩;have h0:14≤P.length:=by rw[hP,a8,bP];omega
  rw[← hP]at h;rw[MD,MD,←hP,fd,←LZ,h];dsimp only;rw[LW (by simp),LW (by omega)];by_cases he:l= [];·subst he;rw[Pw,Pw,Mv,Mv,LW (by rw[LR];omega)]
  ·have ih:=rm w l f (pre++P) (out++x.1) he (fun y hy=>hl y (Ma _ hy)) (by rw[LR];omega) (by simp at hf;omega);have h1:14≤(l.flatMap fun x=>pack (aF x.1 x.2.1.toNat x.2.2)).length:=by
    match l,he with
    | y :: l,_=>rw[MD,LR,a8,bP];omega
   rw[LX (by rw[LR,LR];omega),show pre.length+P.length=(pre++P).length by rw[LR],ih,LZ]
theorem Dd(w:World){s:List UInt8}{level most:Int}(hl:cU level most)(hs:s.length≤262144)(n:Nat)(hn:n<(pack (aF s level.toNat most)).length):
 (eh ((pack (aF s level.toNat most)).take n)).1= []∧(eh ((pack (aF s level.toNat most)).take n)).2≠0:=by have h:=iu w hl hs [] [];rw[Mz,Mv,show(([]:List UInt8).length)=0 from rfl,MG]at h;generalize pack (aF s level.toNat most)=T at*;have h0:(aM (T.take n) ((0:Nat):Int)).2.2≠0:=(by intro e;obtain⟨_,h2,h3⟩:=uo (T.drop n) e;rw[MY,h]at h3;have h4:T.length=(aM (T.take n) ((0:Nat):Int)).2.1:=(by rw[← h3]);rw[← h4,Mj]at h2;omega);unfold eh;rw[fd,LX h0];exact⟨rfl,h0⟩
theorem De(w:World){s:List UInt8}{level most:Int}(hl:cU level most)(hs:s.length≤262144)(x:UInt8)(hx:x.toNat≠66):
 eh (pack (aF s level.toNat most)++ [x])=([],130):=by have h:=iu w hl hs [] [x];rw[Mz,show(([]:List UInt8).length)=0 from rfl,MG]at h;have h0:14≤(pack (aF s level.toNat most)).length:=(by rw[a8,bP];omega);generalize pack (aF s level.toNat most)=T at*;have h2:aM (T++ [x]) (T.length:Nat)=([],0,130):=(by unfold aM;rw[LW (by rw[LR];omega),L9,NS];have e:bQ [x]=(0,130):=(by unfold bQ;rw[LW (show ¬ [x].length<1 by simp),LX (show([x].getD 0 0).toNat≠66 from hx)]);rw[e,LX (by simp)]);unfold eh;obtain⟨k,hk⟩:∃k,(T++ [x]).length=k+1:=⟨T.length,by simp⟩;rw[hk,fd,h];dsimp only;rw[LW (by simp),LW (by simp;omega),LX (by rw[LR,Mq];omega),fd,h2];rw[LX (by simp)]
theorem jY:eh []=([],10):=by decide +kernel
theorem Cz(w:World){s:List UInt8}{level:Nat}{most:Int}(_:1≤most)(h:s.length+s.length / 4≤most):14≤(pack (aF s level most)).length∧(pack (aF s level most)).length≤s.length+s.length / 2+600:=by
 rw[a8,bP];have he:=S03.gE s;by_cases hs:s= [];·rw[hs,cI];simp
 ·obtain⟨k,hk⟩:∃k,s.length=k+1:=⟨s.length - 1,by
   have:=List.length_pos_iff.2 hs
   omega⟩
  have hf:fP s most=s.length:=(xd (S03.vK (by omega))).symm;rw[hk,ed most k s hs,hf,P9,cI,O3];have hb:=lh w s;simp only[Mv];omega
theorem G5(t:ByteArray)(i:Nat)(h:i<t.size):(t.data.toList.getD i 0)=t[i]:=by rw[LU,LV (by show i<t.size;exact h)];rfl
def eZ(w:World)(ans:List UInt8×Nat×Nat)(e:Ending)(w':World):Prop:=e=.returned (.tuple #[.string (S06.aX ans.1),.int .i64 ans.2.1,.int .i64 ans.2.2])∧Below w.heap.size w w'
def cG(w:World)(ans:List UInt8×Nat)(e:Ending)(w':World):Prop:=e=.returned (.tuple #[.string (S06.aX ans.1),.int .i64 ans.2])∧Below w.heap.size w w'
theorem qB(l:List Nat)(room:Nat):∀(k bit:Nat) (out:List UInt8) (sums:List Nat),out.length≤262144→(bN l room k bit out sums).1.length≤262144
 | 0,_,_,_,h=>h
 | k+1,bit,out,sums,h=>by
  rw[dF];split;·exact LY _
  split;·exact h
  split;·exact LY _
  split;·exact LY _
  split;·exact LY _
  ·exact qB l room k _ _ _ (by rw[LR];omega)
theorem Gz(t:List UInt8)(a:Int):(aM t a).1.length≤262144:=by
 unfold aM;split;·exact LY _
 split;·exact LY _
 ·unfold BW;split;·exact LY _
  split;·exact LY _
  split;·exact LY _
  ·exact qB _ _ _ _ _ _ (LY _)
theorem AB(S:ByteArray)(l:List UInt8):S++S06.aX l=S06.aX (S.data.toList++l):=by apply PF;simp[S06.aX]
theorem fc(l:List UInt8):(S06.aX l).data.toList=l:=rfl
theorem je(l:List UInt8):(S06.aX l).size=l.length:=rfl
def wv(n:Nat):Value:=.int .u32 n
theorem iZ{w:World}{B n:Nat}{v:Value}{L:List Nat}(h:w.ownsRow B 52 1 v n (L.map wv)):∃A c,v=.slice A n c∧n≤c∧c≤maxLen∧S02.Dl w A n L:=by
 obtain⟨A,c,rfl,hc,hm,hA⟩:=ao h;have hl:L.length=n:=by have:=h.1;simpa using this
 refine⟨A,c,rfl,hc,hm,hl,fun h0=> ?_⟩;obtain⟨g,rfl⟩:=hA h0;refine⟨g,0,rfl,fun i hi=> ?_⟩
 have h1:=h.cells (g:=g) rfl i (wv (L.getD i 0)) (by
  rw[Me,LU,LV (by omega)]
  rfl)
 have e:(⟨g,0,none⟩:Addr).add i=⟨g,0+i,none⟩:=by unfold Addr.add;split <;>simp_all
 rw[e]at h1;exact h1
theorem IB:∃i,Tryz.prog.info? 52=some i∧i.zero=some (.int .u32 0)∧i.size=1∧i.bytes=4:=by
 have h0:(Tryz.prog.info? 52).map (·.zero)=some (some (.int .u32 0)):=by kernel_rfl
 have h1:(Tryz.prog.info? 52).map (·.size)=some 1:=by kernel_rfl
 have h2:(Tryz.prog.info? 52).map (·.bytes)=some 4:=by kernel_rfl
 cases hq:Tryz.prog.info? 52 with
 | none=>simp[hq]at h1
 | some i=>exact⟨i,rfl,by simpa [hq]using h0,by simpa [hq]using h1,by simpa [hq]using h2⟩
theorem yt(l:List Nat)(p most:Int):(cH l p most).1.length≤262144∧(cH l p most).2.1<4294967296:=by
 unfold cH;split;·exact⟨LY _,by show 0<4294967296;omega⟩
 split;·exact⟨LY _,by show 0<4294967296;omega⟩
 ·generalize (bY l p.toNat).1=sum;generalize (bY l p.toNat).2.1=row;generalize p.toNat+105=q;unfold kW;dsimp only;split;·exact⟨LY _,by show 0<4294967296;omega⟩
  split;·exact⟨LY _,by show 0<4294967296;omega⟩
  split;·exact⟨LY _,by show 0<4294967296;omega⟩
  split;·exact⟨LY _,by show 0<4294967296;omega⟩
  split;·exact⟨LY _,by show 0<4294967296;omega⟩
  split;·exact⟨LY _,by show 0<4294967296;omega⟩
  ·generalize kC _ row=B;have h1:=zd B.1;generalize S03.e9 [] B.1=X at*;split;·exact⟨LY _,by show 0<4294967296;omega⟩
   ·rename_i h;refine⟨h1,?_⟩;show sum<4294967296;rw[← Decidable.not_not.1 h];exact S02.om _
theorem l5(w:World)(most:Int):∀(k:Nat) (s:List UInt8),(bX most k s).1.length≤12*s.length+4000*k
 | 0,_=>LY _
 | k+1,s=>by
  by_cases h:s= [];·rw[h,cI];exact LY _
  ·rw[ed most k s h];have h1:=lh w (s.take (fP s most));have h2:=l5 w most k (s.drop (fP s most));have h3:=rC s most;rw[Mj,MN h3]at h1;rw[Mc]at h2;dsimp only;rw[LR];omega
noncomputable def f5 (most:Int):Nat→List UInt8→List (List UInt8)
 | 0,_=> []
 | k+1,s=>if s= []then []else s.take (fP s most) :: f5 most k (s.drop (fP s most))
theorem nL(most:Int)(k:Nat):f5 most k []= []:=by
 cases k with
 | zero=>rfl
 | succ k=>exact LX rfl
theorem mv(most:Int)(k:Nat)(s:List UInt8)(h:s≠ []):f5 most (k+1) s=s.take (fP s most) :: f5 most k (s.drop (fP s most)):=LW h
theorem nb(most:Int):∀(k:Nat) (s:List UInt8),bX most k s=(((f5 most k s).map fun p=>(dX p).1).flatten,(f5 most k s).map S02.b6)
 | 0,_=>rfl
 | k+1,s=>by
  by_cases h:s= [];·subst h;rw[cI,nL];rfl
  ·rw[ed most k s h,mv most k s h,nb most k];rfl
def dK(t:List UInt8):Nat→Nat→Nat→List UInt8→List UInt8×Nat
 | 0,_,n,out=>if 262144<n then([],3)else(out,0)
 | k+1,a,n,out=>
   if(aM t (a:Nat)).2.2≠0 then([],(aM t (a:Nat)).2.2)
   else if(aM t (a:Nat)).2.1<t.length then dK t k (aM t (a:Nat)).2.1 (n+(aM t (a:Nat)).1.length) (if n+(aM t (a:Nat)).1.length≤262144 then out++(aM t (a:Nat)).1 else out)
   else if 262144<n+(aM t (a:Nat)).1.length then([],3)else(out++(aM t (a:Nat)).1,0)
theorem kr(t:List UInt8)(k a n:Nat)(out:List UInt8):dK t (k+1) a n out=
 if(aM t (a:Nat)).2.2≠0 then([],(aM t (a:Nat)).2.2)
 else if(aM t (a:Nat)).2.1<t.length then dK t k (aM t (a:Nat)).2.1 (n+(aM t (a:Nat)).1.length) (if n+(aM t (a:Nat)).1.length≤262144 then out++(aM t (a:Nat)).1 else out)
 else if 262144<n+(aM t (a:Nat)).1.length then([],3)else(out++(aM t (a:Nat)).1,0):=rfl
def fB(t:List UInt8):List UInt8×Nat:=dK t (t.length+1) 0 0 []
theorem mI(t:List UInt8):∀(k a n:Nat) (out:List UInt8),262144<n→(dK t k a n out).1= []∧(dK t k a n out).2≠0
 | 0,a,n,out,h=>by unfold dK;rw[LX h];exact⟨rfl,by decide⟩
 | k+1,a,n,out,h=>by
  rw[kr];by_cases h1:(aM t (a:Nat)).2.2≠0;·rw[LX h1];exact⟨rfl,h1⟩
  rw[LW h1];by_cases h2:(aM t (a:Nat)).2.1<t.length;·rw[LX h2];exact mI t k _ _ _ (by omega)
  ·rw[LW h2,LX (by omega)];exact⟨rfl,by decide⟩
theorem mJ(t:List UInt8):∀(k a:Nat) (out:List UInt8),out.length≤262144→
 dK t k a out.length out=jX t k a out∨(jX t k a out=([],3)∧(dK t k a out.length out).1= []∧(dK t k a out.length out).2≠0)
 | 0,a,out,h=>by refine .inl ?_;unfold dK jX;rw[LW (by omega)]
 | k+1,a,out,h=>by
  rw[kr,fd];by_cases h1:(aM t (a:Nat)).2.2≠0;·rw[LX h1,LX h1];exact .inl rfl
  rw[LW h1,LW h1];by_cases h3:262144<out.length+(aM t (a:Nat)).1.length
  ·simp only[LX h3];refine .inr ⟨trivial,?_⟩;by_cases h2:(aM t (a:Nat)).2.1<t.length;·simp only[LX h2];exact mI t k _ _ _ h3
   ·simp only[LW h2];exact⟨trivial,by decide⟩
  ·simp only[LW h3];by_cases h2:(aM t (a:Nat)).2.1<t.length;·simp only[LX h2];rw[LX (by omega)];have h4:=mJ t k (aM t (a:Nat)).2.1 (out++(aM t (a:Nat)).1) (by rw[LR];omega);rw[LR]at h4;exact h4
   ·simp only[LW h2];exact .inl trivial
theorem fK{t:List UInt8}(h:(eh t).2≠3):fB t=eh t:=by
 rcases mJ t (t.length+1) 0 [] (LY _)with h1 | h1;·exact h1
 ·exact absurd (congrArg (·.2) h1.1) h
theorem AQ{t:List UInt8}(h1:(eh t).1= [])(h2:(eh t).2≠0):(fB t).1= []∧(fB t).2≠0:=by
 rcases mJ t (t.length+1) 0 [] (LY _)with h3 | h3;·have e:fB t=eh t:=h3;rw[e];exact⟨h1,h2⟩
 ·exact h3.2
structure lg (K:Nat):Prop where
 three:3≤K
 packOk:∀(w:World) (s:ByteArray) (level most:Int),cU level most→s.size≤K→Calls Tryz.prog 11 #[.string s,.int .i64 level,.int .i64 most] w (cG w (ff s.data.toList level most))
 take:∀(w:World) (t:ByteArray) (at':Int),t.size≤1100000→ -9223372036854775808≤at'→at'≤9223372036854775807→Calls Tryz.prog 13 #[.string t,.int .i64 at'] w (eZ w (aM t.data.toList at'))
 unpack:∀(w:World) (t:ByteArray),t.size≤1100000→Calls Tryz.prog 15 #[.string t] w (cG w (fB t.data.toList))
structure bp (K:Nat):Prop extends lg K where
 pack:∀(w:World) (s:ByteArray) (level most:Int),s.size≤K∨262144<s.size→s.size≤9223372036854775807→ -9223372036854775808≤level→level≤9223372036854775807→ -9223372036854775808≤most→most≤9223372036854775807→Calls Tryz.prog 11 #[.string s,.int .i64 level,.int .i64 most] w (cG w (ff s.data.toList level most))
theorem xx:ff (⟨#[]⟩:ByteArray).data.toList 1 1=([66,90,104,49,23,114,69,56,80,144,0,0,0,0],0):=by have h:aF ([]:List UInt8) 1 1=ai [66,90,104,UInt8.ofNat (48+1)]++ []++(aj 25779555029136 48++aj (S02.dc []) 32):=(by unfold aF;rw[cI]);show ff [] 1 1=_;unfold ff;rw[LW (NI (by decide)),LW (by simp),show((1:Int).toNat)=1 from rfl,h];decide +kernel
theorem uB:eh ((⟨#[66,90,104,49,23,114,69,56,80,144,0,0,0,0]⟩:ByteArray)++(⟨#[66,90,104,49,23,114,69,56,80,144,0,0,0,0]⟩:ByteArray)).data.toList=([],0):=by decide +kernel
theorem oT{s:List UInt8}{level most:Int}(h:cU level most)(hs:s.length≤262144):ff s level most=(pack (aF s level.toNat most),0):=by unfold ff;rw[LW (NI h),LW (by omega)]
theorem tQ(w:World)(s:List UInt8)(level:Nat)(most:Int):(pack (aF s level most)).length≤(119+4012*s.length) / 8:=by have h:=l5 w most s.length s;rw[a8,bP];omega
section
variable {K:Nat} (R:lg K)
include R
theorem d9(w:World):Calls Tryz.prog 10 #[] w fun e w'=>e=.returned (.bool true)∧Below w.heap.size w w':=by
 have h2:cU 9 2:=by decide
 have h3:=oT (s:= [97,98,99]) h2 (by decide);have h0:=uA w (s:= [97,98,99]) h2 (by decide);have h1:=tQ w [97,98,99] (9:Int).toNat 2;obtain⟨L2,h4⟩:∃x,x=pack (aF [97,98,99] (9:Int).toNat 2):=⟨_,rfl⟩;rw[← h4]at h3 h0 h1;have hg:L2.length≤5000:=Mk h1 (by decide);have P1:Hid (∀ wx:World,Calls Tryz.prog 11 #[.string ⟨#[]⟩,.int .i64 1,.int .i64 1] wx fun e w'=>e=.returned (.tuple #[.string ⟨#[66,90,104,49,23,114,69,56,80,144,0,0,0,0]⟩,.int .i64 0])∧Below wx.heap.size wx w'):=aa fun wx=>by have h:=R.packOk wx ⟨#[]⟩ 1 1 (by decide) (LY _);rw[xx]at h;exact h
 have U1:Hid (∀ wx:World,Calls Tryz.prog 15 #[.string ((⟨#[66,90,104,49,23,114,69,56,80,144,0,0,0,0]⟩:ByteArray)++(⟨#[66,90,104,49,23,114,69,56,80,144,0,0,0,0]⟩:ByteArray))] wx fun e w'=>e=.returned (.tuple #[.string ⟨#[]⟩,.int .i64 0])∧Below wx.heap.size wx w'):=aa fun wx=>by have h:=R.unpack wx ((⟨#[66,90,104,49,23,114,69,56,80,144,0,0,0,0]⟩:ByteArray)++(⟨#[66,90,104,49,23,114,69,56,80,144,0,0,0,0]⟩:ByteArray)) (by decide);rw[fK (by rw[uB];decide),uB]at h;exact h
 have U2:Hid (∀ wx:World,Calls Tryz.prog 15 #[.string ⟨#[]⟩] wx fun e w'=>e=.returned (.tuple #[.string ⟨#[]⟩,.int .i64 10])∧Below wx.heap.size wx w'):=aa fun wx=>by have h:=R.unpack wx ⟨#[]⟩ (by decide);rw[show fB (⟨#[]⟩:ByteArray).data.toList=([],10)from(fK (by rw[jY];decide)).trans jY]at h;exact h
 have P2:Hid (∀ wx:World,Calls Tryz.prog 11 #[.string ⟨#[97,98,99]⟩,.int .i64 9,.int .i64 2] wx fun e w'=>e=.returned (.tuple #[.string (S06.aX L2),.int .i64 0])∧Below wx.heap.size wx w'):=aa fun wx=>by have h:=R.packOk wx ⟨#[97,98,99]⟩ 9 2 (by decide) R.three;rw[show ff (⟨#[97,98,99]⟩:ByteArray).data.toList 9 2=(L2,0)from h3]at h;exact h
 have U3:Hid (∀ wx:World,Calls Tryz.prog 15 #[.string (S06.aX L2)] wx fun e w'=>e=.returned (.tuple #[.string ⟨#[97,98,99]⟩,.int .i64 0])∧Below wx.heap.size wx w'):=aa fun wx=>by have h:=R.unpack wx (S06.aX L2) (by rw[je];omega);rw[fc,fK (by rw[h0];exact Qw 2),h0]at h;exact h
 clear R h3 h0 h1 h4 h2;generalize S06.aX L2=T2 at*;go_enter Tryz.func10,Tryz.ntmps10;go_wp2_with fail;refine(P1.out w).mono ?_;rintro e w1 ⟨rfl,h5⟩;have ha:=aa h5;clear h5;go_wp2_with fail;refine(U1.out w1).mono ?_;rintro e w2 ⟨rfl,h6⟩;have hb:=aa (aq ha.out h6);clear h6;go_wp2_with fail;refine(U2.out w2).mono ?_;rintro e w3 ⟨rfl,h7⟩;have hc:=aa (aq hb.out h7);clear h7;go_wp2_with fail;refine(P2.out w3).mono ?_;rintro e w4 ⟨rfl,h8⟩;have he:=aa (aq hc.out h8);clear h8;go_wp2_with fail;refine(U3.out w4).mono ?_;rintro e w5 ⟨rfl,h9⟩;have hf:=aa (aq he.out h9);clear h9;go_wp2_with fail;go_ret;exact⟨rfl,hf.out⟩
end
theorem qj(s:ByteArray):S06.aX s.data.toList=s:=by apply PF;show s.data.toList.toArray=s.data;simp
theorem Gs(l:List UInt8)(n:Nat):(S06.aX l).extract 0 n=S06.aX (l.take n):=by apply PF;apply Array.toList_inj.1;rw[S03.jt];rfl
section
variable (R:bp 8192)
include R
theorem Gf(w:World)(s:ByteArray)(level most:Int)(h:2000<s.size)(hs:s.size≤9223372036854775807):
 Calls Tryz.prog 6 #[.string s,.int .i64 level,.int .i64 most] w fun e w'=>e=.returned (.bool true)∧Below w.heap.size w w':=by have h1:=aa (d9 R.tolg);have d0:decide ((2000:Int)<(s.size:Int))=true:=bD (by omega);clear R;go_enter Tryz.func6,Tryz.ntmps6;go_wp2_with fail;refine(h1.out _).mono ?_;rintro e w7 ⟨rfl,h0⟩;have h2:=aa h0;clear h0;go_wp2_with fail;go_ret;exact⟨rfl,h2.out⟩
theorem Gg(w:World)(s:ByteArray)(level most:Int)(hs:s.size≤2000)(h1: -9223372036854775808≤level)(h2:level≤9223372036854775807)(h3: -9223372036854775808≤most)(h4:most≤9223372036854775807):
 Calls Tryz.prog 6 #[.string s,.int .i64 level,.int .i64 most] w fun e w'=>e=.returned (.bool true)∧Below w.heap.size w w':=by
 have ha:=aa (d9 R.tolg);have he:s.data.toList.length=s.size:=rfl;have d0:decide ((2000:Int)<(s.size:Int))=false:=aN (by omega);by_cases hl:cU level most
 ·have hp:=oT (s:=s.data.toList) hl (by omega);have hu:=uA w (s:=s.data.toList) hl (by omega);have ht:=iu w (s:=s.data.toList) hl (by omega) [] [];have h9:=tQ w s.data.toList level.toNat most;rw[Mz,Mv,show(([]:List UInt8).length)=0 from rfl,MG]at ht;generalize pack (aF s.data.toList level.toNat most)=L at*
  have HA:Hid (Calls Tryz.prog 11 #[.string s,.int .i64 level,.int .i64 most] w fun e w'=>e=.returned (.tuple #[.string (S06.aX L),.int .i64 0])∧Below w.heap.size w w'):=aa (by
   have h:=R.pack w s level most (.inl (by omega)) (by omega) h1 h2 h3 h4
   rw[hp]at h
   exact h)
  have h8:L.length≤1100000:=by omega
  have HU:Hid (∀ wx:World,Calls Tryz.prog 15 #[.string (S06.aX L)] wx fun e w'=>e=.returned (.tuple #[.string s,.int .i64 0])∧Below wx.heap.size wx w'):=aa fun wx=>by have h:=R.unpack wx (S06.aX L) h8;rw[fc,fK (by rw[hu];exact Qw 2),hu]at h;unfold cG at h;rw[qj]at h;exact h
  obtain⟨q,hq⟩:∃q,q=L.length:=⟨_,rfl⟩;have HT:Hid (∀ wx:World,Calls Tryz.prog 13 #[.string (S06.aX L),.int .i64 0] wx fun e w'=>e=.returned (.tuple #[.string s,.int .i64 q,.int .i64 0])∧Below wx.heap.size wx w'):=aa fun wx=>by have h:=R.take wx (S06.aX L) 0 h8 (by omega) (by omega);have hi:aM (S06.aX L).data.toList 0=(s.data.toList,L.length,0):=ht;rw[hi]at h;unfold eZ at h;rw[qj,←hq]at h;exact h
  have hh:(S06.aX L).size=q:=by rw[je,hq]
  generalize S06.aX L=T at*;have d1:((q:Int)==(T.size:Int))=true:=by rw[hh];exact Oi _
  have hj:q≤1100000:=by omega
  clear R hp hu ht h9 he hq h8 hl;go_enter Tryz.func6,Tryz.ntmps6;go_wp2_with fail;refine HA.out.mono ?_;rintro e w1 ⟨rfl,h0⟩;have h6:=aa h0;clear h0;go_wp2_with fail;refine(HU.out w1).mono ?_;rintro e w2 ⟨rfl,hb⟩;have hf:=aa (aq h6.out hb);clear hb;go_wp2_with fail;refine(HT.out w2).mono ?_;rintro e w3 ⟨rfl,hc⟩;have hg:=aa (aq hf.out hc);clear hc;go_wp2_with fail;refine(ha.out _).mono ?_;rintro e w5 ⟨rfl,h5⟩;have h7:=aa (aq hg.out h5);clear h5;go_wp2_with fail;go_ret;exact⟨rfl,h7.out⟩
 ·have HA:Hid (Calls Tryz.prog 11 #[.string s,.int .i64 level,.int .i64 most] w fun e w'=>e=.returned (.tuple #[.string ⟨#[]⟩,.int .i64 2])∧Below w.heap.size w w'):=aa (by
   have h:=R.pack w s level most (.inl (by omega)) (by omega) h1 h2 h3 h4
   rw[show ff s.data.toList level most=([],2)from LX hl]at h
   exact h)
  clear R he hl;go_enter Tryz.func6,Tryz.ntmps6;go_wp2_with fail;refine HA.out.mono ?_;rintro e w1 ⟨rfl,h0⟩;have h6:=aa h0;clear h0;go_wp2_with fail;refine(ha.out _).mono ?_;rintro e w5 ⟨rfl,h5⟩;have h7:=aa (aq h6.out h5);clear h5;go_wp2_with fail;go_ret;exact⟨rfl,h7.out⟩
theorem CZ(w:World)(s:ByteArray)(hs:s.size≤9223372036854775807):
 Calls Tryz.prog 9 #[.string s] w fun e w'=>e=.returned (.bool true)∧Below w.heap.size w w':=by
 have h0:=aa (d9 R.tolg);by_cases h9:8192<s.size;·have d0:decide ((8192:Int)<(s.size:Int))=true:=bD (by omega);clear R;go_enter Tryz.func9,Tryz.ntmps9;go_wp2_with fail;refine(h0.out _).mono ?_;rintro e w7 ⟨rfl,h3⟩;have h8:=aa h3;clear h3;go_wp2_with fail;go_ret;exact⟨rfl,h8.out⟩
 have d0:decide ((8192:Int)<(s.size:Int))=false:=aN (by omega);have h4:s.data.toList.length=s.size:=rfl;have hl:cU 1 20000:=by decide
 have hp:=oT (s:=s.data.toList) hl (by omega);have h5:=Cz w (s:=s.data.toList) (level:=(1:Int).toNat) (most:=20000) (by omega) (by omega);rw[h4]at h5;generalize pack (aF s.data.toList (1:Int).toNat 20000)=L at*
 have HA:Hid (Calls Tryz.prog 11 #[.string s,.int .i64 1,.int .i64 20000] w fun e w'=>e=.returned (.tuple #[.string (S06.aX L),.int .i64 0])∧Below w.heap.size w w'):=aa (by
  have h:=R.pack w s 1 20000 (.inl (by omega)) (by omega) (by omega) (by omega) (by omega) (by omega)
  rw[hp]at h
  exact h)
 have hb:(S06.aX L).size=L.length:=rfl;obtain⟨n2,ha⟩:∃x,x=s.size / 2:=⟨_,rfl⟩;have hc:(s.size:Int) / 2=(n2:Int):=by omega
 have he:Int.tdiv (s.size:Int) 2=(n2:Int):=by rw[Int.tdiv_eq_ediv_of_nonneg (by omega)];exact hc
 generalize S06.aX L=T at*;have d1:decide ((T.size:Int)≤(s.size:Int)+(n2:Int)+600)=true:=bD (by omega);have d2:decide ((14:Int)≤(T.size:Int))=true:=bD (by omega);clear R hp h5 h4 hb hl ha;go_enter Tryz.func9,Tryz.ntmps9;go_wp2_with fail;refine HA.out.mono ?_;rintro e w1 ⟨rfl,h1⟩;have h6:=aa h1;clear h1;go_wp2_with fail;refine(h0.out _).mono ?_;rintro e w5 ⟨rfl,h2⟩;have h7:=aa (aq h6.out h2);clear h2;go_wp2_with fail;go_ret;exact⟨rfl,h7.out⟩
end
theorem Jt(l:List UInt8)(x:UInt8):S06.aX l++(⟨#[x]⟩:ByteArray)=S06.aX (l++ [x]):=by apply PF;simp[S06.aX]
section
variable (R:bp 8192)
include R
theorem CU(w:World)(s:ByteArray)(at':Int)(o:Nat)(hs:s.size≤9223372036854775807)(h:300<s.size∨o=66):
 Calls Tryz.prog 8 #[.string s,.int .i64 at',.int .u8 o] w fun e w'=>e=.returned (.bool true)∧Below w.heap.size w w':=by
 have h3:=aa (d9 R.tolg);clear R;by_cases h1:300<s.size;·have d0:decide ((300:Int)<(s.size:Int))=true:=bD (by omega);clear h;go_enter Tryz.func8,Tryz.ntmps8;go_wp2_with fail;refine(h3.out _).mono ?_;rintro e w7 ⟨rfl,h0⟩;have h2:=aa h0;clear h0;go_wp2_with fail;go_ret;exact⟨rfl,h2.out⟩
 ·have d0:decide ((300:Int)<(s.size:Int))=false:=aN (by omega);have ho:o=66:=(by omega);have d1:((o:Int)==66)=true:=(by rw[ho];rfl);clear h ho;go_enter Tryz.func8,Tryz.ntmps8;go_wp2_with fail;refine(h3.out _).mono ?_;rintro e w7 ⟨rfl,h0⟩;have h2:=aa h0;clear h0;go_wp2_with fail;go_ret;exact⟨rfl,h2.out⟩
theorem Gh(w:World)(s:ByteArray)(at':Int)(o:Nat)(hs:s.size≤300)(ho:o≠66)(hC:o<256):
 Calls Tryz.prog 8 #[.string s,.int .i64 at',.int .u8 o] w fun e w'=>e=.returned (.bool true)∧Below w.heap.size w w':=by
 have hi:=aa (d9 R.tolg);have hw:s.data.toList.length=s.size:=rfl;have d0:decide ((300:Int)<(s.size:Int))=false:=aN (by omega);have do1:((o:Int)==66)=false:=Ow (by omega);have hl:cU 1 100:=by decide
 have hp:=oT (s:=s.data.toList) hl (by omega);have hm:=tQ w s.data.toList (1:Int).toNat 100;have hcut:=Dd w (s:=s.data.toList) hl (by omega);obtain⟨x,hx⟩:∃x,x=UInt8.ofNat o:=⟨_,rfl⟩;have hr:x.toNat≠66:=by rw[hx,UInt8.toNat_ofNat_of_lt' (show o<256 by omega)];exact ho
 have h8:=De w (s:=s.data.toList) hl (by omega) x hr;have ht:14≤(pack (aF s.data.toList (1:Int).toNat 100)).length:=by rw[a8,bP];omega
 generalize pack (aF s.data.toList (1:Int).toNat 100)=L at*
 have HA:Hid (Calls Tryz.prog 11 #[.string s,.int .i64 1,.int .i64 100] w fun e w'=>e=.returned (.tuple #[.string (S06.aX L),.int .i64 0])∧Below w.heap.size w w'):=aa (by
  have h:=R.pack w s 1 100 (.inl (by omega)) (by omega) (by omega) (by omega) (by omega) (by omega)
  rw[hp]at h
  exact h)
 have hu:L.length≤200000:=by omega
 obtain⟨q,hq⟩:∃q,q=L.length:=⟨_,rfl⟩;have hn:(S06.aX L).size=q:=by rw[je,hq]
 have HC:Hid (∀ (wx:World) (c:Nat),c<q→∃er:Nat,er≠0∧Calls Tryz.prog 15 #[.string ((S06.aX L).extract 0 c)] wx fun e w'=>e=.returned (.tuple #[.string ⟨#[]⟩,.int .i64 er])∧Below wx.heap.size wx w'):=aa fun wx c hc=>by obtain⟨h1,h2⟩:=AQ (hcut c (by omega)).1 (hcut c (by omega)).2;have h:=R.unpack wx (S06.aX (L.take c)) (by rw[je,Mj];omega);rw[fc]at h;refine⟨_,h2,?_⟩;rw[Gs];unfold cG at h;rw[h1]at h;exact h
 have HO:Hid (∀ wx:World,Calls Tryz.prog 15 #[.string (S06.aX L++(⟨#[x]⟩:ByteArray))] wx fun e w'=>e=.returned (.tuple #[.string ⟨#[]⟩,.int .i64 130])∧Below wx.heap.size wx w'):=aa fun wx=>by have h:=R.unpack wx (S06.aX (L++ [x])) (by rw[je,LR,Mq];omega);rw[fc,fK (by rw[h8];decide),h8]at h;rw[Jt];exact h
 have hv:=fun wx=>S03.Hs wx (o:Int);rw[L9,←hx]at hv;have hy:14≤q:=by omega
 have hD:q≤200000:=by omega
 generalize S06.aX L=T at*;have dT:decide ((T.size:Int)<14)=false:=aN (by omega);have hh:=aa hn;clear R hp hm hcut h8 ht hw hl hq hu hx hr hn
 have key:∀(c:Nat) (b1 b2:Bool),c<q→decide (at'<0)=b1→decide ((T.size:Int)≤at')=b2→((b1=true∨b2=true)→(T.size:Int) - 1=(c:Int))→((b1=false∧b2=false)→at'=(c:Int))→
  Calls Tryz.prog 8 #[.string s,.int .i64 at',.int .u8 o] w fun e w'=>e=.returned (.bool true)∧Below w.heap.size w w':=by
  intro c b1 b2 hc e1 e2 g1 g2
  have hA:T.size≤200000:=by have:=hh.out;omega
  have hB:(c:Int)≤(T.size:Int):=by have:=hh.out;omega
  obtain⟨er,hk,_⟩:=HC.out w c hc
  have hj:=aa fun wx=>HC.out wx c hc
  cases b1 with
  | true=>
    have hz:=g1 (.inl rfl)
    clear g1 g2 hk
    go_enter Tryz.func8,Tryz.ntmps8
    go_wp2_with fail
    refine HA.out.mono ?_
    rintro e w1 ⟨rfl,h3⟩
    have h9:=aa h3
    clear h3
    obtain⟨e5,hg,HU⟩:=hj.out w1
    have hf:=aa HU
    have dd:=dO hg
    clear HU
    go_wp2_with fail
    refine hf.out.mono ?_
    rintro e w2 ⟨rfl,h4⟩
    have h0:=aa (aq h9.out h4)
    have h7:Below w.heap.size w (w2.alloc (.cells #[.int .u8 o] 5)):=h0.out.alloc h0.out.size _
    have he:=aa h7
    clear h4 h7
    go_wp2_with fail
    refine(HO.out _).mono ?_
    rintro e w3 ⟨rfl,h5⟩
    have ha:=aa (aq he.out h5)
    clear h5
    go_wp2_with fail
    refine(hi.out _).mono ?_
    rintro e w5 ⟨rfl,h6⟩
    have hb:=aa (aq ha.out h6)
    clear h6
    go_wp2_with fail
    go_ret
    exact⟨rfl,hb.out⟩
  | false=>
    cases b2 with
    | true=>
      have hz:=g1 (.inr rfl)
      clear g1 g2 hk
      go_enter Tryz.func8,Tryz.ntmps8
      go_wp2_with fail
      refine HA.out.mono ?_
      rintro e w1 ⟨rfl,h3⟩
      have h9:=aa h3
      clear h3
      obtain⟨e5,hg,HU⟩:=hj.out w1
      have hf:=aa HU
      have dd:=dO hg
      clear HU
      go_wp2_with fail
      refine hf.out.mono ?_
      rintro e w2 ⟨rfl,h4⟩
      have h0:=aa (aq h9.out h4)
      have h7:Below w.heap.size w (w2.alloc (.cells #[.int .u8 o] 5)):=h0.out.alloc h0.out.size _
      have he:=aa h7
      clear h4 h7
      go_wp2_with fail
      refine(HO.out _).mono ?_
      rintro e w3 ⟨rfl,h5⟩
      have ha:=aa (aq he.out h5)
      clear h5
      go_wp2_with fail
      refine(hi.out _).mono ?_
      rintro e w5 ⟨rfl,h6⟩
      have hb:=aa (aq ha.out h6)
      clear h6
      go_wp2_with fail
      go_ret
      exact⟨rfl,hb.out⟩
    | false=>
      obtain rfl:=g2 ⟨rfl,rfl⟩
      have e2n:¬T.size≤c:=by have:=hh.out;omega
      have e2m:decide (T.size≤c)=false:=L7 e2n
      clear g1 g2 hk
      go_enter Tryz.func8,Tryz.ntmps8
      go_wp2_with fail
      refine HA.out.mono ?_
      rintro e w1 ⟨rfl,h3⟩
      have h9:=aa h3
      clear h3
      obtain⟨e5,hg,HU⟩:=hj.out w1
      have hf:=aa HU
      have dd:=dO hg
      clear HU
      go_wp2_with fail
      refine hf.out.mono ?_
      rintro e w2 ⟨rfl,h4⟩
      have h0:=aa (aq h9.out h4)
      have h7:Below w.heap.size w (w2.alloc (.cells #[.int .u8 o] 5)):=h0.out.alloc h0.out.size _
      have he:=aa h7
      clear h4 h7
      go_wp2_with fail
      refine(HO.out _).mono ?_
      rintro e w3 ⟨rfl,h5⟩
      have ha:=aa (aq he.out h5)
      clear h5
      go_wp2_with fail
      refine(hi.out _).mono ?_
      rintro e w5 ⟨rfl,h6⟩
      have hb:=aa (aq ha.out h6)
      clear h6
      go_wp2_with fail
      go_ret
      exact⟨rfl,hb.out⟩
 have hT:=hh.out;by_cases h1:at'<0;·exact key (q - 1) true (decide ((T.size:Int)≤at')) (by omega) (L8 h1) rfl (fun _=>by omega) (fun h=>by cases h.1)
 ·by_cases h2:(T.size:Int)≤at';·exact key (q - 1) false true (by omega) (L7 h1) (L8 h2) (fun _=>by omega) (fun h=>by cases h.2)
  ·exact key at'.toNat false false (by omega) (L7 h1) (L7 h2) (fun h=>by rcases h with h | h <;>cases h) (fun _=>by omega)
end
theorem Ff{s:List UInt8}{most:Int}(h:40≤s.length)(hm:50≤most):40≤fP s most:=by
 obtain⟨h1,h2,h3⟩:=oG s most;rcases MF (fP s most) 40 with h4 | h4;·exfalso;have h5:=h3 (by omega);have h6:=S03.iP s (fP s most+1) 40 (by omega);have h7:=S03.gE (s.take 40);have h8:(s.take 40).length=40:=(by rw[Mj];omega);rw[h8]at h7;omega
 ·exact h4
theorem nc(w:World)(most:Int)(hm:50≤most):∀(k:Nat) (s:List UInt8),(bX most k s).1.length≤12*s.length+4000*(s.length / 40+1)
 | 0,_=>LY _
 | k+1,s=>by
  by_cases h:s= [];·rw[h,cI];exact LY _
  ·rw[ed most k s h];have h1:=lh w (s.take (fP s most));have h2:=nc w most hm k (s.drop (fP s most));have h3:=rC s most;have h4:=S03.gE s;dsimp only;by_cases h5:40≤s.length;·have h6:=Ff h5 hm;rw[Mj,MN h3]at h1;rw[Mc]at h2;rw[LR];omega
   ·have hf:fP s most=s.length:=(xd (S03.vK (by omega))).symm;have h6:=lh w s;rw[hf,P9,cI,O3,Mv];omega
def SIn(w:World)(A:Option Addr)(n:Nat)(Ls:List ByteArray):Prop:=Ls.length=n∧(0<n→∃b off,A=some ⟨b,off,none⟩∧∀i,i<n→w.cell? ⟨b,off+i,none⟩=some (.string (Ls.getD i ⟨#[]⟩)))
theorem SIn.below{w w':World}{A:Option Addr}{n:Nat}{Ls:List ByteArray}(h:SIn w A n Ls)(hb:Below w.heap.size w w'):SIn w' A n Ls:=by refine⟨h.1,fun hn=> ?_⟩;obtain⟨b,off,rfl,hc⟩:=h.2 hn;exact⟨b,off,rfl,fun i hi=>(hb.cell (p:=⟨b,off+i,none⟩) (Md w _ (hc i hi))).trans (hc i hi)⟩
noncomputable def qT (Ls:List ByteArray) (level:Nat) (j:Nat):List UInt8:=pack (aF (Ls.getD j ⟨#[]⟩).data.toList level ((50+j:Nat):Int))
noncomputable def rY (Ls:List ByteArray) (level:Nat) (q:Nat):List UInt8:=(List.range q).flatMap (qT Ls level)
def nr(Ls:List ByteArray)(q:Nat):List UInt8:=(List.range q).flatMap fun j=>(Ls.getD j ⟨#[]⟩).data.toList
theorem ve(Ls:List ByteArray)(level q:Nat):rY Ls level (q+1)=rY Ls level q++qT Ls level q:=by unfold rY;rw[MQ,M9];simp
theorem Da(Ls:List ByteArray)(q:Nat):nr Ls (q+1)=nr Ls q++(Ls.getD q ⟨#[]⟩).data.toList:=by unfold nr;rw[MQ,M9];simp
theorem qW{level:Nat}(h1:1≤level)(h9:level≤9){j:Nat}(hj:j<10):cU (level:Int) ((50+j:Nat):Int):=by have:=Jg h1;refine⟨by omega,by omega,by omega,?_⟩;rw[L9];omega
theorem Ck(w:World)(Ls:List ByteArray){level:Nat}(h1:1≤level)(h9:level≤9){q:Nat}(h0:0<q)(hq:q≤10)(ht:(nr Ls q).length≤262144):eh (rY Ls level q)=(nr Ls q,0):=by
 have h:=rm w ((List.range q).map fun j=>((Ls.getD j ⟨#[]⟩).data.toList,(level:Int),((50+j:Nat):Int))) ((rY Ls level q).length+1) [] [] (by
  intro e
  have:=congrArg List.length e
  simp at this
  omega) (fun x hx=>by
  obtain⟨j,hj,rfl⟩:=List.mem_map.1 hx
  have:=List.mem_range.1 hj
  exact qW h1 h9 (by omega)) (by
  rw[P8]
  simpa [nr]using ht) (by
  rw[Mi,Mt]
  have:∀n,14*n≤(rY Ls level n).length:=by
   intro n
   induction n with
   | zero=>exact LY _
   | succ n ih=>
     rw[ve,LR]
     have:14≤(qT Ls level n).length:=by
      unfold qT
      rw[a8,bP]
      omega
     omega
  have:=this q
  omega)
 rw[P8,P8,Mz,Mz]at h;exact h
section
variable (R:bp 8192)
include R
theorem Cl(w:World)(A:Option Addr)(n c:Nat)(level:Int)(h:level<1∨9<level):
 Calls Tryz.prog 7 #[.slice A n c,.int .i64 level] w fun e w'=>e=.returned (.bool true)∧Below w.heap.size w w':=by
 have h3:=aa (d9 R.tolg);clear R;by_cases h1:level<1;·have d0:decide (level<1)=true:=L8 h1;clear h;go_enter Tryz.func7,Tryz.ntmps7;go_wp2_with fail;refine(h3.out _).mono ?_;rintro e w7 ⟨rfl,h0⟩;have h2:=aa h0;clear h0;go_wp2_with fail;go_ret;exact⟨rfl,h2.out⟩
 ·have d0:decide (level<1)=false:=L7 h1;have d1:decide (9<level)=true:=bD (by omega);clear h;go_enter Tryz.func7,Tryz.ntmps7;go_wp2_with fail;refine(h3.out _).mono ?_;rintro e w7 ⟨rfl,h0⟩;have h2:=aa h0;clear h0;go_wp2_with fail;go_ret;exact⟨rfl,h2.out⟩
theorem FB(w:World)(A:Option Addr)(n c:Nat)(Ls:List ByteArray)(lv:Nat)(hI:SIn w A n Ls)(hn:n≤maxLen)(h1:1≤lv)(h9:lv≤9)(hv:∀i,i<n→(Ls.getD i ⟨#[]⟩).size≤maxLen):
 Calls Tryz.prog 7 #[.slice A n c,.int .i64 lv] w fun e w'=>e=.returned (.bool true)∧Below w.heap.size w w':=by
 have he:=aa (d9 R.tolg);have d0:decide ((lv:Int)<1)=false:=aN (by omega);have d1:decide ((9:Int)<(lv:Int))=false:=aN (by omega);have hB:Hid (∀ (wx:World) (j m:Nat),j<10→m=50+j→(Ls.getD j ⟨#[]⟩).size≤1000→Calls Tryz.prog 11 #[.string (Ls.getD j ⟨#[]⟩),.int .i64 lv,.int .i64 m] wx fun e w'=>e=.returned (.tuple #[.string (S06.aX (qT Ls lv j)),.int .i64 0])∧Below wx.heap.size wx w'):=aa fun wx j m hj hm hs=>by have hl:=qW h1 h9 hj;have hH:(Ls.getD j ⟨#[]⟩).data.toList.length=(Ls.getD j ⟨#[]⟩).size:=rfl;have h:=R.pack wx (Ls.getD j ⟨#[]⟩) lv m (.inl (by omega)) (by omega) (by omega) (by omega) (by omega) (by omega);rw[hm,oT hl (by omega),L9]at h;rw[hm];exact h
 have hC:Hid (∀ j,j<10→(Ls.getD j ⟨#[]⟩).size≤1000→(qT Ls lv j).length≤20000):=aa fun j hj hs=>by have h:=nc w ((50+j:Nat):Int) (by omega) (Ls.getD j ⟨#[]⟩).data.toList.length (Ls.getD j ⟨#[]⟩).data.toList;have hH:(Ls.getD j ⟨#[]⟩).data.toList.length=(Ls.getD j ⟨#[]⟩).size:=rfl;unfold qT;rw[a8,bP];omega
 have HU:Hid (∀ (wx:World) (q:Nat),0<q→q≤10→(nr Ls q).length≤10000→(rY Ls lv q).length≤200000→Calls Tryz.prog 15 #[.string (S06.aX (rY Ls lv q))] wx fun e w'=>e=.returned (.tuple #[.string (S06.aX (nr Ls q)),.int .i64 0])∧Below wx.heap.size wx w'):=aa fun wx q hq0 hq ht ha=>by have h:=R.unpack wx (S06.aX (rY Ls lv q)) (by rw[je];omega);have hj:=Ck w Ls h1 h9 hq0 hq (by omega);rw[fc,fK (by rw[hj];exact Qw 2),hj]at h;exact h
 have hF:Hid (∀ wx:World,Calls Tryz.prog 15 #[.string ⟨#[]⟩] wx fun e w'=>e=.returned (.tuple #[.string ⟨#[]⟩,.int .i64 10])∧Below wx.heap.size wx w'):=aa fun wx=>by have h:=R.unpack wx ⟨#[]⟩ (by decide);rw[show fB (⟨#[]⟩:ByteArray).data.toList=([],10)from(fK (by rw[jY];decide)).trans jY]at h;exact h
 have HI:=aa hI;have hy:=aa hv;have hz:=aa (ve Ls lv);have hE:=aa (Da Ls);have hr:rY Ls lv 0= []:=rfl;have hw:nr Ls 0= []:=rfl;have hg:=aa hr;have hp:=aa hw;unfold maxLen at hn;generalize qT Ls lv=IP at*;generalize rY Ls lv=AP at*;generalize nr Ls=TP at*;clear R hI h1 h9 hv hr hw;go_enter Tryz.func7,Tryz.ntmps7;go_wp2_with fail;go_loopw [5,6,7] (fun sa st si wx=>∃q:Nat,sa=.string (S06.aX (AP q))∧st=.string (S06.aX (TP q))∧si=.int .i64 q∧q≤n∧q≤10∧(AP q).length≤20000*q∧(TP q).length≤1000*q∧Below w.heap.size w wx) (fun _ _ si _=>n - (intOf si).toNat)
 case atStart=>
  refine⟨0,?_,?_,rfl,LY _,LY _,by rw[hg.out];exact L5 _,by rw[hp.out];exact L5 _,L6 _ _⟩;·rw[hg.out];rfl
  ·rw[hp.out];rfl
 case round=>
  obtain⟨q,rfl,rfl,rfl,hQ,hk,hM,hN,hh⟩:=hrel;have h6:=aa hh;have hD:=aa (HI.out.below hh);clear hh;have sA:(S06.aX (AP q)).size=(AP q).length:=rfl;have sT:(S06.aX (TP q)).size=(TP q).length:=rfl;by_cases e:q<n
  ·have d2:decide ((q:Int)<(n:Int))=true:=bD (by omega);obtain⟨b,off,hA,hc⟩:=hD.out.2 (by omega);have h2:=hc q e;have h7:=hy.out q e;unfold maxLen at h7;have HS:=aa fun wx=>hB.out wx q;have hf:=hz.out q;have hb:=hE.out q;have h8:=hC.out q;obtain⟨S,hS⟩:∃S,S=Ls.getD q ⟨#[]⟩:=⟨_,rfl⟩;rw[← hS]at h2 h7 HS hb h8;subst hA;clear hc hS;by_cases e1:1000<S.size;·have d3:decide ((1000:Int)<(S.size:Int))=true:=bD (by omega);clear hf hb h8 HS;go_wp2_with fail;refine(he.out _).mono ?_;rintro e w7 ⟨rfl,h0⟩;have h4:=aa (aq h6.out h0);clear h0;go_wp2_with fail;go_ret;exact⟨rfl,h4.out⟩
   have d3:decide ((1000:Int)<(S.size:Int))=false:=aN (by omega);by_cases e2:10≤q;·have d4:decide ((10:Int)≤(q:Int))=true:=bD (by omega);clear hf hb h8 HS;go_wp2_with fail;refine(he.out _).mono ?_;rintro e w7 ⟨rfl,h0⟩;have h4:=aa (aq h6.out h0);clear h0;go_wp2_with fail;go_ret;exact⟨rfl,h4.out⟩
   have d4:decide ((10:Int)≤(q:Int))=false:=aN (by omega);obtain⟨m,hm⟩:∃m,m=50+q:=⟨_,rfl⟩;have hO:(50:Int)+(q:Int)=(m:Int):=(by omega);have hJ:m≤60:=(by omega);have HS2:=aa fun wx=>HS.out wx m (by omega) hm (by omega);have hL:=h8 (by omega) (by omega);have sI:(S06.aX (IP q)).size=(IP q).length:=rfl;have HN:=aa hf;have HT:=aa hb;clear hm h8 HS hf hb;go_wp2_with fail;refine(HS2.out wr).mono ?_;rintro e w2 ⟨rfl,h3⟩;have h5:=aa (aq h6.out h3);have hi:=(h3.cell (p:=⟨b,off+q,none⟩) (Md wr _ h2)).trans h2;clear h3;go_wp2_with fail;go_roundw;case rel=>
    refine⟨q+1,?_,?_,by go_num,by omega,by omega,by rw[HN.out,LR];omega,?_,h5.out⟩;·rw[HN.out,AB,fc]
    ·have h:=AB (S06.aX (TP q)) S.data.toList;rw[qj,fc]at h;rw[HT.out,h]
    ·rw[HT.out,LR];have:S.data.toList.length=S.size:=rfl;omega
   case measure=>simp[intOf];omega
  ·have ho:q=n:=(by omega);have d2:decide ((q:Int)<(n:Int))=false:=aN (by omega);have d2n:¬q<n:=e;by_cases e0:q=0;·have hK:((n:Int)==0)=true:=(by rw[← ho,e0];rfl);have hu:S06.aX (AP q)=⟨#[]⟩:=(by rw[e0,hg.out];rfl);have hx:=aa hu;clear hu ho e0 e;go_upto_region 14 with fail;rw[hx.out];go_wp2_with fail;refine(hF.out wr).mono ?_;rintro e w2 ⟨rfl,h3⟩;have h5:=aa (aq h6.out h3);clear h3;go_wp2_with fail;refine(he.out _).mono ?_;rintro e w7 ⟨rfl,h0⟩;have h4:=aa (aq h5.out h0);clear h0;go_wp2_with fail;go_ret;exact⟨rfl,h4.out⟩
   ·have hK:((n:Int)==0)=false:=Ow (by omega);have hP:¬n=0:=(by omega);have hG:=aa (HU.out wr q (by omega) hk (by omega) (by omega));clear ho e0 e;go_wp2_with fail;refine hG.out.mono ?_;rintro e w2 ⟨rfl,h3⟩;have h5:=aa (aq h6.out h3);clear h3;go_wp2_with fail;refine(he.out _).mono ?_;rintro e w7 ⟨rfl,h0⟩;have h4:=aa (aq h5.out h0);clear h0;go_wp2_with fail;go_ret;exact⟨rfl,h4.out⟩
end
end Go.Proofs.YtepokmggbfoakaaGreatDoor
