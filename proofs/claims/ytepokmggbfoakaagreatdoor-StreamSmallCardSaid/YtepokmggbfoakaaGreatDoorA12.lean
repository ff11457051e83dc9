import Derived.Test.YtepokmggbfoakaaGreatDoorA08
import Derived.Lib.AppendZerosOnto
import Derived.Deep.Onto
set_option maxHeartbeats 1600000
set_option maxRecDepth 100000
namespace Go.Proofs.YtepokmggbfoakaaGreatDoor.S02
def pL:List Nat:=aj 4374732215 33
theorem p9:pL.length=33:=af _ _
def As(D:List Nat)(i:Nat):Nat→List Nat
 | 0=>D
 | m+1=>(As D i m).set (i+m) (((As D i m).getD (i+m) 0+pL.getD m 0) % 2)
def it(D:List Nat)(i:Nat):List Nat:=if D.getD i 0=1 then As D i 33 else D
def Ga(D:List Nat):Nat→List Nat
 | 0=>D
 | i+1=>it (Ga D i) i
def KY(D:List Nat):List Nat:=(Ga D (D.length - 32)).drop (D.length - 32)
theorem Au(D:List Nat)(i m:Nat):(As D i m).length=D.length:=by
 induction m with
 | zero=>rfl
 | succ m ih=>rw[As,Ov,ih]
theorem xN(D:List Nat)(i:Nat):(it D i).length=D.length:=by
 unfold it;split;·exact Au _ _ _
 ·rfl
theorem Ar(D:List Nat)(i:Nat):(Ga D i).length=D.length:=by
 induction i with
 | zero=>rfl
 | succ i ih=>rw[Ga,xN,ih]
open Go.RowKit
def yc(D R:List Nat):Nat→List Nat
 | 0=>D
 | m+1=>(yc D R m).set m (((yc D R m).getD m 0+R.getD m 0) % 2)
theorem qu(D R:List Nat)(m:Nat):(yc D R m).length=D.length:=by
 induction m with
 | zero=>rfl
 | succ m ih=>rw[yc,Ov,ih]
def IS(r:Nat)(l:List UInt8):List Nat:=KY (yc (ai l++List.replicate 32 0) (aj r 32) 32)
theorem qx(n:Nat):au (List.replicate n 0):=by intro b hb;rw[PE hb];omega
def IT(r:Nat)(l:List UInt8):Nat:=val (IS r l)
def b6(l:List UInt8):Nat:=4294967295 - IT 4294967295 l
theorem om(l:List UInt8):b6 l<4294967296:=by unfold b6;omega
def Dl(w:World)(A:Option Addr)(n:Nat)(L:List Nat):Prop:=
 L.length=n∧(0<n→∃b off,A=some ⟨b,off,none⟩∧∀i,i<n→w.cell? ⟨b,off+i,none⟩=some (.int .u32 (L.getD i 0)))
def fI(c x:Nat):Nat:=(c % 2147483648*2+c / 2147483648) ^^^ x
def dc(L:List Nat):Nat:=L.foldl fI 0
theorem nm(c x:Nat)(hc:c<4294967296)(hx:x<4294967296):fI c x<4294967296:=by unfold fI;exact OI (n:=32) (by omega) hx
theorem rn(L:List Nat)(h:∀x∈L,x<4294967296):∀c,c<4294967296→L.foldl fI c<4294967296:=by
 induction L with
 | nil=>intro c hc;exact hc
 | cons x L ih=>intro c hc;exact ih (fun y hy=>h y (Ma _ hy)) _ (nm c x hc (h x L4))
theorem nS(L:List Nat)(h:∀x∈L,x<4294967296):dc L<4294967296:=rn L h 0 (by omega)
theorem xO(L:List Nat)(x:Nat):dc (L++ [x])=fI (dc L) x:=by simp[dc]
theorem xP(L:List Nat)(j:Nat)(h:j<L.length):dc (L.take (j+1))=fI (dc (L.take j)) (L.getD j 0):=by rw[Mn h,xO,LU,LV h];rfl
def cw:List Nat→List Nat→List Nat
 | x :: xs,y :: ys=>(x+y) % 2 :: cw xs ys
 | xs,_=>xs
theorem b5(X:List Nat):cw X []=X:=by cases X <;>rfl
theorem kA(Y:List Nat):cw [] Y= []:=by cases Y <;>rfl
theorem yf(X:List Nat):∀Y,(cw X Y).length=X.length:=by
 induction X with
 | nil=>intro Y;rw[kA]
 | cons x xs ih=>
  intro Y
  cases Y with
  | nil=>rw[b5]
  | cons y ys=>simp[cw,ih]
theorem D9(X:List Nat):∀Y,au X→au (cw X Y):=by
 induction X with
 | nil=>intro Y h;rw[kA];exact h
 | cons x xs ih=>
  intro Y h
  cases Y with
  | nil=>rw[b5];exact h
  | cons y ys=>
   intro b hb;rw[cw]at hb;rcases List.mem_cons.1 hb with rfl | hb;·exact OG _ (by omega)
   ·exact ih ys (fun c hc=>h c (Ma _ hc)) b hb
theorem vd(X:List Nat):∀(Y:List Nat) (m:Nat),m<Y.length→m<X.length→cw X (Y.take (m+1))=(cw X (Y.take m)).set m (((cw X (Y.take m)).getD m 0+Y.getD m 0) % 2):=by
 induction X with
 | nil=>intro Y m _ h;cases h
 | cons x xs ih=>
  intro Y m hy hx
  cases Y with
  | nil=>cases hy
  | cons y ys=>
   cases m with
   | zero=>simp[cw,b5]
   | succ m=>simp only[NK,cw,Nh,Qr];rw[ih ys m (by simpa using hy) (by simpa using hx)]
theorem Ea(X:List Nat):∀Y Z,cw (cw X Y) Z=cw (cw X Z) Y:=by
 induction X with
 | nil=>intro Y Z;simp[kA]
 | cons x xs ih=>
  intro Y Z
  cases Y with
  | nil=>rw[b5,b5]
  | cons y ys=>
   cases Z with
   | nil=>rw[b5,b5]
   | cons z zs=>simp only[cw];rw[ih ys zs];congr 1;omega
theorem Bc(X:List Nat):∀Y Z,X.length≤Y.length∨Z.length≤Y.length→cw (cw X Y) Z=cw X (cw Y Z):=by
 induction X with
 | nil=>intro Y Z _;simp[kA]
 | cons x xs ih=>
  intro Y Z h
  cases Y with
  | nil=>
   rcases h with h | h;·simp at h
   ·have:Z= []:=Mg (by simpa using h);subst this;simp only[b5]
  | cons y ys=>
   cases Z with
   | nil=>rw[b5,b5]
   | cons z zs=>simp only[cw];rw[ih ys zs (by simpa using h)];congr 1;omega
theorem yg(X:List Nat):∀(Y:List Nat) (k:Nat),au X→cw X (Y++List.replicate k 0)=cw X Y:=by
 induction X with
 | nil=>intro Y k _;simp[kA]
 | cons x xs ih=>
  intro Y k h;have hx:x<2:=h x L4;have hs:au xs:=fun c hc=>h c (Ma _ hc)
  cases Y with
  | nil=>
   cases k with
   | zero=>rfl
   | succ k=>have h1:=ih [] k hs;rw[Mz,b5]at h1;rw[Mz,NJ,cw,b5,h1];congr 1;omega
  | cons y ys=>rw[MI,cw,cw,ih ys k hs]
theorem Bd(Y:List Nat):au Y→cw (List.replicate Y.length 0) Y=Y:=by
 induction Y with
 | nil=>intro _;rfl
 | cons y ys ih=>intro h;have hy:y<2:=h y L4;rw[Mb,NJ,cw,ih (fun c hc=>h c (Ma _ hc))];congr 1;omega
theorem yd(X:List Nat):∀(X' Y:List Nat),Y.length≤X.length→cw (X++X') Y=cw X Y++X':=by
 induction X with
 | nil=>intro X' Y h;have:Y= []:=Mg (by simpa using h);subst this;rw[b5,b5]
 | cons x xs ih=>
  intro X' Y h
  cases Y with
  | nil=>rw[b5,b5]
  | cons y ys=>rw[MI,cw,cw,ih X' ys (by simpa using h),MI]
theorem D8(D R:List Nat)(m:Nat)(hR:m≤R.length)(hD:m≤D.length):yc D R m=cw D (R.take m):=by
 induction m with
 | zero=>rw[yc,OJ,b5]
 | succ m ih=>rw[yc,ih (by omega) (by omega),vd D R m (by omega) (by omega)]
theorem Gj(D:List Nat)(i m:Nat)(hm:m≤33)(hD:i+m≤D.length):As D i m=D.take i++cw (D.drop i) (pL.take m):=by
 induction m with
 | zero=>rw[As,OJ,b5,MY]
 | succ m ih=>have hl:(D.take i).length=i:=(by rw[Mj];omega);rw[As,ih (by omega) (by omega),vd (D.drop i) pL m (by rw[p9];omega) (by rw[Mc];omega)];rw[List.set_append,LW (by omega),hl,Ny];congr 2;rw[LU,MC (by omega),hl,Ny,←LU]
def wf:List Nat→List Nat
 | []=> []
 | x :: xs=>if x=1 then cw xs (pL.drop 1)else xs
def qU:Nat→List Nat→List Nat
 | 0,X=>X
 | n+1,X=>qU n (wf X)
theorem Ci(n:Nat):∀X,qU (n+1) X=wf (qU n X):=by
 induction n with
 | zero=>intro X;rfl
 | succ n ih=>intro X;rw[qU,ih];rfl
theorem KF:pL=1 :: pL.drop 1:=by decide
theorem J4(T:List Nat):cw (1 :: T) pL=0 :: cw T (pL.drop 1):=by
 conv=>
  lhs
  rw[KF,cw]
theorem C1(D:List Nat)(i:Nat)(h:i+33≤D.length):(it D i).drop (i+1)=wf (D.drop i):=by
 have hc:D.drop i=D.getD i 0 :: D.drop (i+1):=by rw[MA (by omega),LU,LV (by omega)];rfl
 unfold it;rw[hc,wf];split;·rename_i h1;have hl:(D.take i).length=i:=(by rw[Mj];omega);have hp:pL.take 33=pL:=Mh (by rw[p9];omega);have hd:(D.take i).drop (i+1)= []:=MP (by omega);rw[Gj D i 33 (by omega) (by omega),hp,hc,h1,J4,List.drop_append,hl,hd,Ny,Mz];rfl
 ·rfl
theorem Gb(D:List Nat)(i:Nat)(h:i+32≤D.length):(Ga D i).drop i=qU i D:=by
 induction i with
 | zero=>rfl
 | succ i ih=>rw[Ga,C1 _ _ (by rw[Ar];omega),ih (by omega),Ci]
theorem Al(D:List Nat)(h:32≤D.length):KY D=qU (D.length - 32) D:=Gb D _ (by omega)
def uG:List Nat→Nat→List Nat
 | [],_=> []
 | x :: xs,m=>if(x+m) % 2=1 then cw (xs++ [0]) (pL.drop 1)else xs++ [0]
theorem kE(x:Nat)(xs:List Nat)(m:Nat):uG (x :: xs) m=if(x+m) % 2=1 then cw (xs++ [0]) (pL.drop 1)else xs++ [0]:=rfl
theorem qy(r:List Nat)(m:Nat):(uG r m).length=r.length:=by
 cases r with
 | nil=>rfl
 | cons x xs=>
  rw[kE];split;·rw[yf,LR];rfl
  ·rw[LR];rfl
theorem Em(r:List Nat)(m:Nat)(h:au r):au (uG r m):=by
 cases r with
 | nil=>exact h
 | cons x xs=>
  have h1:au (xs++ [0]):=au.append (fun c hc=>h c (Ma _ hc)) (qx 1);rw[kE];split;·exact D9 _ _ h1
  ·exact h1
def zi(r:List Nat)(M:List Nat):List Nat:=M.foldl uG r
theorem Ch(M:List Nat):∀r:List Nat,r.length=32→au r→au M→qU M.length (cw (M++List.replicate 32 0) r)=zi r M:=by
 induction M with
 | nil=>intro r hl hr _;have h:=Bd r hr;rw[hl]at h;exact h
 | cons m M ih=>
  intro r hl hr hM;have h0:au M:=fun c hc=>hM c (Ma _ hc);have hY:au (M++List.replicate 32 0):=h0.append (qx 32)
  cases r with
  | nil=>cases hl
  | cons x xs=>
   have h1:xs.length=31:=(by simpa using hl);have e1:cw (M++List.replicate 32 0) xs=cw (M++List.replicate 32 0) (xs++ [0]):=(yg _ xs 1 hY).symm;have e2:wf (cw ((m :: M)++List.replicate 32 0) (x :: xs))=cw (M++List.replicate 32 0) (uG (x :: xs) m):=by
    rw[MI,cw,wf,uG,Qx x m,e1];split;·exact Bc _ _ _ (.inr (by rw[Mc,p9,LR,h1];decide))
    ·rfl
   rw[Mb,qU,e2,ih _ (by rw[qy];exact hl) (Em _ _ hr) h0];rfl
theorem Ct(r:Nat)(l:List UInt8):IS r l=zi (aj r 32) (ai l):=by have h1:(ai l++List.replicate 32 0).length=(ai l).length+32:=(by rw[LR,Mo]);unfold IS;rw[Al _ (by rw[qu,h1];omega),qu,h1,QD,D8 _ _ _ (by rw[af];omega) (by rw[h1];omega),Mh (by rw[af];omega)];exact Ch _ _ (af _ _) (aD _ _) (aI _)
def fF(c:Nat):Nat:=(2*c % 4294967296) ^^^ (if 2147483648≤c then 79764919 else 0)
def cV:Nat→Nat→Nat
 | 0,c=>c
 | n+1,c=>cV n (fF c)
def jO(c b:Nat):Nat:=cV 8 (c ^^^ (b*16777216))
theorem JQ(a b:Nat):(a ^^^ b) % 2=(a % 2+b % 2) % 2:=by have h:(a ^^^ b) % 2=(a % 2) ^^^ (b % 2):=Nat.xor_mod_two_pow (n:=1);have ha:a % 2=0∨a % 2=1:=(by omega);have hb:b % 2=0∨b % 2=1:=(by omega);rw[h];rcases ha with ha | ha <;>rcases hb with hb | hb <;>rw[ha,hb] <;>rfl
theorem JP(a b:Nat):(a ^^^ b) / 2=a / 2 ^^^ b / 2:=by apply OS;intro i;rw[Qn,Qs,Qs,Qs,Qn]
theorem Eb(X:List Nat):∀(Y:List Nat) (x y:Nat),X.length=Y.length→cw (X++ [x]) (Y++ [y])=cw X Y++ [(x+y) % 2]:=by
 induction X with
 | nil=>intro Y x y h;have:Y= []:=Mg h.symm;subst this;rfl
 | cons z X ih=>
  intro Y x y h
  cases Y with
  | nil=>cases h
  | cons w Y=>rw[MI,MI,cw,cw,ih Y x y (by simpa using h),MI]
theorem vl(n:Nat):∀a b,aj (a ^^^ b) n=cw (aj a n) (aj b n):=by
 induction n with
 | zero=>intro a b;rfl
 | succ n ih=>intro a b;rw[aj,aj,aj,Eb _ _ _ _ (by rw[af,af]),JP,ih,JQ]
theorem Es(n v:Nat):aj (v % 2 ^ n) n=aj v n:=by have h1:val (aj v n)=v % 2 ^ n:=dW n v;have h2:=i6 (aj v n) (aD n v);rw[af,h1]at h2;exact h2
theorem KG:pL.drop 1=aj 79764919 32:=by decide
theorem gz(c:Nat):fF c<4294967296:=by unfold fF;exact OI (n:=32) (OG _ (by omega)) (by split <;>omega)
theorem sH(n:Nat):∀c,c<4294967296→cV n c<4294967296:=by
 induction n with
 | zero=>intro c h;exact h
 | succ n ih=>intro c _;exact ih _ (gz c)
theorem nA(c b:Nat):jO c b<4294967296:=sH 7 _ (gz _)
theorem Et(v:Nat):aj v 1= [v % 2]:=rfl
theorem KR(c:Nat)(h:c<4294967296):aj c 32=(c / 2147483648) :: aj c 31:=by have h2:aj c (1+31)=aj (c / 2147483648) 1++aj c 31:=i4 31 c 1;have h3:c / 2147483648 % 2=c / 2147483648:=Ms (by omega);rw[Et,h3,List.singleton_append]at h2;exact h2
theorem Lw(c:Nat):aj c 31++ [0]=aj (2*c % 4294967296) 32:=by have h3:aj (c*2) (31+1)=aj c 31++ [0]:=lZ c 1 31;have h4:aj (2*c % 4294967296) 32=aj (2*c) 32:=Es 32 (2*c);rw[h4,←h3,MU]
theorem Bj(c:Nat)(h:c<4294967296):uG (aj c 32) 0=aj (fF c) 32:=by
 rw[KR c h,kE,Lw,KG,fF];by_cases hc:2147483648≤c;·rw[LX (by omega),LX hc,vl]
 ·rw[LW (by omega),LW hc,Nat.xor_zero]
def zN:Nat→List Nat→List Nat
 | 0,r=>r
 | n+1,r=>zN n (uG r 0)
theorem zO(n:Nat):∀c,c<4294967296→zN n (aj c 32)=aj (cV n c) 32:=by
 induction n with
 | zero=>intro c _;rfl
 | succ n ih=>intro c h;rw[zN,Bj c h,ih _ (gz c)];rfl
theorem BS(M:List Nat):∀r:List Nat,r.length=32→M.length≤32→zi r M=zN M.length (cw r M):=by
 induction M with
 | nil=>intro r _ _;rw[b5];rfl
 | cons m M ih=>
  intro r hl hM
  cases r with
  | nil=>cases hl
  | cons x xs=>
   have h1:xs.length=31:=(by simpa using hl);have h0:M.length≤31:=(by simpa using hM);have e1:uG (cw (x :: xs) (m :: M)) 0=cw (uG (x :: xs) m) M:=by
    rw[cw,kE,kE,MM,Nat.mod_mod,←yd xs [0] M (by omega)];split;·exact Ea _ _ _
    ·rfl
   rw[Mb,zN,e1,←ih _ (by rw[qy];exact hl) (by omega)];rfl
theorem E3(c b:Nat)(hc:c<4294967296)(hb:b<256):zi (aj c 32) (aj b 8)=aj (jO c b) 32:=by have h1:cw (aj c 32) (aj b 8)=aj (c ^^^ (b*16777216)) 32:=(by rw[vl,show b*16777216=b*2 ^ 24 from rfl,lZ b 24 8,yg _ _ _ (aD 32 c)]);rw[BS _ _ (af _ _) (by rw[af];omega),af,h1,zO _ _ (OI (n:=32) hc (by omega))];rfl
theorem BR(l:List UInt8):∀c,c<4294967296→zi (aj c 32) (ai l)=aj (l.foldl (fun c b=>jO c b.toNat) c) 32:=by
 induction l with
 | nil=>intro c _;rfl
 | cons b l ih=>intro c hc;rw[eM,zi,List.foldl_append];show zi (zi (aj c 32) (aj b.toNat 8)) (ai l)=_;rw[E3 c b.toNat hc b.toNat_lt,ih _ (nA _ _)];rfl
def fX(c:Nat)(l:List UInt8):Nat:=l.foldl (fun c b=>jO c b.toNat) c
theorem sG(l:List UInt8):∀c,c<4294967296→fX c l<4294967296:=by
 induction l with
 | nil=>intro c h;exact h
 | cons b l ih=>intro c _;exact ih _ (nA _ _)
theorem tE(c:Nat)(l:List UInt8)(hc:c<4294967296):IT c l=fX c l:=by unfold IT;rw[Ct,BR l c hc,dW];exact Ms (sG l c hc)
theorem sF(c:Nat)(a b:List UInt8):fX c (a++b)=fX (fX c a) b:=List.foldl_append
theorem GP(a b:Nat):2*(a ^^^ b)=(2*a) ^^^ (2*b):=by have h:=Nat.shiftLeft_xor_distrib (a:=a) (b:=b) (i:=1);rw[OD,OD,OD]at h;rw[MU 2,MU 2 a,MU 2 b];exact h
theorem GO(a b n:Nat):(a ^^^ b)*2 ^ n=(a*2 ^ n) ^^^ (b*2 ^ n):=by have h:=Nat.shiftLeft_xor_distrib (a:=a) (b:=b) (i:=n);rw[OD,OD,OD]at h;exact h
theorem JS(a b n:Nat):(a ^^^ b) / 2 ^ n=(a / 2 ^ n) ^^^ (b / 2 ^ n):=by have h:=Nat.shiftRight_xor_distrib (a:=a) (b:=b) (i:=n);rw[OM,OM,OM]at h;exact h
theorem AV(a b:Nat):(a ^^^ b)*16777216=(a*16777216) ^^^ (b*16777216):=by have h:=GO a b 24;rw[show (2:Nat) ^ 24=16777216 from rfl]at h;exact h
theorem JT(a b c d:Nat):(a ^^^ b) ^^^ (c ^^^ d)=(a ^^^ c) ^^^ (b ^^^ d):=by rw[Qe,←Qe b c d,Nat.xor_comm b c,Qe c b d,←Qe]
theorem BJ(a b:Nat)(ha:a<4294967296)(hb:b<4294967296):fF (a ^^^ b)=fF a ^^^ fF b:=by
 have h1:2*(a ^^^ b) % 4294967296=(2*a % 4294967296) ^^^ (2*b % 4294967296):=by rw[GP];exact Nat.xor_mod_two_pow (n:=32)
 have h2:(a ^^^ b) / 2147483648=(a / 2147483648) ^^^ (b / 2147483648):=JS a b 31;have hx:a ^^^ b<4294967296:=OI (n:=32) ha hb;have h3:(if 2147483648≤a ^^^ b then 79764919 else 0)=(if 2147483648≤a then 79764919 else 0) ^^^ (if 2147483648≤b then 79764919 else 0):=by
  have h0:a / 2147483648=0∨a / 2147483648=1:=by omega
  have h4:b / 2147483648=0∨b / 2147483648=1:=by omega
  rcases h0 with h0 | h0 <;>rcases h4 with h4 | h4 <;>rw[h0,h4]at h2;·have:(a ^^^ b) / 2147483648=0:=h2;rw[LW (by omega),LW (by omega),LW (by omega)];rfl
  ·have:(a ^^^ b) / 2147483648=1:=h2;rw[LX (by omega),LW (by omega),LX (by omega)];rfl
  ·have:(a ^^^ b) / 2147483648=1:=h2;rw[LX (by omega),LX (by omega),LW (by omega)];rfl
  ·have:(a ^^^ b) / 2147483648=0:=h2;rw[LW (by omega),LX (by omega),LX (by omega)];rfl
 unfold fF;rw[h1,h3];exact JT _ _ _ _
theorem yZ(n:Nat):∀a b,a<4294967296→b<4294967296→cV n (a ^^^ b)=cV n a ^^^ cV n b:=by
 induction n with
 | zero=>intro a b _ _;rfl
 | succ n ih=>intro a b ha hb;rw[cV,cV,cV,BJ a b ha hb,ih _ _ (gz a) (gz b)]
theorem eP(d:Nat)(h:d<2147483648):fF d=2*d:=by unfold fF;rw[LW (by omega),Nat.xor_zero,Ms (by omega)]
theorem yY(d:Nat)(h:d<16777216):cV 8 d=d*256:=by simp only[cV];rw[eP d (by omega),eP (2*d) (by omega),eP (2*(2*d)) (by omega),eP (2*(2*(2*d))) (by omega),eP (2*(2*(2*(2*d)))) (by omega),eP (2*(2*(2*(2*(2*d))))) (by omega),eP (2*(2*(2*(2*(2*(2*d)))))) (by omega),eP (2*(2*(2*(2*(2*(2*(2*d))))))) (by omega)];omega
theorem Gl(c:Nat):c=(c / 16777216*16777216) ^^^ (c % 16777216):=by
 have hd:c / 16777216*16777216=(c >>> 24) <<< 24:=by rw[OD,OM]
 have hm:c % 16777216=c % 2 ^ 24:=rfl;apply OS;intro i;rw[hd,hm,Qn,Nat.testBit_shiftLeft,Nat.testBit_shiftRight,Nat.testBit_mod_two_pow];by_cases h:i<24;·simp[h,show ¬(24≤i) by omega]
 ·simp[h,show 24≤i by omega,show 24+(i - 24)=i by omega]
def j7(i:Nat):Nat:=cV 8 (i*16777216)
theorem EN(i:Nat):j7 i<4294967296:=by unfold j7;rw[cV];exact sH 7 _ (gz _)
theorem yX(c b:Nat)(hc:c<4294967296)(hb:b<256):jO c b=(c % 16777216*256) ^^^ j7 ((c / 16777216) ^^^ b):=by have h1:c ^^^ (b*16777216)=(c % 16777216) ^^^ (((c / 16777216) ^^^ b)*16777216):=(by have h2:((c / 16777216) ^^^ b)*16777216=(c / 16777216*16777216) ^^^ (b*16777216):=AV (c / 16777216) b;rw[h2,←Qe,Nat.xor_comm (c % 16777216),←Gl]);have h3:(c / 16777216) ^^^ b<256:=OI (n:=8) (by omega) hb;have h4:c % 16777216<16777216:=OG _ (by omega);unfold jO j7;rw[h1,yZ 8 _ _ (by omega) (by omega),yY _ h4]
end Go.Proofs.YtepokmggbfoakaaGreatDoor.S02
