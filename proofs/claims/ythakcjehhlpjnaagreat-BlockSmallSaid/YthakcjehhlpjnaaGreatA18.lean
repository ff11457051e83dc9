import Derived.Test.YthakcjehhlpjnaaGreatA14
import Derived.Lib.AppendZerosOnto
import Derived.Deep.Onto
set_option maxHeartbeats 1600000
set_option maxRecDepth 100000
namespace Go.Proofs.YthakcjehhlpjnaaGreat.S02
def pL:List Nat:=aj 4374732215 33
theorem n9:pL.length=33:=af _ _
def xv(D:List Nat)(i:Nat):Nat→List Nat
 | 0=>D
 | m+1=>(xv D i m).set (i+m) (((xv D i m).getD (i+m) 0+pL.getD m 0) % 2)
def gj(D:List Nat)(i:Nat):List Nat:=if D.getD i 0=1 then xv D i 33 else D
def Dw(D:List Nat):Nat→List Nat
 | 0=>D
 | i+1=>gj (Dw D i) i
def Hx(D:List Nat):List Nat:=(Dw D (D.length - 32)).drop (D.length - 32)
theorem vp(D:List Nat)(i m:Nat):(xv D i m).length=D.length:=by
 induction m with
 | zero=>rfl
 | succ m ih=>rw[xv,List.length_set,ih]
theorem ut(D:List Nat)(i:Nat):(gj D i).length=D.length:=by
 unfold gj;split
 ·exact vp _ _ _
 ·rfl
theorem xf(D:List Nat)(i:Nat):(Dw D i).length=D.length:=by
 induction i with
 | zero=>rfl
 | succ i ih=>rw[Dw,ut,ih]
open Go.RowKit
def x7(D R:List Nat):Nat→List Nat
 | 0=>D
 | m+1=>(x7 D R m).set m (((x7 D R m).getD m 0+R.getD m 0) % 2)
theorem oW(D R:List Nat)(m:Nat):(x7 D R m).length=D.length:=by
 induction m with
 | zero=>rfl
 | succ m ih=>rw[x7,List.length_set,ih]
def Fr(r:Nat)(l:List UInt8):List Nat:=Hx (x7 (ak l++List.replicate 32 0) (aj r 32) 32)
theorem oM(n:Nat):aw (List.replicate n 0):=by
 intro b hb
 rw[List.eq_of_mem_replicate hb]
 omega
def EU(r:Nat)(l:List UInt8):Nat:=val (Fr r l)
def cL(l:List UInt8):Nat:=4294967295 - EU 4294967295 l
theorem wa(l:List UInt8):cL l<4294967296:=by unfold cL;omega
def bU:List Nat→List Nat→List Nat
 | x :: xs,y :: ys=>(x+y) % 2 :: bU xs ys
 | xs,_=>xs
theorem bN(X:List Nat):bU X []=X:=by cases X <;>rfl
theorem jy(Y:List Nat):bU [] Y= []:=by cases Y <;>rfl
theorem vn(X:List Nat):∀Y,(bU X Y).length=X.length:=by
 induction X with
 | nil=>intro Y;rw[jy]
 | cons x xs ih=>
   intro Y
   cases Y with
   | nil=>rw[bN]
   | cons y ys=>simp[bU,ih]
theorem DD(X:List Nat):∀Y,aw X→aw (bU X Y):=by
 induction X with
 | nil=>intro Y h;rw[jy];exact h
 | cons x xs ih=>
   intro Y h
   cases Y with
   | nil=>rw[bN];exact h
   | cons y ys=>
     intro b hb
     rw[bU]at hb
     rcases List.mem_cons.1 hb with rfl | hb
     ·exact Nat.mod_lt _ (by omega)
     ·exact ih ys (fun c hc=>h c (List.mem_cons_of_mem _ hc)) b hb
theorem tC(X:List Nat):∀(Y:List Nat) (m:Nat),m<Y.length→m<X.length→bU X (Y.take (m+1))=(bU X (Y.take m)).set m (((bU X (Y.take m)).getD m 0+Y.getD m 0) % 2):=by
 induction X with
 | nil=>intro Y m _ h;cases h
 | cons x xs ih=>
   intro Y m hy hx
   cases Y with
   | nil=>cases hy
   | cons y ys=>
     cases m with
     | zero=>simp[bU,bN]
     | succ m=>
       simp only[List.take_succ_cons,bU,List.set_cons_succ,List.getD_cons_succ]
       rw[ih ys m (by simpa using hy) (by simpa using hx)]
theorem DW(X:List Nat):∀Y Z,bU (bU X Y) Z=bU (bU X Z) Y:=by
 induction X with
 | nil=>intro Y Z;simp[jy]
 | cons x xs ih=>
   intro Y Z
   cases Y with
   | nil=>rw[bN,bN]
   | cons y ys=>
     cases Z with
     | nil=>rw[bN,bN]
     | cons z zs=>
       simp only[bU]
       rw[ih ys zs]
       congr 1
       omega
theorem zA(X:List Nat):∀Y Z,X.length≤Y.length∨Z.length≤Y.length→bU (bU X Y) Z=bU X (bU Y Z):=by
 induction X with
 | nil=>intro Y Z _;simp[jy]
 | cons x xs ih=>
   intro Y Z h
   cases Y with
   | nil=>
     rcases h with h | h
     ·simp at h
     ·have:Z= []:=List.eq_nil_of_length_eq_zero (by simpa using h)
      subst this
      simp only[bN]
   | cons y ys=>
     cases Z with
     | nil=>rw[bN,bN]
     | cons z zs=>
       simp only[bU]
       rw[ih ys zs (by simpa using h)]
       congr 1
       omega
theorem vU(X:List Nat):∀(Y:List Nat) (k:Nat),aw X→bU X (Y++List.replicate k 0)=bU X Y:=by
 induction X with
 | nil=>intro Y k _;simp[jy]
 | cons x xs ih=>
   intro Y k h
   have hx:x<2:=h x List.mem_cons_self
   have hs:aw xs:=fun c hc=>h c (List.mem_cons_of_mem _ hc)
   cases Y with
   | nil=>
     cases k with
     | zero=>rfl
     | succ k=>
       have h1:=ih [] k hs
       rw[List.nil_append,bN]at h1
       rw[List.nil_append,List.replicate_succ,bU,bN,h1]
       congr 1
       omega
   | cons y ys=>rw[List.cons_append,bU,bU,ih ys k hs]
theorem yO(Y:List Nat):aw Y→bU (List.replicate Y.length 0) Y=Y:=by
 induction Y with
 | nil=>intro _;rfl
 | cons y ys ih=>
   intro h
   have hy:y<2:=h y List.mem_cons_self
   rw[List.length_cons,List.replicate_succ,bU,ih (fun c hc=>h c (List.mem_cons_of_mem _ hc))]
   congr 1
   omega
theorem wM(X:List Nat):∀(X' Y:List Nat),Y.length≤X.length→bU (X++X') Y=bU X Y++X':=by
 induction X with
 | nil=>
   intro X' Y h
   have:Y= []:=List.eq_nil_of_length_eq_zero (by simpa using h)
   subst this
   rw[bN,bN]
 | cons x xs ih=>
   intro X' Y h
   cases Y with
   | nil=>rw[bN,bN]
   | cons y ys=>rw[List.cons_append,bU,bU,ih X' ys (by simpa using h),List.cons_append]
theorem BX(D R:List Nat)(m:Nat)(hR:m≤R.length)(hD:m≤D.length):x7 D R m=bU D (R.take m):=by
 induction m with
 | zero=>rw[x7,List.take_zero,bN]
 | succ m ih=>rw[x7,ih (by omega) (by omega),tC D R m (by omega) (by omega)]
theorem BI(D:List Nat)(i m:Nat)(hm:m≤33)(hD:i+m≤D.length):xv D i m=D.take i++bU (D.drop i) (pL.take m):=by
 induction m with
 | zero=>rw[xv,List.take_zero,bN,List.take_append_drop]
 | succ m ih=>
   have hl:(D.take i).length=i:=by rw[List.length_take];omega
   rw[xv,ih (by omega) (by omega),tC (D.drop i) pL m (by rw[n9];omega) (by rw[List.length_drop];omega)]
   rw[List.set_append,if_neg (by omega),hl,Nat.add_sub_cancel_left]
   congr 2
   rw[List.getD_eq_getElem?_getD,List.getElem?_append_right (by omega),hl,Nat.add_sub_cancel_left,←List.getD_eq_getElem?_getD]
def tP:List Nat→List Nat
 | []=> []
 | x :: xs=>if x=1 then bU xs (pL.drop 1)else xs
def oJ:Nat→List Nat→List Nat
 | 0,X=>X
 | n+1,X=>oJ n (tP X)
theorem yr(n:Nat):∀X,oJ (n+1) X=tP (oJ n X):=by
 induction n with
 | zero=>intro X;rfl
 | succ n ih=>intro X;rw[oJ,ih];rfl
theorem GU:pL=1 :: pL.drop 1:=by decide
theorem Gw(T:List Nat):bU (1 :: T) pL=0 :: bU T (pL.drop 1):=by
 conv=>
  lhs
  rw[GU,bU]
theorem zl(D:List Nat)(i:Nat)(h:i+33≤D.length):(gj D i).drop (i+1)=tP (D.drop i):=by
 have hc:D.drop i=D.getD i 0 :: D.drop (i+1):=by
  rw[List.drop_eq_getElem_cons (by omega),List.getD_eq_getElem?_getD,List.getElem?_eq_getElem (by omega)]
  rfl
 unfold gj
 rw[hc,tP]
 split
 ·rename_i h1
  have hl:(D.take i).length=i:=by rw[List.length_take];omega
  have hp:pL.take 33=pL:=List.take_of_length_le (by rw[n9];omega)
  have hd:(D.take i).drop (i+1)= []:=List.drop_of_length_le (by omega)
  rw[BI D i 33 (by omega) (by omega),hp,hc,h1,Gw,List.drop_append,hl,hd,Nat.add_sub_cancel_left,List.nil_append]
  rfl
 ·rfl
theorem B6(D:List Nat)(i:Nat)(h:i+32≤D.length):(Dw D i).drop i=oJ i D:=by
 induction i with
 | zero=>rfl
 | succ i ih=>rw[Dw,zl _ _ (by rw[xf];omega),ih (by omega),yr]
theorem xT(D:List Nat)(h:32≤D.length):Hx D=oJ (D.length - 32) D:=B6 D _ (by omega)
def sk:List Nat→Nat→List Nat
 | [],_=> []
 | x :: xs,m=>if(x+m) % 2=1 then bU (xs++ [0]) (pL.drop 1)else xs++ [0]
theorem jH(x:Nat)(xs:List Nat)(m:Nat):sk (x :: xs) m=if(x+m) % 2=1 then bU (xs++ [0]) (pL.drop 1)else xs++ [0]:=rfl
theorem oZ(r:List Nat)(m:Nat):(sk r m).length=r.length:=by
 cases r with
 | nil=>rfl
 | cons x xs=>
   rw[jH]
   split
   ·rw[vn,List.length_append];rfl
   ·rw[List.length_append];rfl
theorem Br(r:List Nat)(m:Nat)(h:aw r):aw (sk r m):=by
 cases r with
 | nil=>exact h
 | cons x xs=>
   have h1:aw (xs++ [0]):=aw.append (fun c hc=>h c (List.mem_cons_of_mem _ hc)) (oM 1)
   rw[jH]
   split
   ·exact DD _ _ h1
   ·exact h1
def wA(r:List Nat)(M:List Nat):List Nat:=M.foldl sk r
theorem zO(M:List Nat):∀r:List Nat,r.length=32→aw r→aw M→oJ M.length (bU (M++List.replicate 32 0) r)=wA r M:=by
 induction M with
 | nil=>
   intro r hl hr _
   have h:=yO r hr
   rw[hl]at h
   exact h
 | cons m M ih=>
   intro r hl hr hM
   have h0:aw M:=fun c hc=>hM c (List.mem_cons_of_mem _ hc)
   have hY:aw (M++List.replicate 32 0):=h0.append (oM 32)
   cases r with
   | nil=>cases hl
   | cons x xs=>
     have h1:xs.length=31:=by simpa using hl
     have e1:bU (M++List.replicate 32 0) xs=bU (M++List.replicate 32 0) (xs++ [0]):=(vU _ xs 1 hY).symm
     have e2:tP (bU ((m :: M)++List.replicate 32 0) (x :: xs))=bU (M++List.replicate 32 0) (sk (x :: xs) m):=by
      rw[List.cons_append,bU,tP,sk,Nat.add_comm x m,e1]
      split
      ·exact zA _ _ _ (.inr (by rw[List.length_drop,n9,List.length_append,h1];decide))
      ·rfl
     rw[List.length_cons,oJ,e2,ih _ (by rw[oZ];exact hl) (Br _ _ hr) h0]
     rfl
theorem zk(r:Nat)(l:List UInt8):Fr r l=wA (aj r 32) (ak l):=by
 have h1:(ak l++List.replicate 32 0).length=(ak l).length+32:=by rw[List.length_append,List.length_replicate]
 unfold Fr
 rw[xT _ (by rw[oW,h1];omega),oW,h1,Nat.add_sub_cancel,BX _ _ _ (by rw[af];omega) (by rw[h1];omega),List.take_of_length_le (by rw[af];omega)]
 exact zO _ _ (af _ _) (aJ _ _) (aS _)
def eQ(c:Nat):Nat:=(2*c % 4294967296) ^^^ (if 2147483648≤c then 79764919 else 0)
def ct:Nat→Nat→Nat
 | 0,c=>c
 | n+1,c=>ct n (eQ c)
def i6(c b:Nat):Nat:=ct 8 (c ^^^ (b*16777216))
theorem EP(a b:Nat):(a ^^^ b) % 2=(a % 2+b % 2) % 2:=by
 have h:(a ^^^ b) % 2=(a % 2) ^^^ (b % 2):=Nat.xor_mod_two_pow (n:=1)
 have ha:a % 2=0∨a % 2=1:=by omega
 have hb:b % 2=0∨b % 2=1:=by omega
 rw[h]
 rcases ha with ha | ha <;>rcases hb with hb | hb <;>rw[ha,hb] <;>rfl
theorem FU(a b:Nat):(a ^^^ b) / 2=a / 2 ^^^ b / 2:=by
 apply Nat.eq_of_testBit_eq
 intro i
 rw[Nat.testBit_xor,Nat.testBit_div_two,Nat.testBit_div_two,Nat.testBit_div_two,Nat.testBit_xor]
theorem C1(X:List Nat):∀(Y:List Nat) (x y:Nat),X.length=Y.length→bU (X++ [x]) (Y++ [y])=bU X Y++ [(x+y) % 2]:=by
 induction X with
 | nil=>
   intro Y x y h
   have:Y= []:=List.eq_nil_of_length_eq_zero h.symm
   subst this
   rfl
 | cons z X ih=>
   intro Y x y h
   cases Y with
   | nil=>cases h
   | cons w Y=>rw[List.cons_append,List.cons_append,bU,bU,ih Y x y (by simpa using h),List.cons_append]
theorem t6(n:Nat):∀a b,aj (a ^^^ b) n=bU (aj a n) (aj b n):=by
 induction n with
 | zero=>intro a b;rfl
 | succ n ih=>
   intro a b
   rw[aj,aj,aj,C1 _ _ _ _ (by rw[af,af]),FU,ih,EP]
theorem BJ(n v:Nat):aj (v % 2 ^ n) n=aj v n:=by
 have h1:val (aj v n)=v % 2 ^ n:=dD n v
 have h2:=fP (aj v n) (aJ n v)
 rw[af,h1]at h2
 exact h2
theorem G9:pL.drop 1=aj 79764919 32:=by decide
theorem fJ(c:Nat):eQ c<4294967296:=by
 unfold eQ
 exact Nat.xor_lt_two_pow (n:=32) (Nat.mod_lt _ (by omega)) (by split <;>omega)
theorem qW(n:Nat):∀c,c<4294967296→ct n c<4294967296:=by
 induction n with
 | zero=>intro c h;exact h
 | succ n ih=>intro c _;exact ih _ (fJ c)
theorem mv(c b:Nat):i6 c b<4294967296:=qW 7 _ (fJ _)
theorem DN(v:Nat):aj v 1= [v % 2]:=rfl
theorem GR(c:Nat)(h:c<4294967296):aj c 32=(c / 2147483648) :: aj c 31:=by
 have h2:aj c (1+31)=aj (c / 2147483648) 1++aj c 31:=ik 31 c 1
 have h3:c / 2147483648 % 2=c / 2147483648:=Nat.mod_eq_of_lt (by omega)
 rw[DN,h3,List.singleton_append]at h2
 exact h2
theorem Iu(c:Nat):aj c 31++ [0]=aj (2*c % 4294967296) 32:=by
 have h3:aj (c*2) (31+1)=aj c 31++ [0]:=kV c 1 31
 have h4:aj (2*c % 4294967296) 32=aj (2*c) 32:=BJ 32 (2*c)
 rw[h4,←h3,Nat.mul_comm]
theorem yg(c:Nat)(h:c<4294967296):sk (aj c 32) 0=aj (eQ c) 32:=by
 rw[GR c h,jH,Iu,G9,eQ]
 by_cases hc:2147483648≤c
 ·rw[if_pos (by omega),if_pos hc,t6]
 ·rw[if_neg (by omega),if_neg hc,Nat.xor_zero]
def wR:Nat→List Nat→List Nat
 | 0,r=>r
 | n+1,r=>wR n (sk r 0)
theorem vT(n:Nat):∀c,c<4294967296→wR n (aj c 32)=aj (ct n c) 32:=by
 induction n with
 | zero=>intro c _;rfl
 | succ n ih=>intro c h;rw[wR,yg c h,ih _ (fJ c)];rfl
theorem zE(M:List Nat):∀r:List Nat,r.length=32→M.length≤32→wA r M=wR M.length (bU r M):=by
 induction M with
 | nil=>intro r _ _;rw[bN];rfl
 | cons m M ih=>
   intro r hl hM
   cases r with
   | nil=>cases hl
   | cons x xs=>
     have h1:xs.length=31:=by simpa using hl
     have h0:M.length≤31:=by simpa using hM
     have e1:sk (bU (x :: xs) (m :: M)) 0=bU (sk (x :: xs) m) M:=by
      rw[bU,jH,jH,Nat.add_zero,Nat.mod_mod,←wM xs [0] M (by omega)]
      split
      ·exact DW _ _ _
      ·rfl
     rw[List.length_cons,wR,e1,←ih _ (by rw[oZ];exact hl) (by omega)]
     rfl
theorem DQ(c b:Nat)(hc:c<4294967296)(hb:b<256):wA (aj c 32) (aj b 8)=aj (i6 c b) 32:=by
 have h1:bU (aj c 32) (aj b 8)=aj (c ^^^ (b*16777216)) 32:=by
  rw[t6,show b*16777216=b*2 ^ 24 from rfl,kV b 24 8,vU _ _ _ (aJ 32 c)]
 rw[zE _ _ (af _ _) (by rw[af];omega),af,h1,vT _ _ (Nat.xor_lt_two_pow (n:=32) hc (by omega))]
 rfl
theorem yf(l:List UInt8):∀c,c<4294967296→wA (aj c 32) (ak l)=aj (l.foldl (fun c b=>i6 c b.toNat) c) 32:=by
 induction l with
 | nil=>intro c _;rfl
 | cons b l ih=>
   intro c hc
   rw[dS,wA,List.foldl_append]
   show wA (wA (aj c 32) (aj b.toNat 8)) (ak l)=_
   rw[DQ c b.toNat hc b.toNat_lt,ih _ (mv _ _)]
   rfl
def fw(c:Nat)(l:List UInt8):Nat:=l.foldl (fun c b=>i6 c b.toNat) c
theorem p8(l:List UInt8):∀c,c<4294967296→fw c l<4294967296:=by
 induction l with
 | nil=>intro c h;exact h
 | cons b l ih=>intro c _;exact ih _ (mv _ _)
theorem qq(c:Nat)(l:List UInt8)(hc:c<4294967296):EU c l=fw c l:=by
 unfold EU
 rw[zk,yf l c hc,dD]
 exact Nat.mod_eq_of_lt (p8 l c hc)
theorem qN(c:Nat)(a b:List UInt8):fw c (a++b)=fw (fw c a) b:=List.foldl_append
theorem CH(a b:Nat):2*(a ^^^ b)=(2*a) ^^^ (2*b):=by
 have h:=Nat.shiftLeft_xor_distrib (a:=a) (b:=b) (i:=1)
 rw[Nat.shiftLeft_eq,Nat.shiftLeft_eq,Nat.shiftLeft_eq]at h
 rw[Nat.mul_comm 2,Nat.mul_comm 2 a,Nat.mul_comm 2 b]
 exact h
theorem Be(a b n:Nat):(a ^^^ b)*2 ^ n=(a*2 ^ n) ^^^ (b*2 ^ n):=by
 have h:=Nat.shiftLeft_xor_distrib (a:=a) (b:=b) (i:=n)
 rw[Nat.shiftLeft_eq,Nat.shiftLeft_eq,Nat.shiftLeft_eq]at h
 exact h
theorem Ej(a b n:Nat):(a ^^^ b) / 2 ^ n=(a / 2 ^ n) ^^^ (b / 2 ^ n):=by
 have h:=Nat.shiftRight_xor_distrib (a:=a) (b:=b) (i:=n)
 rw[Nat.shiftRight_eq_div_pow,Nat.shiftRight_eq_div_pow,Nat.shiftRight_eq_div_pow]at h
 exact h
theorem vq(a b:Nat):(a ^^^ b)*16777216=(a*16777216) ^^^ (b*16777216):=by
 have h:=Be a b 24
 rw[show (2:Nat) ^ 24=16777216 from rfl]at h
 exact h
theorem Gf(a b c d:Nat):(a ^^^ b) ^^^ (c ^^^ d)=(a ^^^ c) ^^^ (b ^^^ d):=by
 rw[Nat.xor_assoc,←Nat.xor_assoc b c d,Nat.xor_comm b c,Nat.xor_assoc c b d,←Nat.xor_assoc]
theorem z8(a b:Nat)(ha:a<4294967296)(hb:b<4294967296):eQ (a ^^^ b)=eQ a ^^^ eQ b:=by
 have h1:2*(a ^^^ b) % 4294967296=(2*a % 4294967296) ^^^ (2*b % 4294967296):=by
  rw[CH]
  exact Nat.xor_mod_two_pow (n:=32)
 have h2:(a ^^^ b) / 2147483648=(a / 2147483648) ^^^ (b / 2147483648):=Ej a b 31
 have hx:a ^^^ b<4294967296:=Nat.xor_lt_two_pow (n:=32) ha hb
 have h3:(if 2147483648≤a ^^^ b then 79764919 else 0)=(if 2147483648≤a then 79764919 else 0) ^^^ (if 2147483648≤b then 79764919 else 0):=by
  have h0:a / 2147483648=0∨a / 2147483648=1:=by omega
  have h4:b / 2147483648=0∨b / 2147483648=1:=by omega
  rcases h0 with h0 | h0 <;>rcases h4 with h4 | h4 <;>rw[h0,h4]at h2
  ·have:(a ^^^ b) / 2147483648=0:=h2
   rw[if_neg (by omega),if_neg (by omega),if_neg (by omega)]
   rfl
  ·have:(a ^^^ b) / 2147483648=1:=h2
   rw[if_pos (by omega),if_neg (by omega),if_pos (by omega)]
   rfl
  ·have:(a ^^^ b) / 2147483648=1:=h2
   rw[if_pos (by omega),if_pos (by omega),if_neg (by omega)]
   rfl
  ·have:(a ^^^ b) / 2147483648=0:=h2
   rw[if_neg (by omega),if_pos (by omega),if_pos (by omega)]
   rfl
 unfold eQ
 rw[h1,h3]
 exact Gf _ _ _ _
theorem vv(n:Nat):∀a b,a<4294967296→b<4294967296→ct n (a ^^^ b)=ct n a ^^^ ct n b:=by
 induction n with
 | zero=>intro a b _ _;rfl
 | succ n ih=>
   intro a b ha hb
   rw[ct,ct,ct,z8 a b ha hb,ih _ _ (fJ a) (fJ b)]
theorem ee(d:Nat)(h:d<2147483648):eQ d=2*d:=by
 unfold eQ
 rw[if_neg (by omega),Nat.xor_zero,Nat.mod_eq_of_lt (by omega)]
theorem xL(d:Nat)(h:d<16777216):ct 8 d=d*256:=by
 simp only[ct]
 rw[ee d (by omega),ee (2*d) (by omega),ee (2*(2*d)) (by omega),ee (2*(2*(2*d))) (by omega),ee (2*(2*(2*(2*d)))) (by omega),ee (2*(2*(2*(2*(2*d))))) (by omega),ee (2*(2*(2*(2*(2*(2*d)))))) (by omega),ee (2*(2*(2*(2*(2*(2*(2*d))))))) (by omega)]
 omega
theorem DK(c:Nat):c=(c / 16777216*16777216) ^^^ (c % 16777216):=by
 have hd:c / 16777216*16777216=(c >>> 24) <<< 24:=by rw[Nat.shiftLeft_eq,Nat.shiftRight_eq_div_pow]
 have hm:c % 16777216=c % 2 ^ 24:=rfl
 apply Nat.eq_of_testBit_eq
 intro i
 rw[hd,hm,Nat.testBit_xor,Nat.testBit_shiftLeft,Nat.testBit_shiftRight,Nat.testBit_mod_two_pow]
 by_cases h:i<24
 ·simp[h,show ¬(24≤i) by omega]
 ·simp[h,show 24≤i by omega,show 24+(i - 24)=i by omega]
def jk(i:Nat):Nat:=ct 8 (i*16777216)
theorem De(i:Nat):jk i<4294967296:=by
 unfold jk
 rw[ct]
 exact qW 7 _ (fJ _)
theorem wk(c b:Nat)(hc:c<4294967296)(hb:b<256):i6 c b=(c % 16777216*256) ^^^ jk ((c / 16777216) ^^^ b):=by
 have h1:c ^^^ (b*16777216)=(c % 16777216) ^^^ (((c / 16777216) ^^^ b)*16777216):=by
  have h2:((c / 16777216) ^^^ b)*16777216=(c / 16777216*16777216) ^^^ (b*16777216):=vq (c / 16777216) b
  rw[h2,←Nat.xor_assoc,Nat.xor_comm (c % 16777216),←DK]
 have h3:(c / 16777216) ^^^ b<256:=Nat.xor_lt_two_pow (n:=8) (by omega) hb
 have h4:c % 16777216<16777216:=Nat.mod_lt _ (by omega)
 unfold i6 jk
 rw[h1,vv 8 _ _ (by omega) (by omega),xL _ h4]
end Go.Proofs.YthakcjehhlpjnaaGreat.S02
