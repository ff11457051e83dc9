import Derived.Test.YtepokmggbfoakaaGreatDoorA00
import Derived.Lib.AppendStr
set_option maxHeartbeats 1600000
set_option maxRecDepth 1000000
namespace Go.Proofs.YtepokmggbfoakaaGreatDoor.S03
def bZ(x:UInt8):Nat→List UInt8→Nat
 | 0,_=>0
 | _+1, []=>0
 | m+1,y :: l=>if y=x then bZ x m l+1 else 0
theorem DQ(x:UInt8):∀(m:Nat) (l:List UInt8),bZ x m l≤m∧bZ x m l≤l.length
 | 0,l=>⟨L5 _,LY _⟩
 | m+1, []=>⟨LY _,L5 _⟩
 | m+1,y :: l=>by have h:=DQ x m l;unfold bZ;split <;>simp <;>omega
def aG:List UInt8→Nat
 | []=>0
 | x :: l=>bZ x 254 l+1
theorem gG(l:List UInt8):aG l≤255∧aG l≤l.length:=by
 cases l with
 | nil=>exact⟨by simp[aG],by simp[aG]⟩
 | cons x l=>have h:=DQ x 254 l;simp only[aG,Mb];omega
theorem eS(x:UInt8)(l:List UInt8):0<aG (x :: l):=Nat.succ_pos _
def jx(l:List UInt8)(k:Nat):List UInt8:=if k<4 then l.take k else l.take 4++ [UInt8.ofNat (k - 4)]
def aJ:Nat→List UInt8→List UInt8
 | 0,_=> []
 | _+1, []=> []
 | n+1,x :: l=>jx (x :: l) (aG (x :: l))++aJ n ((x :: l).drop (aG (x :: l)))
theorem oF(n:Nat):aJ n []= []:=by cases n <;>rfl
theorem E6(n:Nat):∀(m:Nat) (l:List UInt8),l.length≤n→l.length≤m→aJ n l=aJ m l:=by
 induction n with
 | zero=>intro m l h _;have:l= []:=Mg (by omega);subst this;rw[oF,oF]
 | succ n ih=>
  intro m l h h2
  cases l with
  | nil=>rw[oF,oF]
  | cons x l=>
   cases m with
   | zero=>simp at h2
   | succ m=>have hp:=eS x l;simp only[Mb]at h h2;unfold aJ;rw[ih m _ (by rw[Mc,Mb];omega) (by rw[Mc,Mb];omega)]
def aT(l:List UInt8):List UInt8:=aJ l.length l
theorem kI:aT []= []:=rfl
theorem E9(x:UInt8)(l:List UInt8):aT (x :: l)=jx (x :: l) (aG (x :: l))++aT ((x :: l).drop (aG (x :: l))):=by have hp:=eS x l;unfold aT;rw[Mb,aJ,E6 l.length _ _ (by rw[Mc,Mb];omega) (ag _)]
theorem ja(l:List UInt8)(h:l≠ []):aT l=jx l (aG l)++aT (l.drop (aG l)):=by
 cases l with
 | nil=>exact absurd rfl h
 | cons x l=>exact E9 x l
theorem mi(l:List UInt8)(k:Nat)(x:UInt8)(h:aG l=k+bZ x (255 - k) (l.drop k))(he:l.length≤k∨255≤k∨∃y,l[k]? =some y∧y≠x):aG l=k:=by
 rw[h];have h0:bZ x (255 - k) (l.drop k)=0:=by
  rcases he with h1 | h1 | ⟨y,hy,hn⟩;·rw[MP h1];cases 255 - k <;>rfl
  ·rw[show 255 - k=0 by omega];rfl
  ·have h2:k<l.length:=by
    rcases MF k l.length with h1 | h1;·exact h1
    ·rw[Mf h1]at hy;cases hy
   rw[MA h2];rw[LV h2]at hy
   cases 255 - k with
   | zero=>rfl
   | succ m=>rw[bZ,LW (by rw[My hy];exact hn)]
 omega
open Go.RowKit
theorem kH(t:ByteArray)(j:Nat)(h:j<t.size):t.data.toList[j]? =some t[j]:=by have h0:j<t.data.toList.length:=(by simpa using h);rw[LV h0];rfl
theorem jt(t:ByteArray)(k:Nat):(t.extract 0 k).data.toList=t.data.toList.take k:=by rw[ByteArray.data_extract,Array.toList_extract,List.extract_eq_take_drop,PZ,Pv]
theorem ig(t:ByteArray)(k:Nat):(t.extract k t.size).data.toList=t.data.toList.drop k:=by rw[ByteArray.data_extract,Array.toList_extract,List.extract_eq_take_drop];refine Mh ?_;rw[Mc];exact L5 _
theorem bJ(t:ByteArray)(k:Nat):(t.extract k t.size).size=t.size - k:=by rw[Ni];omega
theorem Hs(w1:World)(v:Int):(convert 39 9 (.slice (some ⟨w1.heap.size,0,none⟩) 1 1)).run Tryz.prog (w1.alloc (.cells #[.int .u8 v] 5))=.ok (.string ⟨#[UInt8.ofNat v.toNat]⟩) (w1.alloc (.cells #[.int .u8 v] 5)):=by refine run_convert_bytes_arg (P:=Tryz.prog) (w1.alloc (.cells #[.int .u8 v] 5)) 39 5 Tryz.underlying39 Tryz.underlying5 w1.heap.size 0 1 1 [v] rfl (fun i hi=> ?_) 9 Tryz.underlying9;obtain rfl:i=0:=(by omega);rw[World.cell?_alloc_new];rfl
def JI:Value→Nat
 | .string t=>t.size
 | _=>0
def lS:List UInt8→Nat
 | []=>0
 | x :: l=>1+bZ x 3 l
theorem Jn(l:List UInt8)(k m N:Nat)(x y:UInt8)(hy:l[k]? =some y)(he:y=x)(hm:k<m)(h:N=k+bZ x (m - k) (l.drop k)):N=(k+1)+bZ x (m - (k+1)) (l.drop (k+1)):=by
 have h0:k<l.length:=by
  rcases MF k l.length with h1 | h1;·exact h1
  ·rw[Mf h1]at hy;cases hy
 have hd:l.drop k=y :: l.drop (k+1):=by rw[MA h0];rw[LV h0]at hy;rw[My hy]
 rw[h,hd,show m - k=(m - (k+1))+1 by omega,bZ,LX he];omega
theorem DS(l:List UInt8)(k m N:Nat)(x:UInt8)(h:N=k+bZ x (m - k) (l.drop k))(he:l.length≤k∨m≤k∨∃y,l[k]? =some y∧y≠x):N=k:=by
 have h0:bZ x (m - k) (l.drop k)=0:=by
  rcases he with h1 | h1 | ⟨y,hy,hn⟩;·rw[MP h1];cases m - k <;>rfl
  ·rw[show m - k=0 by omega];rfl
  ·have h2:k<l.length:=by
    rcases MF k l.length with h1 | h1;·exact h1
    ·rw[Mf h1]at hy;cases hy
   rw[MA h2];rw[LV h2]at hy
   cases m - k with
   | zero=>rfl
   | succ m=>rw[bZ,LW (by rw[My hy];exact hn)]
 omega
theorem kP(t:ByteArray)(h:0<t.size):t.data.toList=t[0] :: t.data.toList.drop 1:=by have h0:0<t.data.toList.length:=h;have:=MA h0;rw[PZ]at this;exact this
def sM:Nat→List UInt8→List UInt8→List UInt8×Nat
 | 0,o,_=>(o,0)
 | _+1,o, []=>(o,0)
 | n+1,o,x :: l=>
   if lS (x :: l)<4 then(if 262144≤o.length then([],3)else sM n (o++ [x]) l)
   else if 262144<o.length+4 then([],3)
   else if l.length=3 then([],30)
   else if 262144<o.length+4+(l.getD 3 0).toNat then([],3)
   else sM n (o++(x :: l).take 4++List.replicate (l.getD 3 0).toNat x) (l.drop 4)
theorem oz(n:Nat)(o:List UInt8):sM n o []=(o,0):=by cases n <;>rfl
theorem EZ(n:Nat):∀(m:Nat) (o l:List UInt8),l.length≤n→l.length≤m→sM n o l=sM m o l:=by
 induction n with
 | zero=>intro m o l h _;have:l= []:=Mg (by omega);subst this;rw[oz,oz]
 | succ n ih=>
  intro m o l h h2
  cases l with
  | nil=>rw[oz,oz]
  | cons x l=>
   cases m with
   | zero=>simp at h2
   | succ m=>simp only[Mb]at h h2;unfold sM;rw[ih m (o++ [x]) l (by omega) (by omega),ih m (o++(x :: l).take 4++List.replicate (l.getD 3 0).toNat x) (l.drop 4) (by rw[Mc];omega) (by rw[Mc];omega)]
def e9(o l:List UInt8):List UInt8×Nat:=sM l.length o l
theorem ze(o:List UInt8):e9 o []=(o,0):=rfl
theorem mQ(o:List UInt8)(x:UInt8)(l:List UInt8):e9 o (x :: l)=
 if lS (x :: l)<4 then(if 262144≤o.length then([],3)else e9 (o++ [x]) l)
 else if 262144<o.length+4 then([],3)
 else if l.length=3 then([],30)
 else if 262144<o.length+4+(l.getD 3 0).toNat then([],3)
 else e9 (o++(x :: l).take 4++List.replicate (l.getD 3 0).toNat x) (l.drop 4):=by have h:e9 o (x :: l)=sM (l.length+1) o (x :: l):=rfl;rw[h,sM];unfold e9;rw[EZ l.length (l.drop 4).length _ (l.drop 4) (by rw[Mc];omega) (ag _)]
theorem ow{w:World}{B:Nat}{v:Value}{l:List UInt8}(h:w.ownsRow B 5 1 v l.length (l.map bv)):(convert 39 9 v).run Tryz.prog w=.ok (.string ⟨l.toArray⟩) w:=by
 rcases h.2 with⟨rfl,h0⟩ | ⟨g,cap,cur,rfl,_⟩;·have:l= []:=Mg h0;subst this;exact Pg w 39 5 Tryz.underlying39 Tryz.underlying5 0 0 9 Tryz.underlying9
 ·have hn:∀j (hj:j<l.length),w.cell? ((⟨g,0,none⟩:Addr).add j)=some (.int .u8 (l[j].toNat:Int)):=(by intro j hj;have h1:=h.cells (g:=g) rfl j (.int .u8 (l[j].toNat:Int));exact h1 (by rw[Me,LV hj];rfl));exact Pb w 39 9 5 ⟨g,0,none⟩ cap l Tryz.underlying39 Tryz.underlying5 Tryz.underlying9 hn
def pc(x:UInt8)(k:Nat):List UInt8:=if k<4 then List.replicate k x else List.replicate 4 x++ [UInt8.ofNat (k - 4)]
theorem gJ(x:UInt8)(k:Nat):(pc x k).length=if k<4 then k else 5:=by unfold pc;split <;>simp
theorem ud(x:UInt8)(l:List UInt8):∀(k m:Nat),k≤m→(k=m∨l.head? ≠some x)→bZ x m (List.replicate k x++l)=k
 | 0,0,_,_=>rfl
 | 0,m+1,_,h=>by
  cases l with
  | nil=>rfl
  | cons y l=>
   have hy:¬y=x:=fun e=>by
    rcases h with h | h;·omega
    ·exact h (by rw[e];rfl)
   show bZ x (m+1) (y :: l)=0;rw[bZ,LW hy]
 | k+1,0,h,_=>by omega
 | k+1,m+1,h,h2=>by show bZ x (m+1) (x :: (List.replicate k x++l))=k+1;rw[bZ,LX rfl,ud x l k m (by omega) (by rcases h2 with h2 | h2;exact .inl (by omega);exact .inr h2)]
theorem AJ(x:UInt8)(l:List UInt8)(k j:Nat)(h:j≤k):(List.replicate k x++l).take j=List.replicate j x:=by rw[Nb (by rw[Mo];exact h),List.take_replicate,MN h]
theorem Du(x:UInt8)(l:List UInt8)(k:Nat)(h1:1≤k)(h2:k≤255)(h3:k=255∨l.head? ≠some x):aT (List.replicate k x++l)=pc x k++aT l:=by
 obtain⟨j,rfl⟩:∃j,k=j+1:=⟨k - 1,by omega⟩;have hr:aG (List.replicate (j+1) x++l)=j+1:=by show bZ x 254 (List.replicate j x++l)+1=j+1;rw[ud x l j 254 (by omega) (by rcases h3 with h3 | h3;exact .inl (by omega);exact .inr h3)]
 have h0:List.replicate (j+1) x++l≠ []:=by simp
 rw[ja _ h0,hr,PM (Mo ..)];congr 1;unfold jx pc;split;·rw[AJ _ _ _ _ (ag _)]
 ·rw[AJ _ _ _ _ (by omega)]
def lV(x:UInt8)(k:Nat)(l:List UInt8):List UInt8:=aT (List.replicate k x++l)
theorem jr(x:UInt8)(k:Nat)(h1:1≤k)(h2:k≤255):lV x k []=pc x k:=by unfold lV;rw[Du x [] k h1 h2 (.inr (by simp)),kI,Mv]
theorem i9(x:UInt8)(k:Nat)(l:List UInt8):lV x k (x :: l)=lV x (k+1) l:=by unfold lV;rw[ON,LZ];rfl
theorem gB(x y:UInt8)(k:Nat)(l:List UInt8)(h1:1≤k)(h2:k≤255)(h:y≠x∨k=255):lV x k (y :: l)=pc x k++lV y 1 l:=by unfold lV;rw[Du x (y :: l) k h1 h2 (by rcases h with h | h;exact .inr (fun e=>h (My e));exact .inl h)];rfl
theorem gD(x:UInt8)(l:List UInt8):aT (x :: l)=lV x 1 l:=rfl
theorem E8(b:UInt8)(l:List UInt8):∀(x:UInt8) (k:Nat),1≤k→k≤255→(lV x k l).length≤(lV x k (l++ [b])).length∧(lV x k (l++ [b])).length≤(lV x k l).length+2:=by
 induction l with
 | nil=>
  intro x k h1 h2;rw[jr x k h1 h2];show _≤(lV x k [b]).length∧(lV x k [b]).length≤_;by_cases h:b=x∧k<255;·obtain⟨rfl,h3⟩:=h;rw[i9,jr _ _ (by omega) (by omega),gJ,gJ];split <;>split <;>omega
  ·rw[gB x b k [] h1 h2 (by by_cases e:b=x;exact .inr (by have:¬k<255:=fun q=>h ⟨e,q⟩;omega);exact .inl e),jr b 1 (by omega) (by omega),LR,gJ,gJ];split <;>simp
 | cons y l ih=>
  intro x k h1 h2;by_cases h:y=x∧k<255;·obtain⟨rfl,h3⟩:=h;rw[MI,i9,i9];exact ih y (k+1) (by omega) (by omega)
  ·have ho:y≠x∨k=255:=(by by_cases e:y=x;exact .inr (by have:¬k<255:=fun q=>h ⟨e,q⟩;omega);exact .inl e);rw[MI,gB x y k _ h1 h2 ho,gB x y k _ h1 h2 ho,LR,LR];have:=ih y 1 (by omega) (by omega);omega
theorem Fa(l:List UInt8)(b:UInt8):(aT l).length≤(aT (l++ [b])).length∧(aT (l++ [b])).length≤(aT l).length+2:=by
 cases l with
 | nil=>show 0≤(aT [b]).length∧(aT [b]).length≤0+2;rw[gD,jr _ _ (by omega) (by omega),gJ];simp
 | cons x l=>rw[MI,gD,gD];exact E8 b l x 1 (by omega) (by omega)
theorem Fb(l:List UInt8)(m:Nat):(aT (l.take m)).length≤(aT (l.take (m+1))).length:=by
 by_cases h:m<l.length;·rw[Mn h];exact(Fa _ _).1
 ·rw[Mh (by omega),Mh (by omega)];exact L5 _
theorem iP(l:List UInt8)(m:Nat):∀n,m≤n→(aT (l.take m)).length≤(aT (l.take n)).length:=by
 intro n h
 induction n with
 | zero=>obtain rfl:m=0:=(by omega);exact L5 _
 | succ n ih=>
  by_cases e:m=n+1;·rw[e];exact L5 _
  ·exact Mk (ih (by omega)) (Fb l n)
theorem E7(l:List UInt8):∀(x:UInt8) (k:Nat),1≤k→k≤255→4*(lV x k l).length≤5*(k+l.length):=by
 induction l with
 | nil=>intro x k h1 h2;rw[jr x k h1 h2,gJ];split <;>simp <;>omega
 | cons y l ih=>
  intro x k h1 h2;by_cases h:y=x∧k<255;·obtain⟨rfl,h3⟩:=h;rw[i9];have:=ih y (k+1) (by omega) (by omega);rw[Mb];omega
  ·have ho:y≠x∨k=255:=(by by_cases e:y=x;exact .inr (by have:¬k<255:=fun q=>h ⟨e,q⟩;omega);exact .inl e);rw[gB x y k _ h1 h2 ho,LR,gJ,Mb];have:=ih y 1 (by omega) (by omega);split <;>omega
theorem gE(l:List UInt8):(aT l).length≤l.length+l.length / 4:=by
 cases l with
 | nil=>exact L5 _
 | cons x l=>have:=E7 l x 1 (by omega) (by omega);rw[gD,Mb];omega
theorem pP(l:List UInt8):∀(x:UInt8) (k:Nat),1≤k→k≤255→(lV x k l).head? =some x:=by
 have hp:∀(x:UInt8) (k:Nat) (r:List UInt8),1≤k→(pc x k++r).head? =some x:=by intro x k r h1;obtain⟨j,rfl⟩:∃j,k=j+1:=⟨k - 1,by omega⟩;unfold pc;split <;>rfl
 induction l with
 | nil=>intro x k h1 h2;have:=hp x k [] h1;rw[Mv]at this;rw[jr x k h1 h2,this]
 | cons y l ih=>
  intro x k h1 h2;by_cases h:y=x∧k<255;·obtain⟨rfl,h3⟩:=h;rw[i9];exact ih y (k+1) (by omega) (by omega)
  ·have ho:y≠x∨k=255:=(by by_cases e:y=x;exact .inr (by have:¬k<255:=fun q=>h ⟨e,q⟩;omega);exact .inl e);rw[gB x y k _ h1 h2 ho];exact hp x k _ h1
theorem qh(x:UInt8)(k:Nat)(r:List UInt8)(h1:1≤k)(h4:k≤4)(h:k=4∨r.head? ≠some x):lS (List.replicate k x++r)=k:=by obtain⟨j,rfl⟩:∃j,k=j+1:=⟨k - 1,by omega⟩;show 1+bZ x 3 (List.replicate j x++r)=j+1;rw[ud x r j 3 (by omega) (by rcases h with h | h;exact .inl (by omega);exact .inr h)];omega
theorem vw(x:UInt8)(r:List UInt8)(hr:r.head? ≠some x):∀(k:Nat) (o:List UInt8),k<4→o.length+k≤262144→e9 o (List.replicate k x++r)=e9 (o++List.replicate k x) r
 | 0,o,_,_=>by simp
 | k+1,o,h,hl=>by have hs:=qh x (k+1) r (by omega) (by omega) (.inr hr);show e9 o (x :: (List.replicate k x++r))=_;rw[mQ,LX (by show lS (List.replicate (k+1) x++r)<4;omega),LW (by omega),vw x r hr k (o++ [x]) (by omega) (by rw[LR,Mq];omega),LZ];rfl
theorem Ia(x:UInt8)(r:List UInt8)(k:Nat)(o:List UInt8)(h4:4≤k)(h:k≤255)(hl:o.length+k≤262144):e9 o (pc x k++r)=e9 (o++List.replicate k x) r:=by have hc:(UInt8.ofNat (k - 4)).toNat=k - 4:=(by rw[M4];exact Ms (by omega));have hp:pc x k++r=x :: x :: x :: x :: UInt8.ofNat (k - 4) :: r:=(by unfold pc;rw[LW (by omega)];rfl);have hs:lS (x :: x :: x :: x :: UInt8.ofNat (k - 4) :: r)=4:=qh x 4 (UInt8.ofNat (k - 4) :: r) (by omega) (by omega) (.inl rfl);have hg:((x :: x :: x :: UInt8.ofNat (k - 4) :: r).getD 3 0).toNat=k - 4:=hc;have ht:(x :: x :: x :: x :: UInt8.ofNat (k - 4) :: r).take 4=List.replicate 4 x:=rfl;have hd:(x :: x :: x :: UInt8.ofNat (k - 4) :: r).drop 4=r:=rfl;have hn:(x :: x :: x :: UInt8.ofNat (k - 4) :: r).length=r.length+4:=rfl;rw[hp,mQ,hs,LW (by omega),LW (by omega),hn,LW (by omega),hg,LW (by omega),ht,hd,LZ,OW,show 4+(k - 4)=k by omega]
theorem vv(x:UInt8)(r:List UInt8)(k:Nat)(o:List UInt8)(h:k≤255)(hl:o.length+k≤262144)(hr:4≤k∨r.head? ≠some x):e9 o (pc x k++r)=e9 (o++List.replicate k x) r:=by
 by_cases h4:4≤k;·exact Ia x r k o h4 h hl
 ·have h0:r.head? ≠some x:=by rcases hr with hr | hr;exact absurd hr h4;exact hr
  rw[show pc x k=List.replicate k x by unfold pc;rw[LX (by omega)]];exact vw x r h0 k o (by omega) hl
theorem H9(l:List UInt8):∀(x:UInt8) (k:Nat) (o:List UInt8),1≤k→k≤255→o.length+k+l.length≤262144→e9 o (lV x k l)=(o++List.replicate k x++l,0):=by
 induction l with
 | nil=>intro x k o h1 h2 h3;have:=vv x [] k o h2 (by simpa using h3) (.inr (by simp));rw[Mv]at this;rw[jr x k h1 h2,this,ze,Mv]
 | cons y l ih=>
  intro x k o h1 h2 h3;rw[Mb]at h3;by_cases h:y=x∧k<255;·obtain⟨rfl,h4⟩:=h;rw[i9,ih y (k+1) o (by omega) (by omega) (by omega),ON];simp
  ·have ho:y≠x∨k=255:=by by_cases e:y=x;exact .inr (by have:¬k<255:=fun q=>h ⟨e,q⟩;omega);exact .inl e
   rw[gB x y k _ h1 h2 ho,vv x _ k o h2 (by omega) (by
    rcases ho with ho | ho
    ·exact .inr (by rw[pP l y 1 (by omega) (by omega)];exact fun e=>ho (My e))
    ·exact .inl (by omega)),ih y 1 _ (by omega) (by omega) (by rw[LR,Mo];omega)]
   simp
theorem oC(l:List UInt8)(h:l.length≤262144):e9 [] (aT l)=(l,0):=by
 cases l with
 | nil=>rfl
 | cons x l=>rw[Mb]at h;rw[gD,H9 l x 1 [] (by omega) (by omega) (by simp;omega)];rfl
def lJ(l:List UInt8)(most:Int)(n:Nat):Prop:=n≤l.length∧(∀ m,1≤m→m≤n→((aT (l.take m)).length:Int)≤most)∧(n<l.length→most<(aT (l.take (n+1))).length)
theorem Fz{l:List UInt8}{most:Int}{n m:Nat}(h:lJ l most n)(k:lJ l most m):n=m:=by
 rcases Nf n m with e | e | e;·have h1:=h.2.2 (by have:=k.1;omega);have h2:=k.2.1 (n+1) (by omega) (by omega);omega
 ·exact e
 ·have h1:=k.2.2 (by have:=h.1;omega);have h2:=h.2.1 (m+1) (by omega) (by omega);omega
theorem vK{l:List UInt8}{most:Int}(h:((aT l).length:Int)≤most):lJ l most l.length:=by refine⟨L5 _,fun m _ hm=> ?_,fun h=>by omega⟩;have:=iP l m l.length hm;rw[Mh (L5 l.length)]at this;omega
end Go.Proofs.YtepokmggbfoakaaGreatDoor.S03
