import Derived.Test.YthakcjehhlpjnaaGreatA00
import Derived.Lib.AppendStr
set_option maxHeartbeats 1600000
set_option maxRecDepth 1000000
namespace Go.Proofs.YthakcjehhlpjnaaGreat.S03
def dc(x:UInt8):Nat→List UInt8→Nat
 | 0,_=>0
 | _+1, []=>0
 | m+1,y :: l=>if y=x then dc x m l+1 else 0
theorem AJ(x:UInt8):∀(m:Nat) (l:List UInt8),dc x m l≤m∧dc x m l≤l.length
 | 0,l=>⟨Nat.le_refl _,Nat.zero_le _⟩
 | m+1, []=>⟨Nat.zero_le _,Nat.le_refl _⟩
 | m+1,y :: l=>by
   have h:=AJ x m l
   unfold dc
   split <;>simp <;>omega
def bA:List UInt8→Nat
 | []=>0
 | x :: l=>dc x 254 l+1
theorem qF(l:List UInt8):bA l≤255∧bA l≤l.length:=by
 cases l with
 | nil=>exact⟨by simp[bA],by simp[bA]⟩
 | cons x l=>
   have h:=AJ x 254 l
   simp only[bA,List.length_cons]
   omega
theorem i4(x:UInt8)(l:List UInt8):0<bA (x :: l):=Nat.succ_pos _
def nV(l:List UInt8)(k:Nat):List UInt8:=if k<4 then l.take k else l.take 4++ [UInt8.ofNat (k - 4)]
def aK:Nat→List UInt8→List UInt8
 | 0,_=> []
 | _+1, []=> []
 | n+1,x :: l=>nV (x :: l) (bA (x :: l))++aK n ((x :: l).drop (bA (x :: l)))
theorem m6(n:Nat):aK n []= []:=by cases n <;>rfl
theorem DO(n:Nat):∀(m:Nat) (l:List UInt8),l.length≤n→l.length≤m→aK n l=aK m l:=by
 induction n with
 | zero=>
   intro m l h _
   have:l= []:=List.eq_nil_of_length_eq_zero (by omega)
   subst this
   rw[m6,m6]
 | succ n ih=>
   intro m l h h2
   cases l with
   | nil=>rw[m6,m6]
   | cons x l=>
     cases m with
     | zero=>simp at h2
     | succ m=>
       have hp:=i4 x l
       simp only[List.length_cons]at h h2
       unfold aK
       rw[ih m _ (by rw[List.length_drop,List.length_cons];omega) (by rw[List.length_drop,List.length_cons];omega)]
def aR(l:List UInt8):List UInt8:=aK l.length l
theorem xG:aR []= []:=rfl
theorem Cq(x:UInt8)(l:List UInt8):aR (x :: l)=nV (x :: l) (bA (x :: l))++aR ((x :: l).drop (bA (x :: l))):=by
 have hp:=i4 x l
 unfold aR
 rw[List.length_cons,aK,DO l.length _ _ (by rw[List.length_drop,List.length_cons];omega) (ah _)]
theorem nH(l:List UInt8)(h:l≠ []):aR l=nV l (bA l)++aR (l.drop (bA l)):=by
 cases l with
 | nil=>exact absurd rfl h
 | cons x l=>exact Cq x l
theorem kW(l:List UInt8)(k:Nat)(x:UInt8)(h:bA l=k+dc x (255 - k) (l.drop k))(he:l.length≤k∨255≤k∨∃y,l[k]? =some y∧y≠x):bA l=k:=by
 rw[h]
 have h0:dc x (255 - k) (l.drop k)=0:=by
  rcases he with h1 | h1 | ⟨y,hy,hn⟩
  ·rw[List.drop_of_length_le h1]
   cases 255 - k <;>rfl
  ·rw[show 255 - k=0 by omega]
   rfl
  ·have h2:k<l.length:=by
    rcases Nat.lt_or_ge k l.length with h1 | h1
    ·exact h1
    ·rw[List.getElem?_eq_none h1]at hy;cases hy
   rw[List.drop_eq_getElem_cons h2]
   rw[List.getElem?_eq_getElem h2]at hy
   cases 255 - k with
   | zero=>rfl
   | succ m=>rw[dc,if_neg (by rw[Option.some.inj hy];exact hn)]
 omega
open Go.RowKit
theorem jA(t:ByteArray)(j:Nat)(h:j<t.size):t.data.toList[j]? =some t[j]:=by
 have h0:j<t.data.toList.length:=by simpa using h
 rw[List.getElem?_eq_getElem h0]
 rfl
theorem nt(t:ByteArray)(k:Nat):(t.extract 0 k).data.toList=t.data.toList.take k:=by
 rw[ByteArray.data_extract,Array.toList_extract,List.extract_eq_take_drop,List.drop_zero,Nat.sub_zero]
theorem lx(t:ByteArray)(k:Nat):(t.extract k t.size).data.toList=t.data.toList.drop k:=by
 rw[ByteArray.data_extract,Array.toList_extract,List.extract_eq_take_drop]
 refine List.take_of_length_le ?_
 rw[List.length_drop]
 exact Nat.le_refl _
theorem bK(t:ByteArray)(k:Nat):(t.extract k t.size).size=t.size - k:=by rw[ByteArray.size_extract];omega
def Ff:Value→Nat
 | .string t=>t.size
 | _=>0
def kG:List UInt8→Nat
 | []=>0
 | x :: l=>1+dc x 3 l
theorem Fd(l:List UInt8)(k m N:Nat)(x y:UInt8)(hy:l[k]? =some y)(he:y=x)(hm:k<m)(h:N=k+dc x (m - k) (l.drop k)):N=(k+1)+dc x (m - (k+1)) (l.drop (k+1)):=by
 have h0:k<l.length:=by
  rcases Nat.lt_or_ge k l.length with h1 | h1
  ·exact h1
  ·rw[List.getElem?_eq_none h1]at hy;cases hy
 have hd:l.drop k=y :: l.drop (k+1):=by
  rw[List.drop_eq_getElem_cons h0]
  rw[List.getElem?_eq_getElem h0]at hy
  rw[Option.some.inj hy]
 rw[h,hd,show m - k=(m - (k+1))+1 by omega,dc,if_pos he]
 omega
theorem Ao(l:List UInt8)(k m N:Nat)(x:UInt8)(h:N=k+dc x (m - k) (l.drop k))(he:l.length≤k∨m≤k∨∃y,l[k]? =some y∧y≠x):N=k:=by
 have h0:dc x (m - k) (l.drop k)=0:=by
  rcases he with h1 | h1 | ⟨y,hy,hn⟩
  ·rw[List.drop_of_length_le h1]
   cases m - k <;>rfl
  ·rw[show m - k=0 by omega]
   rfl
  ·have h2:k<l.length:=by
    rcases Nat.lt_or_ge k l.length with h1 | h1
    ·exact h1
    ·rw[List.getElem?_eq_none h1]at hy;cases hy
   rw[List.drop_eq_getElem_cons h2]
   rw[List.getElem?_eq_getElem h2]at hy
   cases m - k with
   | zero=>rfl
   | succ m=>rw[dc,if_neg (by rw[Option.some.inj hy];exact hn)]
 omega
theorem jP(t:ByteArray)(h:0<t.size):t.data.toList=t[0] :: t.data.toList.drop 1:=by
 have h0:0<t.data.toList.length:=h
 have:=List.drop_eq_getElem_cons h0
 rw[List.drop_zero]at this
 exact this
def rt:Nat→List UInt8→List UInt8→List UInt8×Nat
 | 0,o,_=>(o,0)
 | _+1,o, []=>(o,0)
 | n+1,o,x :: l=>
   if kG (x :: l)<4 then(if 262144≤o.length then([],3)else rt n (o++ [x]) l)
   else if 262144<o.length+4 then([],3)
   else if l.length=3 then([],30)
   else if 262144<o.length+4+(l.getD 3 0).toNat then([],3)
   else rt n (o++(x :: l).take 4++List.replicate (l.getD 3 0).toNat x) (l.drop 4)
theorem m9(n:Nat)(o:List UInt8):rt n o []=(o,0):=by cases n <;>rfl
theorem Cf(n:Nat):∀(m:Nat) (o l:List UInt8),l.length≤n→l.length≤m→rt n o l=rt m o l:=by
 induction n with
 | zero=>
   intro m o l h _
   have:l= []:=List.eq_nil_of_length_eq_zero (by omega)
   subst this
   rw[m9,m9]
 | succ n ih=>
   intro m o l h h2
   cases l with
   | nil=>rw[m9,m9]
   | cons x l=>
     cases m with
     | zero=>simp at h2
     | succ m=>
       simp only[List.length_cons]at h h2
       unfold rt
       rw[ih m (o++ [x]) l (by omega) (by omega),ih m (o++(x :: l).take 4++List.replicate (l.getD 3 0).toNat x) (l.drop 4) (by rw[List.length_drop];omega) (by rw[List.length_drop];omega)]
def eJ(o l:List UInt8):List UInt8×Nat:=rt l.length o l
theorem vz(o:List UInt8):eJ o []=(o,0):=rfl
theorem lA(o:List UInt8)(x:UInt8)(l:List UInt8):eJ o (x :: l)=
 if kG (x :: l)<4 then(if 262144≤o.length then([],3)else eJ (o++ [x]) l)
 else if 262144<o.length+4 then([],3)
 else if l.length=3 then([],30)
 else if 262144<o.length+4+(l.getD 3 0).toNat then([],3)
 else eJ (o++(x :: l).take 4++List.replicate (l.getD 3 0).toNat x) (l.drop 4):=by
 have h:eJ o (x :: l)=rt (l.length+1) o (x :: l):=rfl
 rw[h,rt]
 unfold eJ
 rw[Cf l.length (l.drop 4).length _ (l.drop 4) (by rw[List.length_drop];omega) (ah _)]
theorem kO{w:World}{B:Nat}{v:Value}{l:List UInt8}(h:w.ownsRow B 5 1 v l.length (l.map bv)):(convert 43 9 v).run Tryz.prog w=.ok (.string ⟨l.toArray⟩) w:=by
 rcases h.2 with⟨rfl,h0⟩ | ⟨g,cap,cur,rfl,_⟩
 ·have:l= []:=List.eq_nil_of_length_eq_zero h0
  subst this
  exact run_convert_bytes_nil w 43 5 Tryz.underlying43 Tryz.underlying5 0 0 9 Tryz.underlying9
 ·have hn:∀j (hj:j<l.length),w.cell? ((⟨g,0,none⟩:Addr).add j)=some (.int .u8 (l[j].toNat:Int)):=by
   intro j hj
   have h1:=h.cells (g:=g) rfl j (.int .u8 (l[j].toNat:Int))
   exact h1 (by rw[List.getElem?_map,List.getElem?_eq_getElem hj];rfl)
  exact run_convert_bytes_back w 43 9 5 ⟨g,0,none⟩ cap l Tryz.underlying43 Tryz.underlying5 Tryz.underlying9 hn
def pc(x:UInt8)(k:Nat):List UInt8:=if k<4 then List.replicate k x else List.replicate 4 x++ [UInt8.ofNat (k - 4)]
theorem fQ(x:UInt8)(k:Nat):(pc x k).length=if k<4 then k else 5:=by
 unfold pc
 split <;>simp
theorem qX(x:UInt8)(l:List UInt8):∀(k m:Nat),k≤m→(k=m∨l.head? ≠some x)→dc x m (List.replicate k x++l)=k
 | 0,0,_,_=>rfl
 | 0,m+1,_,h=>by
   cases l with
   | nil=>rfl
   | cons y l=>
     have hy:¬y=x:=fun e=>by
      rcases h with h | h
      ·omega
      ·exact h (by rw[e];rfl)
     show dc x (m+1) (y :: l)=0
     rw[dc,if_neg hy]
 | k+1,0,h,_=>by omega
 | k+1,m+1,h,h2=>by
   show dc x (m+1) (x :: (List.replicate k x++l))=k+1
   rw[dc,if_pos rfl,qX x l k m (by omega) (by rcases h2 with h2 | h2;exact .inl (by omega);exact .inr h2)]
theorem x6(x:UInt8)(l:List UInt8)(k j:Nat)(h:j≤k):(List.replicate k x++l).take j=List.replicate j x:=by
 rw[List.take_append_of_le_length (by rw[List.length_replicate];exact h),List.take_replicate,Nat.min_eq_left h]
theorem AI(x:UInt8)(l:List UInt8)(k:Nat)(h1:1≤k)(h2:k≤255)(h3:k=255∨l.head? ≠some x):aR (List.replicate k x++l)=pc x k++aR l:=by
 obtain⟨j,rfl⟩:∃j,k=j+1:=⟨k - 1,by omega⟩
 have hr:bA (List.replicate (j+1) x++l)=j+1:=by
  show dc x 254 (List.replicate j x++l)+1=j+1
  rw[qX x l j 254 (by omega) (by rcases h3 with h3 | h3;exact .inl (by omega);exact .inr h3)]
 have h0:List.replicate (j+1) x++l≠ []:=by simp
 rw[nH _ h0,hr,List.drop_left' (List.length_replicate ..)]
 congr 1
 unfold nV pc
 split
 ·rw[x6 _ _ _ _ (ah _)]
 ·rw[x6 _ _ _ _ (by omega)]
def kI(x:UInt8)(k:Nat)(l:List UInt8):List UInt8:=aR (List.replicate k x++l)
theorem iI(x:UInt8)(k:Nat)(h1:1≤k)(h2:k≤255):kI x k []=pc x k:=by
 unfold kI
 rw[AI x [] k h1 h2 (.inr (by simp)),xG,List.append_nil]
theorem il(x:UInt8)(k:Nat)(l:List UInt8):kI x k (x :: l)=kI x (k+1) l:=by
 unfold kI
 rw[List.replicate_succ',List.append_assoc]
 rfl
theorem fL(x y:UInt8)(k:Nat)(l:List UInt8)(h1:1≤k)(h2:k≤255)(h:y≠x∨k=255):kI x k (y :: l)=pc x k++kI y 1 l:=by
 unfold kI
 rw[AI x (y :: l) k h1 h2 (by rcases h with h | h;exact .inr (fun e=>h (Option.some.inj e));exact .inl h)]
 rfl
theorem im(x:UInt8)(l:List UInt8):aR (x :: l)=kI x 1 l:=rfl
theorem Bi(b:UInt8)(l:List UInt8):∀(x:UInt8) (k:Nat),1≤k→k≤255→(kI x k l).length≤(kI x k (l++ [b])).length∧(kI x k (l++ [b])).length≤(kI x k l).length+2:=by
 induction l with
 | nil=>
   intro x k h1 h2
   rw[iI x k h1 h2]
   show _≤(kI x k [b]).length∧(kI x k [b]).length≤_
   by_cases h:b=x∧k<255
   ·obtain⟨rfl,h3⟩:=h
    rw[il,iI _ _ (by omega) (by omega),fQ,fQ]
    split <;>split <;>omega
   ·rw[fL x b k [] h1 h2 (by by_cases e:b=x;exact .inr (by have:¬k<255:=fun q=>h ⟨e,q⟩;omega);exact .inl e),iI b 1 (by omega) (by omega),List.length_append,fQ,fQ]
    split <;>simp
 | cons y l ih=>
   intro x k h1 h2
   by_cases h:y=x∧k<255
   ·obtain⟨rfl,h3⟩:=h
    rw[List.cons_append,il,il]
    exact ih y (k+1) (by omega) (by omega)
   ·have ho:y≠x∨k=255:=by by_cases e:y=x;exact .inr (by have:¬k<255:=fun q=>h ⟨e,q⟩;omega);exact .inl e
    rw[List.cons_append,fL x y k _ h1 h2 ho,fL x y k _ h1 h2 ho,List.length_append,List.length_append]
    have:=ih y 1 (by omega) (by omega)
    omega
theorem II(l:List UInt8)(b:UInt8):(aR l).length≤(aR (l++ [b])).length∧(aR (l++ [b])).length≤(aR l).length+2:=by
 cases l with
 | nil=>
   show 0≤(aR [b]).length∧(aR [b]).length≤0+2
   rw[im,iI _ _ (by omega) (by omega),fQ]
   simp
 | cons x l=>
   rw[List.cons_append,im,im]
   exact Bi b l x 1 (by omega) (by omega)
theorem Cg(l:List UInt8):∀(x:UInt8) (k:Nat),1≤k→k≤255→4*(kI x k l).length≤5*(k+l.length):=by
 induction l with
 | nil=>
   intro x k h1 h2
   rw[iI x k h1 h2,fQ]
   split <;>simp <;>omega
 | cons y l ih=>
   intro x k h1 h2
   by_cases h:y=x∧k<255
   ·obtain⟨rfl,h3⟩:=h
    rw[il]
    have:=ih y (k+1) (by omega) (by omega)
    rw[List.length_cons]
    omega
   ·have ho:y≠x∨k=255:=by by_cases e:y=x;exact .inr (by have:¬k<255:=fun q=>h ⟨e,q⟩;omega);exact .inl e
    rw[fL x y k _ h1 h2 ho,List.length_append,fQ,List.length_cons]
    have:=ih y 1 (by omega) (by omega)
    split <;>omega
theorem fO(l:List UInt8):(aR l).length≤l.length+l.length / 4:=by
 cases l with
 | nil=>exact Nat.le_refl _
 | cons x l=>
   have:=Cg l x 1 (by omega) (by omega)
   rw[im,List.length_cons]
   omega
theorem tQ(l:List UInt8):∀(x:UInt8) (k:Nat),1≤k→k≤255→(kI x k l).head? =some x:=by
 have hp:∀(x:UInt8) (k:Nat) (r:List UInt8),1≤k→(pc x k++r).head? =some x:=by
  intro x k r h1
  obtain⟨j,rfl⟩:∃j,k=j+1:=⟨k - 1,by omega⟩
  unfold pc
  split <;>rfl
 induction l with
 | nil=>
   intro x k h1 h2
   have:=hp x k [] h1
   rw[List.append_nil]at this
   rw[iI x k h1 h2,this]
 | cons y l ih=>
   intro x k h1 h2
   by_cases h:y=x∧k<255
   ·obtain⟨rfl,h3⟩:=h
    rw[il]
    exact ih y (k+1) (by omega) (by omega)
   ·have ho:y≠x∨k=255:=by by_cases e:y=x;exact .inr (by have:¬k<255:=fun q=>h ⟨e,q⟩;omega);exact .inl e
    rw[fL x y k _ h1 h2 ho]
    exact hp x k _ h1
theorem ot(x:UInt8)(k:Nat)(r:List UInt8)(h1:1≤k)(h4:k≤4)(h:k=4∨r.head? ≠some x):kG (List.replicate k x++r)=k:=by
 obtain⟨j,rfl⟩:∃j,k=j+1:=⟨k - 1,by omega⟩
 show 1+dc x 3 (List.replicate j x++r)=j+1
 rw[qX x r j 3 (by omega) (by rcases h with h | h;exact .inl (by omega);exact .inr h)]
 omega
theorem tp(x:UInt8)(r:List UInt8)(hr:r.head? ≠some x):∀(k:Nat) (o:List UInt8),k<4→o.length+k≤262144→eJ o (List.replicate k x++r)=eJ (o++List.replicate k x) r
 | 0,o,_,_=>by simp
 | k+1,o,h,hl=>by
   have hs:=ot x (k+1) r (by omega) (by omega) (.inr hr)
   show eJ o (x :: (List.replicate k x++r))=_
   rw[lA,if_pos (by show kG (List.replicate (k+1) x++r)<4;omega),if_neg (by omega),tp x r hr k (o++ [x]) (by omega) (by rw[List.length_append,List.length_singleton];omega),List.append_assoc]
   rfl
theorem Gb(x:UInt8)(r:List UInt8)(k:Nat)(o:List UInt8)(h4:4≤k)(h:k≤255)(hl:o.length+k≤262144):eJ o (pc x k++r)=eJ (o++List.replicate k x) r:=by
 have hc:(UInt8.ofNat (k - 4)).toNat=k - 4:=by
  rw[UInt8.toNat_ofNat']
  exact Nat.mod_eq_of_lt (by omega)
 have hp:pc x k++r=x :: x :: x :: x :: UInt8.ofNat (k - 4) :: r:=by
  unfold pc
  rw[if_neg (by omega)]
  rfl
 have hs:kG (x :: x :: x :: x :: UInt8.ofNat (k - 4) :: r)=4:=ot x 4 (UInt8.ofNat (k - 4) :: r) (by omega) (by omega) (.inl rfl)
 have hg:((x :: x :: x :: UInt8.ofNat (k - 4) :: r).getD 3 0).toNat=k - 4:=hc
 have ht:(x :: x :: x :: x :: UInt8.ofNat (k - 4) :: r).take 4=List.replicate 4 x:=rfl
 have hd:(x :: x :: x :: UInt8.ofNat (k - 4) :: r).drop 4=r:=rfl
 have hn:(x :: x :: x :: UInt8.ofNat (k - 4) :: r).length=r.length+4:=rfl
 rw[hp,lA,hs,if_neg (by omega),if_neg (by omega),hn,if_neg (by omega),hg,if_neg (by omega),ht,hd,List.append_assoc,List.replicate_append_replicate,show 4+(k - 4)=k by omega]
theorem tr(x:UInt8)(r:List UInt8)(k:Nat)(o:List UInt8)(h:k≤255)(hl:o.length+k≤262144)(hr:4≤k∨r.head? ≠some x):eJ o (pc x k++r)=eJ (o++List.replicate k x) r:=by
 by_cases h4:4≤k
 ·exact Gb x r k o h4 h hl
 ·have h0:r.head? ≠some x:=by rcases hr with hr | hr;exact absurd hr h4;exact hr
  rw[show pc x k=List.replicate k x by unfold pc;rw[if_pos (by omega)]]
  exact tp x r h0 k o (by omega) hl
theorem Fq(l:List UInt8):∀(x:UInt8) (k:Nat) (o:List UInt8),1≤k→k≤255→o.length+k+l.length≤262144→eJ o (kI x k l)=(o++List.replicate k x++l,0):=by
 induction l with
 | nil=>
   intro x k o h1 h2 h3
   have:=tr x [] k o h2 (by simpa using h3) (.inr (by simp))
   rw[List.append_nil]at this
   rw[iI x k h1 h2,this,vz,List.append_nil]
 | cons y l ih=>
   intro x k o h1 h2 h3
   rw[List.length_cons]at h3
   by_cases h:y=x∧k<255
   ·obtain⟨rfl,h4⟩:=h
    rw[il,ih y (k+1) o (by omega) (by omega) (by omega),List.replicate_succ']
    simp
   ·have ho:y≠x∨k=255:=by by_cases e:y=x;exact .inr (by have:¬k<255:=fun q=>h ⟨e,q⟩;omega);exact .inl e
    rw[fL x y k _ h1 h2 ho,tr x _ k o h2 (by omega) (by
     rcases ho with ho | ho
     ·exact .inr (by rw[tQ l y 1 (by omega) (by omega)];exact fun e=>ho (Option.some.inj e))
     ·exact .inl (by omega)),ih y 1 _ (by omega) (by omega) (by rw[List.length_append,List.length_replicate];omega)]
    simp
theorem nE(l:List UInt8)(h:l.length≤262144):eJ [] (aR l)=(l,0):=by
 cases l with
 | nil=>rfl
 | cons x l=>
   rw[List.length_cons]at h
   rw[im,Fq l x 1 [] (by omega) (by omega) (by simp;omega)]
   rfl
end Go.Proofs.YthakcjehhlpjnaaGreat.S03
