import Derived.Test.YthakcjehhlpjnaaGreatB02
import Derived.Test.YthakcjehhlpjnaaGreatB10
import Derived.Lib.OwnKind
set_option maxHeartbeats 3200000
set_option maxRecDepth 100000
namespace Go.Proofs.YthakcjehhlpjnaaGreat
def pw(x:Nat):Nat:=2 ^ (20 - x)
theorem fA(x:Nat):0<pw x:=Nat.two_pow_pos _
theorem iI{n x:Nat}(h:n≤x)(hx:x≤20):pw n=pw x*2 ^ (x - n):=by
 unfold pw
 rw[← Nat.pow_add]
 congr 1
 omega
theorem JM{n x:Nat}(h:n≤x)(hx:x≤20):pw x∣pw n:=⟨_,iI h hx⟩
theorem yN{x:Nat}(hx:x≤20):2 ^ x*pw x=1048576:=by
 unfold pw
 rw[← Nat.pow_add,show x+(20 - x)=20 by omega]
def jD(l:List Nat):Nat:=(l.map pw).sum
def pos(n:Nat):Nat→List Nat→Nat
 | _, []=>0
 | i,x :: l=>(if x<n∨(x=n∧0<i)then pw x else 0)+pos n (i - 1) l
theorem xd:∀(l:List Nat),(∀ x∈l,1≤x)→pos 1 0 l=0
 | [],_=>rfl
 | x :: l,h=>by
   have hx:=h x (List.mem_cons_self ..)
   rw[pos,if_neg (by omega),xd l fun y hy=>h y (List.mem_cons_of_mem _ hy)]
theorem jI(n:Nat):∀(l:List Nat) (i:Nat),i<l.length→pos n (i+1) l=pos n i l+if l.getD i 0=n then pw n else 0
 | [],i,h=>by simp at h
 | x :: l,0,_=>by
   have e1:pos n (0+1) (x :: l)=(if x<n∨(x=n∧0<0+1)then pw x else 0)+pos n 0 l:=rfl
   have e2:pos n 0 (x :: l)=(if x<n∨(x=n∧0<0)then pw x else 0)+pos n 0 l:=rfl
   rw[e1,e2,show(x :: l).getD 0 0=x from rfl]
   by_cases hx:x=n
   ·subst hx
    rw[if_pos (show x<x∨(x=x∧0<0+1) by omega),if_neg (show ¬(x<x∨(x=x∧0<0)) by omega),if_pos rfl]
    omega
   ·rw[if_neg hx]
    by_cases hl:x<n
    ·rw[if_pos (show x<n∨(x=n∧0<0+1) by omega),if_pos (show x<n∨(x=n∧0<0) by omega)]
     omega
    ·rw[if_neg (show ¬(x<n∨(x=n∧0<0+1)) by omega),if_neg (show ¬(x<n∨(x=n∧0<0)) by omega)]
     omega
 | x :: l,i+1,h=>by
   have e1:pos n (i+1+1) (x :: l)=(if x<n∨(x=n∧0<i+1+1)then pw x else 0)+pos n (i+1) l:=rfl
   have e2:pos n (i+1) (x :: l)=(if x<n∨(x=n∧0<i+1)then pw x else 0)+pos n i l:=rfl
   rw[e1,e2,show(x :: l).getD (i+1) 0=l.getD i 0 from rfl,jI n l i (by simpa using h)]
   by_cases hx:x<n∨x=n
   ·rw[if_pos (show x<n∨(x=n∧0<i+1+1) by omega),if_pos (show x<n∨(x=n∧0<i+1) by omega)]
    omega
   ·rw[if_neg (show ¬(x<n∨(x=n∧0<i+1+1)) by omega),if_neg (show ¬(x<n∨(x=n∧0<i+1)) by omega)]
    omega
theorem lB(n:Nat):∀(l:List Nat) (i:Nat),l.length≤i→pos n i l=pos (n+1) 0 l
 | [],_,_=>rfl
 | x :: l,i,h=>by
   have h':l.length+1≤i:=by simpa using h
   rw[pos,pos,lB n l (i - 1) (by omega),show(0 - 1:Nat)=0 from rfl]
   by_cases hx:x<n∨x=n
   ·rw[if_pos (show x<n∨(x=n∧0<i) by omega),if_pos (show x<n+1∨(x=n+1∧0<0) by omega)]
   ·rw[if_neg (show ¬(x<n∨(x=n∧0<i)) by omega),if_neg (show ¬(x<n+1∨(x=n+1∧0<0)) by omega)]
theorem nu(n:Nat)(hn:n≤20):∀(l:List Nat) (i:Nat),pw n∣pos n i l
 | [],_=>⟨0,rfl⟩
 | x :: l,i=>by
   rw[pos]
   refine Nat.dvd_add ?_ (nu n hn l _)
   split
   ·exact JM (by omega) hn
   ·exact⟨0,rfl⟩
theorem l9(n:Nat)(l:List Nat){i j:Nat}(h:i≤j):pos n i l≤pos n j l:=by
 induction h with
 | refl=>exact Nat.le_refl _
 | step h ih=>
   rename_i m
   refine Nat.le_trans ih ?_
   by_cases hm:m<l.length
   ·rw[jI n l m hm]
    omega
   ·rw[lB n l m (by omega),lB n l (m+1) (by omega)]
    exact Nat.le_refl _
theorem oH(l:List Nat){n m:Nat}(h:n<m)(i:Nat):pos n i l≤pos m 0 l:=by
 induction h with
 | refl=>
   rw[← lB n l (max i l.length) (by omega)]
   exact l9 n l (by omega)
 | step h ih=>
   rename_i k
   refine Nat.le_trans ih ?_
   rw[← lB k l l.length (by omega)]
   exact l9 k l (by omega)
theorem qz(n:Nat):∀(l:List Nat),(∀ x∈l,x<n)→pos n 0 l=jD l
 | [],_=>rfl
 | x :: l,h=>by
   rw[pos,if_pos (Or.inl (h x (List.mem_cons_self ..))),show(0 - 1:Nat)=0 from rfl,qz n l fun y hy=>h y (List.mem_cons_of_mem _ hy)]
   simp[jD]
theorem Hx(l:List Nat)(hl:∀x∈l,x≤20){n:Nat}(hn:n≤20)(i:Nat):pos n i l≤jD l:=by
 rw[← qz 21 l fun x hx=>by have:=hl x hx;omega]
 exact oH l (by omega) i
def lie(l:List Nat)(i:Nat):Nat:=pos (l.getD i 0) i l
def cP(l:List Nat)(i:Nat):Nat:=lie l i / pw (l.getD i 0)
structure eu (l:List Nat):Prop where
 low:∀x∈l,1≤x
 high:∀x∈l,x≤20
 sum:jD l≤1048576
theorem BU{l:List Nat}{i:Nat}(h:i<l.length):l.getD i 0∈l:=by
 rw[List.getD_eq_getElem?_getD,List.getElem?_eq_getElem h]
 exact List.getElem_mem h
theorem eu.one{l:List Nat}(h:eu l){i:Nat}(hi:i<l.length):1≤l.getD i 0∧l.getD i 0≤20:=⟨h.low _ (BU hi),h.high _ (BU hi)⟩
theorem lD{l:List Nat}(h:eu l){i:Nat}(hi:i<l.length):cP l i*pw (l.getD i 0)=lie l i:=
 Nat.div_mul_cancel (nu _ (h.one hi).2 l i)
theorem wQ{l:List Nat}{i:Nat}(hi:i<l.length):pos (l.getD i 0) (i+1) l=lie l i+pw (l.getD i 0):=by
 rw[jI _ l i hi,if_pos rfl]
 rfl
theorem Cf{l:List Nat}{i j:Nat}(hi:i<l.length)(h:l.getD i 0<l.getD j 0∨(l.getD i 0=l.getD j 0∧i<j)):lie l i+pw (l.getD i 0)≤lie l j:=by
 rw[← wQ hi]
 rcases h with h | ⟨h,h0⟩
 ·exact Nat.le_trans (oH l h (i+1)) (l9 _ l (by omega))
 ·unfold lie
  rw[← h]
  exact l9 _ l (by omega)
theorem vr{l:List Nat}(h:eu l){i:Nat}(hi:i<l.length):lie l i+pw (l.getD i 0)≤jD l:=by
 rw[← wQ hi]
 exact Hx l h.high (h.one hi).2 _
theorem nM{l:List Nat}(h:eu l){i:Nat}(hi:i<l.length):cP l i<2 ^ l.getD i 0:=by
 have h1:=vr h hi
 have h2:=h.sum
 have h3:=lD h hi
 have h4:=yN (h.one hi).2
 have h5:=fA (l.getD i 0)
 refine Nat.lt_of_mul_lt_mul_right (a:=pw (l.getD i 0)) ?_
 omega
theorem xj{l:List Nat}(h:eu l){i n:Nat}(hi:i<l.length)(hn:n≤l.getD i 0):cP l i / 2 ^ (l.getD i 0 - n)=lie l i / pw n:=by
 rw[cP,Nat.div_div_eq_div_mul,←iI hn (h.one hi).2]
theorem rN:∀(l:List Nat),pos 0 0 l=0
 | []=>rfl
 | x :: l=>by
   rw[pos,if_neg (show ¬(x<0∨(x=0∧0<0)) by omega),show(0 - 1:Nat)=0 from rfl,rN l]
def uN(l:List Nat)(p i:Nat):Prop:=i<l.length∧lie l i≤p∧p<lie l i+pw (l.getD i 0)
theorem x6(l:List Nat)(m p:Nat)(h0:p<pos m 0 l→∃i,uN l p i):∀k,k≤l.length→p<pos m k l→∃i,uN l p i
 | 0,_,h=>h0 h
 | k+1,hk,h=>by
   by_cases hp:p<pos m k l
   ·exact x6 l m p h0 k (by omega) hp
   ·rw[jI m l k (by omega)]at h
    by_cases he:l.getD k 0=m
    ·rw[if_pos he]at h
     refine⟨k,by omega,?_,?_⟩
     ·rw[lie,he]
      omega
     ·rw[lie,he]
      exact h
    ·rw[if_neg he]at h
     omega
theorem sz(l:List Nat)(p:Nat):∀m,p<pos m 0 l→∃i,uN l p i
 | 0,h=>by
   rw[rN]at h
   omega
 | m+1,h=>x6 l m p (sz l p m) l.length (ah _) (by rw[lB m l _ (ah _)];exact h)
theorem Ct{l:List Nat}(h:eu l){p:Nat}(hp:p<jD l):∃i,uN l p i:=by
 refine sz l p 21 ?_
 rw[qz 21 l fun x hx=>by have:=h.high x hx;omega]
 exact hp
theorem Fp{l:List Nat}{p i j:Nat}(hi:uN l p i)(hj:uN l p j):i=j:=by
 obtain⟨a1,a2,a3⟩:=hi
 obtain⟨b1,b2,b3⟩:=hj
 have key:∀{i j:Nat},i<l.length→j<l.length→(l.getD i 0<l.getD j 0∨(l.getD i 0=l.getD j 0∧i<j))→lie l j≤p→p<lie l i+pw (l.getD i 0)→False:=by
  intro i j hi _ ho h1 h2
  have:=Cf hi ho
  omega
 by_cases he:i=j
 ·exact he
 ·exfalso
  by_cases h1:l.getD i 0<l.getD j 0∨(l.getD i 0=l.getD j 0∧i<j)
  ·exact key a1 b1 h1 b2 a3
  ·exact key b1 a1 (by omega) a2 b3
def Is(l:List Nat)(n v i:Nat):Prop:=i<l.length∧l.getD i 0=n∧cP l i=v
def jZ(l:List Nat)(n v i:Nat):Prop:=i<l.length∧n≤l.getD i 0∧cP l i / 2 ^ (l.getD i 0 - n)=v
theorem Is.begin{l:List Nat}{n v i:Nat}(h:Is l n v i):jZ l n v i:=by
 obtain⟨h1,h2,h3⟩:=h
 refine⟨h1,by omega,?_⟩
 rw[h2,Nat.sub_self,Nat.pow_zero,Nat.div_one,h3]
theorem jZ.is{l:List Nat}{n v i:Nat}(h:jZ l n v i)(hn:l.getD i 0=n):Is l n v i:=by
 obtain⟨h1,h2,h3⟩:=h
 refine⟨h1,hn,?_⟩
 rw[hn,Nat.sub_self,Nat.pow_zero,Nat.div_one]at h3
 exact h3
theorem iD{l:List Nat}(h:eu l){n v i:Nat}(hb:jZ l n v i):v*pw n≤lie l i∧lie l i+pw (l.getD i 0)≤(v+1)*pw n:=by
 obtain⟨h1,h2,h3⟩:=hb
 have h0:=(h.one h1).2
 rw[xj h h1 h2]at h3
 have hd:=Nat.div_add_mod (lie l i) (pw n)
 have hm:=Nat.mod_lt (lie l i) (fA n)
 rw[h3]at hd
 obtain⟨q,hq⟩:=nu (l.getD i 0) h0 l i
 have h4:lie l i=pw (l.getD i 0)*q:=hq
 have hs:=iI h2 h0
 refine⟨by rw[Nat.mul_comm];omega,?_⟩
 have h5:pw (l.getD i 0)*q<pw (l.getD i 0)*((v+1)*2 ^ (l.getD i 0 - n)):=by
  rw[← Nat.mul_assoc,Nat.mul_comm (pw _) (v+1),Nat.mul_assoc,←hs,←h4,Nat.add_mul,Nat.one_mul,Nat.mul_comm v]
  omega
 have h6:=Nat.lt_of_mul_lt_mul_left h5
 rw[h4,show pw (l.getD i 0)*q+pw (l.getD i 0)=pw (l.getD i 0)*(q+1) by rw[Nat.mul_add,Nat.mul_one],hs,Nat.mul_comm (v+1),Nat.mul_assoc,
  Nat.mul_comm (2 ^ _) (v+1)]
 exact Nat.mul_le_mul_left _ h6
theorem vl{l:List Nat}(h:eu l){n v i:Nat}(hi:i<l.length)(hn:n≤l.getD i 0)(h1:v*pw n≤lie l i)(h2:lie l i<(v+1)*pw n):jZ l n v i:=by
 refine⟨hi,hn,?_⟩
 rw[xj h hi hn]
 refine Nat.div_eq_of_lt_le h1 h2
theorem xo{l:List Nat}(h:eu l){n v i m j:Nat}(hi:Is l n v i)(hm:n≤m){u:Nat}(hu:u / 2 ^ (m - n)=v)(h0:m≤20)(hj:jZ l m u j):i=j:=by
 have a:=iD h hi.begin
 have b:=iD h hj
 have hp:=fA (l.getD j 0)
 have hq:=fA (l.getD i 0)
 have hs:=iI hm h0
 have hd:=Nat.div_add_mod u (2 ^ (m - n))
 have h1:=Nat.mod_lt u (Nat.two_pow_pos (m - n))
 rw[hu]at hd
 have e1:v*pw n≤u*pw m:=by
  rw[hs,Nat.mul_comm (pw m),←Nat.mul_assoc]
  refine Nat.mul_le_mul_right _ ?_
  rw[Nat.mul_comm]
  omega
 have e2:(u+1)*pw m≤(v+1)*pw n:=by
  rw[hs,Nat.mul_comm (pw m),←Nat.mul_assoc]
  refine Nat.mul_le_mul_right _ ?_
  rw[Nat.add_mul,Nat.one_mul,Nat.mul_comm v]
  omega
 refine Fp (l:=l) (p:=lie l j) ⟨hi.1,?_,?_⟩ ⟨hj.1,Nat.le_refl _,by omega⟩
 ·have:=lD h hi.1
  rw[hi.2.1,hi.2.2]at this
  omega
 ·have:=lD h hi.1
  rw[hi.2.1,hi.2.2]at this
  rw[hi.2.1,←this,←Nat.succ_mul]
  have e3:lie l j<(u+1)*pw m:=by omega
  exact Nat.lt_of_lt_of_le e3 e2
theorem y3{l:List Nat}(h:eu l){n v:Nat}(hn:n≤20)(h0:∀k,k<n→∀i,¬Is l k (v / 2 ^ (n - k)) i):(∃ i,jZ l n v i)↔v*pw n<jD l:=by
 constructor
 ·rintro⟨i,hi⟩
  have a:=iD h hi
  have b:=vr h hi.1
  have:=fA (l.getD i 0)
  omega
 ·intro hp
  obtain⟨i,hi,h1,h2⟩:=Ct h hp
  refine⟨i,?_⟩
  have h6:=(h.one hi).2
  by_cases hk:l.getD i 0<n
  ·exfalso
   refine h0 _ hk i ⟨hi,rfl,?_⟩
   have hs:=iI (Nat.le_of_lt hk) hn
   rw[← lD h hi]at h1 h2
   rw[hs]at h1 h2
   symm
   have hc:∀c:Nat,c*(pw n*2 ^ (n - l.getD i 0))=(c*2 ^ (n - l.getD i 0))*pw n:=fun c=>by
    rw[Nat.mul_comm (pw n),Nat.mul_assoc]
   refine Nat.div_eq_of_lt_le ?_ ?_
   ·rw[hc]at h1
    exact Nat.le_of_mul_le_mul_right h1 (fA n)
   ·have h3:v*pw n<(cP l i+1)*(pw n*2 ^ (n - l.getD i 0)):=by
     rw[Nat.add_mul,Nat.one_mul]
     exact h2
    rw[hc]at h3
    exact Nat.lt_of_mul_lt_mul_right h3
  ·have hk:n≤l.getD i 0:=by omega
   have hs:=iI hk h6
   have hl:=lD h hi
   have he:lie l i=v*pw n:=by
    have hv:v*pw n=(v*2 ^ (l.getD i 0 - n))*pw (l.getD i 0):=by
     rw[hs,Nat.mul_assoc,Nat.mul_comm (2 ^ _)]
    rw[hv]at h1 h2 ⊢
    rw[← hl]at h1 h2 ⊢
    have h3:=Nat.le_of_mul_le_mul_right h1 (fA _)
    have h4:v*2 ^ (l.getD i 0 - n)*pw (l.getD i 0)<(cP l i+1)*pw (l.getD i 0):=by
     rw[Nat.add_mul,Nat.one_mul]
     exact h2
    have h5:=Nat.lt_of_mul_lt_mul_right h4
    rw[show cP l i=v*2 ^ (l.getD i 0 - n) by omega]
   refine vl h hi hk (by omega) ?_
   rw[he,Nat.add_mul,Nat.one_mul]
   have:=fA n
   omega
theorem qt(bs:List Nat)(hb:an bs){k n:Nat}(hk:k≤n)(hn:n≤bs.length):val (bs.take n) / 2 ^ (n - k)=val (bs.take k):=by
 have h1:bs.take n=bs.take k++(bs.take n).drop k:=by
  have:=List.take_append_drop k (bs.take n)
  rw[List.take_take,Nat.min_eq_left hk]at this
  exact this.symm
 have h2:((bs.take n).drop k).length=n - k:=by
  rw[List.length_drop,List.length_take]
  omega
 have h3:=eD _ ((hb.take n).drop k)
 rw[h2]at h3
 rw[h1,rK,h2,Nat.mul_comm,Nat.mul_add_div (Nat.two_pow_pos _),Nat.div_eq_of_lt h3,Nat.add_zero]
def kZ(l:List Nat)(n v:Nat):Option Nat:=(List.range l.length).find? fun i=>l.getD i 0==n&&cP l i==v
theorem ot{l:List Nat}{n v:Nat}(h:kZ l n v=none):∀i,¬Is l n v i:=by
 rintro i ⟨h1,h2,h3⟩
 have:=List.find?_eq_none.1 h i (List.mem_range.2 h1)
 rw[h2,h3]at this
 simp at this
theorem jb{l:List Nat}{n v i:Nat}(h:kZ l n v=some i):Is l n v i:=by
 have h1:=List.find?_some h
 have h2:=List.mem_of_find?_eq_some h
 simp only[Bool.and_eq_true,beq_iff_eq]at h1
 exact⟨List.mem_range.1 h2,h1.1,h1.2⟩
theorem Jt{l:List Nat}(h:eu l){n v i j:Nat}(hi:Is l n v i)(hj:Is l n v j):i=j:=by
 refine xo h hi (Nat.le_refl n) (u:=v) (by rw[Nat.sub_self,Nat.pow_zero,Nat.div_one]) ?_ hj.begin
 have:=(h.one hi.1).2
 rw[hi.2.1]at this
 exact this
theorem oy{l:List Nat}(h:eu l){n v i:Nat}(hi:Is l n v i):kZ l n v=some i:=by
 cases he:kZ l n v with
 | none=>exact absurd hi (ot he i)
 | some j=>rw[Jt h hi (jb he)]
inductive Nx where
 | hit (i:Nat)
 | short
 | code
def fG(l bs:List Nat):Nat→Nat→Nx
 | 0,_=>.code
 | k+1,n=>if bs.length<n then .short else match kZ l n (val (bs.take n))with
   | some i=>.hit i
   | none=>if val (bs.take n)*pw n<jD l then fG l bs k (n+1)else .code
def fg(l bs:List Nat):Nx:=fG l bs 20 1
def sj(l bs:List Nat)(n:Nat):Prop:=∀k,1≤k→k<n→∀i,¬Is l k (val (bs.take k)) i
theorem sj.up{l bs:List Nat}{n:Nat}(h:sj l bs n)(h1:kZ l n (val (bs.take n))=none):sj l bs (n+1):=by
 intro k hk h0 i
 by_cases he:k=n
 ·subst he
  exact ot h1 i
 ·exact h k hk (by omega) i
theorem Dv{l:List Nat}(h:eu l)(v i:Nat):¬Is l 0 v i:=by
 rintro⟨h1,h2,_⟩
 have:=(h.one h1).1
 omega
theorem lj{l bs:List Nat}(h:eu l)(hb:an bs){n:Nat}(hn:n≤bs.length)(h1:n≤20)(hc:sj l bs n):
 (∃ i,jZ l n (val (bs.take n)) i)↔val (bs.take n)*pw n<jD l:=by
 refine y3 h h1 fun k hk i=> ?_
 rw[qt bs hb (Nat.le_of_lt hk) hn]
 by_cases h0:k=0
 ·subst h0
  exact Dv h _ i
 ·exact hc k (by omega) hk i
theorem uu{l bs:List Nat}(h:eu l)(hb:an bs){i:Nat}(hi:i<l.length)(hl:l.getD i 0≤bs.length)(hv:val (bs.take (l.getD i 0))=cP l i):
 ∀k n,n≤l.getD i 0→l.getD i 0<n+k→fG l bs k n=.hit i
 | 0,n,h1,h2=>by omega
 | k+1,n,h1,h2=>by
   have h0:Is l (l.getD i 0) (val (bs.take (l.getD i 0))) i:=⟨hi,rfl,hv.symm⟩
   rw[fG,if_neg (by omega)]
   by_cases he:n=l.getD i 0
   ·subst he
    rw[oy h h0]
   ·have h5:n<l.getD i 0:=by omega
    have h3:jZ l n (val (bs.take n)) i:=by
     refine⟨hi,h1,?_⟩
     rw[← hv,qt bs hb h1 hl]
    cases hj:kZ l n (val (bs.take n))with
    | some j=>
      exfalso
      have h4:=xo h (jb hj) h1 (qt bs hb h1 hl) (h.one hi).2 h0.begin
      have:=(jb hj).2.1
      rw[h4]at this
      omega
    | none=>
      have a:=iD h h3
      have b:=vr h hi
      have:=fA (l.getD i 0)
      show(if _<_ then _ else _)=_
      rw[if_pos (by omega)]
      exact uu h hb hi hl hv k (n+1) (by omega) (by omega)
theorem G5{l bs:List Nat}(h:eu l)(hb:an bs){i:Nat}(hi:i<l.length)(hl:l.getD i 0≤bs.length)(hv:val (bs.take (l.getD i 0))=cP l i):
 fg l bs=.hit i:=uu h hb hi hl hv 20 1 (h.one hi).1 (by have:=(h.one hi).2;omega)
def bf(l:List Nat)(i:Nat):List Nat:=ai (cP l i) (l.getD i 0)
theorem DP{l:List Nat}(h:eu l){i:Nat}(hi:i<l.length)(rest:List Nat)(hr:an rest):fg l (bf l i++rest)=.hit i:=by
 have h0:(bf l i).length=l.getD i 0:=af _ _
 have hb:an (bf l i++rest):=an.append (aE _ _) hr
 have ht:(bf l i++rest).take (l.getD i 0)=bf l i:=List.take_left' h0
 refine G5 (bs:=bf l i++rest) h hb hi (by rw[List.length_append,h0];omega) ?_
 rw[ht,bf,cV,Nat.mod_eq_of_lt (nM h hi)]
theorem nF{l bs:List Nat}{i:Nat}:∀k n,fG l bs k n=.hit i→l.getD i 0≤bs.length∧Is l (l.getD i 0) (val (bs.take (l.getD i 0))) i
 | 0,n,h=>by simp[fG]at h
 | k+1,n,h=>by
   rw[fG]at h
   by_cases hn:bs.length<n
   ·rw[if_pos hn]at h
    cases h
   ·rw[if_neg hn]at h
    cases hj:kZ l n (val (bs.take n))with
    | some j=>
      rw[hj]at h
      have h0:j=i:=by
       injection h
      subst h0
      have h2:=jb hj
      have h3:=h2.2.1
      subst h3
      exact⟨by omega,h2⟩
    | none=>
      rw[hj]at h
      by_cases hs:val (bs.take n)*pw n<jD l
      ·have h':fG l bs k (n+1)=.hit i:=by
        rw[← h]
        exact(if_pos hs).symm
       exact nF k (n+1) h'
      ·have h':Nx.code=.hit i:=by
        rw[← h]
        exact(if_neg hs).symm
       cases h'
def nl(L:List Int):List Nat:=L.map Int.toNat
theorem bz(L:List Int):(nl L).length=L.length:=List.length_map _
theorem ox(L:List Int)(i:Nat):(nl L).getD i 0=(L.getD i 0).toNat:=by
 unfold nl
 rw[List.getD_eq_getElem?_getD,List.getD_eq_getElem?_getD,List.getElem?_map]
 cases L[i]? <;>rfl
theorem Jl(L:List Int):jD (nl L)=bc L:=by
 unfold jD nl bc pw
 rw[List.map_map]
 rfl
theorem fq{L:List Int}(h:aY L):eu (nl L):=by
 obtain⟨_,_,h3,h4⟩:=h
 refine⟨fun x hx=> ?_,fun x hx=> ?_,by rw[Jl];exact h4⟩
 ·obtain⟨y,hy,rfl⟩:=List.mem_map.1 hx
  have:=h3 y hy
  omega
 ·obtain⟨y,hy,rfl⟩:=List.mem_map.1 hx
  have:=h3 y hy
  omega
theorem uQ{α:Type}{p q:Prop} [Decidable p] [Decidable q](h:p↔q)(a b:α):(if p then a else b)=if q then a else b:=by
 by_cases hq:q
 ·rw[if_pos hq,if_pos (h.2 hq)]
 ·rw[if_neg hq,if_neg (fun k=>hq (h.1 k))]
def mg(l:List Nat)(n i j:Nat):List Nat:=if l.getD j 0<n∨(l.getD j 0=n∧j<i)then bf l j else []
theorem DC{l:List Nat}{n i:Nat}(h:l.getD i 0≠n)(j:Nat):mg l n (i+1) j=mg l n i j:=by
 unfold mg
 by_cases e:j=i
 ·subst e
  have h1:¬(l.getD j 0=n∧j<j+1):=fun k=>h k.1
  have h2:¬(l.getD j 0=n∧j<j):=fun k=>h k.1
  simp only[h1,h2,or_false]
 ·exact uQ (by omega) _ _
theorem Fi{l:List Nat}{n i:Nat}(h:l.getD i 0=n)(j:Nat):mg l n (i+1) j=if j=i then bf l i else mg l n i j:=by
 unfold mg
 by_cases e:j=i
 ·subst e
  rw[if_pos rfl,if_pos (Or.inr ⟨h,by omega⟩)]
 ·rw[if_neg e]
  exact uQ (by omega) _ _
theorem Ii{l:List Nat}{n i j:Nat}(h:j<i):mg l n i j=mg l (n+1) 0 j:=by
 unfold mg
 exact uQ (by omega) _ _
theorem CJ{l:List Nat}(h:eu l){j:Nat}(hj:j<l.length):mg l 1 0 j= []:=by
 unfold mg
 have:=(h.one hj).1
 rw[if_neg (by omega)]
theorem Fq{l:List Nat}(h:eu l){j:Nat}(hj:j<l.length):mg l 21 0 j=bf l j:=by
 unfold mg
 have:=(h.one hj).2
 rw[if_pos (by omega)]
def cd(l:List Nat)(n i:Nat):Nat:=pos n i l / pw n
theorem GY{l:List Nat}(h:eu l):cd l 1 0=0:=by
 unfold cd
 rw[xd l h.low,Nat.zero_div]
theorem FN{l:List Nat}{n i:Nat}(hi:i<l.length)(h:l.getD i 0=n):cd l n (i+1)=cd l n i+1:=by
 unfold cd
 rw[jI n l i hi,if_pos h,Nat.add_div_right _ (fA n)]
theorem Bm{l:List Nat}{n i:Nat}(hi:i<l.length)(h:l.getD i 0≠n):cd l n (i+1)=cd l n i:=by
 unfold cd
 rw[jI n l i hi,if_neg h,Nat.add_zero]
theorem BF{l:List Nat}{n i:Nat}(h:l.getD i 0=n):cd l n i=cP l i:=by
 unfold cd cP lie
 rw[h]
theorem I8{l:List Nat}{n i:Nat}(hi:l.length≤i)(hn:n<20):cd l (n+1) 0=2*cd l n i:=by
 unfold cd
 rw[← lB n l i hi]
 have h1:=iI (n:=n) (x:=n+1) (by omega) (by omega)
 rw[show n+1 - n=1 by omega,Nat.pow_one]at h1
 obtain⟨k,hk⟩:=nu n (by omega) l i
 have hp:=fA n
 have h0:=fA (n+1)
 rw[hk,Nat.mul_div_cancel_left k hp,h1,Nat.mul_assoc,Nat.mul_div_cancel_left _ h0]
theorem I9{l:List Nat}(h:eu l){n:Nat}(hn:n≤20)(i:Nat):cd l n i≤1048576:=by
 unfold cd
 have h1:=Hx l h.high hn i
 have h2:=h.sum
 exact Nat.le_trans (Nat.div_le_self _ _) (by omega)
def k7(l:List Nat)(list:List Int):List Nat:=list.flatMap fun x=>bf l x.toNat
theorem DO(l:List Nat)(a:List Int)(x:Int):k7 l (a++ [x])=k7 l a++bf l x.toNat:=by
 unfold k7
 rw[List.flatMap_append]
 simp
def ly(L list:List Int):List Nat×Nat:=if aY L then(if ∀x∈list,0≤x∧x<(L.length:Int)then(k7 (nl L) list,0)else([],60))else([],80)
def fQ(l bs:List Nat)(en:Int):Nat→Nat→List Nat→List Nat×Nat×Nat
 | 0,at',out=>(out,at',0)
 | k+1,at',out=>match fg l (bs.drop at')with
   | .hit i=>if(i:Int)=en then(out++ [i],at'+l.getD i 0,0)else fQ l bs en k (at'+l.getD i 0) (out++ [i])
   | .short=>([],0,10)
   | .code=>([],0,90)
def fz(L:List Int)(bs:List Nat)(at' n en:Int):List Nat×Nat×Nat:=if aY L then(if at'<0∨(bs.length:Int)<at'∨n<0 then([],0,2)else fQ (nl L) bs en n.toNat at'.toNat [])else([],0,80)
theorem pH(l:List Nat)(i:Nat):an (bf l i):=aE _ _
theorem ct(l:List Nat)(i:Nat):(bf l i).length=l.getD i 0:=af _ _
def DOk(L:List Int):Prop:=2≤L.length∧L.length≤258∧∀x∈L,1≤x∧x≤20
instance (L:List Int):Decidable (DOk L):=inferInstanceAs (Decidable (_∧_))
def ups:Nat→List Nat
 | 0=> []
 | k+1=>1 :: 0 :: ups k
def gG:Nat→List Nat
 | 0=> []
 | k+1=>1 :: 1 :: gG k
theorem wm:∀k,ups (k+1)=ups k++ [1,0]
 | 0=>rfl
 | k+1=>by
   show 1 :: 0 :: ups (k+1)=1 :: 0 :: ups k++ [1,0]
   rw[wm k]
   rfl
theorem rd:∀k,gG (k+1)=gG k++ [1,1]
 | 0=>rfl
 | k+1=>by
   show 1 :: 1 :: gG (k+1)=1 :: 1 :: gG k++ [1,1]
   rw[rd k]
   rfl
theorem iP:∀k,(ups k).length=2*k
 | 0=>rfl
 | k+1=>by
   show(ups k).length+1+1=_
   rw[iP k]
   omega
theorem iu:∀k,(gG k).length=2*k
 | 0=>rfl
 | k+1=>by
   show(gG k).length+1+1=_
   rw[iu k]
   omega
theorem B1:∀k,an (ups k)
 | 0=>fun b hb=>by cases hb
 | k+1=>fun b hb=>by
   rcases List.mem_cons.1 hb with rfl | hb
   ·omega
   ·rcases List.mem_cons.1 hb with rfl | hb
    ·omega
    ·exact B1 k b hb
theorem uF:∀k,an (gG k)
 | 0=>fun b hb=>by cases hb
 | k+1=>fun b hb=>by
   rcases List.mem_cons.1 hb with rfl | hb
   ·omega
   ·rcases List.mem_cons.1 hb with rfl | hb
    ·omega
    ·exact uF k b hb
def fP(a x:Nat):List Nat:=ups (x - a)++gG (a - x)++ [0]
theorem kO(a x:Nat):(fP a x).length=2*((x - a)+(a - x))+1:=by
 unfold fP
 rw[List.length_append,List.length_append,iP,iu]
 show _+1=_
 omega
theorem Dp(a x:Nat):an (fP a x):=by
 refine((B1 _).append (uF _)).append ?_
 intro b hb
 rw[List.mem_singleton.1 hb]
 omega
def bC:Nat→List Nat→List Nat
 | _, []=> []
 | a,x :: l=>fP a x++bC x l
theorem rY:∀(l:List Nat) (a:Nat),an (bC a l)
 | [],_=>fun b hb=>by cases hb
 | x :: l,a=>(Dp a x).append (rY l x)
def mC(l:List Nat)(i:Nat):Nat:=l.getD (i - 1) 0
theorem pq:∀(l:List Nat) (a x:Nat),bC a (l++ [x])=bC a l++fP (match l.getLast? with | some y=>y | none=>a) x
 | [],a,x=>by simp[bC]
 | y :: l,a,x=>by
   show fP a y++bC y (l++ [x])=(fP a y++bC y l)++_
   rw[pq l y x,List.append_assoc]
   congr 2
   cases l with
   | nil=>rfl
   | cons z l=>rfl
theorem yV{l:List Nat}{i:Nat}(hi:i<l.length):bC (l.getD 0 0) (l.take (i+1))=bC (l.getD 0 0) (l.take i)++fP (mC l i) (l.getD i 0):=by
 rw[List.take_succ_eq_append_getElem hi,pq]
 congr 2
 ·cases i with
  | zero=>rfl
  | succ k=>
    rw[List.getLast?_take]
    unfold mC
    have e:l.getD k 0=l[k]:=by
     rw[List.getD_eq_getElem?_getD,List.getElem?_eq_getElem (by omega)]
     rfl
    rw[if_neg (by omega),Nat.add_sub_cancel,List.getElem?_eq_getElem (by omega),e]
    rfl
 ·rw[List.getD_eq_getElem?_getD,List.getElem?_eq_getElem hi]
  rfl
def aX(l:List Nat):List Nat:=ai (l.getD 0 0) 5++bC (l.getD 0 0) l
theorem ua(l:List Nat):an (aX l):=(aE _ _).append (rY _ _)
def jn(L:List Int):List Nat×Nat:=if DOk L then(aX (nl L),0)else([],80)
def ub:Nat→List Nat→Nat
 | _, []=>0
 | a,x :: l=>(x - a)+(a - x)+ub x l
theorem jy:∀(l:List Nat) (a:Nat),(bC a l).length=l.length+2*ub a l
 | [],_=>rfl
 | x :: l,a=>by
   show(fP a x++bC x l).length=(l.length+1)+2*((x - a)+(a - x)+ub x l)
   rw[List.length_append,kO,jy l x]
   omega
theorem vy(l:List Nat):(aX l).length=5+l.length+2*ub (l.getD 0 0) l:=by
 unfold aX
 rw[List.length_append,af,jy]
 omega
theorem qX:∀(l:List Nat) (a:Nat),a≤20→(∀ x∈l,x≤20)→ub a l≤20*l.length
 | [],_,_,_=>Nat.le_refl _
 | x :: l,a,ha,h=>by
   have hx:=h x (List.mem_cons_self ..)
   have:=qX l x hx fun y hy=>h y (List.mem_cons_of_mem _ hy)
   show(x - a)+(a - x)+ub x l≤20*(l.length+1)
   omega
def bq:List Nat→Nat→Nat→Nat→List Nat→List Nat×Nat×Nat
 | _,_,0,p,out=>(out,p,0)
 | [],now,_+1,_,_=>if now<1∨20<now then([],0,80)else([],0,10)
 | [b],now,n+1,p,out=>if now<1∨20<now then([],0,80)else if b=0 then(if n=0 then(out++ [now],p+1,0)else([],0,10))else([],0,10)
 | b :: d :: bs,now,n+1,p,out=>if now<1∨20<now then([],0,80)else if b=0 then bq (d :: bs) now n (p+1) (out++ [now])else bq bs (if d=0 then now+1 else now - 1) (n+1) (p+2) out
theorem fw(bs:List Nat)(now p:Nat)(out:List Nat):bq bs now 0 p out=(out,p,0):=by
 cases bs with
 | nil=>rfl
 | cons b bs=>cases bs <;>rfl
theorem gv(bs:List Nat)(now n p:Nat)(out:List Nat)(h:now<1∨20<now):bq bs now (n+1) p out=([],0,80):=by
 cases bs with
 | nil=>exact if_pos h
 | cons b bs=>
   cases bs with
   | nil=>exact if_pos h
   | cons d bs=>rw[bq,if_pos h]
theorem iC(now n p:Nat)(out:List Nat)(h:¬(now<1∨20<now)):bq [] now (n+1) p out=([],0,10):=if_neg h
theorem f6(bs:List Nat)(now n p:Nat)(out:List Nat)(h:¬(now<1∨20<now)):bq (0 :: bs) now (n+1) p out=bq bs now n (p+1) (out++ [now]):=by
 cases bs with
 | nil=>
   rw[bq,if_neg h,if_pos rfl]
   cases n with
   | zero=>rw[if_pos rfl,fw]
   | succ n=>rw[if_neg (by omega),iC _ _ _ _ h]
 | cons d bs=>rw[bq,if_neg h,if_pos rfl]
theorem jK(b now n p:Nat)(out:List Nat)(h:¬(now<1∨20<now))(hb:b≠0):bq [b] now (n+1) p out=([],0,10):=by
 rw[bq,if_neg h,if_neg hb]
theorem fB(b d:Nat)(bs:List Nat)(now n p:Nat)(out:List Nat)(h:¬(now<1∨20<now))(hb:b≠0):bq (b :: d :: bs) now (n+1) p out=bq bs (if d=0 then now+1 else now - 1) (n+1) (p+2) out:=by
 rw[bq,if_neg h,if_neg hb]
def ax(bits:List Nat)(at' n:Int):List Nat×Nat×Nat:=
 if at'<0∨(bits.length:Int)<at'∨n<2∨258<n then([],0,2)
 else if bits.length<at'.toNat+5 then([],0,10)
 else bq (bits.drop (at'.toNat+5)) (val ((bits.drop at'.toNat).take 5)) n.toNat (at'.toNat+5) []
theorem wV:∀(k:Nat) (rest:List Nat) (now n p:Nat) (out:List Nat),1≤now→now+k≤20→bq (ups k++rest) now (n+1) p out=bq rest (now+k) (n+1) (p+2*k) out
 | 0,rest,now,n,p,out,_,_=>rfl
 | k+1,rest,now,n,p,out,h1,h2=>by
   show bq (1 :: 0 :: (ups k++rest)) now (n+1) p out=_
   rw[fB _ _ _ _ _ _ _ (by omega) (by omega),if_pos rfl,wV k rest (now+1) n (p+2) out (by omega) (by omega)]
   rw[show now+1+k=now+(k+1) by omega,show p+2+2*k=p+2*(k+1) by omega]
theorem su:∀(k:Nat) (rest:List Nat) (now n p:Nat) (out:List Nat),k+1≤now→now≤20→bq (gG k++rest) now (n+1) p out=bq rest (now - k) (n+1) (p+2*k) out
 | 0,rest,now,n,p,out,_,_=>rfl
 | k+1,rest,now,n,p,out,h1,h2=>by
   show bq (1 :: 1 :: (gG k++rest)) now (n+1) p out=_
   rw[fB _ _ _ _ _ _ _ (by omega) (by omega),if_neg (by omega),su k rest (now - 1) n (p+2) out (by omega) (by omega)]
   rw[show now - 1 - k=now - (k+1) by omega,show p+2+2*k=p+2*(k+1) by omega]
theorem Hg(a x:Nat)(rest:List Nat)(n p:Nat)(out:List Nat)(ha:1≤a∧a≤20)(hx:1≤x∧x≤20):bq (fP a x++rest) a (n+1) p out=bq rest x n (p+(fP a x).length) (out++ [x]):=by
 have e:fP a x++rest=ups (x - a)++(gG (a - x)++(0 :: rest)):=by
  unfold fP
  simp
 have hl:=kO a x
 rw[e,wV _ _ _ _ _ _ ha.1 (by omega),su _ _ _ _ _ _ (by omega) (by omega),show a+(x - a) - (a - x)=x by omega,f6 _ _ _ _ _ (by omega)]
 rw[show p+2*(x - a)+2*(a - x)+1=p+(fP a x).length by omega]
theorem sO:∀(l:List Nat) (a:Nat) (rest:List Nat) (p:Nat) (out:List Nat),(1≤a∧a≤20)→(∀ x∈l,1≤x∧x≤20)→bq (bC a l++rest) a l.length p out=(out++l,p+(bC a l).length,0)
 | [],a,rest,p,out,_,_=>by
   rw[List.length_nil,fw]
   simp[bC]
 | x :: l,a,rest,p,out,ha,h=>by
   have hx:=h x (List.mem_cons_self ..)
   show bq (fP a x++bC x l++rest) a (l.length+1) p out=(out++x :: l,p+(fP a x++bC x l).length,0)
   rw[List.append_assoc,Hg a x _ _ _ _ ha hx,sO l x rest _ _ hx fun y hy=>h y (List.mem_cons_of_mem _ hy),List.length_append]
   simp[Nat.add_assoc]
theorem yt{l:List Nat}(h0:0<l.length)(h:∀x∈l,1≤x∧x≤20):1≤l.getD 0 0∧l.getD 0 0≤20:=by
 refine h _ ?_
 rw[List.getD_eq_getElem?_getD,List.getElem?_eq_getElem h0]
 exact List.getElem_mem h0
theorem Hm{x:Nat}(h:x≤20)(rest:List Nat):val ((ai x 5++rest).take 5)=x:=by
 rw[List.take_left' (af 5 x),cV,Nat.mod_eq_of_lt (by omega)]
theorem oU{l:List Nat}(h2:2≤l.length)(h0:l.length≤258)(h:∀x∈l,1≤x∧x≤20)(pre fv rest:List Nat)(hm:∀bs n p,bq (fv++bs) (l.getD 0 0) (n+1) p []=bq bs (l.getD 0 0) (n+1) (p+fv.length) []):
 ax (pre++(ai (l.getD 0 0) 5++(fv++(bC (l.getD 0 0) l++rest)))) (pre.length:Nat) (l.length:Nat)=(l,pre.length+(aX l).length+fv.length,0):=by
 have hf:=yt (by omega) h
 have h1:(pre++(ai (l.getD 0 0) 5++(fv++(bC (l.getD 0 0) l++rest)))).length=pre.length+5+fv.length+(bC (l.getD 0 0) l).length+rest.length:=by
  simp only[List.length_append,af]
  omega
 unfold ax
 rw[if_neg (by omega),Int.toNat_natCast,Int.toNat_natCast,if_neg (by omega),List.drop_left,Hm hf.2]
 have hd:(pre++(ai (l.getD 0 0) 5++(fv++(bC (l.getD 0 0) l++rest)))).drop (pre.length+5)=fv++(bC (l.getD 0 0) l++rest):=by
  rw[← List.drop_drop,List.drop_left,List.drop_left' (af 5 _)]
 rw[hd]
 obtain⟨n,hn⟩:∃n,l.length=n+1:=⟨l.length - 1,by omega⟩
 rw[hn,hm,←hn,sO l _ rest _ _ hf h]
 have e:pre.length+5+fv.length+(bC (l.getD 0 0) l).length=pre.length+(aX l).length+fv.length:=by
  rw[aX,List.length_append,af]
  omega
 rw[e]
 rfl
open Go.RowKit
theorem AJ:(Tryz.prog.info? 36).map (fun i=>(i.zero,i.size,i.bytes))=some (some (.slice none 0 0),1,24):=by kernel_rfl
def qV(w:World)(g n:Nat)(C:Nat→List Nat):Prop:=∀j,j<n→∃A k,w.cell? ⟨g,j,none⟩=some (.slice A (C j).length k)∧aw w A (C j).length (C j)∧(C j).length≤k
theorem qV.below{w w':World}{g n:Nat}{C:Nat→List Nat}(h:qV w g n C)(hb:Below w.heap.size w w'):qV w' g n C:=by
 intro j hj
 obtain⟨A,k,h1,h2,h3⟩:=h j hj
 exact⟨A,k,(hb.cell (p:=⟨g,j,none⟩) (World.block_lt_of_cell? w _ h1)).trans h1,bF h2 hb,h3⟩
def cG(w:World)(B g n:Nat)(C:Nat→List Nat):Prop:=∃F:Nat→Value,w.ownsRow B 36 1 (.slice (some ⟨g,0,none⟩) n n) n ((List.range n).map F)∧
 ∀j,j<n→∃A k,F j=.slice A (C j).length k∧(C j).length≤k∧w.ownsRow B 3 1 (F j) (C j).length ((C j).map iv)
theorem cG.same{w:World}{B g n:Nat}{C D:Nat→List Nat}(h:cG w B g n C)(hs:∀j,j<n→C j=D j):cG w B g n D:=by
 obtain⟨F,h1,h2⟩:=h
 refine⟨F,h1,fun j hj=> ?_⟩
 rw[← hs j hj]
 exact h2 j hj
theorem cG.step{w w':World}{B B' g n:Nat}{C:Nat→List Nat}(h:cG w B g n C)(hs:ak B' [] [] w w'):cG w' B g n C:=by
 obtain⟨F,h1,h2⟩:=h
 refine⟨F,hs.row h1 (fun _ _=>aq) aq,fun j hj=> ?_⟩
 obtain⟨A,k,a,b,c⟩:=h2 j hj
 exact⟨A,k,a,b,hs.row c (fun _ _=>aq) aq⟩
theorem cG.read{w:World}{B g n:Nat}{C:Nat→List Nat}(h:cG w B g n C):qV w g n C:=by
 obtain⟨F,h1,h2⟩:=h
 intro j hj
 obtain⟨A,k,a,b,c⟩:=h2 j hj
 refine⟨A,k,?_,?_,b⟩
 ·rw[World.ownsRow.cellAt h1 j (by omega),List.getElem?_map,List.getElem?_range hj,←a]
  rfl
 ·rw[a]at c
  exact aJ c
theorem cG.frozen{w:World}{B g n:Nat}{C:Nat→List Nat}(h:cG w B g n C)(i:Nat):w.frozen? ⟨g,i,none⟩=false:=by
 obtain⟨F,h1,_⟩:=h
 exact World.ownsRow.frozenAt h1 i
theorem cG.there{w:World}{B g n:Nat}{C:Nat→List Nat}(h:cG w B g n C)(i:Nat)(hi:i<n):∃v,w.cell? ⟨g,i,none⟩=some v:=by
 obtain⟨A,k,h1,_⟩:=h.read i hi
 exact⟨_,h1⟩
theorem cG.set{w:World}{B g n:Nat}{C:Nat→List Nat}(h:cG w B g n C)(i:Nat){A:Option Addr}{k:Nat}{L:List Nat}(hL:w.ownsRow B 3 1 (.slice A L.length k) L.length (L.map iv))(hk:L.length≤k):
 cG (w.setCell ⟨g,i,none⟩ (.slice A L.length k)) B g n fun j=>if j=i then L else C j:=by
 obtain⟨F,h1,h2⟩:=h
 have h3:=World.ownsRow.stored h1 i (.slice A L.length k)
 have h0:((List.range n).map F).set i (.slice A L.length k)=(List.range n).map fun j=>if j=i then(.slice A L.length k)else F j:=by
  apply List.ext_getElem?
  intro j
  rw[List.getElem?_set]
  by_cases e:i=j
  ·subst e
   by_cases hj:i<n
   ·simp[hj]
   ·simp[hj]
  ·have e':¬j=i:=fun k=>e k.symm
   rw[if_neg e,List.getElem?_map,List.getElem?_map]
   by_cases hj:j<n
   ·rw[List.getElem?_range hj]
    simp[e']
   ·rw[List.getElem?_eq_none (by rw[List.length_range];omega)]
    rfl
 rw[h0]at h3
 have keep:∀(v:Value) (m:Nat) (xs:List Value),w.ownsRow B 3 1 v m xs→(w.setCell ⟨g,i,none⟩ (.slice A L.length k)).ownsRow B 3 1 v m xs:=by
  intro v m xs hv
  refine hv.kept h3.2 (.inr fun e=> ?_)
  obtain⟨c1,f1,e1⟩:=Lib.ownsRow_kind hv g e
  obtain⟨c2,f2,e2⟩:=Lib.ownsRow_kind h1 g rfl
  rw[e1]at e2
  simp at e2
 refine⟨_,h3.1,fun j hj=> ?_⟩
 by_cases e:j=i
 ·refine⟨A,k,?_,?_,?_⟩
  ·simp only[if_pos e]
  ·simp only[if_pos e]
   exact hk
  ·simp only[if_pos e]
   exact keep _ _ _ hL
 ·obtain⟨A2,k2,a,b,c⟩:=h2 j hj
  refine⟨A2,k2,?_,?_,?_⟩
  ·simp only[if_neg e]
   exact a
  ·simp only[if_neg e]
   exact b
  ·simp only[if_neg e]
   exact keep _ _ _ c
theorem G9(w:World)(B n:Nat)(hB:B≤w.heap.size)(hn:n≤1000):cG (w.alloc (.cells (madeCells #[.slice none 0 0] n) 36)) B w.heap.size n fun _=> []:=by
 refine⟨fun _=>.slice none 0 0,⟨by simp,.inr ⟨w.heap.size,n,_,rfl,hB,heap_alloc_new w _,Nat.le_refl _,by unfold maxLen;omega,by rw[size_madeCells,Nat.mul_one],?_⟩⟩,fun j _=>⟨none,0,rfl,Nat.le_refl _,World.ownsRow_nil _ _ _ _⟩⟩
 rw[toList_madeCells_one,Nat.mul_one,List.take_of_length_le (by simp),List.map_const',List.length_range]
theorem En(w:World)(A:Option Addr)(n c:Nat)(L:List Int)(hL:ZIn w A n L)(h9:aY L):Calls Tryz.prog 98 #[.slice A n c] w fun e w'=>∃g,e=.returned (.slice (some ⟨g,0,none⟩) n n)∧cG w' w.heap.size g n (bf (nl L))∧Below w.heap.size w w':=by
 obtain⟨i2,h2,hy⟩:=Option.map_eq_some_iff.1 AJ
 simp only[Prod.mk.injEq]at hy
 obtain⟨hP,hQ,hR⟩:=hy
 have hA:=hL.1
 have hX:n≤258:=by have:=h9.2.1;omega
 have hW:2≤n:=by have:=h9.1;omega
 obtain⟨b,off,rfl,hc⟩:=hL.2 (by omega)
 have hC:∀w1:World,(Instr.makeSlice 50 (.int .i64 n) (.int .i64 n)).run Tryz.prog w1=.ok (.slice (some ⟨w1.heap.size,0,none⟩) n n) (w1.alloc (.cells (madeCells #[.slice none 0 0] n) 36)):=by
  intro w1
  have h:=run_make (P:=Tryz.prog) w1 50 36 i2 (.slice none 0 0) Tryz.underlying50 h2 hP .i64 .i64 (n:Int) (n:Int) (by omega) (by omega) (by rw[hR];omega) (by omega)
  rw[hQ,Int.toNat_natCast,Nat.mul_one]at h
  exact h
 have hr:=hC w
 have h7:=fq h9
 have HF:=aa h7
 obtain⟨l,hl⟩:∃l,l=nl L:=⟨_,rfl⟩
 have hz:l.length=n:=by rw[hl,bz,hA]
 have hf:=aa hz
 have h8:∀i,i<n→w.cell? ⟨b,off+i,none⟩=some (.int .i64 (l.getD i 0:Nat)):=by
  intro i hi
  rw[hc i hi,hl,ox]
  have:0≤L.getD i 0:=by
   rw[List.getD_eq_getElem?_getD,List.getElem?_eq_getElem (by omega)]
   have:=(h9.2.2.1 L[i] (List.getElem_mem ..)).1
   show(0:Int)≤L[i]
   omega
  rw[Int.toNat_of_nonneg this]
 have hm:=aa h8
 have h4:=aa o7
 have hv:cG (w.alloc (.cells (madeCells #[.slice none 0 0] n) 36)) w.heap.size w.heap.size n (mg l 1 0):=(G9 w w.heap.size n (ah _) (by omega)).same fun j hj=>(CJ (hl ▸ HF.out) (by omega)).symm
 rw[← hl]at HF ⊢
 clear hC hc hL h9 hA hz h8 hl
 have ht:=aa hv
 clear hv h7
 go_enter Tryz.func98,Tryz.ntmps98
 go_wp2_with fail
 clear hr
 go_loopw [4,5] (fun cv nv wx=>∃q k:Nat,1≤q∧q≤21∧nv=.int .i64 q∧cv=.int .i64 k∧k≤1048576∧Hid (q≤20→2*k=cd l q 0)∧cG wx w.heap.size w.heap.size n (mg l q 0)∧Below w.heap.size w wx) (fun _ nv _=>22 - (intOf nv).toNat)
 case atStart=>exact⟨1,0,Nat.le_refl _,by omega,rfl,rfl,by omega,aa fun _=>(GY HF.out).symm,ht.out,(Below.refl _ _).alloc (ah _) _⟩
 case round=>
  obtain⟨q,k,hY,hZ,rfl,rfl,hk,h1,hT,hb⟩:=hrel
  have HT:=aa hT
  have HB:=aa hb
  clear hT hb ht
  by_cases e:q≤20
  ·have d0:decide ((q:Int)≤20)=true:=ar (by omega)
   have hM:=h1.out e
   obtain⟨k2,hq⟩:∃k2,k2=k*2:=⟨_,rfl⟩
   have hV:(k:Int)*2=(k2:Int):=by omega
   have HK:Hid (k2=cd l q 0):=aa (by omega)
   have hN:k2≤2097152:=by omega
   clear hM hq h1
   go_wp2_with fail
   go_loopw [4,6] (fun cv iv wx=>∃i k:Nat,i≤n∧iv=.int .i64 i∧cv=.int .i64 k∧Hid (k=cd l q i)∧cG wx w.heap.size w.heap.size n (mg l q i)∧Below w.heap.size w wx) (fun _ iv _=>n - (intOf iv).toNat)
   case atStart=>exact⟨0,k2,Nat.zero_le _,rfl,rfl,HK,HT.out,HB.out⟩
   case round=>
    rename World=>wi
    obtain⟨i,k,hi,rfl,rfl,h1,hT,hb⟩:=hrel
    have hF:=hb.size
    have HT:=aa hT
    have HB:=aa hb
    have hO:k≤1048576:=by rw[h1.out];exact I9 HF.out (by omega) i
    clear hT hb
    by_cases e1:i<n
    ·have d1:decide ((i:Int)<(n:Int))=true:=ar (by omega)
     have hh:=hm.out i e1
     have hB:=World.block_lt_of_cell? w _ hh
     have hK:=(HB.out.cell (p:=⟨b,off+i,none⟩) hB).trans hh
     obtain⟨x,hx⟩:∃x,x=l.getD i 0:=⟨_,rfl⟩
     rw[← hx]at hh hK
     have HX:=aa hx
     clear hx hB hh
     by_cases e2:x=q
     ·subst e2
      have d2:((x:Int)==(x:Int))=true:=beq_self_eq_true _
      have hH:=aa (h4.out wi k x (by omega) (by omega))
      have h3:ai k x=bf l i:=by
       unfold bf
       rw[← HX.out,h1.out,BF HX.out.symm]
      have h5:=aa h3
      have he:cd l x (i+1)=k+1:=by rw[FN (by rw[hf.out];exact e1) HX.out.symm,h1.out]
      have hn:=aa he
      clear h3 he
      go_wp2_with fail
      refine hH.out.mono ?_
      rintro e w3 ⟨g2,cap2,rfl,ha,hp⟩
      have h0:w3.ownsRow w.heap.size 3 1 (.slice (some ⟨g2,0,none⟩) (bf l i).length cap2) (bf l i).length ((bf l i).map iv):=by
       have h:=World.ownsRow.mono ha hF
       rw[h5.out]at h
       rw[ct,←HX.out]
       exact h
      obtain⟨_,_,hE,h6,_,_⟩:=aj h0
      simp only[Value.slice.injEq]at hE
      obtain⟨rfl,_,rfl⟩:=hE
      have hg:=HT.out.step (am hp)
      have ho:=hg.set i h0 h6
      rw[ct,←HX.out]at ho
      have hu:=HB.out.trans (hp.mono hF)
      obtain⟨v0,H0⟩:=hg.there i e1
      have hS:=hg.frozen i
      have hI:=aa ho
      have hG:=aa (hu.setCell (p:=⟨w.heap.size,i,none⟩) (ah _) (.slice (some ⟨g2,0,none⟩) x cap2))
      clear ha hp h0 h6 hg ho hu
      go_wp2_with fail
      go_roundw
      case rel=>
       refine⟨i+1,k+1,by omega,by go_num,by go_num,aa hn.out.symm,hI.out.same fun j hj=> ?_,hG.out⟩
       exact(Fi HX.out.symm j).symm
      case measure=>simp[intOf];omega
     ·have d2:((x:Int)==(q:Int))=false:=by
       rw[beq_eq_false_iff_ne]
       omega
      have hD:l.getD i 0≠q:=by rw[← HX.out];exact e2
      have hs:=aa hD
      clear hD
      go_wp2_with fail
      go_roundw
      case rel=>exact⟨i+1,k,by omega,by go_num,rfl,aa (by rw[Bm (by rw[hf.out];exact e1) hs.out];exact h1.out),HT.out.same fun j _=>(DC hs.out j).symm,HB.out⟩
      case measure=>simp[intOf];omega
    ·obtain rfl:i=n:=by omega
     have d1:decide ((i:Int)<(i:Int))=false:=ao (by omega)
     go_wp2_with fail
     go_roundw
     case rel=>exact⟨q+1,k,by omega,by omega,by go_num,rfl,hO,aa fun h=>by rw[h1.out,I8 (by rw[hf.out];exact Nat.le_refl _) (by omega)],HT.out.same fun j hj=>Ii hj,HB.out⟩
     case measure=>simp[intOf];omega
  ·obtain rfl:q=21:=by omega
   have hw:=HT.out.same fun j hj=>Fq HF.out (by rw[hf.out];exact hj)
   have hJ:=aa hw
   clear hw h1
   go_wp2_with fail
   go_ret
   exact⟨_,rfl,hJ.out,HB.out⟩
def bQ(w:World)(ans:List Nat×Nat)(e:Ending)(w':World):Prop:=∃v,e=.returned (.tuple #[v,.int .i64 ans.2])∧w'.ownsRow w.heap.size 3 1 v ans.1.length (ans.1.map iv)∧Below w.heap.size w w'
theorem qr{L:List Int}{j:Nat}(h:j<L.length):L.getD j 0∈L:=by
 rw[List.getD_eq_getElem?_getD,List.getElem?_eq_getElem h]
 exact List.getElem_mem h
theorem nA{L:List Nat}{j:Nat}(h:j<L.length):L.getD j 0∈L:=by
 rw[List.getD_eq_getElem?_getD,List.getElem?_eq_getElem h]
 exact List.getElem_mem h
theorem tr(L:List Int)(q:Nat)(h:q<L.length):L.take (q+1)=L.take q++ [L.getD q 0]:=by
 rw[List.take_succ_eq_append_getElem h,List.getD_eq_getElem?_getD,List.getElem?_eq_getElem h]
 rfl
def aV(w:World)(ans:List Nat×Nat)(e:Ending)(w':World):Prop:=e=.returned (.tuple #[.agg #[.string ⟨(aK ans.1).toArray⟩,.int .i64 ans.1.length],.int .i64 ans.2])∧Below w.heap.size w w'
theorem BA{L:List Int}(h:DOk L):∀x∈nl L,1≤x∧x≤20:=by
 intro x hx
 obtain⟨y,hy,rfl⟩:=List.mem_map.1 hx
 have:=h.2.2 y hy
 omega
theorem Ao(L:List Int):(jn L).1.length≤11000:=by
 unfold jn
 split
 ·rename_i h
  have hn:=BA h
  have h1:=vy (nl L)
  have h2:=yt (l:=nl L) (by rw[bz];have:=h.1;omega) hn
  have h3:=qX (nl L) ((nl L).getD 0 0) h2.2 fun x hx=>(hn x hx).2
  rw[bz]at h1 h3
  have:=h.2.1
  show(aX (nl L)).length≤11000
  omega
 ·exact Nat.zero_le _
def aH(w:World)(ans:List Nat×Nat×Nat)(e:Ending)(w':World):Prop:=∃v,e=.returned (.tuple #[v,.int .i64 ans.2.1,.int .i64 ans.2.2])∧w'.ownsRow w.heap.size 3 1 v ans.1.length (ans.1.map iv)∧Below w.heap.size w w'
theorem lh{L:List Nat}{p:Nat}(h:p<L.length):L.drop p=L.getD p 0 :: L.drop (p+1):=by
 rw[List.drop_eq_getElem_cons h,List.getD_eq_getElem?_getD,List.getElem?_eq_getElem h]
 rfl
theorem zo{w:World}{b off m k a:Nat}{L:List Nat}(h:aw w (some ⟨b,off,none⟩) m L)(h0:a+k≤m)(n:Nat)(hn:n=k):aw w (some ⟨b,off+a,none⟩) n ((L.drop a).take k):=by
 subst hn
 have:=h.cut (a:=a) (k:=n) h0
 simp only[Option.map_some,Addr.add_lit]at this
 exact this
theorem oq(w:World)(A:Option Addr)(m c:Nat)(bits:List Nat)(a0 k:Nat)(hb:aw w A m bits)(HA:m≤c)(hm:m≤1000000)(hL:an bits)(ha:a0≤m)(H8:2≤k)(hk:k≤258):
 Calls Tryz.prog 95 #[.slice A m c,.int .i64 a0,.int .i64 k] w (aH w (ax bits a0 k)):=by
 obtain⟨i3,h3,H0,H1,H2⟩:=info_parts Tryz.info3
 have hB:=hb.1
 have HP:Hid (∀ (v:Value) (a:List Nat×Nat×Nat) (w':World),ax bits a0 k=a→w'.ownsRow w.heap.size 3 1 v a.1.length (a.1.map iv)→Below w.heap.size w w'→aH w (ax bits a0 k) (.returned (.tuple #[v,.int .i64 a.2.1,.int .i64 a.2.2])) w'):=aa fun v a w' h1 h2 h3=>⟨v,by rw[h1],by rw[h1];exact h2,h3⟩
 have h8:ax bits a0 k=if m<a0+5 then([],0,10)else bq (bits.drop (a0+5)) (val ((bits.drop a0).take 5)) k (a0+5) []:=by
  rw[ax,if_neg (by omega),Int.toNat_natCast,Int.toNat_natCast,hB]
 have d0:decide ((a0:Int)<0)=false:=ao (by omega)
 have d1:decide ((m:Int)<(a0:Int))=false:=ao (by omega)
 have d2:decide ((k:Int)<2)=false:=ao (by omega)
 have d3:decide ((258:Int)<(k:Int))=false:=ao (by omega)
 generalize aH w (ax bits a0 k)=PO at*
 generalize ax bits a0 k=ans at*
 have hJ:=aa hb
 have hn:=aa hB
 have hI:=aa hL
 have hA:=aa kz
 clear hb hB hL
 by_cases h5:m<a0+5
 ·rw[if_pos h5]at h8
  have d4:decide ((m:Int) - (a0:Int)<5)=true:=ar (by omega)
  have h9:=aa (HP.out (.slice none 0 0) _ w h8 (World.ownsRow_nil _ _ _ _) (Below.refl _ _))
  clear h8
  go_enter Tryz.func95,Tryz.ntmps95
  go_wp2_with fail
  first | exact h9.out | (go_ret3;exact h9.out)
 ·rw[if_neg h5]at h8
  have d4:decide ((m:Int) - (a0:Int)<5)=false:=ao (by omega)
  obtain⟨b,off,rfl,hf⟩:=hJ.out.2 (by omega)
  obtain⟨p5,hE⟩:∃p5,p5=a0+5:=⟨_,rfl⟩
  have hY:(a0:Int)+5=(p5:Int):=by omega
  have H5:¬c=a0:=by omega
  have H4:(a0:Int)≤(p5:Int):=by omega
  have HC:(p5:Int)≤(c:Int):=by omega
  have hF:p5≤m:=by omega
  rw[← hE]at h8
  have hZ:val ((bits.drop a0).take 5)<32:=by
   have h:=eD _ ((hI.out.drop a0).take 5)
   have h6:((bits.drop a0).take 5).length=5:=by rw[List.length_take,List.length_drop,hn.out];omega
   rw[h6]at h
   exact h
  have hK:=aa fun(w1:World) (h:w1=w) (q c':Nat) (hq:q=5)=>hA.out w1 (some ⟨b,off+a0,none⟩) q c' ((bits.drop a0).take 5) (h ▸ zo hJ.out (by omega) q hq) ((hI.out.drop a0).take 5) (by omega)
  obtain⟨now0,hh⟩:∃now0,now0=val ((bits.drop a0).take 5):=⟨_,rfl⟩
  rw[← hh]at hK h8 hZ
  have hc:=aa h8
  have he:=aa hf
  have hQ:=aa hE
  clear h8 hf hh h5 hE
  go_enter Tryz.func95,Tryz.ntmps95
  go_wp2_with fail
  refine(hK.out _ rfl _ _ (by have:=hQ.out;omega)).mono ?_
  rintro e w ⟨rfl,rfl⟩
  go_wp2_with fail
  go_loopw [1,9,10] (fun av nv out wx=>∃(p now:Nat) (o:List Nat),av=.int .i64 p∧p≤m∧nv=.int .i64 now∧now≤40∧o.length≤k∧Hid (ans=bq (bits.drop p) now (k - o.length) p o)∧wx.ownsRow w.heap.size 3 1 out o.length (o.map iv)∧Below w.heap.size w wx) (fun av _ _ _=>m - (intOf av).toNat)
  case atStart=>exact⟨p5,now0, [],rfl,hF,rfl,by omega,Nat.zero_le _,hc,World.ownsRow_nil _ _ _ _,Below.refl _ _⟩
  case round=>
   obtain⟨p,now,o,rfl,hp,rfl,hh,hD,h4,h7,hb⟩:=hrel
   have H3:=hb.size
   obtain⟨A0,c5,rfl,hS,hR,_⟩:=aj h7
   unfold maxLen at hR
   have HB:=aa hb
   have HO:=aa h7
   obtain⟨N,hN⟩:∃N,N=o.length:=⟨_,rfl⟩
   have HN:=aa hN
   have h0:=h4.out
   rw[← hN]at hD hS h0 ⊢
   by_cases e:N<k
   ·have d5:decide ((N:Int)<(k:Int))=true:=ar (by omega)
    rw[show k - N=(k - N - 1)+1 by omega]at h0
    by_cases ebad:now<1∨20<now
    ·rw[gv _ _ _ _ _ ebad]at h0
     have h9:=aa (HP.out (.slice none 0 0) _ wr h0 (World.ownsRow_nil _ _ _ _) HB.out)
     clear h0 h4 h7 hb hN HP hc
     by_cases e1:now<1
     ·have d6:decide ((now:Int)<1)=true:=ar (by omega)
      clear ebad
      go_wp2_with fail
      first | exact h9.out | (go_ret3;exact h9.out)
     ·have d6:decide ((now:Int)<1)=false:=ao (by omega)
      have d7:decide ((20:Int)<(now:Int))=true:=ar (by omega)
      clear ebad
      go_wp2_with fail
      first | exact h9.out | (go_ret3;exact h9.out)
    ·have d6:decide ((now:Int)<1)=false:=ao (by omega)
     have d7:decide ((20:Int)<(now:Int))=false:=ao (by omega)
     by_cases epm:p=m
     ·have d8:((p:Int)==(m:Int))=true:=by rw[epm];exact beq_self_eq_true _
      rw[epm,List.drop_of_length_le (Nat.le_of_eq hn.out),iC _ _ _ _ ebad]at h0
      have h9:=aa (HP.out (.slice none 0 0) _ wr h0 (World.ownsRow_nil _ _ _ _) HB.out)
      clear h0 h4 h7 hb hN HP hc ebad epm
      go_wp2_with fail
      first | exact h9.out | (go_ret3;exact h9.out)
     ·have d8:((p:Int)==(m:Int))=false:=by
       rw[beq_eq_false_iff_ne]
       omega
      have hH:p<m:=by omega
      have hr:b<w.heap.size:=World.block_lt_of_cell? w _ (he.out p hH)
      have q1:wr.cell? ⟨b,off+p,none⟩=some (.int .i64 (bits.getD p 0:Nat)):=(HB.out.cell (p:=⟨b,off+p,none⟩) hr).trans (he.out p hH)
      rw[lh (by rw[hn.out];exact hH)]at h0
      obtain⟨x,hx⟩:∃x,x=bits.getD p 0:=⟨_,rfl⟩
      rw[← hx]at q1 h0
      clear hx epm
      by_cases ex:x=0
      ·subst ex
       rw[f6 _ _ _ _ _ ebad]at h0
       have ho:=aa h0
       obtain⟨X,hX⟩:∃X,X=o.map iv:=⟨_,rfl⟩
       rw[← hX,←hN]at HO
       have HX:=aa hX
       have hi:1≤now:=by omega
       clear h0 h4 h7 hb hN hX ebad
       go_wp2_with (at_builtin;refine wpList_append_own _ rfl _ _ 36 rfl w.heap.size 3 i3 (.int .i64 0) 1 8 Tryz.underlying36 h3 H0 H1 H2 rfl (by decide) _ _ _ rfl (HO.out.alloc _) ⟨wr.heap.size,0,none⟩ 1 1 [.int .i64 now] rfl rfl ?c1 ?c2 ?c3 ?c4 ?c5 ?_)
       case c1=>exact bi _ _ _
       case c2=>intro u hu;simp at hu;subst hu;rfl
       case c3=>unfold maxLen;omega
       case c4=>omega
       case c5=>simp;omega
       intro v6 w6 hj hg _
       have hM:Below w.heap.size w w6:=(HB.out.alloc H3 _).grown hg (by simp;omega) (fun k hk=>(HO.out.lt k hk).1)
       have hP:=aa hj
       have hO:=aa hM
       clear hj hg hM
       go_wp2_with fail
       go_roundw
       case rel=>
        refine⟨p+1,now,o++ [now],by go_num,by omega,rfl,hh,by rw[List.length_append,←HN.out];show N+1≤k;omega,aa ?_,?_,hO.out⟩
        ·rw[List.length_append,←HN.out,show k - (N+ [now].length)=k - N - 1 by simp;omega]
         exact ho.out
        ·rw[List.length_append,←HN.out,List.map_append,←HX.out]
         exact hP.out
       case measure=>simp[intOf];omega
      ·have d9:((x:Int)==0)=false:=by
        rw[beq_eq_false_iff_ne]
        omega
       obtain⟨p1,hl⟩:∃p1,p1=p+1:=⟨_,rfl⟩
       have hV:(p:Int)+1=(p1:Int):=by omega
       by_cases ep1:p1=m
       ·have d10:((p1:Int)==(m:Int))=true:=by rw[ep1];exact beq_self_eq_true _
        rw[← hl,ep1,List.drop_of_length_le (Nat.le_of_eq hn.out),jK _ _ _ _ _ ebad ex]at h0
        have h9:=aa (HP.out (.slice none 0 0) _ wr h0 (World.ownsRow_nil _ _ _ _) HB.out)
        clear h0 h4 h7 hb hN HP hc ebad ep1 hl ex
        go_wp2_with fail
        first | exact h9.out | (go_ret3;exact h9.out)
       ·have d10:((p1:Int)==(m:Int))=false:=by
         rw[beq_eq_false_iff_ne]
         omega
        have hw:p1<m:=by omega
        have q2:wr.cell? ⟨b,off+p1,none⟩=some (.int .i64 (bits.getD p1 0:Nat)):=(HB.out.cell (p:=⟨b,off+p1,none⟩) hr).trans (he.out p1 hw)
        rw[← hl,lh (by rw[hn.out];exact hw)]at h0
        obtain⟨y,hy⟩:∃y,y=bits.getD p1 0:=⟨_,rfl⟩
        rw[← hy]at q2 h0
        rw[fB _ _ _ _ _ _ _ ebad ex,show p+2=p1+1 by omega]at h0
        have hv:p1=p+1:=hl
        have hz:=aa hl
        have hi:1≤now:=by omega
        have hC:now≤20:=by omega
        by_cases ey:y=0
        ·subst ey
         rw[if_pos rfl]at h0
         have ho:=aa h0
         have hW:(p:Int)+2=((p1+1:Nat):Int):=by omega
         clear h0 h4 h7 hb hN ebad ep1 hl hv ex hy
         go_wp2_with fail
         go_roundw
         case rel=>exact⟨p1+1,now+1,o,by first | go_num | (have:=hz.out;simp;omega),by omega,by go_num,by omega,by rw[← HN.out];exact hD,aa (by rw[← HN.out,show k - N=k - N - 1+1 by omega];exact ho.out),by rw[HN.out];exact HO.out,HB.out⟩
         case measure=>have:=hz.out;simp[intOf];omega
        ·have d11:((y:Int)==0)=false:=by
          rw[beq_eq_false_iff_ne]
          omega
         rw[if_neg ey]at h0
         obtain⟨now1,hs⟩:∃now1,now1=now - 1:=⟨_,rfl⟩
         have hT:(now:Int) - 1=(now1:Int):=by omega
         rw[← hs]at h0
         have ht:now1≤40:=by omega
         have ho:=aa h0
         clear h0 h4 h7 hb hN ebad ep1 hl hv ex hy ey hs hi
         go_wp2_with fail
         go_roundw
         case rel=>exact⟨p1+1,now1,o,by first | go_num | (have:=hz.out;simp;omega),by omega,by go_num,ht,by rw[← HN.out];exact hD,aa (by rw[← HN.out,show k - N=k - N - 1+1 by omega];exact ho.out),by rw[HN.out];exact HO.out,HB.out⟩
         case measure=>have:=hz.out;simp[intOf];omega
   ·have d5:decide ((N:Int)<(k:Int))=false:=ao (by omega)
    rw[show k - N=0 by omega,fw]at h0
    have hG:=HP.out (.slice A0 o.length c5) (o,p,0) wr h0 HO.out HB.out
    rw[← hN]at hG
    have h9:=aa hG
    clear h0 hG h4 h7 hb hN HP hc
    go_wp2_with fail
    first | exact h9.out | (go_ret3;exact h9.out)
end Go.Proofs.YthakcjehhlpjnaaGreat
