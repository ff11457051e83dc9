import Derived.Test.YthakcjehhlpjnaaGreatA03
import Derived.Test.YthakcjehhlpjnaaGreatA14
import Derived.Lib.OwnKind
set_option maxHeartbeats 3200000
set_option maxRecDepth 100000
namespace Go.Proofs.YthakcjehhlpjnaaGreat
def pw(x:Nat):Nat:=2 ^ (20 - x)
theorem eU(x:Nat):0<pw x:=Nat.two_pow_pos _
theorem iK{n x:Nat}(h:n≤x)(hx:x≤20):pw n=pw x*2 ^ (x - n):=by
 unfold pw
 rw[← Nat.pow_add]
 congr 1
 omega
theorem Ik{n x:Nat}(h:n≤x)(hx:x≤20):pw x∣pw n:=⟨_,iK h hx⟩
theorem x9{x:Nat}(hx:x≤20):2 ^ x*pw x=1048576:=by
 unfold pw
 rw[← Nat.pow_add,show x+(20 - x)=20 by omega]
def jo(l:List Nat):Nat:=(l.map pw).sum
def pos(n:Nat):Nat→List Nat→Nat
 | _, []=>0
 | i,x :: l=>(if x<n∨(x=n∧0<i)then pw x else 0)+pos n (i - 1) l
theorem jO(n:Nat):∀(l:List Nat) (i:Nat),i<l.length→pos n (i+1) l=pos n i l+if l.getD i 0=n then pw n else 0
 | [],i,h=>by simp at h
 | x :: l,0,_=>by
   have e1:pos n (0+1) (x :: l)=(if x<n∨(x=n∧0<0+1)then pw x else 0)+pos n 0 l:=rfl
   have e2:pos n 0 (x :: l)=(if x<n∨(x=n∧0<0)then pw x else 0)+pos n 0 l:=rfl
   rw[e1,e2,show(x :: l).getD 0 0=x from rfl]
   by_cases hx:x=n
   ·subst hx
    rw[if_pos (show x<x∨(x=x∧0<0+1) by omega),if_neg (show ¬(x<x∨(x=x∧0<0)) by omega),if_pos rfl]
    omega
   ·rw[if_neg hx]
    by_cases hl:x<n
    ·rw[if_pos (show x<n∨(x=n∧0<0+1) by omega),if_pos (show x<n∨(x=n∧0<0) by omega)]
     omega
    ·rw[if_neg (show ¬(x<n∨(x=n∧0<0+1)) by omega),if_neg (show ¬(x<n∨(x=n∧0<0)) by omega)]
     omega
 | x :: l,i+1,h=>by
   have e1:pos n (i+1+1) (x :: l)=(if x<n∨(x=n∧0<i+1+1)then pw x else 0)+pos n (i+1) l:=rfl
   have e2:pos n (i+1) (x :: l)=(if x<n∨(x=n∧0<i+1)then pw x else 0)+pos n i l:=rfl
   rw[e1,e2,show(x :: l).getD (i+1) 0=l.getD i 0 from rfl,jO n l i (by simpa using h)]
   by_cases hx:x<n∨x=n
   ·rw[if_pos (show x<n∨(x=n∧0<i+1+1) by omega),if_pos (show x<n∨(x=n∧0<i+1) by omega)]
    omega
   ·rw[if_neg (show ¬(x<n∨(x=n∧0<i+1+1)) by omega),if_neg (show ¬(x<n∨(x=n∧0<i+1)) by omega)]
    omega
theorem k6(n:Nat):∀(l:List Nat) (i:Nat),l.length≤i→pos n i l=pos (n+1) 0 l
 | [],_,_=>rfl
 | x :: l,i,h=>by
   have h':l.length+1≤i:=by simpa using h
   rw[pos,pos,k6 n l (i - 1) (by omega),show(0 - 1:Nat)=0 from rfl]
   by_cases hx:x<n∨x=n
   ·rw[if_pos (show x<n∨(x=n∧0<i) by omega),if_pos (show x<n+1∨(x=n+1∧0<0) by omega)]
   ·rw[if_neg (show ¬(x<n∨(x=n∧0<i)) by omega),if_neg (show ¬(x<n+1∨(x=n+1∧0<0)) by omega)]
theorem mT(n:Nat)(hn:n≤20):∀(l:List Nat) (i:Nat),pw n∣pos n i l
 | [],_=>⟨0,rfl⟩
 | x :: l,i=>by
   rw[pos]
   refine Nat.dvd_add ?_ (mT n hn l _)
   split
   ·exact Ik (by omega) hn
   ·exact⟨0,rfl⟩
theorem lQ(n:Nat)(l:List Nat){i j:Nat}(h:i≤j):pos n i l≤pos n j l:=by
 induction h with
 | refl=>exact Nat.le_refl _
 | step h ih=>
   rename_i m
   refine Nat.le_trans ih ?_
   by_cases hm:m<l.length
   ·rw[jO n l m hm]
    omega
   ·rw[k6 n l m (by omega),k6 n l (m+1) (by omega)]
    exact Nat.le_refl _
theorem n6(l:List Nat){n m:Nat}(h:n<m)(i:Nat):pos n i l≤pos m 0 l:=by
 induction h with
 | refl=>
   rw[← k6 n l (max i l.length) (by omega)]
   exact lQ n l (by omega)
 | step h ih=>
   rename_i k
   refine Nat.le_trans ih ?_
   rw[← k6 k l l.length (by omega)]
   exact lQ k l (by omega)
theorem pS(n:Nat):∀(l:List Nat),(∀ x∈l,x<n)→pos n 0 l=jo l
 | [],_=>rfl
 | x :: l,h=>by
   rw[pos,if_pos (Or.inl (h x (List.mem_cons_self ..))),show(0 - 1:Nat)=0 from rfl,pS n l fun y hy=>h y (List.mem_cons_of_mem _ hy)]
   simp[jo]
theorem DY(l:List Nat)(hl:∀x∈l,x≤20){n:Nat}(hn:n≤20)(i:Nat):pos n i l≤jo l:=by
 rw[← pS 21 l fun x hx=>by have:=hl x hx;omega]
 exact n6 l (by omega) i
def lie(l:List Nat)(i:Nat):Nat:=pos (l.getD i 0) i l
def dw(l:List Nat)(i:Nat):Nat:=lie l i / pw (l.getD i 0)
structure fd (l:List Nat):Prop where
 low:∀x∈l,1≤x
 high:∀x∈l,x≤20
 sum:jo l≤1048576
theorem AA{l:List Nat}{i:Nat}(h:i<l.length):l.getD i 0∈l:=by
 rw[List.getD_eq_getElem?_getD,List.getElem?_eq_getElem h]
 exact List.getElem_mem h
theorem fd.one{l:List Nat}(h:fd l){i:Nat}(hi:i<l.length):1≤l.getD i 0∧l.getD i 0≤20:=⟨h.low _ (AA hi),h.high _ (AA hi)⟩
theorem ld{l:List Nat}(h:fd l){i:Nat}(hi:i<l.length):dw l i*pw (l.getD i 0)=lie l i:=
 Nat.div_mul_cancel (mT _ (h.one hi).2 l i)
theorem wf{l:List Nat}{i:Nat}(hi:i<l.length):pos (l.getD i 0) (i+1) l=lie l i+pw (l.getD i 0):=by
 rw[jO _ l i hi,if_pos rfl]
 rfl
theorem CG{l:List Nat}{i j:Nat}(hi:i<l.length)(h:l.getD i 0<l.getD j 0∨(l.getD i 0=l.getD j 0∧i<j)):lie l i+pw (l.getD i 0)≤lie l j:=by
 rw[← wf hi]
 rcases h with h | ⟨h,h0⟩
 ·exact Nat.le_trans (n6 l h (i+1)) (lQ _ l (by omega))
 ·unfold lie
  rw[← h]
  exact lQ _ l (by omega)
theorem uk{l:List Nat}(h:fd l){i:Nat}(hi:i<l.length):lie l i+pw (l.getD i 0)≤jo l:=by
 rw[← wf hi]
 exact DY l h.high (h.one hi).2 _
theorem uK{l:List Nat}(h:fd l){i:Nat}(hi:i<l.length):dw l i<2 ^ l.getD i 0:=by
 have h1:=uk h hi
 have h2:=h.sum
 have h3:=ld h hi
 have h4:=x9 (h.one hi).2
 have h5:=eU (l.getD i 0)
 refine Nat.lt_of_mul_lt_mul_right (a:=pw (l.getD i 0)) ?_
 omega
theorem vw{l:List Nat}(h:fd l){i n:Nat}(hi:i<l.length)(hn:n≤l.getD i 0):dw l i / 2 ^ (l.getD i 0 - n)=lie l i / pw n:=by
 rw[dw,Nat.div_div_eq_div_mul,←iK hn (h.one hi).2]
theorem rC:∀(l:List Nat),pos 0 0 l=0
 | []=>rfl
 | x :: l=>by
   rw[pos,if_neg (show ¬(x<0∨(x=0∧0<0)) by omega),show(0 - 1:Nat)=0 from rfl,rC l]
def uA(l:List Nat)(p i:Nat):Prop:=i<l.length∧lie l i≤p∧p<lie l i+pw (l.getD i 0)
theorem vA(l:List Nat)(m p:Nat)(h0:p<pos m 0 l→∃i,uA l p i):∀k,k≤l.length→p<pos m k l→∃i,uA l p i
 | 0,_,h=>h0 h
 | k+1,hk,h=>by
   by_cases hp:p<pos m k l
   ·exact vA l m p h0 k (by omega) hp
   ·rw[jO m l k (by omega)]at h
    by_cases he:l.getD k 0=m
    ·rw[if_pos he]at h
     refine⟨k,by omega,?_,?_⟩
     ·rw[lie,he]
      omega
     ·rw[lie,he]
      exact h
    ·rw[if_neg he]at h
     omega
theorem r9(l:List Nat)(p:Nat):∀m,p<pos m 0 l→∃i,uA l p i
 | 0,h=>by
   rw[rC]at h
   omega
 | m+1,h=>vA l m p (r9 l p m) l.length (ah _) (by rw[k6 m l _ (ah _)];exact h)
theorem Dq{l:List Nat}(h:fd l){p:Nat}(hp:p<jo l):∃i,uA l p i:=by
 refine r9 l p 21 ?_
 rw[pS 21 l fun x hx=>by have:=h.high x hx;omega]
 exact hp
theorem FN{l:List Nat}{p i j:Nat}(hi:uA l p i)(hj:uA l p j):i=j:=by
 obtain⟨a1,a2,a3⟩:=hi
 obtain⟨b1,b2,b3⟩:=hj
 have key:∀{i j:Nat},i<l.length→j<l.length→(l.getD i 0<l.getD j 0∨(l.getD i 0=l.getD j 0∧i<j))→lie l j≤p→p<lie l i+pw (l.getD i 0)→False:=by
  intro i j hi _ ho h1 h2
  have:=CG hi ho
  omega
 by_cases he:i=j
 ·exact he
 ·exfalso
  by_cases h1:l.getD i 0<l.getD j 0∨(l.getD i 0=l.getD j 0∧i<j)
  ·exact key a1 b1 h1 b2 a3
  ·exact key b1 a1 (by omega) a2 b3
def Is(l:List Nat)(n v i:Nat):Prop:=i<l.length∧l.getD i 0=n∧dw l i=v
def ny(l:List Nat)(n v i:Nat):Prop:=i<l.length∧n≤l.getD i 0∧dw l i / 2 ^ (l.getD i 0 - n)=v
theorem Is.begin{l:List Nat}{n v i:Nat}(h:Is l n v i):ny l n v i:=by
 obtain⟨h1,h2,h3⟩:=h
 refine⟨h1,by omega,?_⟩
 rw[h2,Nat.sub_self,Nat.pow_zero,Nat.div_one,h3]
theorem ny.is{l:List Nat}{n v i:Nat}(h:ny l n v i)(hn:l.getD i 0=n):Is l n v i:=by
 obtain⟨h1,h2,h3⟩:=h
 refine⟨h1,hn,?_⟩
 rw[hn,Nat.sub_self,Nat.pow_zero,Nat.div_one]at h3
 exact h3
theorem it{l:List Nat}(h:fd l){n v i:Nat}(hb:ny l n v i):v*pw n≤lie l i∧lie l i+pw (l.getD i 0)≤(v+1)*pw n:=by
 obtain⟨h1,h2,h3⟩:=hb
 have h0:=(h.one h1).2
 rw[vw h h1 h2]at h3
 have hd:=Nat.div_add_mod (lie l i) (pw n)
 have hm:=Nat.mod_lt (lie l i) (eU n)
 rw[h3]at hd
 obtain⟨q,hq⟩:=mT (l.getD i 0) h0 l i
 have h4:lie l i=pw (l.getD i 0)*q:=hq
 have hs:=iK h2 h0
 refine⟨by rw[Nat.mul_comm];omega,?_⟩
 have h5:pw (l.getD i 0)*q<pw (l.getD i 0)*((v+1)*2 ^ (l.getD i 0 - n)):=by
  rw[← Nat.mul_assoc,Nat.mul_comm (pw _) (v+1),Nat.mul_assoc,←hs,←h4,Nat.add_mul,Nat.one_mul,Nat.mul_comm v]
  omega
 have h6:=Nat.lt_of_mul_lt_mul_left h5
 rw[h4,show pw (l.getD i 0)*q+pw (l.getD i 0)=pw (l.getD i 0)*(q+1) by rw[Nat.mul_add,Nat.mul_one],hs,Nat.mul_comm (v+1),Nat.mul_assoc,
  Nat.mul_comm (2 ^ _) (v+1)]
 exact Nat.mul_le_mul_left _ h6
theorem vf{l:List Nat}(h:fd l){n v i:Nat}(hi:i<l.length)(hn:n≤l.getD i 0)(h1:v*pw n≤lie l i)(h2:lie l i<(v+1)*pw n):ny l n v i:=by
 refine⟨hi,hn,?_⟩
 rw[vw h hi hn]
 refine Nat.div_eq_of_lt_le h1 h2
theorem vk{l:List Nat}(h:fd l){n v i m j:Nat}(hi:Is l n v i)(hm:n≤m){u:Nat}(hu:u / 2 ^ (m - n)=v)(h0:m≤20)(hj:ny l m u j):i=j:=by
 have a:=it h hi.begin
 have b:=it h hj
 have hp:=eU (l.getD j 0)
 have hq:=eU (l.getD i 0)
 have hs:=iK hm h0
 have hd:=Nat.div_add_mod u (2 ^ (m - n))
 have h1:=Nat.mod_lt u (Nat.two_pow_pos (m - n))
 rw[hu]at hd
 have e1:v*pw n≤u*pw m:=by
  rw[hs,Nat.mul_comm (pw m),←Nat.mul_assoc]
  refine Nat.mul_le_mul_right _ ?_
  rw[Nat.mul_comm]
  omega
 have e2:(u+1)*pw m≤(v+1)*pw n:=by
  rw[hs,Nat.mul_comm (pw m),←Nat.mul_assoc]
  refine Nat.mul_le_mul_right _ ?_
  rw[Nat.add_mul,Nat.one_mul,Nat.mul_comm v]
  omega
 refine FN (l:=l) (p:=lie l j) ⟨hi.1,?_,?_⟩ ⟨hj.1,Nat.le_refl _,by omega⟩
 ·have:=ld h hi.1
  rw[hi.2.1,hi.2.2]at this
  omega
 ·have:=ld h hi.1
  rw[hi.2.1,hi.2.2]at this
  rw[hi.2.1,←this,←Nat.succ_mul]
  have e3:lie l j<(u+1)*pw m:=by omega
  exact Nat.lt_of_lt_of_le e3 e2
theorem zv{l:List Nat}(h:fd l){n v:Nat}(hn:n≤20)(h0:∀k,k<n→∀i,¬Is l k (v / 2 ^ (n - k)) i):(∃ i,ny l n v i)↔v*pw n<jo l:=by
 constructor
 ·rintro⟨i,hi⟩
  have a:=it h hi
  have b:=uk h hi.1
  have:=eU (l.getD i 0)
  omega
 ·intro hp
  obtain⟨i,hi,h1,h2⟩:=Dq h hp
  refine⟨i,?_⟩
  have h6:=(h.one hi).2
  by_cases hk:l.getD i 0<n
  ·exfalso
   refine h0 _ hk i ⟨hi,rfl,?_⟩
   have hs:=iK (Nat.le_of_lt hk) hn
   rw[← ld h hi]at h1 h2
   rw[hs]at h1 h2
   symm
   have hc:∀c:Nat,c*(pw n*2 ^ (n - l.getD i 0))=(c*2 ^ (n - l.getD i 0))*pw n:=fun c=>by
    rw[Nat.mul_comm (pw n),Nat.mul_assoc]
   refine Nat.div_eq_of_lt_le ?_ ?_
   ·rw[hc]at h1
    exact Nat.le_of_mul_le_mul_right h1 (eU n)
   ·have h3:v*pw n<(dw l i+1)*(pw n*2 ^ (n - l.getD i 0)):=by
     rw[Nat.add_mul,Nat.one_mul]
     exact h2
    rw[hc]at h3
    exact Nat.lt_of_mul_lt_mul_right h3
  ·have hk:n≤l.getD i 0:=by omega
   have hs:=iK hk h6
   have hl:=ld h hi
   have he:lie l i=v*pw n:=by
    have hv:v*pw n=(v*2 ^ (l.getD i 0 - n))*pw (l.getD i 0):=by
     rw[hs,Nat.mul_assoc,Nat.mul_comm (2 ^ _)]
    rw[hv]at h1 h2 ⊢
    rw[← hl]at h1 h2 ⊢
    have h3:=Nat.le_of_mul_le_mul_right h1 (eU _)
    have h4:v*2 ^ (l.getD i 0 - n)*pw (l.getD i 0)<(dw l i+1)*pw (l.getD i 0):=by
     rw[Nat.add_mul,Nat.one_mul]
     exact h2
    have h5:=Nat.lt_of_mul_lt_mul_right h4
    rw[show dw l i=v*2 ^ (l.getD i 0 - n) by omega]
   refine vf h hi hk (by omega) ?_
   rw[he,Nat.add_mul,Nat.one_mul]
   have:=eU n
   omega
theorem va(bs:List Nat)(hb:aw bs){k n:Nat}(hk:k≤n)(hn:n≤bs.length):val (bs.take n) / 2 ^ (n - k)=val (bs.take k):=by
 have h1:bs.take n=bs.take k++(bs.take n).drop k:=by
  have:=List.take_append_drop k (bs.take n)
  rw[List.take_take,Nat.min_eq_left hk]at this
  exact this.symm
 have h2:((bs.take n).drop k).length=n - k:=by
  rw[List.length_drop,List.length_take]
  omega
 have h3:=iA _ ((hb.take n).drop k)
 rw[h2]at h3
 rw[h1,qP,h2,Nat.mul_comm,Nat.mul_add_div (Nat.two_pow_pos _),Nat.div_eq_of_lt h3,Nat.add_zero]
def lW(l:List Nat)(n v:Nat):Option Nat:=(List.range l.length).find? fun i=>l.getD i 0==n&&dw l i==v
theorem om{l:List Nat}{n v:Nat}(h:lW l n v=none):∀i,¬Is l n v i:=by
 rintro i ⟨h1,h2,h3⟩
 have:=List.find?_eq_none.1 h i (List.mem_range.2 h1)
 rw[h2,h3]at this
 simp at this
theorem kh{l:List Nat}{n v i:Nat}(h:lW l n v=some i):Is l n v i:=by
 have h1:=List.find?_some h
 have h2:=List.mem_of_find?_eq_some h
 simp only[Bool.and_eq_true,beq_iff_eq]at h1
 exact⟨List.mem_range.1 h2,h1.1,h1.2⟩
theorem ID{l:List Nat}(h:fd l){n v i j:Nat}(hi:Is l n v i)(hj:Is l n v j):i=j:=by
 refine vk h hi (Nat.le_refl n) (u:=v) (by rw[Nat.sub_self,Nat.pow_zero,Nat.div_one]) ?_ hj.begin
 have:=(h.one hi.1).2
 rw[hi.2.1]at this
 exact this
theorem tL{l:List Nat}(h:fd l){n v i:Nat}(hi:Is l n v i):lW l n v=some i:=by
 cases he:lW l n v with
 | none=>exact absurd hi (om he i)
 | some j=>rw[ID h hi (kh he)]
inductive Nx where
 | hit (i:Nat)
 | short
 | code
def fz(l bs:List Nat):Nat→Nat→Nx
 | 0,_=>.code
 | k+1,n=>if bs.length<n then .short else match lW l n (val (bs.take n))with
   | some i=>.hit i
   | none=>if val (bs.take n)*pw n<jo l then fz l bs k (n+1)else .code
def i1(l bs:List Nat):Nx:=fz l bs 20 1
def tT(l bs:List Nat)(n:Nat):Prop:=∀k,1≤k→k<n→∀i,¬Is l k (val (bs.take k)) i
theorem tT.up{l bs:List Nat}{n:Nat}(h:tT l bs n)(h1:lW l n (val (bs.take n))=none):tT l bs (n+1):=by
 intro k hk h0 i
 by_cases he:k=n
 ·subst he
  exact om h1 i
 ·exact h k hk (by omega) i
theorem Cs{l:List Nat}(h:fd l)(v i:Nat):¬Is l 0 v i:=by
 rintro⟨h1,h2,_⟩
 have:=(h.one h1).1
 omega
theorem o4{l bs:List Nat}(h:fd l)(hb:aw bs){n:Nat}(hn:n≤bs.length)(h1:n≤20)(hc:tT l bs n):
 (∃ i,ny l n (val (bs.take n)) i)↔val (bs.take n)*pw n<jo l:=by
 refine zv h h1 fun k hk i=> ?_
 rw[va bs hb (Nat.le_of_lt hk) hn]
 by_cases h0:k=0
 ·subst h0
  exact Cs h _ i
 ·exact hc k (by omega) hk i
theorem tR{l bs:List Nat}(h:fd l)(hb:aw bs){i:Nat}(hi:i<l.length)(hl:l.getD i 0≤bs.length)(hv:val (bs.take (l.getD i 0))=dw l i):
 ∀k n,n≤l.getD i 0→l.getD i 0<n+k→fz l bs k n=.hit i
 | 0,n,h1,h2=>by omega
 | k+1,n,h1,h2=>by
   have h0:Is l (l.getD i 0) (val (bs.take (l.getD i 0))) i:=⟨hi,rfl,hv.symm⟩
   rw[fz,if_neg (by omega)]
   by_cases he:n=l.getD i 0
   ·subst he
    rw[tL h h0]
   ·have h5:n<l.getD i 0:=by omega
    have h3:ny l n (val (bs.take n)) i:=by
     refine⟨hi,h1,?_⟩
     rw[← hv,va bs hb h1 hl]
    cases hj:lW l n (val (bs.take n))with
    | some j=>
      exfalso
      have h4:=vk h (kh hj) h1 (va bs hb h1 hl) (h.one hi).2 h0.begin
      have:=(kh hj).2.1
      rw[h4]at this
      omega
    | none=>
      have a:=it h h3
      have b:=uk h hi
      have:=eU (l.getD i 0)
      show(if _<_ then _ else _)=_
      rw[if_pos (by omega)]
      exact tR h hb hi hl hv k (n+1) (by omega) (by omega)
theorem EV{l bs:List Nat}(h:fd l)(hb:aw bs){i:Nat}(hi:i<l.length)(hl:l.getD i 0≤bs.length)(hv:val (bs.take (l.getD i 0))=dw l i):
 i1 l bs=.hit i:=tR h hb hi hl hv 20 1 (h.one hi).1 (by have:=(h.one hi).2;omega)
def dU(l:List Nat)(i:Nat):List Nat:=aj (dw l i) (l.getD i 0)
theorem CR{l:List Nat}(h:fd l){i:Nat}(hi:i<l.length)(rest:List Nat)(hr:aw rest):i1 l (dU l i++rest)=.hit i:=by
 have h0:(dU l i).length=l.getD i 0:=af _ _
 have hb:aw (dU l i++rest):=aw.append (aJ _ _) hr
 have ht:(dU l i++rest).take (l.getD i 0)=dU l i:=List.take_left' h0
 refine EV (bs:=dU l i++rest) h hb hi (by rw[List.length_append,h0];omega) ?_
 rw[ht,dU,dD,Nat.mod_eq_of_lt (uK h hi)]
theorem rG{l bs:List Nat}{i:Nat}:∀k n,fz l bs k n=.hit i→l.getD i 0≤bs.length∧Is l (l.getD i 0) (val (bs.take (l.getD i 0))) i
 | 0,n,h=>by simp[fz]at h
 | k+1,n,h=>by
   rw[fz]at h
   by_cases hn:bs.length<n
   ·rw[if_pos hn]at h
    cases h
   ·rw[if_neg hn]at h
    cases hj:lW l n (val (bs.take n))with
    | some j=>
      rw[hj]at h
      have h0:j=i:=by
       injection h
      subst h0
      have h2:=kh hj
      have h3:=h2.2.1
      subst h3
      exact⟨by omega,h2⟩
    | none=>
      rw[hj]at h
      by_cases hs:val (bs.take n)*pw n<jo l
      ·have h':fz l bs k (n+1)=.hit i:=by
        rw[← h]
        exact(if_pos hs).symm
       exact rG k (n+1) h'
      ·have h':Nx.code=.hit i:=by
        rw[← h]
        exact(if_neg hs).symm
       cases h'
def nl(L:List Int):List Nat:=L.map Int.toNat
theorem bI(L:List Int):(nl L).length=L.length:=List.length_map _
theorem qY(L:List Int)(i:Nat):(nl L).getD i 0=(L.getD i 0).toNat:=by
 unfold nl
 rw[List.getD_eq_getElem?_getD,List.getD_eq_getElem?_getD,List.getElem?_map]
 cases L[i]? <;>rfl
theorem Iy(L:List Int):jo (nl L)=cP L:=by
 unfold jo nl cP pw
 rw[List.map_map]
 rfl
theorem fU{L:List Int}(h:bL L):fd (nl L):=by
 obtain⟨_,_,h3,h4⟩:=h
 refine⟨fun x hx=> ?_,fun x hx=> ?_,by rw[Iy];exact h4⟩
 ·obtain⟨y,hy,rfl⟩:=List.mem_map.1 hx
  have:=h3 y hy
  omega
 ·obtain⟨y,hy,rfl⟩:=List.mem_map.1 hx
  have:=h3 y hy
  omega
def cd(l:List Nat)(n i:Nat):Nat:=pos n i l / pw n
theorem Ij{l:List Nat}{n i:Nat}(hi:i<l.length)(h:l.getD i 0=n):cd l n (i+1)=cd l n i+1:=by
 unfold cd
 rw[jO n l i hi,if_pos h,Nat.add_div_right _ (eU n)]
theorem G1{l:List Nat}{n i:Nat}(hi:i<l.length)(h:l.getD i 0≠n):cd l n (i+1)=cd l n i:=by
 unfold cd
 rw[jO n l i hi,if_neg h,Nat.add_zero]
theorem GF{l:List Nat}{n i:Nat}(h:l.getD i 0=n):cd l n i=dw l i:=by
 unfold cd dw lie
 rw[h]
theorem IT{l:List Nat}{n i:Nat}(hi:l.length≤i)(hn:n<20):cd l (n+1) 0=2*cd l n i:=by
 unfold cd
 rw[← k6 n l i hi]
 have h1:=iK (n:=n) (x:=n+1) (by omega) (by omega)
 rw[show n+1 - n=1 by omega,Nat.pow_one]at h1
 obtain⟨k,hk⟩:=mT n (by omega) l i
 have hp:=eU n
 have h0:=eU (n+1)
 rw[hk,Nat.mul_div_cancel_left k hp,h1,Nat.mul_assoc,Nat.mul_div_cancel_left _ h0]
theorem IR{l:List Nat}(h:fd l){n:Nat}(hn:n≤20)(i:Nat):cd l n i≤1048576:=by
 unfold cd
 have h1:=DY l h.high hn i
 have h2:=h.sum
 exact Nat.le_trans (Nat.div_le_self _ _) (by omega)
def kH(l:List Nat)(list:List Int):List Nat:=list.flatMap fun x=>dU l x.toNat
theorem BL(l:List Nat)(a:List Int)(x:Int):kH l (a++ [x])=kH l a++dU l x.toNat:=by
 unfold kH
 rw[List.flatMap_append]
 simp
def kX(L list:List Int):List Nat×Nat:=if bL L then(if ∀x∈list,0≤x∧x<(L.length:Int)then(kH (nl L) list,0)else([],60))else([],80)
def fk(l bs:List Nat)(en:Int):Nat→Nat→List Nat→List Nat×Nat×Nat
 | 0,at',out=>(out,at',0)
 | k+1,at',out=>match i1 l (bs.drop at')with
   | .hit i=>if(i:Int)=en then(out++ [i],at'+l.getD i 0,0)else fk l bs en k (at'+l.getD i 0) (out++ [i])
   | .short=>([],0,10)
   | .code=>([],0,90)
def eV(L:List Int)(bs:List Nat)(at' n en:Int):List Nat×Nat×Nat:=if bL L then(if at'<0∨(bs.length:Int)<at'∨n<0 then([],0,2)else fk (nl L) bs en n.toNat at'.toNat [])else([],0,80)
theorem xh(l:List Nat)(i:Nat):aw (dU l i):=aJ _ _
theorem gJ(l:List Nat)(i:Nat):(dU l i).length=l.getD i 0:=af _ _
def DOk(L:List Int):Prop:=2≤L.length∧L.length≤258∧∀x∈L,1≤x∧x≤20
instance (L:List Int):Decidable (DOk L):=inferInstanceAs (Decidable (_∧_))
def ups:Nat→List Nat
 | 0=> []
 | k+1=>1 :: 0 :: ups k
def ga:Nat→List Nat
 | 0=> []
 | k+1=>1 :: 1 :: ga k
theorem vS:∀k,ups (k+1)=ups k++ [1,0]
 | 0=>rfl
 | k+1=>by
   show 1 :: 0 :: ups (k+1)=1 :: 0 :: ups k++ [1,0]
   rw[vS k]
   rfl
theorem ry:∀k,ga (k+1)=ga k++ [1,1]
 | 0=>rfl
 | k+1=>by
   show 1 :: 1 :: ga (k+1)=1 :: 1 :: ga k++ [1,1]
   rw[ry k]
   rfl
theorem iQ:∀k,(ups k).length=2*k
 | 0=>rfl
 | k+1=>by
   show(ups k).length+1+1=_
   rw[iQ k]
   omega
theorem gQ:∀k,(ga k).length=2*k
 | 0=>rfl
 | k+1=>by
   show(ga k).length+1+1=_
   rw[gQ k]
   omega
theorem AR:∀k,aw (ups k)
 | 0=>fun b hb=>by cases hb
 | k+1=>fun b hb=>by
   rcases List.mem_cons.1 hb with rfl | hb
   ·omega
   ·rcases List.mem_cons.1 hb with rfl | hb
    ·omega
    ·exact AR k b hb
theorem sL:∀k,aw (ga k)
 | 0=>fun b hb=>by cases hb
 | k+1=>fun b hb=>by
   rcases List.mem_cons.1 hb with rfl | hb
   ·omega
   ·rcases List.mem_cons.1 hb with rfl | hb
    ·omega
    ·exact sL k b hb
def fs(a x:Nat):List Nat:=ups (x - a)++ga (a - x)++ [0]
theorem j9(a x:Nat):(fs a x).length=2*((x - a)+(a - x))+1:=by
 unfold fs
 rw[List.length_append,List.length_append,iQ,gQ]
 show _+1=_
 omega
theorem Dj(a x:Nat):aw (fs a x):=by
 refine((AR _).append (sL _)).append ?_
 intro b hb
 rw[List.mem_singleton.1 hb]
 omega
def bz:Nat→List Nat→List Nat
 | _, []=> []
 | a,x :: l=>fs a x++bz x l
theorem p7:∀(l:List Nat) (a:Nat),aw (bz a l)
 | [],_=>fun b hb=>by cases hb
 | x :: l,a=>(Dj a x).append (p7 l x)
def ml(l:List Nat)(i:Nat):Nat:=l.getD (i - 1) 0
theorem oL:∀(l:List Nat) (a x:Nat),bz a (l++ [x])=bz a l++fs (match l.getLast? with | some y=>y | none=>a) x
 | [],a,x=>by simp[bz]
 | y :: l,a,x=>by
   show fs a y++bz y (l++ [x])=(fs a y++bz y l)++_
   rw[oL l y x,List.append_assoc]
   congr 2
   cases l with
   | nil=>rfl
   | cons z l=>rfl
theorem vD{l:List Nat}{i:Nat}(hi:i<l.length):bz (l.getD 0 0) (l.take (i+1))=bz (l.getD 0 0) (l.take i)++fs (ml l i) (l.getD i 0):=by
 rw[List.take_succ_eq_append_getElem hi,oL]
 congr 2
 ·cases i with
  | zero=>rfl
  | succ k=>
    rw[List.getLast?_take]
    unfold ml
    have e:l.getD k 0=l[k]:=by
     rw[List.getD_eq_getElem?_getD,List.getElem?_eq_getElem (by omega)]
     rfl
    rw[if_neg (by omega),Nat.add_sub_cancel,List.getElem?_eq_getElem (by omega),e]
    rfl
 ·rw[List.getD_eq_getElem?_getD,List.getElem?_eq_getElem hi]
  rfl
def aX(l:List Nat):List Nat:=aj (l.getD 0 0) 5++bz (l.getD 0 0) l
theorem tu(l:List Nat):aw (aX l):=(aJ _ _).append (p7 _ _)
def iX(L:List Int):List Nat×Nat:=if DOk L then(aX (nl L),0)else([],80)
def tz:Nat→List Nat→Nat
 | _, []=>0
 | a,x :: l=>(x - a)+(a - x)+tz x l
theorem jq:∀(l:List Nat) (a:Nat),(bz a l).length=l.length+2*tz a l
 | [],_=>rfl
 | x :: l,a=>by
   show(fs a x++bz x l).length=(l.length+1)+2*((x - a)+(a - x)+tz x l)
   rw[List.length_append,j9,jq l x]
   omega
theorem uw(l:List Nat):(aX l).length=5+l.length+2*tz (l.getD 0 0) l:=by
 unfold aX
 rw[List.length_append,af,jq]
 omega
theorem qI:∀(l:List Nat) (a:Nat),a≤20→(∀ x∈l,x≤20)→tz a l≤20*l.length
 | [],_,_,_=>Nat.le_refl _
 | x :: l,a,ha,h=>by
   have hx:=h x (List.mem_cons_self ..)
   have:=qI l x hx fun y hy=>h y (List.mem_cons_of_mem _ hy)
   show(x - a)+(a - x)+tz x l≤20*(l.length+1)
   omega
def bB:List Nat→Nat→Nat→Nat→List Nat→List Nat×Nat×Nat
 | _,_,0,p,out=>(out,p,0)
 | [],now,_+1,_,_=>if now<1∨20<now then([],0,80)else([],0,10)
 | [b],now,n+1,p,out=>if now<1∨20<now then([],0,80)else if b=0 then(if n=0 then(out++ [now],p+1,0)else([],0,10))else([],0,10)
 | b :: d :: bs,now,n+1,p,out=>if now<1∨20<now then([],0,80)else if b=0 then bB (d :: bs) now n (p+1) (out++ [now])else bB bs (if d=0 then now+1 else now - 1) (n+1) (p+2) out
theorem fD(bs:List Nat)(now p:Nat)(out:List Nat):bB bs now 0 p out=(out,p,0):=by
 cases bs with
 | nil=>rfl
 | cons b bs=>cases bs <;>rfl
theorem ie(bs:List Nat)(now n p:Nat)(out:List Nat)(h:now<1∨20<now):bB bs now (n+1) p out=([],0,80):=by
 cases bs with
 | nil=>exact if_pos h
 | cons b bs=>
   cases bs with
   | nil=>exact if_pos h
   | cons d bs=>rw[bB,if_pos h]
theorem jI(now n p:Nat)(out:List Nat)(h:¬(now<1∨20<now)):bB [] now (n+1) p out=([],0,10):=if_neg h
theorem iE(bs:List Nat)(now n p:Nat)(out:List Nat)(h:¬(now<1∨20<now)):bB (0 :: bs) now (n+1) p out=bB bs now n (p+1) (out++ [now]):=by
 cases bs with
 | nil=>
   rw[bB,if_neg h,if_pos rfl]
   cases n with
   | zero=>rw[if_pos rfl,fD]
   | succ n=>rw[if_neg (by omega),jI _ _ _ _ h]
 | cons d bs=>rw[bB,if_neg h,if_pos rfl]
theorem lE(b now n p:Nat)(out:List Nat)(h:¬(now<1∨20<now))(hb:b≠0):bB [b] now (n+1) p out=([],0,10):=by
 rw[bB,if_neg h,if_neg hb]
theorem fN(b d:Nat)(bs:List Nat)(now n p:Nat)(out:List Nat)(h:¬(now<1∨20<now))(hb:b≠0):bB (b :: d :: bs) now (n+1) p out=bB bs (if d=0 then now+1 else now - 1) (n+1) (p+2) out:=by
 rw[bB,if_neg h,if_neg hb]
def aE(bits:List Nat)(at' n:Int):List Nat×Nat×Nat:=
 if at'<0∨(bits.length:Int)<at'∨n<2∨258<n then([],0,2)
 else if bits.length<at'.toNat+5 then([],0,10)
 else bB (bits.drop (at'.toNat+5)) (val ((bits.drop at'.toNat).take 5)) n.toNat (at'.toNat+5) []
theorem wN:∀(k:Nat) (rest:List Nat) (now n p:Nat) (out:List Nat),1≤now→now+k≤20→bB (ups k++rest) now (n+1) p out=bB rest (now+k) (n+1) (p+2*k) out
 | 0,rest,now,n,p,out,_,_=>rfl
 | k+1,rest,now,n,p,out,h1,h2=>by
   show bB (1 :: 0 :: (ups k++rest)) now (n+1) p out=_
   rw[fN _ _ _ _ _ _ _ (by omega) (by omega),if_pos rfl,wN k rest (now+1) n (p+2) out (by omega) (by omega)]
   rw[show now+1+k=now+(k+1) by omega,show p+2+2*k=p+2*(k+1) by omega]
theorem rg:∀(k:Nat) (rest:List Nat) (now n p:Nat) (out:List Nat),k+1≤now→now≤20→bB (ga k++rest) now (n+1) p out=bB rest (now - k) (n+1) (p+2*k) out
 | 0,rest,now,n,p,out,_,_=>rfl
 | k+1,rest,now,n,p,out,h1,h2=>by
   show bB (1 :: 1 :: (ga k++rest)) now (n+1) p out=_
   rw[fN _ _ _ _ _ _ _ (by omega) (by omega),if_neg (by omega),rg k rest (now - 1) n (p+2) out (by omega) (by omega)]
   rw[show now - 1 - k=now - (k+1) by omega,show p+2+2*k=p+2*(k+1) by omega]
theorem D7(a x:Nat)(rest:List Nat)(n p:Nat)(out:List Nat)(ha:1≤a∧a≤20)(hx:1≤x∧x≤20):bB (fs a x++rest) a (n+1) p out=bB rest x n (p+(fs a x).length) (out++ [x]):=by
 have e:fs a x++rest=ups (x - a)++(ga (a - x)++(0 :: rest)):=by
  unfold fs
  simp
 have hl:=j9 a x
 rw[e,wN _ _ _ _ _ _ ha.1 (by omega),rg _ _ _ _ _ _ (by omega) (by omega),show a+(x - a) - (a - x)=x by omega,iE _ _ _ _ _ (by omega)]
 rw[show p+2*(x - a)+2*(a - x)+1=p+(fs a x).length by omega]
theorem qR:∀(l:List Nat) (a:Nat) (rest:List Nat) (p:Nat) (out:List Nat),(1≤a∧a≤20)→(∀ x∈l,1≤x∧x≤20)→bB (bz a l++rest) a l.length p out=(out++l,p+(bz a l).length,0)
 | [],a,rest,p,out,_,_=>by
   rw[List.length_nil,fD]
   simp[bz]
 | x :: l,a,rest,p,out,ha,h=>by
   have hx:=h x (List.mem_cons_self ..)
   show bB (fs a x++bz x l++rest) a (l.length+1) p out=(out++x :: l,p+(fs a x++bz x l).length,0)
   rw[List.append_assoc,D7 a x _ _ _ _ ha hx,qR l x rest _ _ hx fun y hy=>h y (List.mem_cons_of_mem _ hy),List.length_append]
   simp[Nat.add_assoc]
theorem vB{l:List Nat}(h0:0<l.length)(h:∀x∈l,1≤x∧x≤20):1≤l.getD 0 0∧l.getD 0 0≤20:=by
 refine h _ ?_
 rw[List.getD_eq_getElem?_getD,List.getElem?_eq_getElem h0]
 exact List.getElem_mem h0
theorem Fw{x:Nat}(h:x≤20)(rest:List Nat):val ((aj x 5++rest).take 5)=x:=by
 rw[List.take_left' (af 5 x),dD,Nat.mod_eq_of_lt (by omega)]
theorem oD{l:List Nat}(h2:2≤l.length)(h0:l.length≤258)(h:∀x∈l,1≤x∧x≤20)(pre eT rest:List Nat)(hm:∀bs n p,bB (eT++bs) (l.getD 0 0) (n+1) p []=bB bs (l.getD 0 0) (n+1) (p+eT.length) []):
 aE (pre++(aj (l.getD 0 0) 5++(eT++(bz (l.getD 0 0) l++rest)))) (pre.length:Nat) (l.length:Nat)=(l,pre.length+(aX l).length+eT.length,0):=by
 have hf:=vB (by omega) h
 have h1:(pre++(aj (l.getD 0 0) 5++(eT++(bz (l.getD 0 0) l++rest)))).length=pre.length+5+eT.length+(bz (l.getD 0 0) l).length+rest.length:=by
  simp only[List.length_append,af]
  omega
 unfold aE
 rw[if_neg (by omega),Int.toNat_natCast,Int.toNat_natCast,if_neg (by omega),List.drop_left,Fw hf.2]
 have hd:(pre++(aj (l.getD 0 0) 5++(eT++(bz (l.getD 0 0) l++rest)))).drop (pre.length+5)=eT++(bz (l.getD 0 0) l++rest):=by
  rw[← List.drop_drop,List.drop_left,List.drop_left' (af 5 _)]
 rw[hd]
 obtain⟨n,hn⟩:∃n,l.length=n+1:=⟨l.length - 1,by omega⟩
 rw[hn,hm,←hn,qR l _ rest _ _ hf h]
 have e:pre.length+5+eT.length+(bz (l.getD 0 0) l).length=pre.length+(aX l).length+eT.length:=by
  rw[aX,List.length_append,af]
  omega
 rw[e]
 rfl
open Go.RowKit
theorem Gl:(Tryz.prog.info? 36).map (fun i=>(i.zero,i.size,i.bytes))=some (some (.slice none 0 0),1,24):=by kernel_rfl
def Ac(w:World)(g n:Nat)(C:Nat→List Nat):Prop:=∀j,j<n→∃A k,w.cell? ⟨g,j,none⟩=some (.slice A (C j).length k)∧aT w A (C j).length (C j)∧(C j).length≤k
theorem Ac.below{w w':World}{g n:Nat}{C:Nat→List Nat}(h:Ac w g n C)(hb:Below w.heap.size w w'):Ac w' g n C:=by
 intro j hj
 obtain⟨A,k,h1,h2,h3⟩:=h j hj
 exact⟨A,k,(hb.cell (p:=⟨g,j,none⟩) (World.block_lt_of_cell? w _ h1)).trans h1,cU h2 hb,h3⟩
def gw(w:World)(B g n:Nat)(C:Nat→List Nat):Prop:=∃F:Nat→Value,w.ownsRow B 36 1 (.slice (some ⟨g,0,none⟩) n n) n ((List.range n).map F)∧
 ∀j,j<n→∃A k,F j=.slice A (C j).length k∧(C j).length≤k∧w.ownsRow B 3 1 (F j) (C j).length ((C j).map iv)
theorem gw.same{w:World}{B g n:Nat}{C D:Nat→List Nat}(h:gw w B g n C)(hs:∀j,j<n→C j=D j):gw w B g n D:=by
 obtain⟨F,h1,h2⟩:=h
 refine⟨F,h1,fun j hj=> ?_⟩
 rw[← hs j hj]
 exact h2 j hj
theorem gw.read{w:World}{B g n:Nat}{C:Nat→List Nat}(h:gw w B g n C):Ac w g n C:=by
 obtain⟨F,h1,h2⟩:=h
 intro j hj
 obtain⟨A,k,a,b,c⟩:=h2 j hj
 refine⟨A,k,?_,?_,b⟩
 ·rw[World.ownsRow.cellAt h1 j (by omega),List.getElem?_map,List.getElem?_range hj,←a]
  rfl
 ·rw[a]at c
  exact bR c
theorem gw.frozen{w:World}{B g n:Nat}{C:Nat→List Nat}(h:gw w B g n C)(i:Nat):w.frozen? ⟨g,i,none⟩=false:=by
 obtain⟨F,h1,_⟩:=h
 exact World.ownsRow.frozenAt h1 i
theorem gw.there{w:World}{B g n:Nat}{C:Nat→List Nat}(h:gw w B g n C)(i:Nat)(hi:i<n):∃v,w.cell? ⟨g,i,none⟩=some v:=by
 obtain⟨A,k,h1,_⟩:=h.read i hi
 exact⟨_,h1⟩
def dB(w:World)(ans:List Nat×Nat)(e:Ending)(w':World):Prop:=∃v,e=.returned (.tuple #[v,.int .i64 ans.2])∧w'.ownsRow w.heap.size 3 1 v ans.1.length (ans.1.map iv)∧Below w.heap.size w w'
theorem pO{L:List Int}{j:Nat}(h:j<L.length):L.getD j 0∈L:=by
 rw[List.getD_eq_getElem?_getD,List.getElem?_eq_getElem h]
 exact List.getElem_mem h
theorem pY{L:List Nat}{j:Nat}(h:j<L.length):L.getD j 0∈L:=by
 rw[List.getD_eq_getElem?_getD,List.getElem?_eq_getElem h]
 exact List.getElem_mem h
theorem sK(L:List Int)(q:Nat)(h:q<L.length):L.take (q+1)=L.take q++ [L.getD q 0]:=by
 rw[List.take_succ_eq_append_getElem h,List.getD_eq_getElem?_getD,List.getElem?_eq_getElem h]
 rfl
def aW(w:World)(ans:List Nat×Nat)(e:Ending)(w':World):Prop:=e=.returned (.tuple #[.agg #[.string ⟨(aG ans.1).toArray⟩,.int .i64 ans.1.length],.int .i64 ans.2])∧Below w.heap.size w w'
theorem Au{L:List Int}(h:DOk L):∀x∈nl L,1≤x∧x≤20:=by
 intro x hx
 obtain⟨y,hy,rfl⟩:=List.mem_map.1 hx
 have:=h.2.2 y hy
 omega
theorem ym(L:List Int):(iX L).1.length≤11000:=by
 unfold iX
 split
 ·rename_i h
  have hn:=Au h
  have h1:=uw (nl L)
  have h2:=vB (l:=nl L) (by rw[bI];have:=h.1;omega) hn
  have h3:=qI (nl L) ((nl L).getD 0 0) h2.2 fun x hx=>(hn x hx).2
  rw[bI]at h1 h3
  have:=h.2.1
  show(aX (nl L)).length≤11000
  omega
 ·exact Nat.zero_le _
def bu(w:World)(ans:List Nat×Nat×Nat)(e:Ending)(w':World):Prop:=∃v,e=.returned (.tuple #[v,.int .i64 ans.2.1,.int .i64 ans.2.2])∧w'.ownsRow w.heap.size 3 1 v ans.1.length (ans.1.map iv)∧Below w.heap.size w w'
theorem xi{L:List Nat}{p:Nat}(h:p<L.length):L.drop p=L.getD p 0 :: L.drop (p+1):=by
 rw[List.drop_eq_getElem_cons h,List.getD_eq_getElem?_getD,List.getElem?_eq_getElem h]
 rfl
theorem xX{l bs:List Nat}{q k:Nat}(h:bs.length<q):fz l bs (k+1) q=.short:=by
 rw[fz,if_pos h]
theorem E7{l bs:List Nat}{q k i:Nat}(h:¬bs.length<q)(hi:lW l q (val (bs.take q))=some i):fz l bs (k+1) q=.hit i:=by
 rw[fz,if_neg h,hi]
theorem qj{l bs:List Nat}{q k:Nat}(h:¬bs.length<q)(hi:lW l q (val (bs.take q))=none):fz l bs (k+1) q=if val (bs.take q)*pw q<jo l then fz l bs k (q+1)else .code:=by
 rw[fz,if_neg h,hi]
theorem ra{l:List Nat}(h:fd l){i:Nat}(hi:i<l.length):dw l i<1048576:=by
 have h1:=uK h hi
 have h2:=(h.one hi).2
 have h3:2 ^ l.getD i 0≤2 ^ 20:=Nat.pow_le_pow_right (by decide) h2
 have h4:(2:Nat) ^ 20=1048576:=by decide
 omega
theorem oE(l bs:List Nat)(en:Int)(k a:Nat)(o:List Nat):fk l bs en (k+1) a o=match i1 l (bs.drop a)with
 | .hit i=>if(i:Int)=en then(o++ [i],a+l.getD i 0,0)else fk l bs en k (a+l.getD i 0) (o++ [i])
 | .short=>([],0,10)
 | .code=>([],0,90):=rfl
end Go.Proofs.YthakcjehhlpjnaaGreat
