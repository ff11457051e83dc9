import Derived.Test.YtfhgikojdfblpaaGreatM00
import Derived.Lib.AppendZeros
set_option maxHeartbeats 1600000
set_option maxRecDepth 100000
namespace Go.Proofs.YtfhgikojdfblpaaGreat.S05
open _root_.Go.Proofs.Tryz
def rat(s:List UInt8)(k:Nat):UInt8:=s.getD (k%s.length) 0
def dU(s:List UInt8)(i:Nat):List UInt8:=s.drop i++s.take i
theorem cQ(s:List UInt8)(i:Nat):(dU s i).length=s.length:=by rw[dU,Nb,Ny,NB];omega
theorem yw(s:List UInt8)(k:Nat):rat s (k%s.length)=rat s k:=by unfold rat;rw[Nat.mod_mod]
theorem sM(s:List UInt8)(i k:Nat):rat s (i+k%s.length)=rat s (i+k):=by unfold rat;rw[Nat.add_mod_mod]
theorem nR(s:List UInt8)(k:Nat):rat s (k+s.length)=rat s k:=by unfold rat;rw[Nat.add_mod_right]
theorem uO(s:List UInt8)(k:Nat)(h:k<s.length):s[k]? =some (rat s k):=by unfold rat;rw[NL h,Na,Nc h];rfl
theorem eF(s:List UInt8)(i k:Nat)(hi:i<=s.length)(hk:k<s.length):(dU s i)[k]? =some (rat s (i+k)):=by
 unfold dU;by_cases h:k<s.length-i;·rw[NW (by rw[Ny];exact h),O3,uO s (i+k) (by omega)]
 ·rw[NO (by rw[Ny];omega),Ny,Pt (by omega),uO s (k-(s.length-i)) (by omega)];have:=nR s (k-(s.length-i));rw[<- this,show k-(s.length-i)+s.length=i+k by omega]
theorem yA(s:List UInt8)(i j:Nat)(hi:i<=s.length)(hj:j<=s.length):dU s i=dU s j↔∀k,rat s (i+k)=rat s (j+k):=by
 constructor
 ·intro h k;by_cases h0:s.length=0;·have:s= []:=Nq h0;subst this;simp[rat]
  ·have hk:k%s.length<s.length:=Po _ (by omega);have h1:=eF s i (k%s.length) hi hk;rw[h,eF s j (k%s.length) hj hk,sM,sM]at h1;exact(On h1).symm
 ·intro h;apply Ob;intro k;by_cases hk:k<s.length;·rw[eF s i k hi hk,eF s j k hj hk,h k]
  ·rw[Nw (by rw[cQ];omega),Nw (by rw[cQ];omega)]
theorem G0(s:List UInt8):dU s 0=s:=by simp[dU]
def RLt(s:List UInt8)(i j:Nat):Prop:=dU s i<dU s j\/(dU s i=dU s j/\i<j)
instance (s:List UInt8) (i j:Nat):Decidable (RLt s i j):=inferInstanceAs (Decidable (_\/_))
theorem RLt.irrefl(s:List UInt8)(i:Nat):¬RLt s i i:=by
 rintro(h|⟨_,h⟩);·exact List.lt_irrefl _ h
 ·exact Rc _ h
theorem RLt.trans{s:List UInt8}{i j k:Nat}(h1:RLt s i j)(h2:RLt s j k):RLt s i k:=by
 rcases h1 with h1|⟨e1,h1⟩ <;>rcases h2 with h2|⟨e2,h2⟩;·exact .inl (List.lt_trans h1 h2)
 ·exact .inl (e2 ▸ h1)
 ·exact .inl (e1 ▸ h2)
 ·exact .inr ⟨e1.trans e2,Nat.lt_trans h1 h2⟩
theorem RLt.total(s:List UInt8)(i j:Nat)(h:i≠j):RLt s i j\/RLt s j i:=by
 by_cases h1:dU s i<dU s j;·exact .inl (.inl h1)
 ·by_cases h2:dU s j<dU s i;·exact .inr (.inl h2)
  ·have e:dU s i=dU s j:=List.le_antisymm (List.not_lt.1 h2) (List.not_lt.1 h1);rcases Nat.lt_or_gt_of_ne h with h3|h3;·exact .inl (.inr ⟨e,h3⟩)
   ·exact .inr (.inr ⟨e.symm,h3⟩)
def ep(s:List UInt8)(L:List Nat):Prop:=L.Pairwise (RLt s)/\∀i,i∈L↔i<s.length
theorem vf{s:List UInt8}:∀{L M:List Nat},L.Pairwise (RLt s)->M.Pairwise (RLt s)->(∀ i,i∈L↔i∈M)->L=M
 | [],M,_,_,h=>by
  cases M with
  | nil=>rfl
  | cons b M=>exact absurd ((h b).2 Nh) aw
 | a::L,M,hL,hM,h=>by
  cases M with
  | nil=>exact absurd ((h a).1 Nh) aw
  | cons b M=>
   rw[List.pairwise_cons]at hL hM;have h0:a=b:=by
    by_cases e:a=b;·exact e
    ·have h1:a∈M:=by
      rcases List.mem_cons.1 ((h a).1 Nh)with h1|h1;·exact absurd h1 e
      ·exact h1
     have h2:b∈L:=by
      rcases List.mem_cons.1 ((h b).2 Nh)with h2|h2;·exact absurd h2.symm e
      ·exact h2
     exact absurd ((hM.1 a h1).trans (hL.1 b h2)) (RLt.irrefl s b)
   subst h0;congr 1;refine vf hL.2 hM.2 fun i=> ?_;constructor
   ·intro hi;rcases List.mem_cons.1 ((h i).1 (Nm _ hi))with e|h1;·exact absurd (e ▸ hL.1 i hi) (RLt.irrefl s a)
    ·exact h1
   ·intro hi;rcases List.mem_cons.1 ((h i).2 (Nm _ hi))with e|h1;·exact absurd (e ▸ hM.1 i hi) (RLt.irrefl s a)
    ·exact h1
theorem Gk{s:List UInt8}{L M:List Nat}(h:ep s L)(k:ep s M):L=M:=vf h.1 k.1 fun i=>(h.2 i).trans (k.2 i).symm
theorem iL{s:List UInt8}{L:List Nat}(h:ep s L):L.Nodup:=h.1.imp fun {a b} hab e=>by
 subst e
 exact RLt.irrefl s a hab
theorem dM{s:List UInt8}{L:List Nat}(h:ep s L):L.length=s.length:=by (have hp:L.Perm (List.range s.length):=(Pm (iL h) OD).2 fun i=>by rw[h.2 i,Qu]);rw[hp.length_eq,NE]
theorem sj{s:List UInt8}{L:List Nat}(h:L.Pairwise (RLt s))(hm:L.Perm (List.range s.length)):ep s L:=⟨h,fun i=>by rw[hm.mem_iff,Qu]⟩
theorem oj(s:List UInt8)(i j m:Nat)(hi:i<s.length)(hj:j<s.length)(hm:m<s.length)(h0:∀k,k<m->rat s (i+k)=rat s (j+k))(h3:rat s (i+m)<rat s (j+m)):dU s i<dU s j:=by
 refine List.lt_iff_exists.2 (.inr ⟨m,by rw[cQ];exact hm,by rw[cQ];exact hm,?_,?_⟩);·intro k hk;have h1:=eF s i k (by omega) (by omega);have h2:=eF s j k (by omega) (by omega);rw[Nc (by rw[cQ];omega)]at h1 h2;rw[On h1,On h2,h0 k hk]
 ·have h1:=eF s i m (by omega) hm;have h2:=eF s j m (by omega) hm;rw[Nc (by rw[cQ];omega)]at h1 h2;rw[On h1,On h2];exact h3
open Go.RowKit
theorem qp(s:ByteArray)(k j:Nat)(hj:j=k%s.size)(h:j<s.size):s[j]=rat s.data.toList k:=by have hl:s.data.toList.length=s.size:=rfl;have h2:=uO s.data.toList j (by rw[hl];exact h);have h3:s.data.toList[j]? =some s[j]:=(by rw[Nc (by rw[hl];exact h)];rfl);rw[h3]at h2;rw[On h2,hj];have:=yw s.data.toList k;rw[hl]at this;exact this
theorem GY(s:ByteArray)(i j m:Nat)(hi:i<s.size)(hj:j<s.size)(hm:m<s.size)(h0:∀k,k<m->rat s.data.toList (i+k)=rat s.data.toList (j+k))(h4:rat s.data.toList (i+m)≠rat s.data.toList (j+m)):
 decide (RLt s.data.toList i j)=decide (rat s.data.toList (i+m)<rat s.data.toList (j+m)):=by
 by_cases h:rat s.data.toList (i+m)<rat s.data.toList (j+m);·have h1:=oj s.data.toList i j m hi hj hm h0 h;rw[Nn h,Nn (show RLt s.data.toList i j from .inl h1)]
 ·have h2:rat s.data.toList (j+m)<rat s.data.toList (i+m):=by
   rcases UInt8.lt_or_lt_of_ne h4 with h3|h3;·exact absurd h3 h
   ·exact h3
  have h1:=oj s.data.toList j i m hj hi hm (fun k hk=>(h0 k hk).symm) h2;rw[Nl h,Nl (fun h3=>RLt.irrefl _ i (h3.trans (.inl h1)))]
theorem Ki(s:ByteArray)(i j:Nat)(hi:i<s.size)(hj:j<s.size)(h0:∀k,k<s.size->rat s.data.toList (i+k)=rat s.data.toList (j+k)):decide (RLt s.data.toList i j)=decide (i<j):=by
 have hl:s.data.toList.length=s.size:=rfl;have hr:dU s.data.toList i=dU s.data.toList j:=by refine(yA _ _ _ (by rw[hl];omega) (by rw[hl];omega)).2 fun k=> ?_;have h1:=h0 (k%s.size) (Po _ (by omega));have h2:=sM s.data.toList i k;have h3:=sM s.data.toList j k;rw[hl]at h2 h3;rw[<- h2,<-h3];exact h1
 by_cases h:i<j;·rw[Nn h,Nn (show RLt s.data.toList i j from .inr ⟨hr,h⟩)]
 ·rw[Nl h,decide_eq_false];rintro(h3|⟨_,h3⟩);·rw[hr]at h3;exact List.lt_irrefl _ h3
  ·exact h h3
theorem DC(w:World)(s:ByteArray)(i j:Nat)(hi:i<s.size)(hj:j<s.size)(hs:s.size<=1000000):
 Calls prog 191 #[.string s,.int .i64 i,.int .i64 j] w fun e w'=>e=.returned (.bool (decide (RLt s.data.toList i j)))/\∃m,w'=w.drewN m:=by
 go_enter func191,ntmps191;go_wp2_with fail;go_loopw [7] (fun x wr=>∃k:Nat,k<=s.size/\x=.int .i64 k/\(∀ q,q<k->rat s.data.toList (i+q)=rat s.data.toList (j+q))/\∃m,wr=w.drewN m) (fun x _=>s.size-(intOf x).toNat)
 case atStart=>exact⟨0,Ng _,rfl,fun q h=>by omega,0,rfl⟩
 case round=>
  obtain⟨k,hk,rfl,h4,m,rfl⟩:=hrel;have h3:=aa h4;clear h4;by_cases e1:k<s.size
  ·obtain⟨a,ha⟩:∃a,a=(i+k)%s.size:=⟨_,rfl⟩;obtain⟨b,hb⟩:∃b,b=(j+k)%s.size:=⟨_,rfl⟩;have h5:a<s.size:=(by rw[ha];exact Po _ (by omega));have h6:b<s.size:=(by rw[hb];exact Po _ (by omega));have h8:((i:Int)+(k:Int))%(s.size:Int)=(a:Int):=(by rw[ha];simp);have h9:((j:Int)+(k:Int))%(s.size:Int)=(b:Int):=(by rw[hb];simp);have h0:=qp s (i+k) a ha h5;have h2:=qp s (j+k) b hb h6;clear ha hb;by_cases e2:s[a]=s[b]
   ·have q:(((s[a].toNat:Nat):Int)==((s[b].toNat:Nat):Int))=true:=(by rw[e2];simp);have HK:=aa (show rat s.data.toList (i+k)=rat s.data.toList (j+k) by rw[<- h0,<-h2,e2]);clear e2 h0 h2;go_wp2_with fail;go_roundw;case rel=>
     refine⟨k+1,by omega,by go_num,fun q h1=> ?_,_,rfl⟩;by_cases e:q=k;·rw[e];exact HK.out
     ·exact h3.out q (by omega)
    case measure=>simp[intOf];omega
   ·have q:(((s[a].toNat:Nat):Int)==((s[b].toNat:Nat):Int))=false:=(by simp only[NC,R8];intro h;exact e2 (UInt8.toNat_inj.1 (by omega)));have hd:=GY s i j k hi hj e1 h3.out (by rw[<- h0,<-h2];exact e2);rw[<- h0,<-h2]at hd;have HD:=aa hd;clear e2 h0 h2 hd;go_wp2_with fail;go_ret;refine⟨?_,_,rfl⟩;rw[HD.out];have h7:decide (s[a].toNat<s[b].toNat)=decide (s[a]<s[b]):=decide_eq_decide.2 UInt8.lt_iff_toNat_lt.symm;rw[<- h7];rfl
  ·obtain rfl:k=s.size:=(by omega);have HD:=aa (Ki s i j hi hj h3.out);go_wp2_with fail;go_ret;refine⟨?_,_,rfl⟩;rw[HD.out];rfl
def cJ(s:List UInt8):List Nat->List Nat->List Nat
 | [],b=>b
 | x::a, []=>x::a
 | x::a,y::b=>if RLt s x y then x::cJ s a (y::b)else y::cJ s (x::a) b
 termination_by a b=>a.length+b.length
theorem mY(s:List UInt8)(a:List Nat):cJ s a []=a:=by cases a <;>simp[cJ]
theorem jU(s:List UInt8)(b:List Nat):cJ s [] b=b:=by simp[cJ]
theorem mX(s:List UInt8)(x y:Nat)(a b:List Nat):cJ s (x::a) (y::b)=if RLt s x y then x::cJ s a (y::b)else y::cJ s (x::a) b:=by rw[cJ]
theorem mZ(s:List UInt8)(n:Nat):∀a b:List Nat,a.length+b.length<=n->(cJ s a b).Perm (a++b):=by
 induction n with
 | zero=>intro a b h;have h1:a= []:=Nq (by omega);have h2:b= []:=Nq (by omega);subst h1 h2;rw[jU];exact PW _
 | succ n ih=>
  intro a b h
  cases a with
  | nil=>rw[jU];exact PW _
  | cons x a=>
   cases b with
   | nil=>rw[mY,NU]
   | cons y b=>
    simp only[Ns]at h;rw[mX];split;·exact List.Perm.cons x (ih a (y::b) (by simp only[Ns];omega))
    ·exact(List.Perm.cons y (ih (x::a) b (by simp only[Ns];omega))).trans List.perm_middle.symm
theorem ux(s:List UInt8)(a b:List Nat)(z:Nat):z∈cJ s a b↔z∈a\/z∈b:=by rw[(mZ s _ a b (ag _)).mem_iff,Rh]
theorem vG(s:List UInt8)(n:Nat):∀a b:List Nat,a.length+b.length<=n->a.Pairwise (RLt s)->b.Pairwise (RLt s)->(∀ x∈a,x∉b)->(cJ s a b).Pairwise (RLt s):=by
 induction n with
 | zero=>intro a b h _ _ _;have h1:a= []:=Nq (by omega);have h2:b= []:=Nq (by omega);subst h1 h2;rw[jU];exact List.Pairwise.nil
 | succ n ih=>
  intro a b h ha hb hd
  cases a with
  | nil=>rw[jU];exact hb
  | cons x a=>
   cases b with
   | nil=>rw[mY];exact ha
   | cons y b=>
    simp only[Ns]at h;have h3:=List.pairwise_cons.1 ha;have h4:=List.pairwise_cons.1 hb;have h5:x≠y:=fun e=>hd x Nh (e ▸ Nh);rw[mX];split
    ·rename_i h0;refine List.pairwise_cons.2 ⟨fun z hz=> ?_,ih a (y::b) (by simp only[Ns];omega) h3.2 hb (fun z hz=>hd z (Nm _ hz))⟩;rcases(ux s a (y::b) z).1 hz with h1|h1;·exact h3.1 z h1
     ·rcases List.mem_cons.1 h1 with rfl|h2;·exact h0
      ·exact h0.trans (h4.1 z h2)
    ·rename_i hnl;have h0:RLt s y x:=by
      rcases RLt.total s x y h5 with h1|h1;·exact absurd h1 hnl
      ·exact h1
     refine List.pairwise_cons.2 ⟨fun z hz=> ?_,ih (x::a) b (by simp only[Ns];omega) ha h4.2 (fun z hz hzb=>hd z hz (Nm _ hzb))⟩;rcases(ux s (x::a) b z).1 hz with h1|h1
     ·rcases List.mem_cons.1 h1 with rfl|h2;·exact h0
      ·exact h0.trans (h3.1 z h2)
     ·exact h4.1 z h1
def vU(s:List UInt8)(Ls:List (List Nat)):Prop:=(∀ L∈Ls,L.Pairwise (RLt s))/\Ls.flatten.Nodup
def fH(s:List UInt8):List (List Nat)->List (List Nat)
 | []=> []
 | [a]=> [a]
 | a::b::r=>cJ s a b::fH s r
theorem xc(s:List UInt8)(a b:List Nat)(r:List (List Nat)):fH s (a::b::r)=cJ s a b::fH s r:=rfl
theorem oP(s:List UInt8):∀Ls:List (List Nat),(fH s Ls).flatten.Perm Ls.flatten
 | []=>PW _
 | [a]=>PW _
 | a::b::r=>by rw[xc,Pg,Pg,Pg,<-Ni];exact(mZ s _ a b (ag _)).append (oP s r)
theorem qg(s:List UInt8):∀Ls:List (List Nat),vU s Ls->∀L∈fH s Ls,L.Pairwise (RLt s)
 | [],_=>fun L h=>absurd h aw
 | [a],h=>h.1
 | a::b::r,h=>by
  intro L hL;have hn:=h.2;rw[Pg,Pg,<-Ni]at hn;have h0:=List.nodup_append.1 hn;have h1:=List.nodup_append.1 h0.1;rcases List.mem_cons.1 hL with rfl|hr;·exact vG s _ a b (ag _) (h.1 a Nh) (h.1 b (Nm _ Nh)) (fun x hx hxb=>h1.2.2 x hx x hxb rfl)
  ·exact qg s r ⟨fun M hM=>h.1 M (Nm _ (Nm _ hM)),h0.2.1⟩ L hr
theorem Bd(s:List UInt8)(Ls:List (List Nat))(h:vU s Ls):vU s (fH s Ls):=⟨qg s Ls h,(oP s Ls).nodup_iff.2 h.2⟩
theorem qf(s:List UInt8):∀Ls:List (List Nat),(fH s Ls).length=(Ls.length+1)/2
 | []=>rfl
 | [a]=>by show 1=(1+1)/2;omega
 | a::b::r=>by rw[xc,Ns,qf s r,Ns,Ns];omega
theorem GJ(s:List UInt8)(L:List Nat)(h:vU s [L])(hp:([L]:List (List Nat)).flatten.Perm (List.range s.length)):ep s L:=by refine sj (h.1 L Nh) ?_;simpa using hp
theorem Dt(s:List UInt8)(n:Nat):vU s ((List.range n).map fun i=> [i]):=by
 refine⟨fun L hL=> ?_,?_⟩
 ·obtain⟨i,_,rfl⟩:=List.mem_map.1 hL
  exact List.pairwise_singleton _ _
 ·rw[rh]
  exact OD
 where
 rh {n:Nat}:((List.range n).map fun i=> [i]).flatten=List.range n:=by
  rw[<- Q5]
  simp
def xF(w:World)(A:Option Addr)(n c:Nat)(L:List Nat):Prop:=aB w A n L/\n<=c/\c<=maxLen
theorem wZ{w:World}{b off n c x:Nat}{L:List Nat}(h:xF w (some ⟨b,off,none⟩) n c (x::L))(hn:0<n):xF w (if c=1 then some ⟨b,off,none⟩else some ⟨b,off+1,none⟩) (n-1) (c-1) L:=by obtain⟨⟨hl,hc⟩,h1,h2⟩:=h;simp only[Ns]at hl;refine⟨⟨by omega,fun h0=> ?_⟩,by omega,by omega⟩;rw[Nd];obtain⟨b',o',e,h3⟩:=hc hn;simp only[Oj,PR]at e;obtain⟨rfl,rfl,_⟩:=e;refine⟨b,off+1,rfl,fun i hi=> ?_⟩;have:=h3 (i+1) (by omega);rw[show off+(i+1)=off+1+i by omega]at this;rw[this];rfl
theorem bX{w w':World}{A:Option Addr}{n:Nat}{L:List Nat}(h:aB w A n L)(hb:Below w.heap.size w w'):aB w' A n L:=by refine⟨h.1,fun hn=> ?_⟩;obtain⟨b,off,rfl,hc⟩:=h.2 hn;refine⟨b,off,rfl,fun i hi=> ?_⟩;exact(hb.cell (p:=⟨b,off+i,none⟩) (No w _ (hc i hi))).trans (hc i hi)
def vd:Value->Nat
 | .slice _ n _=>n
 | _=>0
theorem Bx(w:World)(s:ByteArray)(A B:Option Addr)(n c m d:Nat)(La Lb:List Nat)(hA:xF w A n c La)(hB:xF w B m d Lb)(hR:∀x∈La,x<s.size)(hS:∀x∈Lb,x<s.size)(hs:s.size<=1000000)(hY:n+m<=1000000):
 Calls prog 155 #[.string s,.slice A n c,.slice B m d] w fun e w'=>∃v,e=.returned v/\w'.ownsRow w.heap.size 3 1 v (n+m) ((cJ s.data.toList La Lb).map iv)/\Below w.heap.size w w':=by
 obtain⟨i3,h3,hK,hL,hM⟩:=N4 Tryz.info3;have HA:=aa hA;have HB:=aa hB;clear hA hB;go_enter func155,ntmps155;go_wp2_with fail
 go_loopw [1,2,7] (fun a b v wr=>∃(A' B':Option Addr) (n' c' m' d':Nat) (La' Lb' o:List Nat),a=.slice A' n' c'/\b=.slice B' m' d'/\xF w A' n' c' La'/\xF w B' m' d' Lb'/\(∀ x∈La',x<s.size)/\(∀ x∈Lb',x<s.size)/\
  wr.ownsRow w.heap.size 3 1 v o.length (o.map iv)/\o.length+n'+m'=n+m/\o++cJ s.data.toList La' Lb'=cJ s.data.toList La Lb/\Below w.heap.size w wr) (fun a b _ _=>vd a+vd b)
 case atStart=>exact⟨A,B,n,c,m,d,La,Lb, [],rfl,rfl,HA.out,HB.out,hR,hS,Nt _ _ _ _,by simp,rfl,Nj _ _⟩
 case round=>
  obtain⟨A',B',n',c',m',d',La',Lb',o,rfl,rfl,⟨hg,hW,hG⟩,⟨hh,hV,hH⟩,ha,hb,h5,hq,h7,he⟩:=hrel;have hz:=he.size;unfold maxLen at hG hH;obtain⟨A0,c0,rfl,hJ,hT,hO⟩:=ai h5;clear hO;unfold maxLen at hT;by_cases e1:0<n'
  ·by_cases e2:0<m'
   ·obtain⟨b1,o1,rfl,hy⟩:=hg.2 e1;obtain⟨b2,o2,rfl,hC⟩:=hh.2 e2;have hP:=hg.1;have hQ:=hh.1;obtain⟨x,La1,rfl⟩:∃x l,La'=x::l:=(by cases La' with|nil=>simp at hP;omega|cons x l=>exact⟨x,l,rfl⟩);obtain⟨y,Lb1,rfl⟩:∃y l,Lb'=y::l:=(by cases Lb' with|nil=>simp at hQ;omega|cons y l=>exact⟨y,l,rfl⟩);have g1:=(he.cell (p:=⟨b1,o1+0,none⟩) (No w _ (hy 0 e1))).trans (hy 0 e1);have g2:=(he.cell (p:=⟨b2,o2+0,none⟩) (No w _ (hC 0 e2))).trans (hC 0 e2);rw[NY]at g1 g2;have g1':wr.cell? ⟨b1,o1,none⟩=some (.int .i64 x):=g1;have g2':wr.cell? ⟨b2,o2,none⟩=some (.int .i64 y):=g2;have HR:=aa fun w1:World=>DC w1 s x y (ha x Nh) (hb y Nh) hs;clear g1 g2;have HO:=aa h5;have hD:=aa he;have hE:=aa (show xF w _ n' c' (x::La1)from⟨hg,hW,hG⟩);have hF:=aa (show xF w _ m' d' (y::Lb1)from⟨hh,hV,hH⟩);have hr:=mX s.data.toList x y La1 Lb1;have hl:=aa h7;clear h5 he hy hC h7 hg hh;go_wp2_with fail;go_quiet (first|(go_at_call 191;exact NI (HR.out _)));by_cases hI:RLt s.data.toList x y
    ·have h9:(wr.drewN nq).ownsRow w.heap.size 3 1 (.slice A0 o.length c0) o.length (o.map iv):=HO.out;have hj:Below w.heap.size w (wr.drewN nq):=ax hD.out _;obtain⟨N,hN⟩:∃N,N=o.length:=⟨_,rfl⟩;obtain⟨X,hX⟩:∃X,X=o.map iv:=⟨_,rfl⟩;rw[<- hN]at h9 hJ hq |-;rw[<- hX]at h9;have HN:=aa hN;have HX:=aa hX;clear hN hX;(go_wp2_with (at_builtin;refine N5 _ rfl _ _ 37 rfl w.heap.size 3 i3 (.int .i64 0) 1 8 underlying37 h3 hK hL hM rfl (by decide) _ _ _ rfl (h9.alloc _) ⟨wr.heap.size,0,none⟩ 1 1 [.int .i64 x] rfl rfl ?c1 ?c2 ?c3 ?c4 ?c5 ?_));case c1=>exact Q2 _ _ _
     case c2=>intro u hu;simp at hu;subst hu;rfl
     case c3=>unfold maxLen;omega
     case c4=>omega
     case c5=>simp;omega
     intro v2 w2 h2 h1 _;have h6:Below w.heap.size w w2:=(hj.alloc hz _).grown h1 (by simp;omega) (fun k hk=>(h9.lt k hk).1);have hc:=aa h2;have hv:=aa h6;clear h9 hj h2 h6 h1;go_wp2_with fail;rw[Nf hI]at hr;go_roundw;case rel=>
      refine⟨_,_,_,_,_,_,La1,y::Lb1,o++ [x],rfl,rfl,wZ hE.out e1,hF.out,fun z hz=>ha z (Nm _ hz),hb,?_,?_,?_,hv.out⟩;·rw[Nb,<-HN.out,Nz,<-HX.out];exact hc.out
      ·rw[Nb,<-HN.out,NP];omega
      ·rw[<- hl.out,hr,Ni];rfl
     case measure=>show n'-1+m'<n'+m';omega
    ·have h9:(wr.drewN nq).ownsRow w.heap.size 3 1 (.slice A0 o.length c0) o.length (o.map iv):=HO.out;have hj:Below w.heap.size w (wr.drewN nq):=ax hD.out _;obtain⟨N,hN⟩:∃N,N=o.length:=⟨_,rfl⟩;obtain⟨X,hX⟩:∃X,X=o.map iv:=⟨_,rfl⟩;rw[<- hN]at h9 hJ hq |-;rw[<- hX]at h9;have HN:=aa hN;have HX:=aa hX;clear hN hX;(go_wp2_with (at_builtin;refine N5 _ rfl _ _ 37 rfl w.heap.size 3 i3 (.int .i64 0) 1 8 underlying37 h3 hK hL hM rfl (by decide) _ _ _ rfl (h9.alloc _) ⟨wr.heap.size,0,none⟩ 1 1 [.int .i64 y] rfl rfl ?c1 ?c2 ?c3 ?c4 ?c5 ?_));case c1=>exact Q2 _ _ _
     case c2=>intro u hu;simp at hu;subst hu;rfl
     case c3=>unfold maxLen;omega
     case c4=>omega
     case c5=>simp;omega
     intro v2 w2 h2 h1 _;have h6:Below w.heap.size w w2:=(hj.alloc hz _).grown h1 (by simp;omega) (fun k hk=>(h9.lt k hk).1);have hc:=aa h2;have hv:=aa h6;clear h9 hj h2 h6 h1;go_wp2_with fail;rw[Nd hI]at hr;go_roundw;case rel=>
      refine⟨_,_,_,_,_,_,x::La1,Lb1,o++ [y],rfl,rfl,hE.out,wZ hF.out e2,ha,fun z hz=>hb z (Nm _ hz),?_,?_,?_,hv.out⟩;·rw[Nb,<-HN.out,Nz,<-HX.out];exact hc.out
      ·rw[Nb,<-HN.out,NP];omega
      ·rw[<- hl.out,hr,Ni];rfl
     case measure=>show n'+(m'-1)<n'+m';omega
   ·have hn:cJ s.data.toList La' Lb'=La'++Lb':=(by have h0:Lb'= []:=Nq (by rw[hh.1];omega);rw[h0,mY,NU]);rw[hn]at h7;obtain⟨v2,w2,ho,h2,h1⟩:=bB wr w.heap.size _ _ _ h5 A' n' c' La' (bX hg he) (by omega) hz;have h6:Below w.heap.size w w2:=he.grown h1 hz (fun k hk=>(h5.lt k hk).1);obtain⟨v3,w3,hp,h8,h4⟩:=bB w2 w.heap.size _ _ _ h2 B' m' d' Lb' (bX hh h6) (by omega) h6.size;have hm:Below w.heap.size w w3:=h6.grown h4 h6.size (fun k hk=>(h2.lt k hk).1);have hf:w3.ownsRow w.heap.size 3 1 v3 (n+m) ((cJ s.data.toList La Lb).map iv):=(by rw[<- h7,show n+m=o.length+n'+m' by omega,Nz,Nz,<-Ni];exact h8);have hi:=aa hf;have ht:=aa hm;have hw:=aa ho;have hx:=aa hp;clear hf hm ho hp h5 h2 h8 h1 h4 h6 he h7 hn hg hh;(go_wp2_with (at_builtin;first|refine Lib.wpList_append_run _ rfl _ _ 37 37 rfl (.slice A0 o.length c0) (.slice A' n' c') rfl rfl v2 w2 hw.out ?_|refine Lib.wpList_append_run _ rfl _ _ 37 37 rfl v2 (.slice B' m' d') rfl rfl v3 w3 hx.out ?_));go_ret;exact⟨_,rfl,hi.out,ht.out⟩
  ·have hn:cJ s.data.toList La' Lb'=La'++Lb':=(by have h0:La'= []:=Nq (by rw[hg.1];omega);rw[h0,jU,Ok]);rw[hn]at h7;obtain⟨v2,w2,ho,h2,h1⟩:=bB wr w.heap.size _ _ _ h5 A' n' c' La' (bX hg he) (by omega) hz;have h6:Below w.heap.size w w2:=he.grown h1 hz (fun k hk=>(h5.lt k hk).1);obtain⟨v3,w3,hp,h8,h4⟩:=bB w2 w.heap.size _ _ _ h2 B' m' d' Lb' (bX hh h6) (by omega) h6.size;have hm:Below w.heap.size w w3:=h6.grown h4 h6.size (fun k hk=>(h2.lt k hk).1);have hf:w3.ownsRow w.heap.size 3 1 v3 (n+m) ((cJ s.data.toList La Lb).map iv):=(by rw[<- h7,show n+m=o.length+n'+m' by omega,Nz,Nz,<-Ni];exact h8);have hi:=aa hf;have ht:=aa hm;have hw:=aa ho;have hx:=aa hp;clear hf hm ho hp h5 h2 h8 h1 h4 h6 he h7 hn hg hh;(go_wp2_with (at_builtin;first|refine Lib.wpList_append_run _ rfl _ _ 37 37 rfl (.slice A0 o.length c0) (.slice A' n' c') rfl rfl v2 w2 hw.out ?_|refine Lib.wpList_append_run _ rfl _ _ 37 37 rfl v2 (.slice B' m' d') rfl rfl v3 w3 hx.out ?_));go_ret;exact⟨_,rfl,hi.out,ht.out⟩
theorem qZ:(prog.info? 37).map (fun i=>(i.zero,i.size,i.bytes))=some (some (.slice none 0 0),1,24):=by kernel_rfl
theorem mf(s:List UInt8)(R:List (List Nat)):∀(j:Nat) (P:List (List Nat)),P.length=2*j->fH s (P++R)=fH s P++fH s R
 | 0,P,h=>by have:P= []:=Nq (by omega);subst this;rfl
 | j+1,P,h=>by
  match P,h with
  | [],h=>simp at h
  | [a],h=>simp at h;omega
  | a::b::r,h=>simp only[Ns]at h;have:=mf s R j r (by omega);show cJ s a b::fH s (r++R)=_;rw[this];rfl
def mF(w:World)(B:Nat)(xs:List Value)(Ls:List (List Nat)):Prop:=
 xs.length=Ls.length/\∀(k:Nat) (L:List Nat),Ls[k]? =some L->∃A c,xs[k]? =some (.slice A L.length c)/\w.ownsRow B 3 1 (.slice A L.length c) L.length (L.map iv)
theorem EE{w:World}{B B':Nat}{e:TypeId}{size n:Nat}{v:Value}{xs:List Value}(h:w.ownsRow B e size v n xs)(hb:B'<=B):w.ownsRow B' e size v n xs:=by
 refine⟨h.1,?_⟩;rcases h.2 with h1|⟨g,cap,cur,hv,hg,rest⟩;·exact .inl h1
 ·exact .inr ⟨g,cap,cur,hv,ND hb hg,rest⟩
theorem mF.step{w w':World}{B B':Nat}{xs:List Value}{Ls:List (List Nat)}{ts:List TypeId}(h:mF w B xs Ls)(hs:ak B' [] ts w w')(ht:3∉ts):mF w' B xs Ls:=
 ⟨h.1,fun k L hk=>by
   obtain⟨A,c,h1,h2⟩:=h.2 k L hk
   exact⟨A,c,h1,hs.row h2 (fun _ _=>aw) ht⟩⟩
theorem wQ(w:World)(B:Nat):mF w B [] []:=⟨rfl,fun k L h=>by simp at h⟩
theorem mF.snoc{w:World}{B:Nat}{xs:List Value}{Ls:List (List Nat)}(h:mF w B xs Ls){A:Option Addr}{c:Nat}{L:List Nat}(hL:w.ownsRow B 3 1 (.slice A L.length c) L.length (L.map iv)):mF w B (xs++ [.slice A L.length c]) (Ls++ [L]):=by
 refine⟨by rw[Nb,Nb,h.1];rfl,fun k M hk=> ?_⟩;by_cases h1:k<Ls.length;·rw[NW h1]at hk;rw[NW (by rw[h.1];exact h1)];exact h.2 k M hk
 ·rw[NO (by omega)]at hk;have h0:k-Ls.length=0:=(by have:=(List.getElem?_eq_some_iff.1 hk).1;simp at this;omega);rw[h0]at hk;simp at hk;subst hk;rw[NO (by rw[h.1];omega),h.1,h0];exact⟨A,c,rfl,hL⟩
theorem LJ(w:World)(B x:Nat)(hB:B<=w.heap.size):(w.alloc (.cells #[.int .i64 x] 3)).ownsRow B 3 1 (.slice (some ⟨w.heap.size,0,none⟩) [x].length 1) [x].length ([x].map iv):=
 ⟨rfl,.inr ⟨w.heap.size,1,#[.int .i64 x],rfl,hB,PC w _,Nk _,by unfold maxLen;omega,rfl,rfl⟩⟩
theorem Ba{w:World}{B n c:Nat}{A:Option Addr}{L:List Nat}(h:w.ownsRow B 3 1 (.slice A n c) n (L.map iv)):xF w A n c L:=by obtain⟨A',c',hv,h1,h2,_⟩:=ai h;simp only[Ol]at hv;obtain⟨rfl,_,rfl⟩:=hv;exact⟨aE h,h1,h2⟩
theorem Jo{P R:List (List Nat)}{a b:List Nat}{n:Nat}(h:(P++a::b::R).flatten.Perm (List.range n)):(∀ x∈a,x<n)/\(∀ x∈b,x<n)/\a.length+b.length<=n:=by
 refine⟨fun x hx=> ?_,fun x hx=> ?_,?_⟩;·refine List.mem_range.1 (h.mem_iff.1 (List.mem_flatten.2 ⟨a,?_,hx⟩));simp
 ·refine List.mem_range.1 (h.mem_iff.1 (List.mem_flatten.2 ⟨b,?_,hx⟩));simp
 ·have:=h.length_eq;rw[NE]at this;simp only[Q9,Pg,Nb]at this;omega
theorem bV(w:World)(v:Value)(t:TypeId):∀(j:Nat) (u:Value), [v][j]? =some u->(w.alloc (.cells #[v] t)).cell? ((⟨w.heap.size,0,none⟩:Addr).add j)=some u:=by intro j u hu;have hj:j=0:=(by have:=(List.getElem?_eq_some_iff.1 hu).1;simp at this;exact this);subst hj;simp at hu;subst hu;rw[OT,ac (aj w t _)];rfl
theorem IT(w:World)(o:Obj)(v:Value)(t:TypeId):∀(j:Nat) (u:Value), [v][j]? =some u->((w.alloc o).alloc (.cells #[v] t)).cell? ((⟨w.heap.size+1,0,none⟩:Addr).add j)=some u:=by have h:=bV (w.alloc o) v t;have e:(w.alloc o).heap.size=w.heap.size+1:=(by simp);rwa [e]at h
def Iy(w:World)(s:List UInt8)(e:Ending)(w':World):Prop:=∃A c L,e=.returned (.slice A L.length c)/\w'.ownsRow w.heap.size 3 1 (.slice A L.length c) L.length (L.map iv)/\ep s L/\Below w.heap.size w w'
structure Ca (w wr:World) (s:List UInt8) (v:Value) (xs:List Value) (Ls:List (List Nat)):Prop where
 row:wr.ownsRow w.heap.size 37 1 v Ls.length xs
 lists:mF wr w.heap.size xs Ls
 parts:vU s Ls
 perm:Ls.flatten.Perm (List.range s.length)
 below:Below w.heap.size w wr
structure B9 (w wr:World) (B:Nat) (s:List UInt8) (v:Value) (ys:List Value) (P:List (List Nat)):Prop where
 row:wr.ownsRow B 37 1 v (fH s P).length ys
 lists:mF wr w.heap.size ys (fH s P)
def MR(w wr:World)(s:List UInt8)(Ls:List (List Nat))(a:Value)(t:Nat)(w3:World):Prop:=
 ∃zs P R j,Ls=P++R/\t=2*j/\(P.length=t\/(R= []/\P.length+1=t))/\B9 w w3 wr.heap.size s a zs P/\Below wr.heap.size wr w3
theorem GC(q:Nat):(List.range (q+1)).map (fun x=> [x])=(List.range q).map (fun x=> [x])++ [[q]]:=by rw[Oh,Nz];rfl
theorem rh(n:Nat):((List.range n).map fun i=> [i]).flatten=List.range n:=by rw[<- Q5];simp
theorem Cf{P R:List (List Nat)}{L:List Nat}:(P++L::R)[P.length]? =some L:=by rw[NO (ag _),Oz];rfl
theorem yy(w:World)(s:ByteArray)(B:Nat)(A A':Option Addr)(c c':Nat)(La Lb:List Nat)(hA:w.ownsRow B 3 1 (.slice A La.length c) La.length (La.map iv))(hB:w.ownsRow B 3 1 (.slice A' Lb.length c') Lb.length (Lb.map iv))(h1:∀x∈La,x<s.size)(h2:∀x∈Lb,x<s.size)(hs:s.size<=1000000)(h3:La.length+Lb.length<=s.size):
 Calls prog 155 #[.string s,.slice A La.length c,.slice A' Lb.length c'] w fun e w'=>∃A2 c2,e=.returned (.slice A2 (cJ s.data.toList La Lb).length c2)/\w'.ownsRow w.heap.size 3 1 (.slice A2 (cJ s.data.toList La Lb).length c2) (cJ s.data.toList La Lb).length ((cJ s.data.toList La Lb).map iv)/\Below w.heap.size w w':=by refine(Bx w s A A' La.length c Lb.length c' La Lb (Ba hA) (Ba hB) h1 h2 hs (by omega)).mono ?_;rintro e w' ⟨v,rfl,h0,hb⟩;have hl:La.length+Lb.length=(cJ s.data.toList La Lb).length:=(by rw[(mZ s.data.toList _ La Lb (ag _)).length_eq,Nb]);obtain⟨A2,c2,rfl,_⟩:=ai h0;rw[hl]at h0 |-;exact⟨A2,c2,rfl,h0,hb⟩
theorem Hl(B:Nat)(w5:World)(A3 A5:Option Addr)(p c3 k c5:Nat)(zs:List Value)(h0:w5.ownsRow B 37 1 (.slice A3 p c3) p zs)(hB:B<=w5.heap.size)(hp:p<=1000000):
 ∃v6 w6,(Builtin.append_ #[41,41] 41 #[.slice A3 p c3,.slice (some ⟨w5.heap.size,0,none⟩) 1 1]).run prog (w5.alloc (.cells #[.slice A5 k c5] 37))=.ok v6 w6/\w6.ownsRow B 37 1 v6 (p+1) (zs++ [.slice A5 k c5])/\ak B [] [37] w5 w6:=by
 obtain⟨i30,h4,h5,h6,h7⟩:=N4 qZ;have hr:=h0.alloc (.cells #[.slice A5 k c5] 37)
 obtain⟨v6,w6,h1,h2,h3,_⟩:=run_append_own (P:=prog) (w5.alloc (.cells #[.slice A5 k c5] 37)) B 41 41 37 i30 (.slice none 0 0) 1 24 underlying41 h4 h5 h6 h7 rfl (by decide) _ p zs hr ⟨w5.heap.size,0,none⟩ 1 1 [.slice A5 k c5] rfl (bV _ _ _)
  (fun u hu=>by simp at hu;subst hu;rfl) (by unfold maxLen;omega) (by omega) (by simp;omega)
 exact⟨v6,w6,h1,h2,((ak.refl _ _ _ _).alloc hB _).grown h3 (by simp;omega) (kK hr)⟩
theorem Kl(w:World)(s:ByteArray)(hs:s.size<=1000000):Calls prog 107 #[.string s] w (Iy w s.data.toList):=by
 obtain⟨i30,HN,p9,pb,pf⟩:=N4 qZ;have q5:=aa (show s.data.toList.length=s.size from rfl);go_enter func107,ntmps107;go_wp2_with fail;go_loopw [3,4] (fun a i wr=>∃(q:Nat) (xs:List Value),q<=s.size/\i=.int .i64 q/\wr.ownsRow w.heap.size 37 1 a q xs/\mF wr w.heap.size xs ((List.range q).map fun x=> [x])/\Below w.heap.size w wr) (fun _ i _=>s.size-(intOf i).toNat)
 case atStart=>exact⟨0, [],Ng _,rfl,Nt _ _ _ _,wQ _ _,Nj _ _⟩
 case round=>
  obtain⟨q,xs,hq,rfl,h8,p2,hb⟩:=hrel;have hz:=hb.size;obtain⟨A0,c0,rfl,r1,qa,q6⟩:=ai h8;clear q6;unfold maxLen at qa;have HO:=aa h8;have HL:=aa p2;have HB:=aa hb;clear h8 p2 hb;by_cases e:q<s.size
  ·(go_wp2_with (at_builtin;refine N5 _ rfl _ _ 41 rfl w.heap.size 37 i30 (.slice none 0 0) 1 24 underlying41 HN p9 pb pf rfl (by decide) _ _ _ rfl ((HO.out.alloc _).alloc _) ⟨wr.heap.size+1,0,none⟩ 1 1 [.slice (some ⟨wr.heap.size,0,none⟩) 1 1] rfl rfl ?c1 ?c2 ?c3 ?c4 ?c5 ?_));case c1=>exact IT _ _ _ _
   case c2=>intro u hu;simp at hu;subst hu;rfl
   case c3=>unfold maxLen;omega
   case c4=>omega
   case c5=>simp;omega
   intro v2 w2 hi h6 _;have hy:ak w.heap.size [] [37] wr w2:=(by have h1:ak w.heap.size [] [37] wr (wr.alloc (.cells #[.int .i64 q] 3)):=(ak.refl _ _ _ _).alloc hz _;have h2:=h1.alloc (by simp;omega) (.cells #[.slice (some ⟨wr.heap.size,0,none⟩) 1 1] 37);exact h2.grown h6 (by simp;omega) (kK ((HO.out.alloc _).alloc _)));have p6:ak w.heap.size [] [37] (wr.alloc (.cells #[.int .i64 q] 3)) w2:=(by have h2:ak w.heap.size [] [37] (wr.alloc (.cells #[.int .i64 q] 3)) _:=(ak.refl _ _ _ _).alloc (by simp;omega) (.cells #[.slice (some ⟨wr.heap.size,0,none⟩) 1 1] 37);exact h2.grown h6 (by simp;omega) (kK ((HO.out.alloc _).alloc _)));have hH:=p6.row (LJ wr w.heap.size q hz) (fun _ _=>aw) (by decide);have q0:=aa hi;have po:=aa ((HL.out.step hy (by decide)).snoc hH);have pk:=aa (HB.out.trans hy.below);clear hi h6 hy p6 hH;go_wp2_with fail;go_roundw;case rel=>exact⟨q+1,_,by omega,by go_num,q0.out,by rw[GC];exact po.out,pk.out⟩
   case measure=>simp[intOf];omega
  ·obtain rfl:q=s.size:=(by omega);have hR:Ca w wr s.data.toList (.slice A0 s.size c0) xs ((List.range s.size).map fun x=> [x]):=by
    refine⟨?_,HL.out,Dt _ _,?_,HB.out⟩;·rw[Nu,NE];exact HO.out
    ·rw[rh];exact PW _
   have HR:=aa hR;clear hR;go_wp2_with fail;(go_loopw [3] (fun a w2=>∃xs Ls,Ca w w2 s.data.toList a xs Ls/\Ls.length<=s.size) (fun a _=>vd a));case atStart=>exact⟨_,_,HR.out,by rw[Nu,NE];exact Nk _⟩
   case round=>
    obtain⟨ys,Ls,hN,H4⟩:=hrel;rename World=>w2;obtain⟨A1,c1,rfl,qm,qb,HQ⟩:=ai hN.row;unfold maxLen at qb;have hf:=hN.below.size;have h5:=aa hN;have HE:=aa HQ;obtain⟨m,hm⟩:∃m,m=Ls.length:=⟨_,rfl⟩;rw[<- hm]at qm H4 |-;have HM:=aa hm;clear hN HQ hm;by_cases e1:1<m
    ·have d2:decide ((1:Int)<(m:Int))=true:=bE;go_wp2_with fail;(go_loopw [5,6] (fun a i w3=>∃t:Nat,i=.int .i64 t/\t<=m+1/\MR w w2 s.data.toList Ls a t w3) (fun _ i _=>m+2-(intOf i).toNat));case atStart=>exact⟨0,rfl,by omega, [], [],Ls,0,rfl,rfl,.inl rfl,⟨Nt _ _ _ _,wQ _ _⟩,Nj _ _⟩
     case round=>
      obtain⟨t,rfl,ht,zs,P,R,j,HX,hj,hK,hI,hO⟩:=hrel;rename World=>w3;obtain⟨A3,c3,rfl,qo,ql,q7⟩:=ai hI.row;clear q7;unfold maxLen at ql;have pg:=hO.size;have HA:=qf s.data.toList P;obtain⟨p,hp⟩:∃p,p=(fH s.data.toList P).length:=⟨_,rfl⟩;rw[<- hp]at qo HA |-;have he:=hI.row;rw[<- hp]at he;have hA:=aa he;clear he;have HH:=aa (an hO);have HI:=aa hI;have HP:=aa hp;have hT:=aa hO;have hh:=aa HX;have HJ:=aa hj;have h0:m=P.length+R.length:=(by rw[HM.out,hh.out,Nb]);have qs:p<=1000000:=(by omega);have q3:=aa HA;clear HA;have hl:=HH.out.row h5.out.row (fun _ _=>aw) aw;have hG:=h5.out.lists.step HH.out aw;have HG:=aa hl;have HF:=aa hG;clear hI hp hO HX hj hl hG;by_cases e2:t<m
      ·have h7:P.length=t:=by
        rcases hK with h|⟨h,h'⟩;·exact h
        ·rw[h]at h0;simp at h0;omega
       clear hK;obtain⟨g,rfl⟩:=HE.out (by rw[<- HM.out];omega);obtain⟨La,R1,rfl⟩:∃L R1,R=L::R1:=(by cases R with|nil=>simp at h0;omega|cons L R1=>exact⟨L,R1,rfl⟩);have HU:Ls[t]? =some La:=(by rw[hh.out,<-h7];exact Cf);obtain⟨Aa,ca,p7,hn⟩:=HF.out.2 t La HU;have hQ:=HG.out.cellAt t (by rw[<- HM.out];omega);rw[p7]at hQ;have hD:=aa hn;obtain⟨na,H5⟩:∃na,na=La.length:=⟨_,rfl⟩;rw[<- H5]at hQ;have hW:=aa H5;clear p7 hn HU H5;simp only[Ns]at h0;have hC:=aa h0;have hr:=aa h7;clear h0 h7;by_cases e3:t+1<m
       ·have d4:decide ((t:Int)+1<(m:Int))=true:=bE;obtain⟨Lb,R2,rfl⟩:∃L R2,R1=L::R2:=by
         have:=hC.out;have:=hr.out
         cases R1 with
         | nil=>simp at *;omega
         | cons L R2=>exact⟨L,R2,rfl⟩
        have HV:Ls[t+1]? =some Lb:=(by have e:P++La::Lb::R2=(P++ [La])++Lb::R2:=(by simp);rw[hh.out,e,<-hr.out,show P.length+1=(P++ [La]).length by simp];exact Cf);obtain⟨Ab,cb,p8,ho⟩:=HF.out.2 (t+1) Lb HV;have hS:=HG.out.cellAt (t+1) (by rw[<- HM.out];omega);rw[p8]at hS;have H8:=h5.out.perm;rw[hh.out]at H8;obtain⟨H2,H3,H0⟩:=Jo H8;rw[q5.out]at H2 H3 H0;have HW:=fun(w4:World) (h1:w4.ownsRow w.heap.size 3 1 (.slice Aa La.length ca) La.length (La.map iv)) (h2:w4.ownsRow w.heap.size 3 1 (.slice Ab Lb.length cb) Lb.length (Lb.map iv))=>yy w4 s w.heap.size Aa Ab ca cb La Lb h1 h2 H2 H3 hs H0;have hE:=HW w3.drew hD.out ho;obtain⟨nb,H6⟩:∃nb,nb=Lb.length:=⟨_,rfl⟩;rw[<- H6]at hS;rw[<- H6,<-hW.out]at hE;obtain⟨M,hM⟩:∃M,M=cJ s.data.toList La Lb:=⟨_,rfl⟩;rw[<- hM]at hE;obtain⟨k,hk⟩:∃k,k=M.length:=⟨_,rfl⟩;rw[<- hk]at hE;have ps:=aa hE;have pv:=aa hM;have HK:=aa hk;have hX:=aa (show w3.drew.ownsRow w2.heap.size 37 1 (.slice A3 p c3) p zs from hA.out);have hV:=aa hT.out.drew;have pr:=aa (show mF w3.drew w.heap.size zs (fH s.data.toList P)from HI.out.lists);have HD:w2.heap.size<=w3.drew.heap.size:=pg;clear p8 ho HV H8 H2 H3 H0 HW hE H6 hM hk;have r2:IntKind.i64.wrap ((t:Int)+1)=(t:Int)+1:=(by rw[Of];omega);have qx:(0:Int)<=(t:Int)+1:=(by omega);have r0:(t:Int)+1<(m:Int):=(by omega);have hB:g<w2.heap.size:=(by have h1:=h5.out.row.cellAt t (by rw[<- HM.out];omega);obtain⟨A',c',h2,_⟩:=h5.out.lists.2 t La (by rw[hh.out,<-hr.out];exact Cf);rw[h2]at h1;exact No w2 _ h1);have p0:w3.drew.cell? ⟨g,t,none⟩=some (.slice Aa na ca):=hQ;have p1:w3.drew.cell? ⟨g,t+1,none⟩=some (.slice Ab nb cb):=hS;go_upto_region 12 with fail
        go_region_held3 (fun w'=>w'.cell? ⟨g,t,none⟩=some (.slice Aa na ca)/\w'.cell? ⟨g,t+1,none⟩=some (.slice Ab nb cb)) (first|exact⟨hQ,hS⟩|exact⟨p0,p1⟩|exact⟨e1,e2⟩|exact⟨f1,f2⟩|exact⟨k1,k2⟩|go_keep)
         (first|(refine dG rfl _ _ 41 rfl _ _ rfl rfl hJ ?_)|(go_at_call 155;refine ps.out.mono ?_;rintro e w5 ⟨A5,c5,rfl,p3,hP⟩;have hZ:=an hP;have p4:=hZ.row hX.out (fun _ _=>aw) aw;have pj:w2.heap.size<=w5.heap.size:=ND HD hP.size;obtain⟨v6,w6,hJ,p5,hF⟩:=Hl w2.heap.size w5 A3 A5 p c3 k c5 zs p4 pj qs;have hg:=hP.mono HD;have e1:=(hg.cell (p:=⟨g,t,none⟩) hB).trans p0;have e2:=(hg.cell (p:=⟨g,t+1,none⟩) hB).trans p1;have H1:=(Nj w2.heap.size w5).alloc pj (.cells #[.slice A5 k c5] 37);have f1:=(H1.cell (p:=⟨g,t,none⟩) hB).trans e1;have f2:=(H1.cell (p:=⟨g,t+1,none⟩) hB).trans e2;have k1:=(hF.below.cell (p:=⟨g,t,none⟩) hB).trans e1;have k2:=(hF.below.cell (p:=⟨g,t+1,none⟩) hB).trans e2))
        have hw:fH s.data.toList (P++ [La,Lb])=fH s.data.toList P++ [cJ s.data.toList La Lb]:=mf s.data.toList [La,Lb] j P (by rw[hr.out,HJ.out]);have hv:ak w.heap.size [] [37] w5 w6:=hF.mono hf (fun _ h=>h) (fun _ h=>h);have HT:B9 w w6 w2.heap.size s.data.toList v6 (zs++ [.slice A5 k c5]) (P++ [La,Lb]):=by
         refine⟨?_,?_⟩;·rw[hw,Nb,<-HP.out];exact p5
         ·have h1:=(pr.out.step hZ aw).step hv (by decide);have h2:=hv.row (EE p3 (ND hf HD)) (fun _ _=>aw) (by decide);rw[HK.out]at h2;have h3:=h1.snoc h2;rw[hw,HK.out,<-pv.out];exact h3
        have pn:=aa HT;have pl:=aa (hV.out.trans (hg.trans hF.below));clear hJ p5 hF hv HT hw p3 hP hg p4 hZ e1 e2 f1 f2 k1 k2 H1;go_wp2_with fail;go_roundw;case rel=>exact⟨t+2,by go_num,by omega,_,P++ [La,Lb],R2,j+1,by rw[hh.out];simp,by rw[HJ.out];omega,.inl (by rw[Nb,hr.out];rfl),pn.out,pl.out⟩
        case measure=>simp[intOf];omega
       ·have d4:decide ((t:Int)+1<(m:Int))=false:=aR;(go_wp2_with (at_builtin;refine N5 _ rfl _ _ 41 rfl w2.heap.size 37 i30 (.slice none 0 0) 1 24 underlying41 HN p9 pb pf rfl (by decide) _ _ _ rfl (hA.out.alloc _) ⟨w3.heap.size,0,none⟩ 1 1 [.slice Aa na ca] rfl rfl ?c1 ?c2 ?c3 ?c4 ?c5 ?_));case c1=>exact bV _ _ _
        case c2=>intro u hu;simp at hu;subst hu;rfl
        case c3=>unfold maxLen;omega
        case c4=>omega
        case c5=>simp;omega
        intro v4 w4 h9 h4 _;have h0:=hC.out;have h7:=hr.out;have q9:R1= []:=Nq (by omega);subst q9
        have hy:ak w.heap.size [] [37] w3 w4:=
         ((ak.refl _ _ _ _).alloc (by omega) _).grown h4 (by simp;omega) fun k hk=>⟨ND hf (kK (hA.out.alloc (.cells #[.slice Aa na ca] 37)) k hk).1,(kK (hA.out.alloc (.cells #[.slice Aa na ca] 37)) k hk).2⟩
        have HZ:Below w2.heap.size w2 w4:=(hT.out.alloc pg _).grown h4 (by simp;omega) fun k hk=>(hA.out.lt k hk).1;have hw:fH s.data.toList (P++ [La])=fH s.data.toList P++ [La]:=mf s.data.toList [La] j P (by rw[h7,HJ.out]);have HS:B9 w w4 w2.heap.size s.data.toList v4 (zs++ [.slice Aa na ca]) (P++ [La]):=by
         refine⟨?_,?_⟩;·rw[hw,Nb,<-HP.out];exact h9
         ·rw[hw,hW.out];rw[hW.out]at h9 h4;exact(HI.out.lists.step hy (by decide)).snoc (hy.row hD.out (fun _ _=>aw) (by decide))
        have pm:=aa HS;have hV:=aa HZ;clear h9 h4 hy HZ hw HS h0 h7;go_wp2_with fail;go_roundw;case rel=>exact⟨t+2,by go_num,by omega,_,P++ [La], [],j+1,by rw[hh.out,NU],by rw[HJ.out];omega,.inr ⟨rfl,by rw[Nb,NP,hr.out]⟩,pm.out,hV.out⟩
        case measure=>simp[intOf];omega
      ·have q8:R= []:=by
        rcases hK with h|⟨h,_⟩;·exact Nq (by omega)
        ·exact h
       subst q8;have hY:Ls=P:=(by rw[hh.out,NU]);have ha:p=(fH s.data.toList Ls).length:=(by rw[hY];exact HP.out);have HC:p<m:=(by have h1:=q3.out;simp at h0;omega);have HY:Ca w w3 s.data.toList (.slice A3 p c3) zs (fH s.data.toList Ls):=by
        refine⟨?_,?_,Bd _ _ h5.out.parts,(oP _ _).trans h5.out.perm,h5.out.below.trans (hT.out.mono hf)⟩;·rw[<- ha];exact EE hA.out hf
        ·rw[hY];exact HI.out.lists
       have q4:=aa HY;have q2:=aa ha;clear HY ha hY h0 hK;go_wp2_with fail;go_roundw;case rel=>exact⟨zs,_,q4.out,by rw[<- q2.out];omega⟩
       case measure=>exact HC
    ·have d2:decide ((1:Int)<(m:Int))=false:=aR;by_cases e0:m=0;·subst e0;have H7:Ls= []:=Nq HM.out.symm;go_wp2_with fail;go_ret;refine⟨none,0, [],rfl,Nt _ _ _ _,?_,h5.out.below⟩;have hp:=h5.out.perm;rw[H7]at hp;exact sj List.Pairwise.nil hp
     ·obtain rfl:m=1:=(by omega);obtain⟨g,rfl⟩:=HE.out (by rw[<- HM.out];omega);obtain⟨L,hL⟩:∃L,Ls= [L]:=by
       have:=HM.out
       match Ls,this with
       | [L],_=>exact⟨L,rfl⟩
      subst hL;obtain⟨A2,c2,hx,h8⟩:=h5.out.lists.2 0 L rfl;have hc:=h5.out.row.cellAt 0 (by simp);rw[hx]at hc;have q1:=aa h8;clear hx h8;go_wp2_with fail;go_ret;exact⟨A2,c2,L,rfl,q1.out,GJ _ L h5.out.parts h5.out.perm,h5.out.below⟩
