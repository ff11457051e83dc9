import Derived.Test.YtepokmggbfoakaaGreatDoorT13
set_option maxHeartbeats 1600000
set_option maxRecDepth 1000000
namespace Go.Proofs.YtepokmggbfoakaaGreatDoor.S03
open _root_.Go.Proofs.Tryz
open Go.RowKit
theorem xY(x:UInt8)(l:List UInt8):aE (x::l)=0+ch x (255-0) ((x::l).drop 0):=by show ch x 254 l+1=0+ch x (254+1) (x::l);rw[ch,Ng rfl];omega
theorem Gg(l:List UInt8)(k:Nat)(x y:UInt8)(hy:l[k]? =some y)(he:y=x)(h2:k<255)(h:aE l=k+ch x (255-k) (l.drop k)):
 aE l=(k+1)+ch x (255-(k+1)) (l.drop (k+1)):=by
 have h0:k<l.length:=by
  rcases NZ k l.length with h1|h1;·exact h1
  ·rw[Ny h1]at hy;cases hy
 have hd:l.drop k=y::l.drop (k+1):=by rw[NP h0];rw[Nd h0]at hy;rw[Om hy]
 rw[h,hd,show 255-k=(255-(k+1))+1 by omega,ch,Ng he];omega
theorem zK(w:World)(t:ByteArray)(hs:t.size<=9223372036854775807):
 Calls prog 86 #[.string t] w fun e w'=>e=.returned (.int .i64 (aE t.data.toList))/\Below w.heap.size w w':=by
 go_enter func86,ntmps86;go_wp2_with fail;go_loopw [3] (fun i wx=>∃k:Nat,k<=255/\k<=t.size/\i=.int .i64 k/\(∀ h:0<t.size,aE t.data.toList=k+ch t[0] (255-k) (t.data.toList.drop k))/\Below w.heap.size w wx) (fun i _=>255-(intOf i).toNat)
 case atStart=>refine⟨0,by omega,by omega,rfl,fun h=> ?_,Nj _ _⟩;rw[ib t h];exact xY _ _
 case round=>
  obtain⟨k,h1,h2,rfl,hk,h5⟩:=hrel;have h4:=aa h5;clear h5;by_cases e1:k<t.size
  ·have h0:0<t.size:=(by omega);have h3:=hk h0;clear hk;by_cases e2:k<255
   ·by_cases e3:t[k]=t[0]
    ·have HK:=aa (Gg t.data.toList k t[0] t[k] (gu t k e1) e3 e2 h3);have q:(((t[k].toNat:Nat):Int)==((t[0].toNat:Nat):Int))=true:=(by rw[e3];simp);clear h3;have d2:decide ((k:Int)<if(255:Int)<(t.size:Int)then 255 else(t.size:Int))=true:=No (by split <;>omega);go_wp2_with fail;go_region;go_wp2_with fail;go_roundw;case rel=>exact⟨k+1,by omega,by omega,by go_num,fun _=>HK.out,ay h4.out 1⟩
     case measure=>simp[intOf];omega
    ·have HK:=aa (mC t.data.toList k t[0] h3 (.inr (.inr ⟨t[k],gu t k e1,e3⟩)));have q:(((t[k].toNat:Nat):Int)==((t[0].toNat:Nat):Int))=false:=(by simp only[NA,Sh];intro h;exact e3 (UInt8.toNat_inj.1 (by omega)));clear h3 e3;have d2:decide ((k:Int)<if(255:Int)<(t.size:Int)then 255 else(t.size:Int))=true:=No (by split <;>omega);go_wp2_with fail;go_region;go_wp2_with fail
     all_goals (
      go_ret
      exact⟨by rw[HK.out];rfl,ay h4.out 1⟩)
   ·have HK:=aa (mC t.data.toList k t[0] h3 (.inr (.inl (by omega))));clear h3;have d0:(255:Int)<(t.size:Int):=(by omega);have d2:decide ((k:Int)<255)=false:=aD (by omega);go_wp2_with fail;go_region;go_wp2_with fail;go_ret;exact⟨by rw[HK.out];rfl,ay h4.out 1⟩
  ·have hz:aE t.data.toList=k:=by
    by_cases h0:0<t.size;·exact mC t.data.toList k t[0] (hk h0) (.inl (by show t.size<=k;omega))
    ·have ht:t.data.toList= []:=Nw (by show t.size=0;omega);rw[ht];show 0=k;omega
   have HK:=aa hz;clear hk hz;have d2:decide ((k:Int)<if(255:Int)<(t.size:Int)then 255 else(t.size:Int))=false:=Nk (by split <;>omega);go_wp2_with fail;go_region;go_wp2_with fail;go_ret;exact⟨by rw[HK.out];rfl,ay h4.out 1⟩
theorem xM(w:World)(k:Nat)(hk:k<=255):Calls prog 87 #[.int .i64 k] w fun e w'=>e=.returned (.int .i64 ((if k<4 then k else 5:Nat):Int))/\w=w':=by
 by_cases h:k<4;·rw[Ng h];go_enter func87,ntmps87;go_wp2_with fail;go_ret;exact⟨rfl,rfl⟩
 ·rw[Nf h];go_enter func87,ntmps87;go_wp2_with fail;go_ret;exact⟨rfl,rfl⟩
theorem AL(t:ByteArray)(o:List UInt8)(k:Nat)(S:List UInt8)(ht:0<t.size)(hk:aE t.data.toList=k)(h4:k<4)(hS:o++aU t.data.toList=S):
 1<=k/\k<=t.size/\(o++t.data.toList.take k)++aU (t.extract k t.size).data.toList=S:=by have hl:=ib t ht;have hp:0<aE t.data.toList:=(by rw[hl];exact ff _ _);(have h0:t.data.toList≠ []:=fun h=>by rw[h]at hp;exact absurd hp (by decide));have hh:=(ia t.data.toList).2;have h2:t.data.toList.length=t.size:=rfl;refine⟨by omega,by omega,?_⟩;rw[<- hS,je _ h0,hk,jA,Ng h4,eP,Ni]
theorem De(t:ByteArray)(o:List UInt8)(k:Nat)(S:List UInt8)(ht:0<t.size)(hk:aE t.data.toList=k)(h4:¬k<4)(hS:o++aU t.data.toList=S):
 k<=255/\k<=t.size/\(o++t.data.toList.take 4++ [UInt8.ofNat (k-4)])++aU (t.extract k t.size).data.toList=S:=by have hl:=ib t ht;have hp:0<aE t.data.toList:=(by rw[hl];exact ff _ _);(have h0:t.data.toList≠ []:=fun h=>by rw[h]at hp;exact absurd hp (by decide));have hh:=ia t.data.toList;have h2:t.data.toList.length=t.size:=rfl;refine⟨by omega,by omega,?_⟩;rw[<- hS,je _ h0,hk,jA,Nf h4,eP,Ni,Ni,Ni]
theorem kQ(w:World)(s:ByteArray)(hs:s.size<=2097152):
 Calls prog 45 #[.string s] w fun e w'=>e=.returned (.string ⟨(aU s.data.toList).toArray⟩)/\Below w.heap.size w w':=by
 obtain⟨i5,h5,hx,hy,hA⟩:=NY Tryz.info5;go_enter func45,ntmps45;go_wp2_with fail;go_loopw [0,3] (fun a v wr=>∃(t:ByteArray) (o:List UInt8),a=.string t/\wr.ownsRow w.heap.size 5 1 v o.length (o.map bv)/\o.length+2*t.size<=2*s.size/\o++aU t.data.toList=aU s.data.toList/\Below w.heap.size w wr) (fun a _ _=>D3 a)
 case atStart=>exact⟨s, [],rfl,Ns _ _ _ _,by simp,rfl,Nj _ _⟩
 case round=>
  obtain⟨t,o,rfl,h8,hi,h7,hb⟩:=hrel;have he:=hb.size;by_cases h:0<t.size
  ·have hr:=zK wr t (by omega);obtain⟨k,hk⟩:∃k,aE t.data.toList=k:=⟨_,rfl⟩;obtain⟨N,hN⟩:∃N,N=o.length:=⟨_,rfl⟩;rw[hk]at hr;have HR:=aa hr;have HB:=aa hb;rw[<- hN]at h8 hi;have HN:=aa hN;have hl:=aa h8;by_cases h4:k<4
   ·have HP:=aa (AL t o k _ h hk h4 h7);have hE:=HP.out.1;have hF:=HP.out.2.1;clear h7 hk hr hb h8 hN;go_wp2_with fail;refine HR.out.mono ?_;rintro e w1 ⟨rfl,hg⟩;have h2:=(an hg).row hl.out (fun _ _=>ar) ar;have hj:=aa (HB.out.trans (hg.mono he));have h3:=hj.out.size;clear hg;have hG:(t.extract 0 k).size=k:=(by rw[Oo];omega);have ho:N<=4194304:=(by omega);have hf:=aa ho;have hw:=aa hi;clear ho hi;(go_wp2_with (at_builtin;refine QM _ rfl _ _ 39 9 rfl w.heap.size 5 i5 underlying39 underlying9 h5 hx hy hA _ _ _ rfl h2 (t.extract 0 k) rfl ?c3 ?c4 ?c5 ?_));case c3=>have:=hf.out;unfold maxLen;omega
    case c4=>have:=hf.out;omega
    case c5=>exact h3
    intro v2 w2 h6 h1 _;have h0:w2.ownsRow w.heap.size 5 1 v2 (N+k) ((o++t.data.toList.take k).map bv):=(by rw[NF,<-ju];exact h6);have hp:Below w.heap.size w w2:=hj.out.grown h1 h3 (fun k hk=>(h2.lt k hk).1);have hv:=aa hp;have hm:=aa h0;clear hp h6 h0 h1 h2;go_wp2_with fail;have ha:(o++t.data.toList.take k).length=N+k:=(by rw[Nc,Nz,<-HN.out,show t.data.toList.length=t.size from rfl];omega);go_roundw;case rel=>
     refine⟨t.extract k t.size,o++t.data.toList.take k,rfl,?_,?_,HP.out.2.2,hv.out⟩;·rw[ha];exact hm.out
     ·rw[ha,aV];have:=hw.out;omega
    case measure=>show(t.extract k t.size).size<t.size;rw[aV];omega
   ·have HP:=aa (De t o k _ h hk h4 h7);have hE:=HP.out.1;have hF:=HP.out.2.1;clear h7 hk hr hb h8 hN;go_wp2_with fail;refine HR.out.mono ?_;rintro e w1 ⟨rfl,hg⟩;have h2:=(an hg).row hl.out (fun _ _=>ar) ar;have hj:=aa (HB.out.trans (hg.mono he));have h3:=hj.out.size;clear hg;have hG:(t.extract 0 4).size=4:=(by rw[Oo];omega);have ho:N<=4194304:=(by omega);have hf:=aa ho;have hw:=aa hi;have d0:(if(4:Int)<(k:Int)then(4:Int)else(k:Int))=4:=(by split <;>omega);have d4:(4:Int)<=t.size:=(by omega);have d5:(4:Int)<=k:=(by omega);clear ho hi hs h4;(go_wp2_with (at_builtin;refine QM _ rfl _ _ 39 9 rfl w.heap.size 5 i5 underlying39 underlying9 h5 hx hy hA _ _ _ rfl h2 (t.extract 0 4) rfl ?c3 ?c4 ?c5 ?_));case c3=>have:=hf.out;unfold maxLen;omega
    case c4=>have:=hf.out;omega
    case c5=>exact h3
    intro v2 w2 h6 h1 _;have h0:w2.ownsRow w.heap.size 5 1 v2 (N+4) ((o++t.data.toList.take 4).map bv):=(by rw[NF,<-ju];exact h6);have hp:Below w.heap.size w w2:=hj.out.grown h1 h3 (fun k hk=>(h2.lt k hk).1);obtain⟨X,hX⟩:∃X,X=(o++t.data.toList.take 4).map bv:=⟨_,rfl⟩;rw[<- hX]at h0;have HX:=aa hX;have hv:=aa hp;have hh:=hv.out.size;clear hp h6 h1 h2 hX;(go_wp2_with (at_builtin;refine Ob _ rfl _ _ 39 rfl w.heap.size 5 i5 (.int .u8 0) 1 1 underlying39 h5 hx hy hA rfl (by decide) _ _ _ rfl (h0.alloc _) ⟨w2.heap.size,0,none⟩ 1 1 [.int .u8 ((k:Int)-4)] rfl rfl ?c1 ?c2 ?c3 ?c4 ?c5 ?_));case c1=>exact Q7 _ _ _
    case c2=>intro u hu;simp at hu;subst hu;rfl
    case c3=>have:=hf.out;unfold maxLen;omega
    case c4=>have:=hf.out;omega
    case c5=>simp;omega
    intro v3 w3 hc h9 _;have hB:Below w.heap.size w w3:=(hv.out.alloc hh _).grown h9 (by simp;omega) (fun k hk=>(h0.lt k hk).1);have hD:=aa hB;have hn:=aa hc;clear hB hc h9 h0;go_wp2_with fail;have ha:(o++t.data.toList.take 4++ [UInt8.ofNat (k-4)]).length=N+4+1:=(by rw[Nc,Nc,Nz,<-HN.out,show t.data.toList.length=t.size from rfl,NM];omega);have hq:bv (UInt8.ofNat (k-4))=.int .u8 ((k:Int)-4):=(by have:(UInt8.ofNat (k-4)).toNat=k-4:=(by rw[Ot];exact NJ (by omega));unfold bv;rw[this];congr 1;omega);go_roundw;case rel=>
     refine⟨t.extract k t.size,o++t.data.toList.take 4++ [UInt8.ofNat (k-4)],rfl,?_,?_,HP.out.2.2,hD.out⟩;·rw[ha,NF,<-HX.out,OB,Qx,hq];exact hn.out
     ·rw[ha,aV];have:=hw.out;omega
    case measure=>show(t.extract k t.size).size<t.size;rw[aV];omega
  ·have hz:t.size=0:=(by omega);have ht:t.data.toList= []:=Nw hz;rw[ht,kT,NR]at h7;have hC:=iz h8;have HE:=aa h7;have HB:=aa hb;clear h7 hb h8 hi;go_wp2_with fail;go_ret;rw[<- HE.out];exact⟨rfl,HB.out⟩
def oh(k:Nat):Nat:=if k<4 then k else 5
theorem wU(x:UInt8):∀(m:Nat) (l:List UInt8) (q:Nat),q<=ch x m l->ch x m (l.take q)=q
 | 0,l,q,h=>by obtain rfl:q=0:=(by simpa [ch]using h);rfl
 | m+1, [],q,h=>by obtain rfl:q=0:=(by simpa [ch]using h);rfl
 | m+1,y::l,0,_=>rfl
 | m+1,y::l,q+1,h=>by
  unfold ch at h;by_cases e:y=x;·rw[Ng e]at h;rw[Ph];unfold ch;rw[Ng e,wU x m l q (by omega)]
  ·rw[Nf e]at h;omega
theorem py(x:UInt8):∀(m:Nat) (l:List UInt8) (q:Nat),ch x m l<=q->ch x m (l.take q)=ch x m l
 | 0,l,q,_=>by simp[ch]
 | m+1, [],q,_=>by simp
 | m+1,y::l,0,h=>by
  rw[Qq];unfold ch at h |-;by_cases e:y=x;·rw[Ng e]at h;omega
  ·rw[Nf e]
 | m+1,y::l,q+1,h=>by
  rw[Ph];unfold ch at h |-;by_cases e:y=x;·rw[Ng e]at h |-;rw[Ng e,py x m l q (by omega)]
  ·rw[Nf e,Nf e]
theorem wF(l:List UInt8)(m:Nat)(h:m<=aE l):aE (l.take m)=m:=by
 cases l with
 | nil=>simp[aE]at h |-;omega
 | cons x l=>
  cases m with
  | zero=>rfl
  | succ m=>rw[Ph];have h':m+1<=ch x 254 l+1:=h;show ch x 254 (l.take m)+1=m+1;rw[wU x 254 l m (by omega)]
theorem xZ(l:List UInt8)(m:Nat)(h:aE l<=m):aE (l.take m)=aE l:=by
 cases l with
 | nil=>simp
 | cons x l=>
  cases m with
  | zero=>simp[aE]at h
  | succ m=>rw[Ph];have h':ch x 254 l+1<=m+1:=h;show ch x 254 (l.take m)+1=ch x 254 l+1;rw[py x 254 l m (by omega)]
theorem yh(l:List UInt8)(k:Nat)(h:k<=l.length):(jA l k).length=oh k:=by
 unfold jA oh;split;·rw[Nz];omega
 ·rw[Nc,Nz,NM];omega
theorem Ja(l:List UInt8)(m:Nat)(h:m<=aE l):(aU (l.take m)).length=oh m:=by
 have hl:=(ia l).2;by_cases h0:m=0;·subst h0;rfl
 ·(have h1:l.take m≠ []:=fun e=>by have:=congrArg List.length e;rw[Nz,N5]at this;omega);have hz:(l.take m).drop m= []:=OY (by rw[Nz];omega);rw[je _ h1,wF l m h,hz,kT,NR,yh _ _ (by rw[Nz];omega)]
theorem Cy(l:List UInt8)(m:Nat)(hl:l≠ [])(h:aE l<=m):aU (l.take m)=aU (l.take (aE l))++aU ((l.drop (aE l)).take (m-aE l)):=by
 have hp:0<aE l:=by cases l with
  | nil=>exact absurd rfl hl
  | cons x l=>exact ff x l
 have h3:=(ia l).2;have h2:l.take m≠ []:=fun e=>by have:=congrArg List.length e;rw[Nz,N5]at this;omega
 have h0:l.take (aE l)≠ []:=fun e=>by have:=congrArg List.length e;rw[Nz,N5]at this;omega
 have hz:(l.take (aE l)).drop (aE l)= []:=OY (by rw[Nz];omega);have h1:∀a,aE l<=a->jA (l.take a) (aE l)=jA l (aE l):=by
  intro a ha;unfold jA;split;·rw[Rs,Oh ha]
  ·rw[Rs,Oh (by omega)]
 rw[je _ h2,xZ l m h,je _ h0,wF l _ (ah _),hz,kT,NR,h1 m h,h1 _ (ah _),List.drop_take]
def pF(l:List UInt8)(n:Nat):Prop:=∀m,n<=m->(aU (l.take m)).length=(aU (l.take n)).length+(aU ((l.drop n).take (m-n))).length
theorem y7(l:List UInt8):pF l 0:=fun m _=>by
 rw[Qq,kT,Q2]
 simp
theorem y6{l:List UInt8}{n:Nat}(h:pF l n)(hn:n<l.length):pF l (n+aE (l.drop n)):=by intro m hm;(have h0:l.drop n≠ []:=fun e=>by have:=congrArg List.length e;rw[Nq,N5]at this;omega);rw[h m (by omega),h (n+aE (l.drop n)) (by omega),Cy _ (m-n) h0 (by omega),Nc,O5,P7,show m-n-aE (l.drop n)=m-(n+aE (l.drop n)) by omega];omega
theorem pS{l:List UInt8}{n:Nat}(h:pF l n)(q:Nat)(hq:q<=aE (l.drop n)):(aU (l.take (n+q))).length=(aU (l.take n)).length+oh q:=by rw[h (n+q) (by omega),O5,Ja _ q hq]
theorem Jf{l:List UInt8}{most left:Int}{n k:Nat}(hb:pF l n)(hn:n<l.length)(hk:aE (l.drop n)=k)(h7:left=most-(aU (l.take n)).length)(h0:n=0\/0<=left)(h6:left<oh k):
 md l most (n+(min (max left 0) 3).toNat)/\n+(min (max left 0) 3).toNat<l.length:=by
 obtain⟨e,he⟩:∃e,(min (max left 0) 3).toNat=e:=⟨_,rfl⟩;rw[he];have h8:0<k:=by
  rw[<- hk]
  cases hd:l.drop n with
  | nil=>have:=congrArg List.length hd;rw[Nq,N5]at this;omega
  | cons x r=>exact ff x r
 have ha:k<=l.length-n:=by have:=(ia (l.drop n)).2;rw[Nq]at this;omega
 have h9:e<k:=by unfold oh at h6;split at h6 <;>omega
 have h1:=pS hb e (by omega);have h2:=pS hb (e+1) (by omega);refine⟨⟨by omega,fun m hm1 hm2=> ?_,fun _=> ?_⟩,by omega⟩
 ·have h3:=oR l m (n+e) hm2;have h4:oh e=e:=by unfold oh;rw[Ng (by omega)]
  rw[h1,h4]at h3;rcases h0 with h0|h0;·subst h0;have:(e:Int)<=left:=(by omega);omega
  ·omega
 ·rw[show n+e+1=n+(e+1) by omega,h2];have h5:left<oh (e+1):=(by unfold oh at h6 |-;split at h6 <;>split <;>omega);omega
theorem Ls{l:List UInt8}{most left:Int}{n:Nat}(hn:n=l.length)(h1:left=most-(aU (l.take n)).length)(h0:n=0\/0<=left):md l most n:=by refine⟨by omega,fun m hm1 hm2=> ?_,fun h=>by omega⟩;have h3:=oR l m n hm2;omega
theorem IM(w:World)(s:ByteArray)(most:Int)(hs:s.size<=2097152)(hD: -9223372036854775808<=most)(hE:most<=9223372036854775807):
 Calls prog 43 #[.string s,.int .i64 most] w fun e w'=>∃n:Nat,e=.returned (.int .i64 n)/\md s.data.toList most n/\Below w.heap.size w w':=by
 have hl:s.data.toList.length=s.size:=rfl;go_enter func43,ntmps43;go_wp2_with fail;go_loopw [1,5] (fun a i wx=>∃(left:Int) (n:Nat),a=.int .i64 left/\i=.int .i64 n/\n<=s.size/\pF s.data.toList n/\left=most-(aU (s.data.toList.take n)).length/\(n=0\/0<=left)/\ -9223372036854775808<=left/\left<=9223372036854775807/\Below w.heap.size w wx) (fun _ i _=>s.size-(intOf i).toNat)
 case atStart=>exact⟨most,0,rfl,rfl,by omega,y7 _,by rw[Qq,kT];simp,.inl rfl,hD,hE,Nj _ _⟩
 case round=>
  obtain⟨left,n,rfl,rfl,hn,h2,h1,h0,hB,hI,hb⟩:=hrel;have hg:=hb.size;by_cases h:n<s.size
  ·have hr:=zK wr (s.extract n s.size) (by rw[aV];omega);rw[eP]at hr;obtain⟨k,hk⟩:∃k,aE (s.data.toList.drop n)=k:=⟨_,rfl⟩;have hj:=ia (s.data.toList.drop n);have hu:=y6 h2 h;have hy:=pS h2 k (by omega);have hF:0<k:=by
    rw[<- hk]
    cases hd:s.data.toList.drop n with
    | nil=>have:=congrArg List.length hd;rw[Nq,N5]at this;omega
    | cons x r=>exact ff x r
   rw[hk]at hr hu hj;rw[Nq,hl]at hj;have ha:=hj.1;have hA:n+k<=s.size:=(by omega);have HR:=aa hr;have HB:=aa hb;have HK:=aa hk;have ho:=aa h2;have h7:=aa h1;have H0:=aa h0;have hp:=aa hy;have hz:=aa hu;have hv:=aa hl;have hw:(if k<4 then k else 5:Nat)=oh k:=rfl;have hG:oh k<=5:=(by unfold oh;split <;>omega);have ht:=fun w1:World=>xM w1 k ha;simp only[hw]at ht;have HW:=aa ht;clear hr hb hk h2 h1 h0 hy hu hl hj hw ht;obtain⟨q,hq⟩:∃q,oh k=q:=⟨_,rfl⟩;have h9:=hp.out;rw[hq]at hG HW h9;have hp:=aa h9;have HQ:=aa hq;clear hq h9;go_wp2_with fail;refine HR.out.mono ?_;rintro e w1 ⟨rfl,hx⟩;have hi:=aa (HB.out.trans (hx.mono hg));clear hx;go_wp2_with fail;refine(HW.out w1).mono ?_;rintro e w1 ⟨rfl,rfl⟩;by_cases hc:left<(q:Int)
   ·have hm:=Jf ho.out (by rw[hv.out];exact h) HK.out h7.out H0.out (by show left<((oh k:Nat):Int);rw[HQ.out];exact hc);have hH:=aa hm;have hh:=hm.2;rw[hv.out]at hh;obtain⟨e,he⟩:∃e,e=(min (max left 0) 3).toNat:=⟨_,rfl⟩;rw[<- he]at hh;have hf:md s.data.toList most (n+e):=(by rw[he];exact hm.1);have HF:=aa hf;clear hm hf;have h3:left<0\/(0<=left/\¬left<0/\left<=3/\¬(3<left))\/(0<=left/\¬left<0/\3<left):=(by omega);rcases h3 with h3|⟨h3,h4,h5,h6⟩|⟨h3,h4,h5⟩;·have h8:e=0:=(by omega);have HE:=aa h8;clear he h8;go_wp2_with fail;go_ret;refine⟨n+e,?_,HF.out,hi.out⟩;rw[HE.out];rfl
    ·have h8:left=e:=(by omega);have HE:=aa h8;clear he h8;go_wp2_with fail;go_ret;refine⟨n+e,?_,HF.out,hi.out⟩;show Ending.returned (.int .i64 ((n:Int)+left))=_;rw[HE.out];rfl
    ·have h8:e=3:=(by omega);have HE:=aa h8;clear he h8;go_wp2_with fail;go_ret;refine⟨n+e,?_,HF.out,hi.out⟩;rw[HE.out];rfl
   ·have HL:=aa hB;have hJ:(q:Int)<=left:=(by omega);have hC:(0:Int)<=left-q:=(by omega);clear hc;go_wp2_with fail;refine(HW.out w1).mono ?_;rintro e w1 ⟨rfl,rfl⟩;go_wp2_with fail;go_roundw;case rel=>refine⟨left-q,n+k,rfl,by go_num,hA,hz.out,?_,.inr hC,by omega,by omega,hi.out⟩;rw[hp.out,h7.out];omega
    case measure=>simp[intOf];omega
  ·have HF:=aa (Ls (l:=s.data.toList) (most:=most) (left:=left) (n:=n) (by rw[hl];omega) h1 h0);clear h2 h1 h0;go_wp2_with fail;go_ret;exact⟨n,rfl,HF.out,hb⟩
theorem uL(x:UInt8):∀(m:Nat) (l:List UInt8),l=List.replicate (ch x m l) x++l.drop (ch x m l)/\(ch x m l<m->(l.drop (ch x m l)).head? ≠some x)
 | 0,l=>⟨rfl,fun h=>absurd h (Rd _)⟩
 | m+1, []=>⟨rfl,fun _ h=>by cases h⟩
 | m+1,y::l=>by
  by_cases e:y=x;·have h:=uL x m l;subst e;have hr:ch y (m+1) (y::l)=ch y m l+1:=(by rw[ch,Ng rfl]);rw[hr];refine⟨?_,fun hlt=>h.2 (by omega)⟩;show y::l=y::(List.replicate (ch y m l) y++l.drop (ch y m l));rw[<- h.1]
  ·have hr:ch x (m+1) (y::l)=0:=(by rw[ch,Nf e]);rw[hr];exact⟨rfl,fun _ h=>e (Om h)⟩
theorem DE(x:UInt8)(l:List UInt8)(n:Nat)(h:fJ (x::l)=n)(h4:n<4):x::l=List.replicate n x++(x::l).drop n/\((x::l).drop n).head? ≠some x:=by have hs:=uL x 3 l;have h1:1+ch x 3 l=n:=h;obtain⟨j,rfl⟩:∃j,n=j+1:=⟨n-1,by omega⟩;have hj:ch x 3 l=j:=(by omega);rw[hj]at hs;refine⟨?_,hs.2 (by omega)⟩;show x::l=x::(List.replicate j x++l.drop j);rw[<- hs.1]
theorem r9(x:UInt8)(r:List UInt8)(hr:r.head? ≠some x):∀(k:Nat) (o:List UInt8),k<4->o.length<=262144->eD o (List.replicate k x++r)=if o.length+k<=262144 then eD (o++List.replicate k x) r else([],3)
 | 0,o,_,ho=>by rw[Ng (by omega)];simp
 | k+1,o,h,ho=>by
  have hs:=qG x (k+1) r (by omega) (by omega) (.inr hr);show eD o (x::(List.replicate k x++r))=_;rw[kR,Ng (by show fJ (List.replicate (k+1) x++r)<4;omega)];by_cases hb:262144<=o.length;·rw[Ng hb,Nf (by omega)]
  ·rw[Nf hb,r9 x r hr k (o++ [x]) (by omega) (by rw[Nc,NM];omega),Nc,NM,Ni];by_cases hf:o.length+(k+1)<=262144;·rw[Ng (by omega),Ng hf];rfl
   ·rw[Nf (by omega),Nf hf]
theorem Lm(o l:List UInt8)(n:Nat)(hl:l≠ [])(h:fJ l=n)(h4:n<4)(ho:o.length<=262144):eD o l=if o.length+n<=262144 then eD (o++l.take n) (l.drop n)else([],3):=by
 cases l with
 | nil=>exact absurd rfl hl
 | cons x l=>obtain⟨hs,hh⟩:=DE x l n h h4;have hd:=r9 x _ hh n o h4 ho;rw[<- hs]at hd;have ht:(x::l).take n=List.replicate n x:=(by have h2:=congrArg (List.take n) hs;rw[OH (by simp)]at h2;rw[h2,Nt (by simp)]);rw[hd,ht]
theorem Cs(o l:List UInt8)(x:UInt8)(hx:l[0]? =some x)(h:fJ l=4):eD o l=
 if 262144<o.length+4 then([],3)else if l.length=4 then([],30)
 else if 262144<o.length+4+(l.getD 4 0).toNat then([],3)else eD (o++l.take 4++List.replicate (l.getD 4 0).toNat x) (l.drop 5):=by
 cases l with
 | nil=>cases hx
 | cons y l=>have e:y=x:=Om hx;subst e;rw[kR,Nf (by omega)];have h4:(l.length=3)=((y::l).length=4):=(by rw[Nv];exact propext ⟨fun h=>by omega,fun h=>by omega⟩);simp only[h4];rfl
