import Derived.Test.YtepokmggbfoakaaGreatDoorA13
set_option maxHeartbeats 1600000
set_option maxRecDepth 1000000
namespace Go.Proofs.YtepokmggbfoakaaGreatDoor.S03
open Go.RowKit
theorem xn(x:UInt8)(l:List UInt8):aG (x :: l)=0+bZ x (255 - 0) ((x :: l).drop 0):=by show bZ x 254 l+1=0+bZ x (254+1) (x :: l);rw[bZ,LX rfl];omega
theorem Fu(l:List UInt8)(k:Nat)(x y:UInt8)(hy:l[k]? =some y)(he:y=x)(h2:k<255)(h:aG l=k+bZ x (255 - k) (l.drop k)):
 aG l=(k+1)+bZ x (255 - (k+1)) (l.drop (k+1)):=by
 have h0:k<l.length:=by
  rcases MF k l.length with h1 | h1;·exact h1
  ·rw[Mf h1]at hy;cases hy
 have hd:l.drop k=y :: l.drop (k+1):=by rw[MA h0];rw[LV h0]at hy;rw[My hy]
 rw[h,hd,show 255 - k=(255 - (k+1))+1 by omega,bZ,LX he];omega
theorem y5(w:World)(t:ByteArray)(hs:t.size≤9223372036854775807):
 Calls Tryz.prog 86 #[.string t] w fun e w'=>e=.returned (.int .i64 (aG t.data.toList))∧Below w.heap.size w w':=by
 go_enter Tryz.func86,Tryz.ntmps86;go_wp2_with fail;go_loopw [3] (fun i wx=>∃k:Nat,k≤255∧k≤t.size∧i=.int .i64 k∧(∀ h:0<t.size,aG t.data.toList=k+bZ t[0] (255 - k) (t.data.toList.drop k))∧Below w.heap.size w wx) (fun i _=>255 - (intOf i).toNat)
 case atStart=>refine⟨0,by omega,by omega,rfl,fun h=> ?_,L6 _ _⟩;rw[kP t h];exact xn _ _
 case round=>
  obtain⟨k,h1,h2,rfl,hk,h5⟩:=hrel;have h4:=aa h5;clear h5;by_cases e1:k<t.size
  ·have h0:0<t.size:=(by omega);have h3:=hk h0;clear hk;by_cases e2:k<255
   ·by_cases e3:t[k]=t[0]
    ·have HK:=aa (Fu t.data.toList k t[0] t[k] (kH t k e1) e3 e2 h3);have q:(((t[k].toNat:Nat):Int)==((t[0].toNat:Nat):Int))=true:=(by rw[e3];simp);clear h3;have d2:decide ((k:Int)<if(255:Int)<(t.size:Int)then 255 else(t.size:Int))=true:=L8 (by split <;>omega);go_wp2_with fail;go_region;go_wp2_with fail;go_roundw;case rel=>exact⟨k+1,by omega,by omega,by go_num,fun _=>HK.out,aL h4.out 1⟩
     case measure=>simp[intOf];omega
    ·have HK:=aa (mi t.data.toList k t[0] h3 (.inr (.inr ⟨t[k],kH t k e1,e3⟩)));have q:(((t[k].toNat:Nat):Int)==((t[0].toNat:Nat):Int))=false:=(by simp only[Mr,ne_eq];intro h;exact e3 (UInt8.toNat_inj.1 (by omega)));clear h3 e3;have d2:decide ((k:Int)<if(255:Int)<(t.size:Int)then 255 else(t.size:Int))=true:=L8 (by split <;>omega);go_wp2_with fail;go_region;go_wp2_with fail
     all_goals (
      go_ret
      exact⟨by rw[HK.out];rfl,aL h4.out 1⟩)
   ·have HK:=aa (mi t.data.toList k t[0] h3 (.inr (.inl (by omega))));clear h3;have d0:(255:Int)<(t.size:Int):=(by omega);have d2:decide ((k:Int)<255)=false:=aN (by omega);go_wp2_with fail;go_region;go_wp2_with fail;go_ret;exact⟨by rw[HK.out];rfl,aL h4.out 1⟩
  ·have hz:aG t.data.toList=k:=by
    by_cases h0:0<t.size;·exact mi t.data.toList k t[0] (hk h0) (.inl (by show t.size≤k;omega))
    ·have ht:t.data.toList= []:=Mg (by show t.size=0;omega);rw[ht];show 0=k;omega
   have HK:=aa hz;clear hk hz;have d2:decide ((k:Int)<if(255:Int)<(t.size:Int)then 255 else(t.size:Int))=false:=L7 (by split <;>omega);go_wp2_with fail;go_region;go_wp2_with fail;go_ret;exact⟨by rw[HK.out];rfl,aL h4.out 1⟩
theorem wX(w:World)(k:Nat)(hk:k≤255):Calls Tryz.prog 87 #[.int .i64 k] w fun e w'=>e=.returned (.int .i64 ((if k<4 then k else 5:Nat):Int))∧w=w':=by
 by_cases h:k<4;·rw[LX h];go_enter Tryz.func87,Tryz.ntmps87;go_wp2_with fail;go_ret;exact⟨rfl,rfl⟩
 ·rw[LW h];go_enter Tryz.func87,Tryz.ntmps87;go_wp2_with fail;go_ret;exact⟨rfl,rfl⟩
theorem Ah(t:ByteArray)(o:List UInt8)(k:Nat)(S:List UInt8)(ht:0<t.size)(hk:aG t.data.toList=k)(h4:k<4)(hS:o++aT t.data.toList=S):
 1≤k∧k≤t.size∧(o++t.data.toList.take k)++aT (t.extract k t.size).data.toList=S:=by have hl:=kP t ht;have hp:0<aG t.data.toList:=(by rw[hl];exact eS _ _);(have h0:t.data.toList≠ []:=fun h=>by rw[h]at hp;exact absurd hp (by decide));have hh:=(gG t.data.toList).2;have h2:t.data.toList.length=t.size:=rfl;refine⟨by omega,by omega,?_⟩;rw[← hS,ja _ h0,hk,jx,LX h4,ig,LZ]
theorem CC(t:ByteArray)(o:List UInt8)(k:Nat)(S:List UInt8)(ht:0<t.size)(hk:aG t.data.toList=k)(h4:¬k<4)(hS:o++aT t.data.toList=S):
 k≤255∧k≤t.size∧(o++t.data.toList.take 4++ [UInt8.ofNat (k - 4)])++aT (t.extract k t.size).data.toList=S:=by have hl:=kP t ht;have hp:0<aG t.data.toList:=(by rw[hl];exact eS _ _);(have h0:t.data.toList≠ []:=fun h=>by rw[h]at hp;exact absurd hp (by decide));have hh:=gG t.data.toList;have h2:t.data.toList.length=t.size:=rfl;refine⟨by omega,by omega,?_⟩;rw[← hS,ja _ h0,hk,jx,LW h4,ig,LZ,LZ,LZ]
theorem kG(w:World)(s:ByteArray)(hs:s.size≤2097152):
 Calls Tryz.prog 45 #[.string s] w fun e w'=>e=.returned (.string ⟨(aT s.data.toList).toArray⟩)∧Below w.heap.size w w':=by
 obtain⟨i5,h5,hx,hy,hA⟩:=MT Tryz.info5;go_enter Tryz.func45,Tryz.ntmps45;go_wp2_with fail;go_loopw [0,3] (fun a v wr=>∃(t:ByteArray) (o:List UInt8),a=.string t∧wr.ownsRow w.heap.size 5 1 v o.length (o.map bv)∧o.length+2*t.size≤2*s.size∧o++aT t.data.toList=aT s.data.toList∧Below w.heap.size w wr) (fun a _ _=>JI a)
 case atStart=>exact⟨s, [],rfl,Ml _ _ _ _,by simp,rfl,L6 _ _⟩
 case round=>
  obtain⟨t,o,rfl,h8,hi,h7,hb⟩:=hrel;have he:=hb.size;by_cases h:0<t.size
  ·have hr:=y5 wr t (by omega);obtain⟨k,hk⟩:∃k,aG t.data.toList=k:=⟨_,rfl⟩;obtain⟨N,hN⟩:∃N,N=o.length:=⟨_,rfl⟩;rw[hk]at hr;have HR:=aa hr;have HB:=aa hb;rw[← hN]at h8 hi;have HN:=aa hN;have hl:=aa h8;by_cases h4:k<4
   ·have HP:=aa (Ah t o k _ h hk h4 h7);have hE:=HP.out.1;have hF:=HP.out.2.1;clear h7 hk hr hb h8 hN;go_wp2_with fail;refine HR.out.mono ?_;rintro e w1 ⟨rfl,hg⟩;have h2:=(an hg).row hl.out (fun _ _=>ay) ay;have hj:=aa (HB.out.trans (hg.mono he));have h3:=hj.out.size;clear hg;have hG:(t.extract 0 k).size=k:=(by rw[Ni];omega);have ho:N≤4194304:=(by omega);have hf:=aa ho;have hw:=aa hi;clear ho hi;(go_wp2_with (at_builtin;refine Lib.wpList_append_own_string _ rfl _ _ 39 9 rfl w.heap.size 5 i5 Tryz.underlying39 Tryz.underlying9 h5 hx hy hA _ _ _ rfl h2 (t.extract 0 k) rfl ?c3 ?c4 ?c5 ?_));case c3=>have:=hf.out;unfold maxLen;omega
    case c4=>have:=hf.out;omega
    case c5=>exact h3
    intro v2 w2 h6 h1 _;have h0:w2.ownsRow w.heap.size 5 1 v2 (N+k) ((o++t.data.toList.take k).map bv):=(by rw[Mw,←jt];exact h6);have hp:Below w.heap.size w w2:=hj.out.grown h1 h3 (fun k hk=>(h2.lt k hk).1);have hv:=aa hp;have hm:=aa h0;clear hp h6 h0 h1 h2;go_wp2_with fail;have ha:(o++t.data.toList.take k).length=N+k:=(by rw[LR,Mj,←HN.out,show t.data.toList.length=t.size from rfl];omega);go_roundw;case rel=>
     refine⟨t.extract k t.size,o++t.data.toList.take k,rfl,?_,?_,HP.out.2.2,hv.out⟩;·rw[ha];exact hm.out
     ·rw[ha,bJ];have:=hw.out;omega
    case measure=>show(t.extract k t.size).size<t.size;rw[bJ];omega
   ·have HP:=aa (CC t o k _ h hk h4 h7);have hE:=HP.out.1;have hF:=HP.out.2.1;clear h7 hk hr hb h8 hN;go_wp2_with fail;refine HR.out.mono ?_;rintro e w1 ⟨rfl,hg⟩;have h2:=(an hg).row hl.out (fun _ _=>ay) ay;have hj:=aa (HB.out.trans (hg.mono he));have h3:=hj.out.size;clear hg;have hG:(t.extract 0 4).size=4:=(by rw[Ni];omega);have ho:N≤4194304:=(by omega);have hf:=aa ho;have hw:=aa hi;have d0:(if(4:Int)<(k:Int)then(4:Int)else(k:Int))=4:=(by split <;>omega);have d4:(4:Int)≤t.size:=(by omega);have d5:(4:Int)≤k:=(by omega);clear ho hi hs h4;(go_wp2_with (at_builtin;refine Lib.wpList_append_own_string _ rfl _ _ 39 9 rfl w.heap.size 5 i5 Tryz.underlying39 Tryz.underlying9 h5 hx hy hA _ _ _ rfl h2 (t.extract 0 4) rfl ?c3 ?c4 ?c5 ?_));case c3=>have:=hf.out;unfold maxLen;omega
    case c4=>have:=hf.out;omega
    case c5=>exact h3
    intro v2 w2 h6 h1 _;have h0:w2.ownsRow w.heap.size 5 1 v2 (N+4) ((o++t.data.toList.take 4).map bv):=(by rw[Mw,←jt];exact h6);have hp:Below w.heap.size w w2:=hj.out.grown h1 h3 (fun k hk=>(h2.lt k hk).1);obtain⟨X,hX⟩:∃X,X=(o++t.data.toList.take 4).map bv:=⟨_,rfl⟩;rw[← hX]at h0;have HX:=aa hX;have hv:=aa hp;have hh:=hv.out.size;clear hp h6 h1 h2 hX;(go_wp2_with (at_builtin;refine No _ rfl _ _ 39 rfl w.heap.size 5 i5 (.int .u8 0) 1 1 Tryz.underlying39 h5 hx hy hA rfl (by decide) _ _ _ rfl (h0.alloc _) ⟨w2.heap.size,0,none⟩ 1 1 [.int .u8 ((k:Int) - 4)] rfl rfl ?c1 ?c2 ?c3 ?c4 ?c5 ?_));case c1=>exact cell_one_new _ _ _
    case c2=>intro u hu;simp at hu;subst hu;rfl
    case c3=>have:=hf.out;unfold maxLen;omega
    case c4=>have:=hf.out;omega
    case c5=>simp;omega
    intro v3 w3 hc h9 _;have hB:Below w.heap.size w w3:=(hv.out.alloc hh _).grown h9 (by simp;omega) (fun k hk=>(h0.lt k hk).1);have hD:=aa hB;have hn:=aa hc;clear hB hc h9 h0;go_wp2_with fail;have ha:(o++t.data.toList.take 4++ [UInt8.ofNat (k - 4)]).length=N+4+1:=(by rw[LR,LR,Mj,←HN.out,show t.data.toList.length=t.size from rfl,Mq];omega);have hq:bv (UInt8.ofNat (k - 4))=.int .u8 ((k:Int) - 4):=(by have:(UInt8.ofNat (k - 4)).toNat=k - 4:=(by rw[M4];exact Ms (by omega));unfold bv;rw[this];congr 1;omega);go_roundw;case rel=>
     refine⟨t.extract k t.size,o++t.data.toList.take 4++ [UInt8.ofNat (k - 4)],rfl,?_,?_,HP.out.2.2,hD.out⟩;·rw[ha,Mw,←HX.out,M8,Pa,hq];exact hn.out
     ·rw[ha,bJ];have:=hw.out;omega
    case measure=>show(t.extract k t.size).size<t.size;rw[bJ];omega
  ·have hz:t.size=0:=(by omega);have ht:t.data.toList= []:=Mg hz;rw[ht,kI,Mv]at h7;have hC:=ow h8;have HE:=aa h7;have HB:=aa hb;clear h7 hb h8 hi;go_wp2_with fail;go_ret;rw[← HE.out];exact⟨rfl,HB.out⟩
def nV(k:Nat):Nat:=if k<4 then k else 5
theorem vW(x:UInt8):∀(m:Nat) (l:List UInt8) (q:Nat),q≤bZ x m l→bZ x m (l.take q)=q
 | 0,l,q,h=>by obtain rfl:q=0:=(by simpa [bZ]using h);rfl
 | m+1, [],q,h=>by obtain rfl:q=0:=(by simpa [bZ]using h);rfl
 | m+1,y :: l,0,_=>rfl
 | m+1,y :: l,q+1,h=>by
  unfold bZ at h;by_cases e:y=x;·rw[LX e]at h;rw[NK];unfold bZ;rw[LX e,vW x m l q (by omega)]
  ·rw[LW e]at h;omega
theorem o8(x:UInt8):∀(m:Nat) (l:List UInt8) (q:Nat),bZ x m l≤q→bZ x m (l.take q)=bZ x m l
 | 0,l,q,_=>by simp[bZ]
 | m+1, [],q,_=>by simp
 | m+1,y :: l,0,h=>by
  rw[OJ];unfold bZ at h ⊢;by_cases e:y=x;·rw[LX e]at h;omega
  ·rw[LW e]
 | m+1,y :: l,q+1,h=>by
  rw[NK];unfold bZ at h ⊢;by_cases e:y=x;·rw[LX e]at h ⊢;rw[LX e,o8 x m l q (by omega)]
  ·rw[LW e,LW e]
theorem vI(l:List UInt8)(m:Nat)(h:m≤aG l):aG (l.take m)=m:=by
 cases l with
 | nil=>simp[aG]at h ⊢;omega
 | cons x l=>
  cases m with
  | zero=>rfl
  | succ m=>rw[NK];have h':m+1≤bZ x 254 l+1:=h;show bZ x 254 (l.take m)+1=m+1;rw[vW x 254 l m (by omega)]
theorem xo(l:List UInt8)(m:Nat)(h:aG l≤m):aG (l.take m)=aG l:=by
 cases l with
 | nil=>simp
 | cons x l=>
  cases m with
  | zero=>simp[aG]at h
  | succ m=>rw[NK];have h':bZ x 254 l+1≤m+1:=h;show bZ x 254 (l.take m)+1=bZ x 254 l+1;rw[o8 x 254 l m (by omega)]
theorem xz(l:List UInt8)(k:Nat)(h:k≤l.length):(jx l k).length=nV k:=by
 unfold jx nV;split;·rw[Mj];omega
 ·rw[LR,Mj,Mq];omega
theorem Ie(l:List UInt8)(m:Nat)(h:m≤aG l):(aT (l.take m)).length=nV m:=by
 have hl:=(gG l).2;by_cases h0:m=0;·subst h0;rfl
 ·(have h1:l.take m≠ []:=fun e=>by have:=congrArg List.length e;rw[Mj,MH]at this;omega);have hz:(l.take m).drop m= []:=Nt (by rw[Mj];omega);rw[ja _ h1,vI l m h,hz,kI,Mv,xz _ _ (by rw[Mj];omega)]
theorem BV(l:List UInt8)(m:Nat)(hl:l≠ [])(h:aG l≤m):aT (l.take m)=aT (l.take (aG l))++aT ((l.drop (aG l)).take (m - aG l)):=by
 have hp:0<aG l:=by cases l with
  | nil=>exact absurd rfl hl
  | cons x l=>exact eS x l
 have h3:=(gG l).2;have h2:l.take m≠ []:=fun e=>by have:=congrArg List.length e;rw[Mj,MH]at this;omega
 have h0:l.take (aG l)≠ []:=fun e=>by have:=congrArg List.length e;rw[Mj,MH]at this;omega
 have hz:(l.take (aG l)).drop (aG l)= []:=Nt (by rw[Mj];omega);have h1:∀a,aG l≤a→jx (l.take a) (aG l)=jx l (aG l):=by
  intro a ha;unfold jx;split;·rw[PX,MN ha]
  ·rw[PX,MN (by omega)]
 rw[ja _ h2,xo l m h,ja _ h0,vI l _ (ag _),hz,kI,Mv,h1 m h,h1 _ (ag _),List.drop_take]
def pn(l:List UInt8)(n:Nat):Prop:=∀m,n≤m→(aT (l.take m)).length=(aT (l.take n)).length+(aT ((l.drop n).take (m - n))).length
theorem yv(l:List UInt8):pn l 0:=fun m _=>by
 rw[OJ,kI,PZ]
 simp
theorem yu{l:List UInt8}{n:Nat}(h:pn l n)(hn:n<l.length):pn l (n+aG (l.drop n)):=by intro m hm;(have h0:l.drop n≠ []:=fun e=>by have:=congrArg List.length e;rw[Mc,MH]at this;omega);rw[h m (by omega),h (n+aG (l.drop n)) (by omega),BV _ (m - n) h0 (by omega),LR,Ny,OF,show m - n - aG (l.drop n)=m - (n+aG (l.drop n)) by omega];omega
theorem pE{l:List UInt8}{n:Nat}(h:pn l n)(q:Nat)(hq:q≤aG (l.drop n)):(aT (l.take (n+q))).length=(aT (l.take n)).length+nV q:=by rw[h (n+q) (by omega),Ny,Ie _ q hq]
theorem Ii{l:List UInt8}{most left:Int}{n k:Nat}(hb:pn l n)(hn:n<l.length)(hk:aG (l.drop n)=k)(h7:left=most - (aT (l.take n)).length)(h0:n=0∨0≤left)(h6:left<nV k):
 lJ l most (n+(min (max left 0) 3).toNat)∧n+(min (max left 0) 3).toNat<l.length:=by
 obtain⟨e,he⟩:∃e,(min (max left 0) 3).toNat=e:=⟨_,rfl⟩;rw[he];have h8:0<k:=by
  rw[← hk]
  cases hd:l.drop n with
  | nil=>have:=congrArg List.length hd;rw[Mc,MH]at this;omega
  | cons x r=>exact eS x r
 have ha:k≤l.length - n:=by have:=(gG (l.drop n)).2;rw[Mc]at this;omega
 have h9:e<k:=by unfold nV at h6;split at h6 <;>omega
 have h1:=pE hb e (by omega);have h2:=pE hb (e+1) (by omega);refine⟨⟨by omega,fun m hm1 hm2=> ?_,fun _=> ?_⟩,by omega⟩
 ·have h3:=iP l m (n+e) hm2;have h4:nV e=e:=by unfold nV;rw[LX (by omega)]
  rw[h1,h4]at h3;rcases h0 with h0 | h0;·subst h0;have:(e:Int)≤left:=(by omega);omega
  ·omega
 ·rw[show n+e+1=n+(e+1) by omega,h2];have h5:left<nV (e+1):=(by unfold nV at h6 ⊢;split at h6 <;>split <;>omega);omega
theorem Kn{l:List UInt8}{most left:Int}{n:Nat}(hn:n=l.length)(h1:left=most - (aT (l.take n)).length)(h0:n=0∨0≤left):lJ l most n:=by refine⟨by omega,fun m hm1 hm2=> ?_,fun h=>by omega⟩;have h3:=iP l m n hm2;omega
theorem Hh(w:World)(s:ByteArray)(most:Int)(hs:s.size≤2097152)(hD: -9223372036854775808≤most)(hE:most≤9223372036854775807):
 Calls Tryz.prog 43 #[.string s,.int .i64 most] w fun e w'=>∃n:Nat,e=.returned (.int .i64 n)∧lJ s.data.toList most n∧Below w.heap.size w w':=by
 have hl:s.data.toList.length=s.size:=rfl;go_enter Tryz.func43,Tryz.ntmps43;go_wp2_with fail;go_loopw [1,5] (fun a i wx=>∃(left:Int) (n:Nat),a=.int .i64 left∧i=.int .i64 n∧n≤s.size∧pn s.data.toList n∧left=most - (aT (s.data.toList.take n)).length∧(n=0∨0≤left)∧ -9223372036854775808≤left∧left≤9223372036854775807∧Below w.heap.size w wx) (fun _ i _=>s.size - (intOf i).toNat)
 case atStart=>exact⟨most,0,rfl,rfl,by omega,yv _,by rw[OJ,kI];simp,.inl rfl,hD,hE,L6 _ _⟩
 case round=>
  obtain⟨left,n,rfl,rfl,hn,h2,h1,h0,hB,hI,hb⟩:=hrel;have hg:=hb.size;by_cases h:n<s.size
  ·have hr:=y5 wr (s.extract n s.size) (by rw[bJ];omega);rw[ig]at hr;obtain⟨k,hk⟩:∃k,aG (s.data.toList.drop n)=k:=⟨_,rfl⟩;have hj:=gG (s.data.toList.drop n);have hu:=yu h2 h;have hy:=pE h2 k (by omega);have hF:0<k:=by
    rw[← hk]
    cases hd:s.data.toList.drop n with
    | nil=>have:=congrArg List.length hd;rw[Mc,MH]at this;omega
    | cons x r=>exact eS x r
   rw[hk]at hr hu hj;rw[Mc,hl]at hj;have ha:=hj.1;have hA:n+k≤s.size:=(by omega);have HR:=aa hr;have HB:=aa hb;have HK:=aa hk;have ho:=aa h2;have h7:=aa h1;have H0:=aa h0;have hp:=aa hy;have hz:=aa hu;have hv:=aa hl;have hw:(if k<4 then k else 5:Nat)=nV k:=rfl;have hG:nV k≤5:=(by unfold nV;split <;>omega);have ht:=fun w1:World=>wX w1 k ha;simp only[hw]at ht;have HW:=aa ht;clear hr hb hk h2 h1 h0 hy hu hl hj hw ht;obtain⟨q,hq⟩:∃q,nV k=q:=⟨_,rfl⟩;have h9:=hp.out;rw[hq]at hG HW h9;have hp:=aa h9;have HQ:=aa hq;clear hq h9;go_wp2_with fail;refine HR.out.mono ?_;rintro e w1 ⟨rfl,hx⟩;have hi:=aa (HB.out.trans (hx.mono hg));clear hx;go_wp2_with fail;refine(HW.out w1).mono ?_;rintro e w1 ⟨rfl,rfl⟩;by_cases hc:left<(q:Int)
   ·have hm:=Ii ho.out (by rw[hv.out];exact h) HK.out h7.out H0.out (by show left<((nV k:Nat):Int);rw[HQ.out];exact hc);have hH:=aa hm;have hh:=hm.2;rw[hv.out]at hh;obtain⟨e,he⟩:∃e,e=(min (max left 0) 3).toNat:=⟨_,rfl⟩;rw[← he]at hh;have hf:lJ s.data.toList most (n+e):=(by rw[he];exact hm.1);have HF:=aa hf;clear hm hf;have h3:left<0∨(0≤left∧¬left<0∧left≤3∧¬(3<left))∨(0≤left∧¬left<0∧3<left):=(by omega);rcases h3 with h3 | ⟨h3,h4,h5,h6⟩ | ⟨h3,h4,h5⟩;·have h8:e=0:=(by omega);have HE:=aa h8;clear he h8;go_wp2_with fail;go_ret;refine⟨n+e,?_,HF.out,hi.out⟩;rw[HE.out];rfl
    ·have h8:left=e:=(by omega);have HE:=aa h8;clear he h8;go_wp2_with fail;go_ret;refine⟨n+e,?_,HF.out,hi.out⟩;show Ending.returned (.int .i64 ((n:Int)+left))=_;rw[HE.out];rfl
    ·have h8:e=3:=(by omega);have HE:=aa h8;clear he h8;go_wp2_with fail;go_ret;refine⟨n+e,?_,HF.out,hi.out⟩;rw[HE.out];rfl
   ·have HL:=aa hB;have hJ:(q:Int)≤left:=(by omega);have hC:(0:Int)≤left - q:=(by omega);clear hc;go_wp2_with fail;refine(HW.out w1).mono ?_;rintro e w1 ⟨rfl,rfl⟩;go_wp2_with fail;go_roundw;case rel=>refine⟨left - q,n+k,rfl,by go_num,hA,hz.out,?_,.inr hC,by omega,by omega,hi.out⟩;rw[hp.out,h7.out];omega
    case measure=>simp[intOf];omega
  ·have HF:=aa (Kn (l:=s.data.toList) (most:=most) (left:=left) (n:=n) (by rw[hl];omega) h1 h0);clear h2 h1 h0;go_wp2_with fail;go_ret;exact⟨n,rfl,HF.out,hb⟩
theorem uf(x:UInt8):∀(m:Nat) (l:List UInt8),l=List.replicate (bZ x m l) x++l.drop (bZ x m l)∧(bZ x m l<m→(l.drop (bZ x m l)).head? ≠some x)
 | 0,l=>⟨rfl,fun h=>absurd h (PC _)⟩
 | m+1, []=>⟨rfl,fun _ h=>by cases h⟩
 | m+1,y :: l=>by
  by_cases e:y=x;·have h:=uf x m l;subst e;have hr:bZ y (m+1) (y :: l)=bZ y m l+1:=(by rw[bZ,LX rfl]);rw[hr];refine⟨?_,fun hlt=>h.2 (by omega)⟩;show y :: l=y :: (List.replicate (bZ y m l) y++l.drop (bZ y m l));rw[← h.1]
  ·have hr:bZ x (m+1) (y :: l)=0:=(by rw[bZ,LW e]);rw[hr];exact⟨rfl,fun _ h=>e (My h)⟩
theorem CT(x:UInt8)(l:List UInt8)(n:Nat)(h:lS (x :: l)=n)(h4:n<4):x :: l=List.replicate n x++(x :: l).drop n∧((x :: l).drop n).head? ≠some x:=by have hs:=uf x 3 l;have h1:1+bZ x 3 l=n:=h;obtain⟨j,rfl⟩:∃j,n=j+1:=⟨n - 1,by omega⟩;have hj:bZ x 3 l=j:=(by omega);rw[hj]at hs;refine⟨?_,hs.2 (by omega)⟩;show x :: l=x :: (List.replicate j x++l.drop j);rw[← hs.1]
theorem rB(x:UInt8)(r:List UInt8)(hr:r.head? ≠some x):∀(k:Nat) (o:List UInt8),k<4→o.length≤262144→e9 o (List.replicate k x++r)=if o.length+k≤262144 then e9 (o++List.replicate k x) r else([],3)
 | 0,o,_,ho=>by rw[LX (by omega)];simp
 | k+1,o,h,ho=>by
  have hs:=qh x (k+1) r (by omega) (by omega) (.inr hr);show e9 o (x :: (List.replicate k x++r))=_;rw[mQ,LX (by show lS (List.replicate (k+1) x++r)<4;omega)];by_cases hb:262144≤o.length;·rw[LX hb,LW (by omega)]
  ·rw[LW hb,rB x r hr k (o++ [x]) (by omega) (by rw[LR,Mq];omega),LR,Mq,LZ];by_cases hf:o.length+(k+1)≤262144;·rw[LX (by omega),LX hf];rfl
   ·rw[LW (by omega),LW hf]
theorem Ki(o l:List UInt8)(n:Nat)(hl:l≠ [])(h:lS l=n)(h4:n<4)(ho:o.length≤262144):e9 o l=if o.length+n≤262144 then e9 (o++l.take n) (l.drop n)else([],3):=by
 cases l with
 | nil=>exact absurd rfl hl
 | cons x l=>obtain⟨hs,hh⟩:=CT x l n h h4;have hd:=rB x _ hh n o h4 ho;rw[← hs]at hd;have ht:(x :: l).take n=List.replicate n x:=(by have h2:=congrArg (List.take n) hs;rw[Nb (by simp)]at h2;rw[h2,Mh (by simp)]);rw[hd,ht]
theorem BP(o l:List UInt8)(x:UInt8)(hx:l[0]? =some x)(h:lS l=4):e9 o l=
 if 262144<o.length+4 then([],3)else if l.length=4 then([],30)
 else if 262144<o.length+4+(l.getD 4 0).toNat then([],3)else e9 (o++l.take 4++List.replicate (l.getD 4 0).toNat x) (l.drop 5):=by
 cases l with
 | nil=>cases hx
 | cons y l=>have e:y=x:=My hx;subst e;rw[mQ,LW (by omega)];have h4:(l.length=3)=((y :: l).length=4):=(by rw[Mb];exact propext ⟨fun h=>by omega,fun h=>by omega⟩);simp only[h4];rfl
end Go.Proofs.YtepokmggbfoakaaGreatDoor.S03
