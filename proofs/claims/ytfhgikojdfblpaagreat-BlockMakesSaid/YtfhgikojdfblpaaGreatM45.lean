import Derived.Test.YtfhgikojdfblpaaGreatM22
set_option maxHeartbeats 1600000
set_option maxRecDepth 1000000
namespace Go.Proofs.YtfhgikojdfblpaaGreat.S03
open _root_.Go.Proofs.Tryz
open Go.RowKit
theorem yc(x:UInt8)(l:List UInt8):bC (x::l)=0+dF x (255-0) ((x::l).drop 0):=by show dF x 254 l+1=0+dF x (254+1) (x::l);rw[dF,Nf rfl];omega
theorem Gf(l:List UInt8)(k:Nat)(x y:UInt8)(hy:l[k]? =some y)(he:y=x)(h2:k<255)(h:bC l=k+dF x (255-k) (l.drop k)):
 bC l=(k+1)+dF x (255-(k+1)) (l.drop (k+1)):=by
 have h0:k<l.length:=by
  rcases N1 k l.length with h1|h1;·exact h1
  ·rw[Nw h1]at hy;cases hy
 have hd:l.drop k=y::l.drop (k+1):=by rw[NN h0];rw[Nc h0]at hy;rw[On hy]
 rw[h,hd,show 255-k=(255-(k+1))+1 by omega,dF,Nf he];omega
theorem Jb(w:World)(t:ByteArray)(hs:t.size<=9223372036854775807):
 Calls prog 32 #[.string t] w fun e w'=>e=.returned (.int .i64 (bC t.data.toList))/\Below w.heap.size w w':=by
 go_enter func32,ntmps32;go_wp2_with fail;go_loopw [3] (fun i wx=>∃k:Nat,k<=255/\k<=t.size/\i=.int .i64 k/\(∀ h:0<t.size,bC t.data.toList=k+dF t[0] (255-k) (t.data.toList.drop k))/\Below w.heap.size w wx) (fun i _=>255-(intOf i).toNat)
 case atStart=>refine⟨0,by omega,by omega,rfl,fun h=> ?_,Nj _ _⟩;rw[lw t h];exact yc _ _
 case round=>
  obtain⟨k,h1,h2,rfl,hk,h5⟩:=hrel;have h4:=aa h5;clear h5;by_cases e1:k<t.size
  ·have h0:0<t.size:=(by omega);have h3:=hk h0;clear hk;by_cases e2:k<255
   ·by_cases e3:t[k]=t[0]
    ·have HK:=aa (Gf t.data.toList k t[0] t[k] (iJ t k e1) e3 e2 h3);have q:(((t[k].toNat:Nat):Int)==((t[0].toNat:Nat):Int))=true:=(by rw[e3];simp);clear h3;have d2:decide ((k:Int)<if(255:Int)<(t.size:Int)then 255 else(t.size:Int))=true:=Nn (by split <;>omega);go_wp2_with fail;go_region;go_wp2_with fail;go_roundw;case rel=>exact⟨k+1,by omega,by omega,by go_num,fun _=>HK.out,ax h4.out 1⟩
     case measure=>simp[intOf];omega
    ·have HK:=aa (kC t.data.toList k t[0] h3 (.inr (.inr ⟨t[k],iJ t k e1,e3⟩)));have q:(((t[k].toNat:Nat):Int)==((t[0].toNat:Nat):Int))=false:=(by simp only[NC,R8];intro h;exact e3 (UInt8.toNat_inj.1 (by omega)));clear h3 e3;have d2:decide ((k:Int)<if(255:Int)<(t.size:Int)then 255 else(t.size:Int))=true:=Nn (by split <;>omega);go_wp2_with fail;go_region;go_wp2_with fail
     all_goals (
      go_ret
      exact⟨by rw[HK.out];rfl,ax h4.out 1⟩)
   ·have HK:=aa (kC t.data.toList k t[0] h3 (.inr (.inl (by omega))));clear h3;have d0:(255:Int)<(t.size:Int):=(by omega);have d2:decide ((k:Int)<255)=false:=aR;go_wp2_with fail;go_region;go_wp2_with fail;go_ret;exact⟨by rw[HK.out];rfl,ax h4.out 1⟩
  ·have hz:bC t.data.toList=k:=by
    by_cases h0:0<t.size;·exact kC t.data.toList k t[0] (hk h0) (.inl (by show t.size<=k;omega))
    ·have ht:t.data.toList= []:=Nq (by show t.size=0;omega);rw[ht];show 0=k;omega
   have HK:=aa hz;clear hk hz;have d2:decide ((k:Int)<if(255:Int)<(t.size:Int)then 255 else(t.size:Int))=false:=Nl (by split <;>omega);go_wp2_with fail;go_region;go_wp2_with fail;go_ret;exact⟨by rw[HK.out];rfl,ax h4.out 1⟩
theorem Bi(t:ByteArray)(o:List UInt8)(k:Nat)(S:List UInt8)(ht:0<t.size)(hk:bC t.data.toList=k)(h4:k<4)(hS:o++bW t.data.toList=S):
 1<=k/\k<=t.size/\(o++t.data.toList.take k)++bW (t.extract k t.size).data.toList=S:=by have hl:=lw t ht;have hp:0<bC t.data.toList:=(by rw[hl];exact kD _ _);(have h0:t.data.toList≠ []:=fun h=>by rw[h]at hp;exact absurd hp (by decide));have hh:=(lW t.data.toList).2;have h2:t.data.toList.length=t.size:=rfl;refine⟨by omega,by omega,?_⟩;rw[<- hS,ln _ h0,hk,nh,Nf h4,jO,Ni]
theorem Du(t:ByteArray)(o:List UInt8)(k:Nat)(S:List UInt8)(ht:0<t.size)(hk:bC t.data.toList=k)(h4:¬k<4)(hS:o++bW t.data.toList=S):
 k<=255/\k<=t.size/\(o++t.data.toList.take 4++ [UInt8.ofNat (k-4)])++bW (t.extract k t.size).data.toList=S:=by have hl:=lw t ht;have hp:0<bC t.data.toList:=(by rw[hl];exact kD _ _);(have h0:t.data.toList≠ []:=fun h=>by rw[h]at hp;exact absurd hp (by decide));have hh:=lW t.data.toList;have h2:t.data.toList.length=t.size:=rfl;refine⟨by omega,by omega,?_⟩;rw[<- hS,ln _ h0,hk,nh,Nd h4,jO,Ni,Ni,Ni]
theorem jJ(w:World)(s:ByteArray)(hs:s.size<=2097152):
 Calls prog 9 #[.string s] w fun e w'=>e=.returned (.string ⟨(bW s.data.toList).toArray⟩)/\Below w.heap.size w w':=by
 obtain⟨i5,h5,hx,hy,hA⟩:=N4 Tryz.info5;go_enter func9,ntmps9;go_wp2_with fail;go_loopw [0,3] (fun a v wr=>∃(t:ByteArray) (o:List UInt8),a=.string t/\wr.ownsRow w.heap.size 5 1 v o.length (o.map bv)/\o.length+2*t.size<=2*s.size/\o++bW t.data.toList=bW s.data.toList/\Below w.heap.size w wr) (fun a _ _=>D6 a)
 case atStart=>exact⟨s, [],rfl,Nt _ _ _ _,by simp,rfl,Nj _ _⟩
 case round=>
  obtain⟨t,o,rfl,h8,hi,h7,hb⟩:=hrel;have he:=hb.size;by_cases h:0<t.size
  ·have hr:=Jb wr t (by omega);obtain⟨k,hk⟩:∃k,bC t.data.toList=k:=⟨_,rfl⟩;obtain⟨N,hN⟩:∃N,N=o.length:=⟨_,rfl⟩;rw[hk]at hr;have HR:=aa hr;have HB:=aa hb;rw[<- hN]at h8 hi;have HN:=aa hN;have hl:=aa h8;by_cases h4:k<4
   ·have HP:=aa (Bi t o k _ h hk h4 h7);have hE:=HP.out.1;have hF:=HP.out.2.1;clear h7 hk hr hb h8 hN;go_wp2_with fail;refine HR.out.mono ?_;rintro e w1 ⟨rfl,hg⟩;have h2:=(an hg).row hl.out (fun _ _=>aw) aw;have hj:=aa (HB.out.trans (hg.mono he));have h3:=hj.out.size;clear hg;have hG:(t.extract 0 k).size=k:=(by rw[OB];omega);have ho:N<=4194304:=(by omega);have hf:=aa ho;have hw:=aa hi;clear ho hi;(go_wp2_with (at_builtin;refine Lib.wpList_append_own_string _ rfl _ _ 69 9 rfl w.heap.size 5 i5 underlying69 underlying9 h5 hx hy hA _ _ _ rfl h2 (t.extract 0 k) rfl ?c3 ?c4 ?c5 ?_));case c3=>have:=hf.out;unfold maxLen;omega
    case c4=>have:=hf.out;omega
    case c5=>exact h3
    intro v2 w2 h6 h1 _;have h0:w2.ownsRow w.heap.size 5 1 v2 (N+k) ((o++t.data.toList.take k).map bv):=(by rw[Nz,<-lp];exact h6);have hp:Below w.heap.size w w2:=hj.out.grown h1 h3 (fun k hk=>(h2.lt k hk).1);have hv:=aa hp;have hm:=aa h0;clear hp h6 h0 h1 h2;go_wp2_with fail;have ha:(o++t.data.toList.take k).length=N+k:=(by rw[Nb,NB,<-HN.out,show t.data.toList.length=t.size from rfl];omega);go_roundw;case rel=>
     refine⟨t.extract k t.size,o++t.data.toList.take k,rfl,?_,?_,HP.out.2.2,hv.out⟩;·rw[ha];exact hm.out
     ·rw[ha,aY];have:=hw.out;omega
    case measure=>show(t.extract k t.size).size<t.size;rw[aY];omega
   ·have HP:=aa (Du t o k _ h hk h4 h7);have hE:=HP.out.1;have hF:=HP.out.2.1;clear h7 hk hr hb h8 hN;go_wp2_with fail;refine HR.out.mono ?_;rintro e w1 ⟨rfl,hg⟩;have h2:=(an hg).row hl.out (fun _ _=>aw) aw;have hj:=aa (HB.out.trans (hg.mono he));have h3:=hj.out.size;clear hg;have hG:(t.extract 0 4).size=4:=(by rw[OB];omega);have ho:N<=4194304:=(by omega);have hf:=aa ho;have hw:=aa hi;have d0:(if(4:Int)<(k:Int)then(4:Int)else(k:Int))=4:=(by split <;>omega);have d4:(4:Int)<=t.size:=(by omega);have d5:(4:Int)<=k:=(by omega);clear ho hi hs h4;(go_wp2_with (at_builtin;refine Lib.wpList_append_own_string _ rfl _ _ 69 9 rfl w.heap.size 5 i5 underlying69 underlying9 h5 hx hy hA _ _ _ rfl h2 (t.extract 0 4) rfl ?c3 ?c4 ?c5 ?_));case c3=>have:=hf.out;unfold maxLen;omega
    case c4=>have:=hf.out;omega
    case c5=>exact h3
    intro v2 w2 h6 h1 _;have h0:w2.ownsRow w.heap.size 5 1 v2 (N+4) ((o++t.data.toList.take 4).map bv):=(by rw[Nz,<-lp];exact h6);have hp:Below w.heap.size w w2:=hj.out.grown h1 h3 (fun k hk=>(h2.lt k hk).1);obtain⟨X,hX⟩:∃X,X=(o++t.data.toList.take 4).map bv:=⟨_,rfl⟩;rw[<- hX]at h0;have HX:=aa hX;have hv:=aa hp;have hh:=hv.out.size;clear hp h6 h1 h2 hX;(go_wp2_with (at_builtin;refine N5 _ rfl _ _ 69 rfl w.heap.size 5 i5 (.int .u8 0) 1 1 underlying69 h5 hx hy hA rfl (by decide) _ _ _ rfl (h0.alloc _) ⟨w2.heap.size,0,none⟩ 1 1 [.int .u8 ((k:Int)-4)] rfl rfl ?c1 ?c2 ?c3 ?c4 ?c5 ?_));case c1=>exact Q2 _ _ _
    case c2=>intro u hu;simp at hu;subst hu;rfl
    case c3=>have:=hf.out;unfold maxLen;omega
    case c4=>have:=hf.out;omega
    case c5=>simp;omega
    intro v3 w3 hc h9 _;have hB:Below w.heap.size w w3:=(hv.out.alloc hh _).grown h9 (by simp;omega) (fun k hk=>(h0.lt k hk).1);have hD:=aa hB;have hn:=aa hc;clear hB hc h9 h0;go_wp2_with fail;have ha:(o++t.data.toList.take 4++ [UInt8.ofNat (k-4)]).length=N+4+1:=(by rw[Nb,Nb,NB,<-HN.out,show t.data.toList.length=t.size from rfl,NP];omega);have hq:bv (UInt8.ofNat (k-4))=.int .u8 ((k:Int)-4):=(by have:(UInt8.ofNat (k-4)).toNat=k-4:=(by rw[Oo];exact NL (by omega));unfold bv;rw[this];congr 1;omega);go_roundw;case rel=>
     refine⟨t.extract k t.size,o++t.data.toList.take 4++ [UInt8.ofNat (k-4)],rfl,?_,?_,HP.out.2.2,hD.out⟩;·rw[ha,Nz,<-HX.out,Ow,QC,hq];exact hn.out
     ·rw[ha,aY];have:=hw.out;omega
    case measure=>show(t.extract k t.size).size<t.size;rw[aY];omega
  ·have hz:t.size=0:=(by omega);have ht:t.data.toList= []:=Nq hz;rw[ht,tQ,NU]at h7;have hC:=lj h8;have HE:=aa h7;have HB:=aa hb;clear h7 hb h8 hi;go_wp2_with fail;go_ret;rw[<- HE.out];exact⟨rfl,HB.out⟩
theorem uX(x:UInt8):∀(m:Nat) (l:List UInt8),l=List.replicate (dF x m l) x++l.drop (dF x m l)/\(dF x m l<m->(l.drop (dF x m l)).head? ≠some x)
 | 0,l=>⟨rfl,fun h=>absurd h (Rc _)⟩
 | m+1, []=>⟨rfl,fun _ h=>by cases h⟩
 | m+1,y::l=>by
  by_cases e:y=x;·have h:=uX x m l;subst e;have hr:dF y (m+1) (y::l)=dF y m l+1:=(by rw[dF,Nf rfl]);rw[hr];refine⟨?_,fun hlt=>h.2 (by omega)⟩;show y::l=y::(List.replicate (dF y m l) y++l.drop (dF y m l));rw[<- h.1]
  ·have hr:dF x (m+1) (y::l)=0:=(by rw[dF,Nd e]);rw[hr];exact⟨rfl,fun _ h=>e (On h)⟩
theorem DQ(x:UInt8)(l:List UInt8)(n:Nat)(h:my (x::l)=n)(h4:n<4):x::l=List.replicate n x++(x::l).drop n/\((x::l).drop n).head? ≠some x:=by have hs:=uX x 3 l;have h1:1+dF x 3 l=n:=h;obtain⟨j,rfl⟩:∃j,n=j+1:=⟨n-1,by omega⟩;have hj:dF x 3 l=j:=(by omega);rw[hj]at hs;refine⟨?_,hs.2 (by omega)⟩;show x::l=x::(List.replicate j x++l.drop j);rw[<- hs.1]
theorem sF(x:UInt8)(r:List UInt8)(hr:r.head? ≠some x):∀(k:Nat) (o:List UInt8),k<4->o.length<=262144->fE o (List.replicate k x++r)=if o.length+k<=262144 then fE (o++List.replicate k x) r else([],3)
 | 0,o,_,ho=>by rw[Nf];simp
 | k+1,o,h,ho=>by
  have hs:=rq x (k+1) r (by omega) (by omega) (.inr hr);show fE o (x::(List.replicate k x++r))=_;rw[nG,Nf (by show my (List.replicate (k+1) x++r)<4;omega)];by_cases hb:262144<=o.length;·rw[Nf hb,Nd]
  ·rw[Nd hb,sF x r hr k (o++ [x]) (by omega) (by rw[Nb,NP];omega),Nb,NP,Ni];by_cases hf:o.length+(k+1)<=262144;·rw[Nf,Nf hf];rfl
   ·rw[Nd,Nd hf]
theorem Lt(o l:List UInt8)(n:Nat)(hl:l≠ [])(h:my l=n)(h4:n<4)(ho:o.length<=262144):fE o l=if o.length+n<=262144 then fE (o++l.take n) (l.drop n)else([],3):=by
 cases l with
 | nil=>exact absurd rfl hl
 | cons x l=>obtain⟨hs,hh⟩:=DQ x l n h h4;have hd:=sF x _ hh n o h4 ho;rw[<- hs]at hd;have ht:(x::l).take n=List.replicate n x:=(by have h2:=congrArg (List.take n) hs;rw[OZ (by simp)]at h2;rw[h2,Nr (by simp)]);rw[hd,ht]
theorem CP(o l:List UInt8)(x:UInt8)(hx:l[0]? =some x)(h:my l=4):fE o l=
 if 262144<o.length+4 then([],3)else if l.length=4 then([],30)
 else if 262144<o.length+4+(l.getD 4 0).toNat then([],3)else fE (o++l.take 4++List.replicate (l.getD 4 0).toNat x) (l.drop 5):=by
 cases l with
 | nil=>cases hx
 | cons y l=>have e:y=x:=On hx;subst e;rw[nG,Nd];have h4:(l.length=3)=((y::l).length=4):=(by rw[Ns];exact propext ⟨fun h=>by omega,fun h=>by omega⟩);simp only[h4];rfl
