import Derived.Test.YtepokmggbfoakaaGreatDoorT00
import Derived.Lib.AppendStr
set_option maxHeartbeats 1600000
set_option maxRecDepth 1000000
namespace Go.Proofs.YtepokmggbfoakaaGreatDoor.S03
open _root_.Go.Proofs.Tryz
def ch(x:UInt8):Nat->List UInt8->Nat
 | 0,_=>0
 | _+1, []=>0
 | m+1,y::l=>if y=x then ch x m l+1 else 0
theorem yv(x:UInt8):∀(m:Nat) (l:List UInt8),ch x m l<=m/\ch x m l<=l.length
 | 0,l=>⟨Nm _,Nh _⟩
 | m+1, []=>⟨Nh _,Nm _⟩
 | m+1,y::l=>by have h:=yv x m l;unfold ch;split <;>simp <;>omega
def aE:List UInt8->Nat
 | []=>0
 | x::l=>ch x 254 l+1
theorem ia(l:List UInt8):aE l<=255/\aE l<=l.length:=by
 cases l with
 | nil=>exact⟨by simp[aE],by simp[aE]⟩
 | cons x l=>have h:=yv x 254 l;simp only[aE,Nv];omega
theorem ff(x:UInt8)(l:List UInt8):0<aE (x::l):=Nat.succ_pos _
def jA(l:List UInt8)(k:Nat):List UInt8:=if k<4 then l.take k else l.take 4++ [UInt8.ofNat (k-4)]
def ew:Nat->List UInt8->List UInt8
 | 0,_=> []
 | _+1, []=> []
 | n+1,x::l=>jA (x::l) (aE (x::l))++ew n ((x::l).drop (aE (x::l)))
theorem oQ(n:Nat):ew n []= []:=by cases n <;>rfl
theorem FQ(n:Nat):∀(m:Nat) (l:List UInt8),l.length<=n->l.length<=m->ew n l=ew m l:=by
 induction n with
 | zero=>intro m l h _;have:l= []:=Nw (by omega);subst this;rw[oQ,oQ]
 | succ n ih=>
  intro m l h h2
  cases l with
  | nil=>rw[oQ,oQ]
  | cons x l=>
   cases m with
   | zero=>simp at h2
   | succ m=>have hp:=ff x l;simp only[Nv]at h h2;unfold ew;rw[ih m _ (by rw[Nq,Nv];omega) (by rw[Nq,Nv];omega)]
def aU(l:List UInt8):List UInt8:=ew l.length l
theorem kT:aU []= []:=rfl
theorem FT(x:UInt8)(l:List UInt8):aU (x::l)=jA (x::l) (aE (x::l))++aU ((x::l).drop (aE (x::l))):=by have hp:=ff x l;unfold aU;rw[Nv,ew,FQ l.length _ _ (by rw[Nq,Nv];omega) (ah _)]
theorem je(l:List UInt8)(h:l≠ []):aU l=jA l (aE l)++aU (l.drop (aE l)):=by
 cases l with
 | nil=>exact absurd rfl h
 | cons x l=>exact FT x l
theorem mC(l:List UInt8)(k:Nat)(x:UInt8)(h:aE l=k+ch x (255-k) (l.drop k))(he:l.length<=k\/255<=k\/∃y,l[k]? =some y/\y≠x):aE l=k:=by
 rw[h];have h0:ch x (255-k) (l.drop k)=0:=by
  rcases he with h1|h1|⟨y,hy,hn⟩;·rw[NW h1];cases 255-k <;>rfl
  ·rw[show 255-k=0 by omega];rfl
  ·have h2:k<l.length:=by
    rcases NZ k l.length with h1|h1;·exact h1
    ·rw[Ny h1]at hy;cases hy
   rw[NP h2];rw[Nd h2]at hy
   cases 255-k with
   | zero=>rfl
   | succ m=>rw[ch,Nf (by rw[Om hy];exact hn)]
 omega
open Go.RowKit
theorem gu(t:ByteArray)(j:Nat)(h:j<t.size):t.data.toList[j]? =some t[j]:=by have h0:j<t.data.toList.length:=(by simpa using h);rw[Nd h0];rfl
theorem ju(t:ByteArray)(k:Nat):(t.extract 0 k).data.toList=t.data.toList.take k:=by rw[Qg,QB,PP,Q2,Qf]
theorem eP(t:ByteArray)(k:Nat):(t.extract k t.size).data.toList=t.data.toList.drop k:=by rw[Qg,QB,PP];refine Nt ?_;rw[Nq];exact Nm _
theorem aV(t:ByteArray)(k:Nat):(t.extract k t.size).size=t.size-k:=by rw[Oo];omega
def D3:Value->Nat
 | .string t=>t.size
 | _=>0
def fJ:List UInt8->Nat
 | []=>0
 | x::l=>1+ch x 3 l
theorem Km(l:List UInt8):fJ l<=4/\fJ l<=l.length:=by
 cases l with
 | nil=>exact⟨by simp[fJ],by simp[fJ]⟩
 | cons x l=>have h:=yv x 3 l;simp only[fJ,Nv];omega
theorem Bc(l:List UInt8)(k m N:Nat)(x y:UInt8)(hy:l[k]? =some y)(he:y=x)(hm:k<m)(h:N=k+ch x (m-k) (l.drop k)):N=(k+1)+ch x (m-(k+1)) (l.drop (k+1)):=by
 have h0:k<l.length:=by
  rcases NZ k l.length with h1|h1;·exact h1
  ·rw[Ny h1]at hy;cases hy
 have hd:l.drop k=y::l.drop (k+1):=by rw[NP h0];rw[Nd h0]at hy;rw[Om hy]
 rw[h,hd,show m-k=(m-(k+1))+1 by omega,ch,Ng he];omega
theorem yw(l:List UInt8)(k m N:Nat)(x:UInt8)(h:N=k+ch x (m-k) (l.drop k))(he:l.length<=k\/m<=k\/∃y,l[k]? =some y/\y≠x):N=k:=by
 have h0:ch x (m-k) (l.drop k)=0:=by
  rcases he with h1|h1|⟨y,hy,hn⟩;·rw[NW h1];cases m-k <;>rfl
  ·rw[show m-k=0 by omega];rfl
  ·have h2:k<l.length:=by
    rcases NZ k l.length with h1|h1;·exact h1
    ·rw[Ny h1]at hy;cases hy
   rw[NP h2];rw[Nd h2]at hy
   cases m-k with
   | zero=>rfl
   | succ m=>rw[ch,Nf (by rw[Om hy];exact hn)]
 omega
theorem ib(t:ByteArray)(h:0<t.size):t.data.toList=t[0]::t.data.toList.drop 1:=by have h0:0<t.data.toList.length:=h;have:=NP h0;rw[Q2]at this;exact this
theorem G5(w:World)(t:ByteArray)(h:0<t.size):
 Calls prog 140 #[.string t] w fun e w'=>e=.returned (.int .i64 (fJ t.data.toList))/\Below w.heap.size w w':=by
 go_enter func140,ntmps140;go_wp2_with fail;go_loopw [3] (fun i wx=>∃k:Nat,1<=k/\k<=4/\k<=t.size/\i=.int .i64 k/\fJ t.data.toList=k+ch t[0] (4-k) (t.data.toList.drop k)/\Below w.heap.size w wx) (fun i _=>4-(intOf i).toNat)
 case atStart=>refine⟨1,Nm _,by omega,h,rfl,?_,Nj _ _⟩;rw[ib t h];rfl
 case round=>
  obtain⟨k,h1,h2,h3,rfl,hk,h6⟩:=hrel;have h5:=aa h6;clear h6;by_cases e:∃(e1:k<t.size),k<4/\t[k]=t[0]
  ·obtain⟨e1,e2,e3⟩:=e;have HK:=aa (Bc t.data.toList k 4 _ t[0] t[k] (gu t k e1) e3 e2 hk);clear hk;have q:(((t[k].toNat:Nat):Int)==((t[0].toNat:Nat):Int))=true:=(by rw[e3];simp);have d2:(k:Int)<4:=(by omega);go_wp2_with fail;go_quiet (fail);go_wp2_with fail;go_roundw;case rel=>exact⟨k+1,by omega,by omega,by omega,by go_num,HK.out,ay h5.out _⟩
   case measure=>simp[intOf];omega
  ·have h4:fJ t.data.toList=k:=by
    refine yw _ k 4 _ _ hk ?_;by_cases e1:k<t.size
    ·by_cases e2:k<4;·exact .inr (.inr ⟨t[k],gu t k e1,fun e3=>e ⟨e1,e2,e3⟩⟩)
     ·exact .inr (.inl (by omega))
    ·exact .inl (by show t.size<=k;omega)
   have h0:=aa h4;clear hk h4;by_cases e1:k<t.size
   ·by_cases e2:k<4;·have e3:t[k]≠t[0]:=fun e3=>e ⟨e1,e2,e3⟩;have q:(((t[k].toNat:Nat):Int)==((t[0].toNat:Nat):Int))=false:=(by simp only[NA,Sh];intro h;exact e3 (UInt8.toNat_inj.1 (by omega)));clear e e3;have d2:(k:Int)<4:=(by omega);go_wp2_with fail;go_quiet (fail);go_wp2_with fail;go_ret;exact⟨by rw[h0.out];rfl,ay h5.out _⟩
    ·clear e;have d2:¬(k:Int)<4:=(by omega);have d3:decide ((k:Int)<4)=false:=Nk d2;go_wp2_with fail;go_quiet (fail);go_wp2_with fail;go_ret;exact⟨by rw[h0.out];rfl,ay h5.out _⟩
   ·clear e;go_wp2_with fail;go_quiet (fail);go_wp2_with fail;go_ret;exact⟨by rw[h0.out];rfl,ay h5.out _⟩
def tC:Nat->List UInt8->List UInt8->List UInt8×Nat
 | 0,o,_=>(o,0)
 | _+1,o, []=>(o,0)
 | n+1,o,x :: l=>
   if fJ (x::l)<4 then(if 262144<=o.length then([],3)else tC n (o++ [x]) l)
   else if 262144<o.length+4 then([],3)
   else if l.length=3 then([],30)
   else if 262144<o.length+4+(l.getD 3 0).toNat then([],3)
   else tC n (o++(x::l).take 4++List.replicate (l.getD 3 0).toNat x) (l.drop 4)
theorem oM(n:Nat)(o:List UInt8):tC n o []=(o,0):=by cases n <;>rfl
theorem FM(n:Nat):∀(m:Nat) (o l:List UInt8),l.length<=n->l.length<=m->tC n o l=tC m o l:=by
 induction n with
 | zero=>intro m o l h _;have:l= []:=Nw (by omega);subst this;rw[oM,oM]
 | succ n ih=>
  intro m o l h h2
  cases l with
  | nil=>rw[oM,oM]
  | cons x l=>
   cases m with
   | zero=>simp at h2
   | succ m=>simp only[Nv]at h h2;unfold tC;rw[ih m (o++ [x]) l (by omega) (by omega),ih m (o++(x::l).take 4++List.replicate (l.getD 3 0).toNat x) (l.drop 4) (by rw[Nq];omega) (by rw[Nq];omega)]
def eD(o l:List UInt8):List UInt8×Nat:=tC l.length o l
theorem tB(o:List UInt8):eD o []=(o,0):=rfl
theorem kR(o:List UInt8)(x:UInt8)(l:List UInt8):eD o (x::l)=
 if fJ (x::l)<4 then(if 262144<=o.length then([],3)else eD (o++ [x]) l)
 else if 262144<o.length+4 then([],3)
 else if l.length=3 then([],30)
 else if 262144<o.length+4+(l.getD 3 0).toNat then([],3)
 else eD (o++(x::l).take 4++List.replicate (l.getD 3 0).toNat x) (l.drop 4):=by have h:eD o (x::l)=tC (l.length+1) o (x::l):=rfl;rw[h,tC];unfold eD;rw[FM l.length (l.drop 4).length _ (l.drop 4) (by rw[Nq];omega) (ah _)]
theorem iz{w:World}{B:Nat}{v:Value}{l:List UInt8}(h:w.ownsRow B 5 1 v l.length (l.map bv)):(convert 39 9 v).run prog w=.ok (.string ⟨l.toArray⟩) w:=by
 rcases h.2 with⟨rfl,h0⟩|⟨g,cap,cur,rfl,_⟩;·have:l= []:=Nw h0;subst this;exact Qs w 39 5 underlying39 underlying5 0 0 9 underlying9
 ·have hn:∀j (hj:j<l.length),w.cell? ((⟨g,0,none⟩:Addr).add j)=some (.int .u8 (l[j].toNat:Int)):=(by intro j hj;have h1:=h.cells (g:=g) rfl j (.int .u8 (l[j].toNat:Int));exact h1 (by rw[Np,Nd hj];rfl));exact Qe w 39 9 5 ⟨g,0,none⟩ cap l underlying39 underlying5 underlying9 hn
theorem uF(w:World)(s:ByteArray):
 Calls prog 84 #[.string s] w fun e w'=>e=.returned (.tuple #[.string ⟨(eD [] s.data.toList).1.toArray⟩,.int .i64 (eD [] s.data.toList).2])/\Below w.heap.size w w':=by
 obtain⟨i5,h5,hK,hL,hM⟩:=NY Tryz.info5;go_enter func84,ntmps84;go_wp2_with fail;go_loopw [0,4] (fun a v wr=>∃(t:ByteArray) (o:List UInt8),a=.string t/\wr.ownsRow w.heap.size 5 1 v o.length (o.map bv)/\o.length<=262144/\t.size<=s.size/\eD o t.data.toList=eD [] s.data.toList/\Below w.heap.size w wr) (fun a _ _=>D3 a)
 case atStart=>exact⟨s, [],rfl,Ns _ _ _ _,by simp,Nm _,rfl,Nj _ _⟩
 case round=>
  obtain⟨t,o,rfl,hh,hv,HI,he,hb⟩:=hrel;have h9:=hb.size;by_cases h:0<t.size
  ·have hl:=ib t h;have h0:=kR o t[0] (t.data.toList.drop 1);rw[<- hl,he]at h0;have H8:=Km t.data.toList;have htl:t.data.toList.length=t.size:=rfl;have hV:(t.data.toList.drop 1).length=t.size-1:=(by rw[Nq,htl]);have hR:=aa htl;have hP:=aa hV;have HS:=aa (G5 wr t h);rename_i v0 _;obtain⟨A0,c0,rfl,hJ,H2,H0⟩:=ak hh;have HB:=aa hb;have hp:=aa hh;have HD:=aa he;obtain⟨N,hN⟩:∃N,N=o.length:=⟨_,rfl⟩;rw[<- hN]at hp hJ hv h0 |-;have HN:=aa hN;clear hl he hb H0 hh htl hV hN;generalize fJ t.data.toList=q at*;by_cases hq:q<4
   ·rw[Ng hq]at h0;by_cases hn:262144<=N;·rw[Ng hn]at h0;have HC:=aa h0;clear h0;go_wp2_with fail;refine HS.out.mono ?_;rintro e w1 ⟨rfl,ha⟩;have hj:=aa (HB.out.trans (ha.mono h9));clear ha;have dd:decide ((262144:Int)<=(N:Int))=true:=aX (by omega);clear hn hv;go_wp2_with fail;go_ret2;exact⟨by rw[HC.out];rfl,hj.out⟩
    ·rw[Nf hn]at h0;have HC:=aa h0;clear h0;go_wp2_with fail;refine HS.out.mono ?_;rintro e w1 ⟨rfl,ha⟩;have h2:=(an ha).row hp.out (fun _ _=>ar) ar;have hj:=aa (HB.out.trans (ha.mono h9));have h6:=hj.out.size;clear ha;have hW:N<262144:=(by omega);have hI:=aa hW;have dd:decide ((262144:Int)<=(N:Int))=false:=aD (by omega);clear hn hv hW;(go_wp2_with (at_builtin;refine Ob _ rfl _ _ 39 rfl w.heap.size 5 i5 (.int .u8 0) 1 1 underlying39 h5 hK hL hM rfl (by decide) _ _ _ rfl (h2.alloc _) ⟨w1.heap.size,0,none⟩ 1 1 [.int .u8 t[0].toNat] rfl rfl ?c1 ?c2 ?c3 ?c4 ?c5 ?_));case c1=>exact Q7 _ _ _
     case c2=>intro u hu;simp at hu;subst hu;rfl
     case c3=>have:=hI.out;unfold maxLen;omega
     case c4=>have:=hI.out;omega
     case c5=>simp;omega
     intro v2 w2 h7 h1 _;have hy:Below w.heap.size w w2:=(hj.out.alloc h6 _).grown h1 (by simp;omega) (fun k hk=>(h2.lt k hk).1);have hw:=aa hy;have h8:=aa h7;clear hy h7 h1 h2;go_wp2_with fail;have hr:(t.extract 1 t.size).data.toList=t.data.toList.drop 1:=eP t 1;go_roundw;case rel=>
      refine⟨t.extract 1 t.size,o++ [t[0]],rfl,?_,?_,?_,?_,hw.out⟩;·rw[Nc,<-HN.out,NF];exact h8.out
      ·rw[Nc,<-HN.out];exact hI.out
      ·rw[aV];omega
      ·rw[hr,<-HC.out]
     case measure=>show(t.extract 1 t.size).size<t.size;rw[aV];omega
   ·have H5:q=4:=(by omega);subst H5;rw[Nf hq]at h0;clear hq;have HA:4<=t.size:=(by rw[<- hR.out];omega);clear H8;by_cases hA:262144<N+4;·rw[Ng hA]at h0;have HC:=aa h0;clear h0;go_wp2_with fail;refine HS.out.mono ?_;rintro e w1 ⟨rfl,ha⟩;have hj:=aa (HB.out.trans (ha.mono h9));clear ha;have dd:decide ((262144:Int)<(N:Int)+4)=true:=aX (by omega);have dn:(N:Int)<=262144:=(by omega);clear hA hv;go_wp2_with fail;go_ret2;exact⟨by rw[HC.out];rfl,hj.out⟩
    ·rw[Nf hA]at h0;go_wp2_with fail;refine HS.out.mono ?_;rintro e w1 ⟨rfl,ha⟩;have h2:=(an ha).row hp.out (fun _ _=>ar) ar;have hj:=aa (HB.out.trans (ha.mono h9));have h6:=hj.out.size;clear ha;have hQ:=aa hA;have hO:=aa h0;have dd:decide ((262144:Int)<(N:Int)+4)=false:=aD (by omega);have dn:(N:Int)<=262144:=(by omega);have d4:(4:Int)<=t.size:=(by omega);have HJ:(t.extract 0 4).size=4:=(by rw[Oo];omega);clear hA hv h0;(go_wp2_with (at_builtin;refine QM _ rfl _ _ 39 9 rfl w.heap.size 5 i5 underlying39 underlying9 h5 hK hL hM _ _ _ rfl h2 (t.extract 0 4) rfl ?c3 ?c4 ?c5 ?_));case c3=>have:=hQ.out;unfold maxLen;omega
     case c4=>have:=hQ.out;omega
     case c5=>exact h6
     intro v2 w2 h7 h1 _;have hi:w2.ownsRow w.heap.size 5 1 v2 (N+4) ((o++t.data.toList.take 4).map bv):=(by rw[NF,<-ju];exact h7);have hy:Below w.heap.size w w2:=hj.out.grown h1 h6 (fun k hk=>(h2.lt k hk).1);have hw:=aa hy;have h8:=aa hi;clear hy h7 hi h1 h2;by_cases hB:t.size=4;·have hc:=hO.out;rw[Ng (by rw[hP.out];omega)]at hc;have HC:=aa hc;clear hc;have d5:((t.size:Int)==4)=true:=(by rw[hB];rfl);go_wp2_with fail;go_ret2;exact⟨by rw[HC.out];rfl,hw.out⟩
     ·have hc:=hO.out;rw[Nf (by rw[hP.out];omega)]at hc;have h4:4<t.size:=(by omega);have hf:((t.data.toList.drop 1).getD 3 0).toNat=t[4].toNat:=(by rw[Nb,Pa,gu t 4 h4];rfl);rw[hf]at hc;have HC:=aa hc;clear hc hf;have d5:((t.size:Int)==4)=false:=(by simp only[NA,Sh];omega);obtain⟨A2,c2,rfl,H4,H3,H1⟩:=ak h8.out;have HF:t[4].toNat<256:=Pr _;clear H1;by_cases hC:262144<N+4+t[4].toNat
      ·have hc:=HC.out;rw[Ng hC]at hc;have HE:=aa hc;have hG:=aa hC;clear hc hC;go_wp2_with fail;·go_ret2;exact⟨by rw[HE.out];rfl,hw.out⟩
       ·exfalso;have:=hG.out;omega
      ·have hc:=HC.out;rw[Nf hC]at hc;have HE:=aa hc;have hG:=aa hC;clear hc hC;have hD:N+4+t[4].toNat<=262144:=(by have:=hG.out;omega);have hF:=aa hD;clear hD;go_wp2_with fail;·exfalso;have:=hG.out;omega
       rename_i hle _ _;clear hle;(go_loopw [4,6] (fun v i wx=>∃m:Nat,m<=t[4].toNat/\i=.int .i64 m/\wx.ownsRow w.heap.size 5 1 v (N+4+m) ((o++t.data.toList.take 4++List.replicate m t[0]).map bv)/\Below w.heap.size w wx) (fun _ i _=>t[4].toNat-(intOf i).toNat));case atStart=>exact⟨0,by omega,rfl,by rw[PN,NR];exact h8.out,hw.out⟩
       case round=>
        obtain⟨m,hm,rfl,h3,hH⟩:=hrel;have hs:=hH.size;by_cases HH:m<t[4].toNat
        ·obtain⟨X,hX⟩:∃X,X=(o++t.data.toList.take 4++List.replicate m t[0]).map bv:=⟨_,rfl⟩;rw[<- hX]at h3;have HX:=aa hX;clear hX;have HG:(N:Int)+4+m<262144:=(by have:=hF.out;omega);(go_wp2_with (at_builtin;refine Ob _ rfl _ _ 39 rfl w.heap.size 5 i5 (.int .u8 0) 1 1 underlying39 h5 hK hL hM rfl (by decide) _ _ _ rfl (h3.alloc _) ⟨wr.heap.size,0,none⟩ 1 1 [.int .u8 t[0].toNat] rfl rfl ?c1 ?c2 ?c3 ?c4 ?c5 ?_));case c1=>exact Q7 _ _ _
         case c2=>intro u hu;simp at hu;subst hu;rfl
         case c3=>have:=hF.out;unfold maxLen;omega
         case c4=>have:=hF.out;omega
         case c5=>simp;omega
         intro v3 w3 ho hg _;have hS:Below w.heap.size w w3:=(hH.alloc hs _).grown hg (by simp;omega) (fun k hk=>(h3.lt k hk).1);have hY:=aa hS;have hx:=aa ho;clear hS ho hg h3;go_wp2_with fail;go_roundw;case rel=>refine⟨m+1,by omega,by go_num,?_,hY.out⟩;rw[PC,<-Ni,NF,<-HX.out];exact hx.out
         case measure=>simp[intOf];omega
        ·obtain rfl:m=t[4].toNat:=(by omega);have HM:=aa h3;have hZ:=aa hH;clear h3 hH;go_wp2_with fail;have hr:(t.extract 5 t.size).data.toList=(t.data.toList.drop 1).drop 4:=(by rw[eP,P7]);have hE:(o++t.data.toList.take 4++List.replicate t[4].toNat t[0]).length=N+4+t[4].toNat:=(by rw[Nc,Nc,NE,Nz,hR.out,<-HN.out];omega);go_roundw;case rel=>
          refine⟨t.extract 5 t.size,o++t.data.toList.take 4++List.replicate t[4].toNat t[0],rfl,?_,?_,?_,?_,hZ.out⟩;·rw[hE];exact HM.out
          ·rw[hE];exact hF.out
          ·rw[aV];omega
          ·rw[hr,<-HE.out]
         case measure=>show(t.extract 5 t.size).size<t.size;rw[aV];omega
  ·have hz:t.size=0:=(by omega);have ht:t.data.toList= []:=Nw hz;rw[ht,tB]at he;have hT:=iz hh;have HD:=aa he;have HB:=aa hb;clear he hb hh hv;go_wp2_with fail;go_ret2;rw[<- HD.out];exact⟨rfl,HB.out⟩
def pc(x:UInt8)(k:Nat):List UInt8:=if k<4 then List.replicate k x else List.replicate 4 x++ [UInt8.ofNat (k-4)]
theorem ie(x:UInt8)(k:Nat):(pc x k).length=if k<4 then k else 5:=by unfold pc;split <;>simp
theorem uK(x:UInt8)(l:List UInt8):∀(k m:Nat),k<=m->(k=m\/l.head? ≠some x)->ch x m (List.replicate k x++l)=k
 | 0,0,_,_=>rfl
 | 0,m+1,_,h=>by
  cases l with
  | nil=>rfl
  | cons y l=>
   have hy:¬y=x:=fun e=>by
    rcases h with h|h;·omega
    ·exact h (by rw[e];rfl)
   show ch x (m+1) (y::l)=0;rw[ch,Nf hy]
 | k+1,0,h,_=>by omega
 | k+1,m+1,h,h2=>by show ch x (m+1) (x::(List.replicate k x++l))=k+1;rw[ch,Ng rfl,uK x l k m (by omega) (by rcases h2 with h2|h2;exact .inl (by omega);exact .inr h2)]
theorem Bv(x:UInt8)(l:List UInt8)(k j:Nat)(h:j<=k):(List.replicate k x++l).take j=List.replicate j x:=by rw[OH (by rw[NE];exact h),List.take_replicate,Oh h]
theorem Ej(x:UInt8)(l:List UInt8)(k:Nat)(h1:1<=k)(h2:k<=255)(h3:k=255\/l.head? ≠some x):aU (List.replicate k x++l)=pc x k++aU l:=by
 obtain⟨j,rfl⟩:∃j,k=j+1:=⟨k-1,by omega⟩;have hr:aE (List.replicate (j+1) x++l)=j+1:=by show ch x 254 (List.replicate j x++l)+1=j+1;rw[uK x l j 254 (by omega) (by rcases h3 with h3|h3;exact .inl (by omega);exact .inr h3)]
 have h0:List.replicate (j+1) x++l≠ []:=by simp
 rw[je _ h0,hr,Rh (NE ..)];congr 1;unfold jA pc;split;·rw[Bv _ _ _ _ (ah _)]
 ·rw[Bv _ _ _ _ (by omega)]
def l9(x:UInt8)(k:Nat)(l:List UInt8):List UInt8:=aU (List.replicate k x++l)
theorem jt(x:UInt8)(k:Nat)(h1:1<=k)(h2:k<=255):l9 x k []=pc x k:=by unfold l9;rw[Ej x [] k h1 h2 (.inr (by simp)),kT,NR]
theorem jd(x:UInt8)(k:Nat)(l:List UInt8):l9 x k (x::l)=l9 x (k+1) l:=by unfold l9;rw[PC,Ni];rfl
theorem gV(x y:UInt8)(k:Nat)(l:List UInt8)(h1:1<=k)(h2:k<=255)(h:y≠x\/k=255):l9 x k (y::l)=pc x k++l9 y 1 l:=by unfold l9;rw[Ej x (y::l) k h1 h2 (by rcases h with h|h;exact .inr (fun e=>h (Om e));exact .inl h)];rfl
theorem g9(x:UInt8)(l:List UInt8):aU (x::l)=l9 x 1 l:=rfl
theorem FS(b:UInt8)(l:List UInt8):∀(x:UInt8) (k:Nat),1<=k->k<=255->(l9 x k l).length<=(l9 x k (l++ [b])).length/\(l9 x k (l++ [b])).length<=(l9 x k l).length+2:=by
 induction l with
 | nil=>
  intro x k h1 h2;rw[jt x k h1 h2];show _<=(l9 x k [b]).length/\(l9 x k [b]).length<=_;by_cases h:b=x/\k<255;·obtain⟨rfl,h3⟩:=h;rw[jd,jt _ _ (by omega) (by omega),ie,ie];split <;>split <;>omega
  ·rw[gV x b k [] h1 h2 (by by_cases e:b=x;exact .inr (by have:¬k<255:=fun q=>h ⟨e,q⟩;omega);exact .inl e),jt b 1 (by omega) (by omega),Nc,ie,ie];split <;>simp
 | cons y l ih=>
  intro x k h1 h2;by_cases h:y=x/\k<255;·obtain⟨rfl,h3⟩:=h;rw[Od,jd,jd];exact ih y (k+1) (by omega) (by omega)
  ·have ho:y≠x\/k=255:=(by by_cases e:y=x;exact .inr (by have:¬k<255:=fun q=>h ⟨e,q⟩;omega);exact .inl e);rw[Od,gV x y k _ h1 h2 ho,gV x y k _ h1 h2 ho,Nc,Nc];have:=ih y 1 (by omega) (by omega);omega
theorem FU(l:List UInt8)(b:UInt8):(aU l).length<=(aU (l++ [b])).length/\(aU (l++ [b])).length<=(aU l).length+2:=by
 cases l with
 | nil=>show 0<=(aU [b]).length/\(aU [b]).length<=0+2;rw[g9,jt _ _ (by omega) (by omega),ie];simp
 | cons x l=>rw[Od,g9,g9];exact FS b l x 1 (by omega) (by omega)
theorem FV(l:List UInt8)(m:Nat):(aU (l.take m)).length<=(aU (l.take (m+1))).length:=by
 by_cases h:m<l.length;·rw[NI h];exact(FU _ _).1
 ·rw[Nt (by omega),Nt (by omega)];exact Nm _
theorem oR(l:List UInt8)(m:Nat):∀n,m<=n->(aU (l.take m)).length<=(aU (l.take n)).length:=by
 intro n h
 induction n with
 | zero=>obtain rfl:m=0:=(by omega);exact Nm _
 | succ n ih=>
  by_cases e:m=n+1;·rw[e];exact Nm _
  ·exact NH (ih (by omega)) (FV l n)
theorem FR(l:List UInt8):∀(x:UInt8) (k:Nat),1<=k->k<=255->4*(l9 x k l).length<=5*(k+l.length):=by
 induction l with
 | nil=>intro x k h1 h2;rw[jt x k h1 h2,ie];split <;>simp <;>omega
 | cons y l ih=>
  intro x k h1 h2;by_cases h:y=x/\k<255;·obtain⟨rfl,h3⟩:=h;rw[jd];have:=ih y (k+1) (by omega) (by omega);rw[Nv];omega
  ·have ho:y≠x\/k=255:=(by by_cases e:y=x;exact .inr (by have:¬k<255:=fun q=>h ⟨e,q⟩;omega);exact .inl e);rw[gV x y k _ h1 h2 ho,Nc,ie,Nv];have:=ih y 1 (by omega) (by omega);split <;>omega
theorem m9(l:List UInt8):(aU l).length<=l.length+l.length/4:=by
 cases l with
 | nil=>exact Nm _
 | cons x l=>have:=FR l x 1 (by omega) (by omega);rw[g9,Nv];omega
theorem qd(l:List UInt8):∀(x:UInt8) (k:Nat),1<=k->k<=255->(l9 x k l).head? =some x:=by
 have hp:∀(x:UInt8) (k:Nat) (r:List UInt8),1<=k->(pc x k++r).head? =some x:=by intro x k r h1;obtain⟨j,rfl⟩:∃j,k=j+1:=⟨k-1,by omega⟩;unfold pc;split <;>rfl
 induction l with
 | nil=>intro x k h1 h2;have:=hp x k [] h1;rw[NR]at this;rw[jt x k h1 h2,this]
 | cons y l ih=>
  intro x k h1 h2;by_cases h:y=x/\k<255;·obtain⟨rfl,h3⟩:=h;rw[jd];exact ih y (k+1) (by omega) (by omega)
  ·have ho:y≠x\/k=255:=(by by_cases e:y=x;exact .inr (by have:¬k<255:=fun q=>h ⟨e,q⟩;omega);exact .inl e);rw[gV x y k _ h1 h2 ho];exact hp x k _ h1
theorem qG(x:UInt8)(k:Nat)(r:List UInt8)(h1:1<=k)(h4:k<=4)(h:k=4\/r.head? ≠some x):fJ (List.replicate k x++r)=k:=by obtain⟨j,rfl⟩:∃j,k=j+1:=⟨k-1,by omega⟩;show 1+ch x 3 (List.replicate j x++r)=j+1;rw[uK x r j 3 (by omega) (by rcases h with h|h;exact .inl (by omega);exact .inr h)];omega
theorem wg(x:UInt8)(r:List UInt8)(hr:r.head? ≠some x):∀(k:Nat) (o:List UInt8),k<4->o.length+k<=262144->eD o (List.replicate k x++r)=eD (o++List.replicate k x) r
 | 0,o,_,_=>by simp
 | k+1,o,h,hl=>by have hs:=qG x (k+1) r (by omega) (by omega) (.inr hr);show eD o (x::(List.replicate k x++r))=_;rw[kR,Ng (by show fJ (List.replicate (k+1) x++r)<4;omega),Nf (by omega),wg x r hr k (o++ [x]) (by omega) (by rw[Nc,NM];omega),Ni];rfl
theorem I6(x:UInt8)(r:List UInt8)(k:Nat)(o:List UInt8)(h4:4<=k)(h:k<=255)(hl:o.length+k<=262144):eD o (pc x k++r)=eD (o++List.replicate k x) r:=by have hc:(UInt8.ofNat (k-4)).toNat=k-4:=(by rw[Ot];exact NJ (by omega));have hp:pc x k++r=x::x::x::x::UInt8.ofNat (k-4)::r:=(by unfold pc;rw[Nf (by omega)];rfl);have hs:fJ (x::x::x::x::UInt8.ofNat (k-4)::r)=4:=qG x 4 (UInt8.ofNat (k-4)::r) (by omega) (by omega) (.inl rfl);have hg:((x::x::x::UInt8.ofNat (k-4)::r).getD 3 0).toNat=k-4:=hc;have ht:(x::x::x::x::UInt8.ofNat (k-4)::r).take 4=List.replicate 4 x:=rfl;have hd:(x::x::x::UInt8.ofNat (k-4)::r).drop 4=r:=rfl;have hn:(x::x::x::UInt8.ofNat (k-4)::r).length=r.length+4:=rfl;rw[hp,kR,hs,Nf (by omega),Nf (by omega),hn,Nf (by omega),hg,Nf (by omega),ht,hd,Ni,QE,show 4+(k-4)=k by omega]
theorem wf(x:UInt8)(r:List UInt8)(k:Nat)(o:List UInt8)(h:k<=255)(hl:o.length+k<=262144)(hr:4<=k\/r.head? ≠some x):eD o (pc x k++r)=eD (o++List.replicate k x) r:=by
 by_cases h4:4<=k;·exact I6 x r k o h4 h hl
 ·have h0:r.head? ≠some x:=by rcases hr with hr|hr;exact absurd hr h4;exact hr
  rw[show pc x k=List.replicate k x by unfold pc;rw[Ng (by omega)]];exact wg x r h0 k o (by omega) hl
theorem I5(l:List UInt8):∀(x:UInt8) (k:Nat) (o:List UInt8),1<=k->k<=255->o.length+k+l.length<=262144->eD o (l9 x k l)=(o++List.replicate k x++l,0):=by
 induction l with
 | nil=>intro x k o h1 h2 h3;have:=wf x [] k o h2 (by simpa using h3) (.inr (by simp));rw[NR]at this;rw[jt x k h1 h2,this,tB,NR]
 | cons y l ih=>
  intro x k o h1 h2 h3;rw[Nv]at h3;by_cases h:y=x/\k<255;·obtain⟨rfl,h4⟩:=h;rw[jd,ih y (k+1) o (by omega) (by omega) (by omega),PC];simp
  ·have ho:y≠x\/k=255:=by by_cases e:y=x;exact .inr (by have:¬k<255:=fun q=>h ⟨e,q⟩;omega);exact .inl e
   rw[gV x y k _ h1 h2 ho,wf x _ k o h2 (by omega) (by
    rcases ho with ho|ho
    ·exact .inr (by rw[qd l y 1 (by omega) (by omega)];exact fun e=>ho (Om e))
    ·exact .inl (by omega)),ih y 1 _ (by omega) (by omega) (by rw[Nc,NE];omega)]
   simp
theorem oO(l:List UInt8)(h:l.length<=262144):eD [] (aU l)=(l,0):=by
 cases l with
 | nil=>rfl
 | cons x l=>rw[Nv]at h;rw[g9,I5 l x 1 [] (by omega) (by omega) (by simp;omega)];rfl
def md(l:List UInt8)(most:Int)(n:Nat):Prop:=n<=l.length/\(∀ m,1<=m->m<=n->((aU (l.take m)).length:Int)<=most)/\(n<l.length->most<(aU (l.take (n+1))).length)
theorem Gl{l:List UInt8}{most:Int}{n m:Nat}(h:md l most n)(k:md l most m):n=m:=by
 rcases OJ n m with e|e|e;·have h1:=h.2.2 (by have:=k.1;omega);have h2:=k.2.1 (n+1) (by omega) (by omega);omega
 ·exact e
 ·have h1:=k.2.2 (by have:=h.1;omega);have h2:=h.2.1 (m+1) (by omega) (by omega);omega
