import Derived.Test.YtfhgikojdfblpaaGreatM00
import Derived.Lib.AppendStr
set_option maxHeartbeats 1600000
set_option maxRecDepth 1000000
namespace Go.Proofs.YtfhgikojdfblpaaGreat.S03
open _root_.Go.Proofs.Tryz
def dF(x:UInt8):Nat->List UInt8->Nat
 | 0,_=>0
 | _+1, []=>0
 | m+1,y::l=>if y=x then dF x m l+1 else 0
theorem EI(x:UInt8):∀(m:Nat) (l:List UInt8),dF x m l<=m/\dF x m l<=l.length
 | 0,l=>⟨Nk _,Ng _⟩
 | m+1, []=>⟨Ng _,Nk _⟩
 | m+1,y::l=>by have h:=EI x m l;unfold dF;split <;>simp <;>omega
def bC:List UInt8->Nat
 | []=>0
 | x::l=>dF x 254 l+1
theorem lW(l:List UInt8):bC l<=255/\bC l<=l.length:=by
 cases l with
 | nil=>exact⟨by simp[bC],by simp[bC]⟩
 | cons x l=>have h:=EI x 254 l;simp only[bC,Ns];omega
theorem kD(x:UInt8)(l:List UInt8):0<bC (x::l):=Nat.succ_pos _
def nh(l:List UInt8)(k:Nat):List UInt8:=if k<4 then l.take k else l.take 4++ [UInt8.ofNat (k-4)]
def aU:Nat->List UInt8->List UInt8
 | 0,_=> []
 | _+1, []=> []
 | n+1,x::l=>nh (x::l) (bC (x::l))++aU n ((x::l).drop (bC (x::l)))
theorem pQ(n:Nat):aU n []= []:=by cases n <;>rfl
theorem FS(n:Nat):∀(m:Nat) (l:List UInt8),l.length<=n->l.length<=m->aU n l=aU m l:=by
 induction n with
 | zero=>intro m l h _;have:l= []:=Nq (by omega);subst this;rw[pQ,pQ]
 | succ n ih=>
  intro m l h h2
  cases l with
  | nil=>rw[pQ,pQ]
  | cons x l=>
   cases m with
   | zero=>simp at h2
   | succ m=>have hp:=kD x l;simp only[Ns]at h h2;unfold aU;rw[ih m _ (by rw[Ny,Ns];omega) (by rw[Ny,Ns];omega)]
def bW(l:List UInt8):List UInt8:=aU l.length l
theorem tQ:bW []= []:=rfl
theorem FV(x:UInt8)(l:List UInt8):bW (x::l)=nh (x::l) (bC (x::l))++bW ((x::l).drop (bC (x::l))):=by have hp:=kD x l;unfold bW;rw[Ns,aU,FS l.length _ _ (by rw[Ny,Ns];omega) (ag _)]
theorem ln(l:List UInt8)(h:l≠ []):bW l=nh l (bC l)++bW (l.drop (bC l)):=by
 cases l with
 | nil=>exact absurd rfl h
 | cons x l=>exact FV x l
theorem yb(l:List UInt8)(k:Nat)(x y:UInt8)(hy:l[k]? =some y)(hk:0<k)(he:y=x)(h2:k<255)(h:bC l=k+dF x (255-k) (l.drop k)):
 bC l=(k+1)+dF x (255-(k+1)) (l.drop (k+1)):=by
 have h0:k<l.length:=by
  rcases N1 k l.length with h1|h1;·exact h1
  ·rw[Nw h1]at hy;cases hy
 have hd:l.drop k=y::l.drop (k+1):=by rw[NN h0];rw[Nc h0]at hy;rw[On hy]
 rw[h,hd,show 255-k=(255-(k+1))+1 by omega,dF,Nf he];omega
theorem vE(x:UInt8)(l:List UInt8):bC (x::l)=1+dF x (255-1) ((x::l).drop 1):=by show dF x 254 l+1=1+dF x 254 l;omega
theorem kC(l:List UInt8)(k:Nat)(x:UInt8)(h:bC l=k+dF x (255-k) (l.drop k))(he:l.length<=k\/255<=k\/∃y,l[k]? =some y/\y≠x):bC l=k:=by
 rw[h];have h0:dF x (255-k) (l.drop k)=0:=by
  rcases he with h1|h1|⟨y,hy,hn⟩;·rw[N9 h1];cases 255-k <;>rfl
  ·rw[show 255-k=0 by omega];rfl
  ·have h2:k<l.length:=by
    rcases N1 k l.length with h1|h1;·exact h1
    ·rw[Nw h1]at hy;cases hy
   rw[NN h2];rw[Nc h2]at hy
   cases 255-k with
   | zero=>rfl
   | succ m=>rw[dF,Nd (by rw[On hy];exact hn)]
 omega
open Go.RowKit
theorem iJ(t:ByteArray)(j:Nat)(h:j<t.size):t.data.toList[j]? =some t[j]:=by have h0:j<t.data.toList.length:=(by simpa using h);rw[Nc h0];rfl
theorem lp(t:ByteArray)(k:Nat):(t.extract 0 k).data.toList=t.data.toList.take k:=by rw[PG,PY,Pq,QY,QF]
theorem jO(t:ByteArray)(k:Nat):(t.extract k t.size).data.toList=t.data.toList.drop k:=by rw[PG,PY,Pq];refine Nr ?_;rw[Ny];exact Nk _
theorem aY(t:ByteArray)(k:Nat):(t.extract k t.size).size=t.size-k:=by rw[OB];omega
theorem tr(a b:ByteArray):(a++b).data.toList=a.data.toList++b.data.toList:=by rw[Ql,Pd]
theorem FW(t o:ByteArray)(k:Nat)(S:List UInt8)(ht:0<t.size)(hk:bC t.data.toList=k)(h4:k<4)(hS:o.data.toList++bW t.data.toList=S):
 (o++t.extract 0 k).data.toList++bW (t.extract k t.size).data.toList=S/\(o++t.extract 0 k).size+2*(t.extract k t.size).size<=o.size+2*t.size:=by
 have h0:t.data.toList≠ []:=fun h=>by have:t.data.toList.length=0:=(by rw[h];rfl);have h2:t.data.toList.length=t.size:=rfl;omega
 have hl:=(lW t.data.toList).2;have h2:t.data.toList.length=t.size:=rfl;refine⟨?_,?_⟩;·rw[<- hS,ln _ h0,hk,nh,Nf h4,tr,lp,jO,Ni]
 ·rw[QO,aY,OB];omega
theorem Jj(t o:ByteArray)(k:Nat)(S:List UInt8)(ht:0<t.size)(hk:bC t.data.toList=k)(h4:¬k<4)(hS:o.data.toList++bW t.data.toList=S):
 (o++t.extract 0 4++⟨#[UInt8.ofNat (k-4)]⟩).data.toList++bW (t.extract k t.size).data.toList=S/\(o++t.extract 0 4++⟨#[UInt8.ofNat (k-4)]⟩).size+2*(t.extract k t.size).size<=o.size+2*t.size:=by
 have h0:t.data.toList≠ []:=fun h=>by have:t.data.toList.length=0:=(by rw[h];rfl);have h2:t.data.toList.length=t.size:=rfl;omega
 have hl:=(lW t.data.toList).2;have h2:t.data.toList.length=t.size:=rfl;have h1:(⟨#[UInt8.ofNat (k-4)]⟩:ByteArray).size=1:=rfl;refine⟨?_,?_⟩;·rw[<- hS,ln _ h0,hk,nh,Nd h4,tr,tr,lp,jO,Ni,Ni,Ni]
 ·rw[QO,QO,aY,OB,h1];omega
theorem mN(w1:World)(v:Int):(convert 69 9 (.slice (some ⟨w1.heap.size,0,none⟩) 1 1)).run prog (w1.alloc (.cells #[.int .u8 v] 5))=.ok (.string ⟨#[UInt8.ofNat v.toNat]⟩) (w1.alloc (.cells #[.int .u8 v] 5)):=by refine run_convert_bytes_arg (P:=prog) (w1.alloc (.cells #[.int .u8 v] 5)) 69 5 underlying69 underlying5 w1.heap.size 0 1 1 [v] rfl (fun i hi=> ?_) 9 underlying9;obtain rfl:i=0:=(by omega);rw[Rv];rfl
def D6:Value->Nat
 | .string t=>t.size
 | _=>0
theorem uR(w:World)(s:ByteArray)(hs:s.size<=1000000):
 Calls prog 58 #[.string s] w fun e w'=>e=.returned (.string ⟨(bW s.data.toList).toArray⟩)/\Below w.heap.size w w':=by
 go_enter func58,ntmps58;go_wp2_with fail;go_loopw [0,3] (fun v a wr=>∃t o:ByteArray,v=.string t/\a=.string o/\o.size+2*t.size<=2*s.size/\o.data.toList++bW t.data.toList=bW s.data.toList/\Below w.heap.size w wr) (fun v _ _=>D6 v)
 case atStart=>exact⟨s,⟨#[]⟩,rfl,rfl,by show 0+2*s.size<=_;omega,rfl,Nj _ _⟩
 case round=>
  obtain⟨t,o,rfl,rfl,he,h0,hb⟩:=hrel;by_cases h:0<t.size
  ·have h5:=aa h0;have HB:=aa hb;clear h0 hb;go_wp2_with fail;(go_loopw [4] (fun i wx=>∃k:Nat,1<=k/\k<=255/\k<=t.size/\i=.int .i64 k/\bC t.data.toList=k+dF t[0] (255-k) (t.data.toList.drop k)/\Below w.heap.size w wx) (fun i _=>255-(intOf i).toNat));case atStart=>refine⟨1,Nk _,by omega,h,rfl,?_,HB.out⟩;have hl:t.data.toList=t[0]::t.data.toList.drop 1:=(by have ha:0<t.data.toList.length:=h;have:=NN ha;rw[QY]at this;exact this);rw[hl,vE]
   case round=>
    obtain⟨k,h1,h2,h3,rfl,hk,h7⟩:=hrel;have h4:=aa h7;clear h7;by_cases e:∃(e1:k<t.size),k<255/\t[k]=t[0]
    ·obtain⟨e1,e2,e3⟩:=e;have HK:=aa (yb t.data.toList k t[0] t[k] (iJ t k e1) h1 e3 e2 hk);clear hk;have q:(((t[k].toNat:Nat):Int)==((t[0].toNat:Nat):Int))=true:=(by rw[e3];simp);have d2:(k:Int)<255:=(by omega);go_wp2_with fail;go_quiet (fail);go_wp2_with fail;go_roundw;case rel=>exact⟨k+1,by omega,by omega,by omega,by go_num,HK.out,ax h4.out _⟩
     case measure=>simp[intOf];omega
    ·have h6:bC t.data.toList=k:=by
      refine kC _ k _ hk ?_;by_cases e1:k<t.size
      ·by_cases e2:k<255;·exact .inr (.inr ⟨t[k],iJ t k e1,fun e3=>e ⟨e1,e2,e3⟩⟩)
       ·exact .inr (.inl (by omega))
      ·exact .inl (by show t.size<=k;omega)
     by_cases h9:k<4
     ·have hq:=FW t o k _ h h6 h9 h5.out;have hc:=hq.2;have HQ:=aa hq;clear hk h6 hq;by_cases e1:k<t.size
      ·by_cases e2:k<255
       ·have e3:t[k]≠t[0]:=fun e3=>e ⟨e1,e2,e3⟩;have q:(((t[k].toNat:Nat):Int)==((t[0].toNat:Nat):Int))=false:=(by simp only[NC,R8];intro h;exact e3 (UInt8.toNat_inj.1 (by omega)));clear e e3;have d2:(k:Int)<255:=(by omega);go_wp2_with fail;go_quiet (fail);go_wp2_with fail;go_roundw;case rel=>exact⟨_,_,rfl,rfl,by omega,HQ.out.1,ax h4.out _⟩
        case measure=>show(t.extract k t.size).size<t.size;rw[aY];omega
       ·exfalso;omega
      ·clear e;go_wp2_with fail;go_quiet (fail);go_wp2_with fail;go_roundw;case rel=>exact⟨_,_,rfl,rfl,by omega,HQ.out.1,ax h4.out _⟩
       case measure=>show(t.extract k t.size).size<t.size;rw[aY];omega
     ·have hq:=Jj t o k _ h h6 h9 h5.out;have hc:=hq.2;have HQ:=aa hq;clear hk h6 hq;by_cases e1:k<t.size
      ·by_cases e2:k<255
       ·have e3:t[k]≠t[0]:=fun e3=>e ⟨e1,e2,e3⟩;have q:(((t[k].toNat:Nat):Int)==((t[0].toNat:Nat):Int))=false:=(by simp only[NC,R8];intro h;exact e3 (UInt8.toNat_inj.1 (by omega)));clear e e3;have d2:(k:Int)<255:=(by omega);go_wp2_with fail;go_quiet (fail);go_wp2_with fail;have h8:∀n,(convert 69 9 (.slice (some ⟨wr.heap.size,0,none⟩) 1 1)).run prog ((wr.drewN n).alloc (.cells #[.int .u8 ((k:Int)-4)] 5))=.ok (.string ⟨#[UInt8.ofNat ((k:Int)-4).toNat]⟩) ((wr.drewN n).alloc (.cells #[.int .u8 ((k:Int)-4)] 5)):=fun n=>mN (wr.drewN n) _;have d4:(4:Int)<=t.size:=(by omega);go_region;go_wp2_with fail;go_roundw;case rel=>exact⟨_,_,rfl,rfl,by omega,HQ.out.1,(ax h4.out _).alloc h4.out.size _⟩
        case measure=>show(t.extract k t.size).size<t.size;rw[aY];omega
       ·clear e;have d2:¬(k:Int)<255:=(by omega);have d3:decide ((k:Int)<255)=false:=Nl d2;go_wp2_with fail;go_quiet (fail);go_wp2_with fail;have h8:∀n,(convert 69 9 (.slice (some ⟨wr.heap.size,0,none⟩) 1 1)).run prog ((wr.drewN n).alloc (.cells #[.int .u8 ((k:Int)-4)] 5))=.ok (.string ⟨#[UInt8.ofNat ((k:Int)-4).toNat]⟩) ((wr.drewN n).alloc (.cells #[.int .u8 ((k:Int)-4)] 5)):=fun n=>mN (wr.drewN n) _;have d4:(4:Int)<=t.size:=(by omega);go_region;go_wp2_with fail;go_roundw;case rel=>exact⟨_,_,rfl,rfl,by omega,HQ.out.1,(ax h4.out _).alloc h4.out.size _⟩
        case measure=>show(t.extract k t.size).size<t.size;rw[aY];omega
      ·clear e;go_wp2_with fail;go_quiet (fail);go_wp2_with fail;have h8:∀n,(convert 69 9 (.slice (some ⟨wr.heap.size,0,none⟩) 1 1)).run prog ((wr.drewN n).alloc (.cells #[.int .u8 ((k:Int)-4)] 5))=.ok (.string ⟨#[UInt8.ofNat ((k:Int)-4).toNat]⟩) ((wr.drewN n).alloc (.cells #[.int .u8 ((k:Int)-4)] 5)):=fun n=>mN (wr.drewN n) _;have d4:(4:Int)<=t.size:=(by omega);go_region;go_wp2_with fail;go_roundw;case rel=>exact⟨_,_,rfl,rfl,by omega,HQ.out.1,(ax h4.out _).alloc h4.out.size _⟩
       case measure=>show(t.extract k t.size).size<t.size;rw[aY];omega
  ·have hz:t.size=0:=(by omega);have ht:t.data.toList= []:=Nq hz;rw[ht,tQ,NU]at h0;have h5:=aa h0;clear h0;go_wp2_with fail;go_ret;rw[<- h5.out];exact⟨rfl,hb⟩
def my:List UInt8->Nat
 | []=>0
 | x::l=>1+dF x 3 l
theorem Kw(l:List UInt8)(k m N:Nat)(x y:UInt8)(hy:l[k]? =some y)(he:y=x)(hm:k<m)(h:N=k+dF x (m-k) (l.drop k)):N=(k+1)+dF x (m-(k+1)) (l.drop (k+1)):=by
 have h0:k<l.length:=by
  rcases N1 k l.length with h1|h1;·exact h1
  ·rw[Nw h1]at hy;cases hy
 have hd:l.drop k=y::l.drop (k+1):=by rw[NN h0];rw[Nc h0]at hy;rw[On hy]
 rw[h,hd,show m-k=(m-(k+1))+1 by omega,dF,Nf he];omega
theorem EJ(l:List UInt8)(k m N:Nat)(x:UInt8)(h:N=k+dF x (m-k) (l.drop k))(he:l.length<=k\/m<=k\/∃y,l[k]? =some y/\y≠x):N=k:=by
 have h0:dF x (m-k) (l.drop k)=0:=by
  rcases he with h1|h1|⟨y,hy,hn⟩;·rw[N9 h1];cases m-k <;>rfl
  ·rw[show m-k=0 by omega];rfl
  ·have h2:k<l.length:=by
    rcases N1 k l.length with h1|h1;·exact h1
    ·rw[Nw h1]at hy;cases hy
   rw[NN h2];rw[Nc h2]at hy
   cases m-k with
   | zero=>rfl
   | succ m=>rw[dF,Nd (by rw[On hy];exact hn)]
 omega
theorem lw(t:ByteArray)(h:0<t.size):t.data.toList=t[0]::t.data.toList.drop 1:=by have h0:0<t.data.toList.length:=h;have:=NN h0;rw[QY]at this;exact this
def tK:Nat->List UInt8->List UInt8->List UInt8×Nat
 | 0,o,_=>(o,0)
 | _+1,o, []=>(o,0)
 | n+1,o,x :: l=>
   if my (x::l)<4 then(if 262144<=o.length then([],3)else tK n (o++ [x]) l)
   else if 262144<o.length+4 then([],3)
   else if l.length=3 then([],30)
   else if 262144<o.length+4+(l.getD 3 0).toNat then([],3)
   else tK n (o++(x::l).take 4++List.replicate (l.getD 3 0).toNat x) (l.drop 4)
theorem pK(n:Nat)(o:List UInt8):tK n o []=(o,0):=by cases n <;>rfl
theorem FO(n:Nat):∀(m:Nat) (o l:List UInt8),l.length<=n->l.length<=m->tK n o l=tK m o l:=by
 induction n with
 | zero=>intro m o l h _;have:l= []:=Nq (by omega);subst this;rw[pK,pK]
 | succ n ih=>
  intro m o l h h2
  cases l with
  | nil=>rw[pK,pK]
  | cons x l=>
   cases m with
   | zero=>simp at h2
   | succ m=>simp only[Ns]at h h2;unfold tK;rw[ih m (o++ [x]) l (by omega) (by omega),ih m (o++(x::l).take 4++List.replicate (l.getD 3 0).toNat x) (l.drop 4) (by rw[Ny];omega) (by rw[Ny];omega)]
def fE(o l:List UInt8):List UInt8×Nat:=tK l.length o l
theorem Ak(o:List UInt8):fE o []=(o,0):=rfl
theorem nG(o:List UInt8)(x:UInt8)(l:List UInt8):fE o (x::l)=
 if my (x::l)<4 then(if 262144<=o.length then([],3)else fE (o++ [x]) l)
 else if 262144<o.length+4 then([],3)
 else if l.length=3 then([],30)
 else if 262144<o.length+4+(l.getD 3 0).toNat then([],3)
 else fE (o++(x::l).take 4++List.replicate (l.getD 3 0).toNat x) (l.drop 4):=by have h:fE o (x::l)=tK (l.length+1) o (x::l):=rfl;rw[h,tK];unfold fE;rw[FO l.length (l.drop 4).length _ (l.drop 4) (by rw[Ny];omega) (ag _)]
theorem lj{w:World}{B:Nat}{v:Value}{l:List UInt8}(h:w.ownsRow B 5 1 v l.length (l.map bv)):(convert 69 9 v).run prog w=.ok (.string ⟨l.toArray⟩) w:=by
 rcases h.2 with⟨rfl,h0⟩|⟨g,cap,cur,rfl,_⟩;·have:l= []:=Nq h0;subst this;exact Qk w 69 5 underlying69 underlying5 0 0 9 underlying9
 ·have hn:∀j (hj:j<l.length),w.cell? ((⟨g,0,none⟩:Addr).add j)=some (.int .u8 (l[j].toNat:Int)):=(by intro j hj;have h1:=h.cells (g:=g) rfl j (.int .u8 (l[j].toNat:Int));exact h1 (by rw[Np,Nc hj];rfl));exact Qa w 69 9 5 ⟨g,0,none⟩ cap l underlying69 underlying5 underlying9 hn
def pc(x:UInt8)(k:Nat):List UInt8:=if k<4 then List.replicate k x else List.replicate 4 x++ [UInt8.ofNat (k-4)]
theorem im(x:UInt8)(k:Nat):(pc x k).length=if k<4 then k else 5:=by unfold pc;split <;>simp
theorem uW(x:UInt8)(l:List UInt8):∀(k m:Nat),k<=m->(k=m\/l.head? ≠some x)->dF x m (List.replicate k x++l)=k
 | 0,0,_,_=>rfl
 | 0,m+1,_,h=>by
  cases l with
  | nil=>rfl
  | cons y l=>
   have hy:¬y=x:=fun e=>by
    rcases h with h|h;·omega
    ·exact h (by rw[e];rfl)
   show dF x (m+1) (y::l)=0;rw[dF,Nd hy]
 | k+1,0,h,_=>by omega
 | k+1,m+1,h,h2=>by show dF x (m+1) (x::(List.replicate k x++l))=k+1;rw[dF,Nf rfl,uW x l k m (by omega) (by rcases h2 with h2|h2;exact .inl (by omega);exact .inr h2)]
theorem BP(x:UInt8)(l:List UInt8)(k j:Nat)(h:j<=k):(List.replicate k x++l).take j=List.replicate j x:=by rw[OZ (by rw[NA];exact h),List.take_replicate,OJ h]
theorem Eo(x:UInt8)(l:List UInt8)(k:Nat)(h1:1<=k)(h2:k<=255)(h3:k=255\/l.head? ≠some x):bW (List.replicate k x++l)=pc x k++bW l:=by
 obtain⟨j,rfl⟩:∃j,k=j+1:=⟨k-1,by omega⟩;have hr:bC (List.replicate (j+1) x++l)=j+1:=by show dF x 254 (List.replicate j x++l)+1=j+1;rw[uW x l j 254 (by omega) (by rcases h3 with h3|h3;exact .inl (by omega);exact .inr h3)]
 have h0:List.replicate (j+1) x++l≠ []:=by simp
 rw[ln _ h0,hr,Rg (NA ..)];congr 1;unfold nh pc;split;·rw[BP _ _ _ _ (ag _)]
 ·rw[BP _ _ _ _ (by omega)]
def mC(x:UInt8)(k:Nat)(l:List UInt8):List UInt8:=bW (List.replicate k x++l)
theorem jN(x:UInt8)(k:Nat)(h1:1<=k)(h2:k<=255):mC x k []=pc x k:=by unfold mC;rw[Eo x [] k h1 h2 (.inr (by simp)),tQ,NU]
theorem ju(x:UInt8)(k:Nat)(l:List UInt8):mC x k (x::l)=mC x (k+1) l:=by unfold mC;rw[Px,Ni];rfl
theorem ii(x y:UInt8)(k:Nat)(l:List UInt8)(h1:1<=k)(h2:k<=255)(h:y≠x\/k=255):mC x k (y::l)=pc x k++mC y 1 l:=by unfold mC;rw[Eo x (y::l) k h1 h2 (by rcases h with h|h;exact .inr (fun e=>h (On e));exact .inl h)];rfl
theorem jw(x:UInt8)(l:List UInt8):bW (x::l)=mC x 1 l:=rfl
theorem FU(b:UInt8)(l:List UInt8):∀(x:UInt8) (k:Nat),1<=k->k<=255->(mC x k l).length<=(mC x k (l++ [b])).length/\(mC x k (l++ [b])).length<=(mC x k l).length+2:=by
 induction l with
 | nil=>
  intro x k h1 h2;rw[jN x k h1 h2];show _<=(mC x k [b]).length/\(mC x k [b]).length<=_;by_cases h:b=x/\k<255;·obtain⟨rfl,h3⟩:=h;rw[ju,jN _ _ (by omega) (by omega),im,im];split <;>split <;>omega
  ·rw[ii x b k [] h1 h2 (by by_cases e:b=x;exact .inr (by have:¬k<255:=fun q=>h ⟨e,q⟩;omega);exact .inl e),jN b 1 (by omega) (by omega),Nb,im,im];split <;>simp
 | cons y l ih=>
  intro x k h1 h2;by_cases h:y=x/\k<255;·obtain⟨rfl,h3⟩:=h;rw[Oq,ju,ju];exact ih y (k+1) (by omega) (by omega)
  ·have ho:y≠x\/k=255:=(by by_cases e:y=x;exact .inr (by have:¬k<255:=fun q=>h ⟨e,q⟩;omega);exact .inl e);rw[Oq,ii x y k _ h1 h2 ho,ii x y k _ h1 h2 ho,Nb,Nb];have:=ih y 1 (by omega) (by omega);omega
theorem MP(l:List UInt8)(b:UInt8):(bW l).length<=(bW (l++ [b])).length/\(bW (l++ [b])).length<=(bW l).length+2:=by
 cases l with
 | nil=>show 0<=(bW [b]).length/\(bW [b]).length<=0+2;rw[jw,jN _ _ (by omega) (by omega),im];simp
 | cons x l=>rw[Oq,jw,jw];exact FU b l x 1 (by omega) (by omega)
theorem FT(l:List UInt8):∀(x:UInt8) (k:Nat),1<=k->k<=255->4*(mC x k l).length<=5*(k+l.length):=by
 induction l with
 | nil=>intro x k h1 h2;rw[jN x k h1 h2,im];split <;>simp <;>omega
 | cons y l ih=>
  intro x k h1 h2;by_cases h:y=x/\k<255;·obtain⟨rfl,h3⟩:=h;rw[ju];have:=ih y (k+1) (by omega) (by omega);rw[Ns];omega
  ·have ho:y≠x\/k=255:=(by by_cases e:y=x;exact .inr (by have:¬k<255:=fun q=>h ⟨e,q⟩;omega);exact .inl e);rw[ii x y k _ h1 h2 ho,Nb,im,Ns];have:=ih y 1 (by omega) (by omega);split <;>omega
theorem jx(l:List UInt8):(bW l).length<=l.length+l.length/4:=by
 cases l with
 | nil=>exact Nk _
 | cons x l=>have:=FT l x 1 (by omega) (by omega);rw[jw,Ns];omega
theorem wD(l:List UInt8):∀(x:UInt8) (k:Nat),1<=k->k<=255->(mC x k l).head? =some x:=by
 have hp:∀(x:UInt8) (k:Nat) (r:List UInt8),1<=k->(pc x k++r).head? =some x:=by intro x k r h1;obtain⟨j,rfl⟩:∃j,k=j+1:=⟨k-1,by omega⟩;unfold pc;split <;>rfl
 induction l with
 | nil=>intro x k h1 h2;have:=hp x k [] h1;rw[NU]at this;rw[jN x k h1 h2,this]
 | cons y l ih=>
  intro x k h1 h2;by_cases h:y=x/\k<255;·obtain⟨rfl,h3⟩:=h;rw[ju];exact ih y (k+1) (by omega) (by omega)
  ·have ho:y≠x\/k=255:=(by by_cases e:y=x;exact .inr (by have:¬k<255:=fun q=>h ⟨e,q⟩;omega);exact .inl e);rw[ii x y k _ h1 h2 ho];exact hp x k _ h1
theorem rq(x:UInt8)(k:Nat)(r:List UInt8)(h1:1<=k)(h4:k<=4)(h:k=4\/r.head? ≠some x):my (List.replicate k x++r)=k:=by obtain⟨j,rfl⟩:∃j,k=j+1:=⟨k-1,by omega⟩;show 1+dF x 3 (List.replicate j x++r)=j+1;rw[uW x r j 3 (by omega) (by rcases h with h|h;exact .inl (by omega);exact .inr h)];omega
theorem wB(x:UInt8)(r:List UInt8)(hr:r.head? ≠some x):∀(k:Nat) (o:List UInt8),k<4->o.length+k<=262144->fE o (List.replicate k x++r)=fE (o++List.replicate k x) r
 | 0,o,_,_=>by simp
 | k+1,o,h,hl=>by have hs:=rq x (k+1) r (by omega) (by omega) (.inr hr);show fE o (x::(List.replicate k x++r))=_;rw[nG,Nf (by show my (List.replicate (k+1) x++r)<4;omega),Nd,wB x r hr k (o++ [x]) (by omega) (by rw[Nb,NP];omega),Ni];rfl
theorem Jf(x:UInt8)(r:List UInt8)(k:Nat)(o:List UInt8)(h4:4<=k)(h:k<=255)(hl:o.length+k<=262144):fE o (pc x k++r)=fE (o++List.replicate k x) r:=by have hc:(UInt8.ofNat (k-4)).toNat=k-4:=(by rw[Oo];exact NL (by omega));have hp:pc x k++r=x::x::x::x::UInt8.ofNat (k-4)::r:=(by unfold pc;rw[Nd];rfl);have hs:my (x::x::x::x::UInt8.ofNat (k-4)::r)=4:=rq x 4 (UInt8.ofNat (k-4)::r) (by omega) (by omega) (.inl rfl);have hg:((x::x::x::UInt8.ofNat (k-4)::r).getD 3 0).toNat=k-4:=hc;have ht:(x::x::x::x::UInt8.ofNat (k-4)::r).take 4=List.replicate 4 x:=rfl;have hd:(x::x::x::UInt8.ofNat (k-4)::r).drop 4=r:=rfl;have hn:(x::x::x::UInt8.ofNat (k-4)::r).length=r.length+4:=rfl;rw[hp,nG,hs,Nd,Nd,hn,Nd,hg,Nd,ht,hd,Ni,Qs,show 4+(k-4)=k by omega]
theorem wA(x:UInt8)(r:List UInt8)(k:Nat)(o:List UInt8)(h:k<=255)(hl:o.length+k<=262144)(hr:4<=k\/r.head? ≠some x):fE o (pc x k++r)=fE (o++List.replicate k x) r:=by
 by_cases h4:4<=k;·exact Jf x r k o h4 h hl
 ·have h0:r.head? ≠some x:=by rcases hr with hr|hr;exact absurd hr h4;exact hr
  rw[show pc x k=List.replicate k x by unfold pc;rw[Nf]];exact wB x r h0 k o (by omega) hl
theorem Je(l:List UInt8):∀(x:UInt8) (k:Nat) (o:List UInt8),1<=k->k<=255->o.length+k+l.length<=262144->fE o (mC x k l)=(o++List.replicate k x++l,0):=by
 induction l with
 | nil=>intro x k o h1 h2 h3;have:=wA x [] k o h2 (by simpa using h3) (.inr (by simp));rw[NU]at this;rw[jN x k h1 h2,this,Ak,NU]
 | cons y l ih=>
  intro x k o h1 h2 h3;rw[Ns]at h3;by_cases h:y=x/\k<255;·obtain⟨rfl,h4⟩:=h;rw[ju,ih y (k+1) o (by omega) (by omega) (by omega),Px];simp
  ·have ho:y≠x\/k=255:=by by_cases e:y=x;exact .inr (by have:¬k<255:=fun q=>h ⟨e,q⟩;omega);exact .inl e
   rw[ii x y k _ h1 h2 ho,wA x _ k o h2 (by omega) (by
    rcases ho with ho|ho
    ·exact .inr (by rw[wD l y 1 (by omega) (by omega)];exact fun e=>ho (On e))
    ·exact .inl (by omega)),ih y 1 _ (by omega) (by omega) (by rw[Nb,NA];omega)]
   simp
theorem pO(l:List UInt8)(h:l.length<=262144):fE [] (bW l)=(l,0):=by
 cases l with
 | nil=>rfl
 | cons x l=>rw[Ns]at h;rw[jw,Je l x 1 [] (by omega) (by omega) (by simp;omega)];rfl
