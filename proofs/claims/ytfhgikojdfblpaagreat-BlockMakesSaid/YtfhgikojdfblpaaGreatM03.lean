import Derived.Test.YtfhgikojdfblpaaGreatM02
import Derived.Deep.CutRange
set_option maxHeartbeats 3200000
set_option maxRecDepth 100000
namespace Go.Proofs.YtfhgikojdfblpaaGreat
open _root_.Go.Proofs.Tryz
open Go.RowKit
def bR(L:List Int):Nat:=(L.map fun x=>2^(20-x.toNat)).sum
def bK(L:List Int):Prop:=2<=L.length/\L.length<=258/\(∀ x∈L,1<=x/\x<=20)/\bR L<=1048576
instance (L:List Int):Decidable (bK L):=inferInstanceAs (Decidable (_/\_))
def sg(L:List Int):Int:=if bK L then(bR L:Nat)else -1
theorem um(L:List Int)(x:Int):bR (L++ [x])=bR L+2^(20-x.toNat):=by unfold bR;rw[Nz,List.sum_append];simp
theorem JE(L:List Int)(h:∀x∈L,1<=x):bR L<=524288*L.length:=by
 unfold bR
 have h1:=vg 524288 (L.map fun x=>2^(20-x.toNat)) (fun y hy=>by
  obtain⟨x,hx,rfl⟩:=List.mem_map.1 hy
  have:=h x hx
  have h2:2^(20-x.toNat)<=2^19:=Od (by decide) (by omega)
  exact h2)
 rw[Nu]at h1;exact h1
theorem Kk(w:World)(A:Option Addr)(n c:Nat)(L:List Int)(hL:ZIn w A n L)(hn:n<=maxLen):Calls prog 196 #[.slice A n c] w fun e w'=>e=.returned (.int .i64 (sg L))/\w'=w:=by
 unfold maxLen at hn;have hp:=hL.1;have HL:=aa hL;have hf:=aa hp;have h9:Hid (∀ x∈L,(x<1\/20<x)->sg L= -1):=aa fun x hx h=>Nd fun hm=>by have:=hm.2.2.1 x hx;omega
 have h5:Hid ((n<2\/258<n)->sg L= -1):=aa fun h=>Nd fun hm=>by have:=hm.1;have:=hm.2.1;omega
 have h6:Hid (1048576<bR L->sg L= -1):=aa fun h=>Nd fun hm=>by have:=hm.2.2.2;omega
 have h7:Hid (2<=n->n<=258->(∀ x∈L,1<=x/\x<=20)->bR L<=1048576->sg L=(bR L:Nat)):=aa fun h1 h2 h3 h4=>Nf ⟨by omega,by omega,h3,h4⟩;clear hL hp;generalize sg L=ans at*;go_enter func196,ntmps196;go_wp2_with fail;go_loopw [3,4] (fun s i wx=>∃(q:Nat) (v:Int),q<=n/\i=.int .i64 q/\s=.int .i64 v/\Hid (q<=1000000->v=(bR (L.take q):Nat))/\Hid (∀ x∈L.take q,1<=x/\x<=20)/\wx=w) (fun _ i _=>n-(intOf i).toNat)
 case atStart=>exact⟨0,0,Ng _,rfl,rfl,fun _=>rfl,by simp[Hid],rfl⟩
 case round=>
  obtain⟨q,v,hq,rfl,rfl,hk,hv,rfl⟩:=hrel;by_cases e:q<n
  ·obtain⟨b,off,rfl,hc⟩:=HL.out.2 (by omega);have hw:=hc q e;have hi:=cK L q (by rw[hf.out];exact e);have ha:=dK L q (by rw[hf.out];exact e);obtain⟨x,hx⟩:∃x,x=L.getD q 0:=⟨_,rfl⟩;rw[<- hx]at hw hi ha;have hj:=aa hi;have HM:=aa ha;clear hc hx hi ha;by_cases e1:x<1;·have d1:decide (x<1)=true:=Nn e1;have h0:=h9.out x HM.out (.inl e1);subst h0;clear h5 h6 h7;go_wp2_with fail;go_ret;exact⟨rfl,rfl⟩
   ·have d1:decide (x<1)=false:=Nl e1;by_cases e2:20<x;·have d2:decide (20<x)=true:=Nn e2;have h0:=h9.out x HM.out (.inr e2);subst h0;clear h5 h6 h7;go_wp2_with fail;go_ret;exact⟨rfl,rfl⟩
    ·obtain⟨y,rfl⟩:∃y:Nat,x=y:=⟨x.toNat,by omega⟩;have d2:decide ((20:Int)<(y:Int))=false:=Nl e2;have h8:∀z∈L.take (q+1),1<=z/\z<=20:=by
      rw[hj.out];intro z hz;rcases List.mem_append.1 hz with hz|hz;·exact hv.out z hz
      ·rw[List.mem_singleton.1 hz];omega
     have hl:=aa h8;obtain⟨d,hd⟩:∃d,d=20-y:=⟨_,rfl⟩;have hA:(20:Int)-(y:Int)=(d:Int):=(by omega);have hg:d<=19:=(by omega);obtain⟨t,ht⟩:∃t:Nat,t=2^d:=⟨_,rfl⟩;have hB:((2:Int)^d)=(t:Int):=(by rw[ht];simp);have hy:t<=524288:=(by rw[ht];exact Od (by decide) hg);have ho:bR (L.take (q+1))=bR (L.take q)+t:=(by rw[hj.out,um,ht,hd,Nv]);have hh:=JE (L.take q) fun z hz=>(hv.out z hz).1;have hr:(L.take q).length<=q:=(by rw[NB];omega);have hu:=aa ho;have hC:¬(y:Int)<1:=e1;clear h8 hd ht ho e1;by_cases e3:q+1<=1000000
     ·have he:=hk.out (by omega);obtain⟨z,hz⟩:∃z,z=bR (L.take q):=⟨_,rfl⟩;rw[<- hz]at he hh;have HZ:=aa hz;subst he;have hD:z<=524288000000:=(by have:524288*(L.take q).length<=524288*1000000:=Q7 _ (by omega);omega);(have hs:Hid (q+1<=1000000->(z:Int)+(t:Int)=(bR (L.take (q+1)):Nat)):=aa fun _=>by rw[hu.out,<-HZ.out];simp);clear hz hk hh hr h9 h5 h6 h7;go_wp2_with fail;go_roundw;case rel=>exact⟨q+1,_,by omega,by go_num,rfl,hs,hl,trivial⟩
      case measure=>simp[intOf];omega
     ·clear hh hr hk h9 h5 h6 h7;go_wp2_with fail;go_roundw;case rel=>exact⟨q+1,_,by omega,by go_num,rfl,fun h=>absurd h e3,hl,trivial⟩
      case measure=>simp[intOf];omega
  ·obtain rfl:q=n:=(by omega);have h8:=hv.out;have hb:=hk.out;rw[Nr (Oi hf.out)]at h8 hb;by_cases h1:q<2;·have d1:decide ((q:Int)<2)=true:=bE;have h0:=h5.out (.inl h1);subst h0;clear h8 hb hk hv h9 h5 h6 h7;go_wp2_with fail;go_ret;exact⟨rfl,rfl⟩
   ·have d1:decide ((q:Int)<2)=false:=aR;by_cases h2:258<q;·have d2:decide ((258:Int)<(q:Int))=true:=bE;have h0:=h5.out (.inr h2);subst h0;clear h8 hb hk hv h9 h5 h6 h7;go_wp2_with fail;go_ret;exact⟨rfl,rfl⟩
    ·have d2:decide ((258:Int)<(q:Int))=false:=aR;have he:=hb (by omega);obtain⟨z,hz⟩:∃z,z=bR L:=⟨_,rfl⟩;rw[<- hz]at he;subst he;by_cases h3:1048576<z;·have d3:decide ((1048576:Int)<(z:Int))=true:=bE;have h0:=h6.out (by rw[<- hz];exact h3);subst h0;clear h8 hb hk hv h9 h5 h6 h7 hz;go_wp2_with fail;go_ret;exact⟨rfl,rfl⟩
     ·have d3:decide ((1048576:Int)<(z:Int))=false:=aR;have h0:=h7.out (by omega) (by omega) h8 (by rw[<- hz];omega);rw[<- hz]at h0;subst h0;clear h8 hb hk hv h9 h5 h6 h7 hz;go_wp2_with fail;go_ret;exact⟨rfl,rfl⟩
theorem Fx(w:World)(A:Option Addr)(n c:Nat)(L:List Int)(hL:ZIn w A n L)(hn:n<=maxLen):Calls prog 165 #[.slice A n c] w fun e w'=>e=.returned (.int .i64 (if bK L then 0 else 80))/\w'=w:=by
 have HR:=aa (Kk w A n c L hL hn);clear hL;by_cases h:bK L;·rw[show sg L=(bR L:Nat)from Nf h]at HR;rw[Nf h];obtain⟨z,hz⟩:∃z,z=bR L:=⟨_,rfl⟩;rw[<- hz]at HR;have d0:decide ((z:Int)<0)=false:=aR;clear h hz;go_enter func165,ntmps165;go_wp2_with fail;refine HR.out.mono ?_;rintro e w' ⟨rfl,rfl⟩;go_wp2_with fail;go_ret;exact⟨rfl,rfl⟩
 ·rw[show sg L= -1 from Nd h]at HR;rw[Nd h];clear h;go_enter func165,ntmps165;go_wp2_with fail;refine HR.out.mono ?_;rintro e w' ⟨rfl,rfl⟩;go_wp2_with fail;go_ret;exact⟨rfl,rfl⟩
def gm(W:List Nat)(i q:Nat):Nat:=(List.range q).countP fun j=>decide (W.getD i 0<W.getD j 0\/(W.getD j 0=W.getD i 0/\j<i))
theorem C1(W:List Nat)(i:Nat):gm W i W.length=eD W i:=rfl
theorem Ar(W:List Nat)(i q:Nat):gm W i (q+1)=gm W i q+if W.getD i 0<W.getD q 0\/(W.getD q 0=W.getD i 0/\q<i)then 1 else 0:=by unfold gm;rw[Oh,QE,QM];simp only[PF]
theorem F5(W:List Nat)(i q:Nat):gm W i q<=q:=by unfold gm;exact ND (PJ) (Oi NE)
theorem JV(L:List Int)(i:Nat)(h:i<L.length):(gK L).getD i 0=rg L i:=dE L.length (rg L) i h
def kZ(w:World)(L:List Int)(e:Ending)(w':World):Prop:=
 (¬ gU L/\∃v,e=.returned (.tuple #[v,.int .i64 2])/\w'.ownsRow w.heap.size 3 1 v 0 []/\Below w.heap.size w w')\/
 (gU L/\∃v k,2^k<=L.length/\L.length<2^(k+1)/\e=.returned (.tuple #[v,.int .i64 0])/\w'.ownsRow w.heap.size 3 1 v L.length (cN L.length (bj k (2^(k+1)-L.length) (gK L)))/\Below w.heap.size w w')
theorem Jn(w:World)(A:Option Addr)(n c:Nat)(L:List Int)(hL:ZIn w A n L)(hM:gU L):Calls prog 162 #[.slice A n c] w (kZ w L):=by
 have h9:=hL.1;have hT:2<=n:=by have:=hM.1;omega
 have hn:n<=258:=by have:=hM.2.1;omega
 have HM:=aa (pY w A n c L hL (by unfold maxLen;omega));rw[show decide (gU L)=true from Nn hM]at HM;have hP:Hid (∀ (v:Value) (k:Nat) w',2^k<=n->n<2^(k+1)->w'.ownsRow w.heap.size 3 1 v n (cN n (bj k (2^(k+1)-n) (gK L)))->Below w.heap.size w w'->kZ w L (.returned (.tuple #[v,.int .i64 0])) w'):=aa fun v k w' h1 h2 h3 h4=>.inr ⟨hM,v,k,by rw[h9];exact h1,by rw[h9];exact h2,rfl,by rw[h9];exact h3,h4⟩;have hk:Hid (∀ q,q<n->0<=L.getD q 0/\L.getD q 0<=1073741824):=aa fun q hq=>hM.2.2 _ (dK L q (by omega));have hl:Hid (∀ q,q<n->(gK L).getD q 0=max (L.getD q 0).toNat 1):=aa fun q hq=>JV L q (by omega);have hE:Hid ((gK L).length=n):=aa (by unfold gK;simp[h9]);have HL:=aa hL;generalize kZ w L=PO at*;generalize gK L=W at*;clear hL h9 hM;go_enter func162,ntmps162;go_wp2_with fail;refine HM.out.mono ?_;rintro e w' ⟨rfl,rfl⟩;clear HM;have hY:=bu w' n (by omega);have hB:=aa (bf w' w'.heap.size n (ag _) (by omega));have hw:=aa ((Nj w'.heap.size w').alloc (ag _) (.cells (madeCells #[.int .i64 0] n) 3));go_wp2_with fail;go_loopw [5] (fun x wx=>∃k:Nat,1<=k/\k<=9/\x=.int .i64 k/\Hid (2^k<=n)/\wx=w') (fun x _=>40-(intOf x).toNat)
 case atStart=>exact⟨1,Nk _,by omega,rfl,hT,rfl⟩
 case round=>
  obtain⟨k,H4,H5,rfl,hp,rfl⟩:=hrel;obtain⟨P,h6⟩:∃P:Nat,P=2^(k+1):=⟨_,rfl⟩;have hV:((2:Int)^(k+1))=(P:Int):=by rw[h6];simp
  have H1:P<=1024:=by rw[h6];have:2^(k+1)<=2^10:=Od (by decide) (by omega);exact this
  by_cases e:P<=n
  ·have dp:decide ((P:Int)<=(n:Int))=true:=bE;have hX:k+1<=9:=by
    rcases N1 k 9 with h|h;·omega
    ·exfalso;have:k=9:=(by omega);subst this;have:P=1024:=h6;omega
   have hQ:Hid (2^(k+1)<=n):=aa (by rw[<- h6];exact e);clear h6;go_wp2_with fail;go_roundw;case rel=>exact⟨k+1,by omega,hX,by go_num,hQ,trivial⟩
   case measure=>simp[intOf];omega
  ·have dp:decide ((P:Int)<=(n:Int))=false:=aR;obtain⟨C,hC⟩:∃C,C=P-n:=⟨_,rfl⟩;have H0:(P:Int)-(n:Int)=(C:Int):=(by omega);have hD:Hid (n<2^(k+1)/\C=2^(k+1)-n):=aa ⟨by rw[<- h6];omega,by rw[hC,h6]⟩;clear h6 hC;go_wp2_with fail;clear hY;(go_loopw [7,8,9,10,11] (fun x f j u v wx=>∃i:Nat,i<=n/\x=.int .i64 i/\az wx wr.heap.size wr.heap.size n n (fun a=>if a<i then bj k C W a else 0)/\Below wr.heap.size wr wx) (fun x _ _ _ _ _=>n-(intOf x).toNat));case atStart=>refine⟨0,Ng _,rfl,?_,hw.out⟩;have e0:(fun a=>if a<0 then bj k C W a else 0)=fun _=>0:=(by funext a;rw[Nd]);rw[e0];exact hB.out
   case round=>
    clear hB hw;rename World=>w2;obtain⟨i,hi,rfl,hf,hb⟩:=hrel;have HF:=aa hf;have HB:=aa hb;by_cases e1:i<n
    ·have di:decide ((i:Int)<(n:Int))=true:=bE;have H2:(0:Int)<=(i:Int):=(by omega);clear hf hb;go_wp2_with fail;(go_loopw [8,9,10,11] (fun f j u v wx=>∃q:Nat,q<=n/\j=.int .i64 q/\f=.int .i64 (gm W i q:Nat)/\∃m,wx=w2.drewN m) (fun _ j _ _ _=>n-(intOf j).toNat));case atStart=>exact⟨0,Ng _,rfl,rfl,0,rfl⟩
     case round=>
      rename World=>w6;obtain⟨q,hq,rfl,rfl,hd⟩:=hrel;have HD:=aa hd;have hI:=F5 W i q;have h0:=Ar W i q;by_cases e2:q<n
      ·have H7:(0:Int)<=(q:Int):=(by omega);rw[hl.out i e1,hl.out q e2]at h0;obtain⟨b,off,rfl,hc⟩:=HL.out.2 (by omega);have ci:w6.cell? ⟨b,off+i,none⟩=some (.int .i64 (L.getD i 0)):=(by obtain⟨m,rfl⟩:=hd;exact(HB.out.cell (p:=⟨b,off+i,none⟩) (No wr _ (hc i e1))).trans (hc i e1));have cq:w6.cell? ⟨b,off+q,none⟩=some (.int .i64 (L.getD q 0)):=(by obtain⟨m,rfl⟩:=hd;exact(HB.out.cell (p:=⟨b,off+q,none⟩) (No wr _ (hc q e2))).trans (hc q e2));have bi:=hk.out i e1;have bq:=hk.out q e2;obtain⟨x,hx⟩:∃x:Nat,L.getD i 0=x:=⟨(L.getD i 0).toNat,by omega⟩;obtain⟨y,hy⟩:∃y:Nat,L.getD q 0=y:=⟨(L.getD q 0).toNat,by omega⟩;rw[hx]at ci bi h0;rw[hy]at cq bq h0;rw[Nv,Nv]at h0;obtain⟨a,ha⟩:∃a,a=max x 1:=⟨_,rfl⟩;obtain⟨d,hv⟩:∃d,d=max y 1:=⟨_,rfl⟩;rw[<- ha,<-hv]at h0;have HA:=aa ha;have hj:=aa hv;have h8:=aa h0;obtain⟨F,hF⟩:∃F,F=gm W i q:=⟨_,rfl⟩;rw[<- hF]at h8 hI |-;clear hc hx hy hd ha hv h0 hF;go_upto_region 15 with fail;(go_cut [10,11]from 32 to 61 (fun s10 s11 wx=>s10=.int .i64 a/\s11=.int .i64 d/\∃m,wx=w2.drewN m));case first=>
        (have hS:Hid (x≠0->a=x):=aa fun h=>by rw[HA.out];omega);(have hG:Hid (y≠0->d=y):=aa fun h=>by rw[hj.out];omega);by_cases hK:x=0
        ·subst hK;have hu:a=1:=HA.out;subst hu;by_cases hg:y=0;·subst hg;have h7:d=1:=hj.out;subst h7;go_quiet (fail);go_wp2_with fail;go_meet;obtain⟨m,hm⟩:=HD.out;exact⟨rfl,rfl,m+nq,by rw[hm];simp⟩
         ·have h7:=hG.out hg;subst h7;have hZ:¬((d:Int)<1):=(by omega);go_quiet (fail);go_wp2_with fail;go_meet;obtain⟨m,hm⟩:=HD.out;exact⟨rfl,rfl,m+nq,by rw[hm];simp⟩
        ·have hu:=hS.out hK;subst hu;have H8:¬((a:Int)<1):=(by omega);by_cases hg:y=0;·subst hg;have h7:d=1:=hj.out;subst h7;go_quiet (fail);go_wp2_with fail;go_meet;obtain⟨m,hm⟩:=HD.out;exact⟨rfl,rfl,m+nq,by rw[hm];simp⟩
         ·have h7:=hG.out hg;subst h7;have hZ:¬((d:Int)<1):=(by omega);go_quiet (fail);go_wp2_with fail;go_meet;obtain⟨m,hm⟩:=HD.out;exact⟨rfl,rfl,m+nq,by rw[hm];simp⟩
       case rest=>
        obtain⟨rfl,rfl,hH⟩:=hcut;have hh:=aa hH;clear hH HA hj ci cq;by_cases c1:a<d
        ·have d1:decide ((a:Int)<(d:Int))=true:=bE;have hN:gm W i (q+1)=F+1:=(by rw[h8.out,Nf (.inl c1)]);have HN:=aa hN;clear hN;go_wp2_with fail;go_roundw;case rel=>exact⟨q+1,by omega,by go_num,by rw[HN.out];go_num,hh.out⟩
         case measure=>simp[intOf];omega
        ·have d1:decide ((a:Int)<(d:Int))=false:=aR;by_cases c2:d=a
         ·subst c2;have d2:((d:Int)==(d:Int))=true:=O9 _;by_cases c3:q<i
          ·have hN:gm W i (q+1)=F+1:=(by rw[h8.out,Nf (.inr ⟨rfl,c3⟩)]);have HN:=aa hN;clear hN;go_wp2_with fail;go_roundw;case rel=>exact⟨q+1,by omega,by go_num,by rw[HN.out];go_num,hh.out⟩
           case measure=>simp[intOf];omega
          ·have hN:gm W i (q+1)=F:=(by rw[h8.out,Nd,NY]);have HN:=aa hN;clear hN;go_wp2_with fail;go_roundw;case rel=>exact⟨q+1,by omega,by go_num,by rw[HN.out],hh.out⟩
           case measure=>simp[intOf];omega
         ·have d2:((d:Int)==(a:Int))=false:=(by rw[NC];omega);have hN:gm W i (q+1)=F:=(by rw[h8.out,Nd,NY]);have HN:=aa hN;clear hN;go_wp2_with fail;go_roundw;case rel=>exact⟨q+1,by omega,by go_num,by rw[HN.out],hh.out⟩
          case measure=>simp[intOf];omega
      ·obtain rfl:q=n:=(by omega);obtain⟨m,rfl⟩:=hd;have hF:gm W i q=eD W i:=(by rw[<- C1,hE.out]);have ho:=HF.out.drew m;have hz:=aa (ax HB.out m);have cX:=ho.cell i e1;have fX:=ho.frozen i;have he:=ho.set i k;have hs:=aa he;have hJ:=he.set i (k+1);have HS2:=aa hJ;have cX2:=he.cell i e1;have fX2:=he.frozen i;have H3:(i:Int)<(q:Int):=(by omega);obtain⟨F,ht⟩:∃F,F=gm W i q:=⟨_,rfl⟩;have hA:Hid (F=eD W i):=aa (by rw[ht];exact hF);rw[<- ht]at hI |-;obtain⟨k1,h5⟩:∃k1,k1=k+1:=⟨_,rfl⟩;have H6:(k:Int)+1=(k1:Int):=(by omega);have hW:((2:Int)^k1)=(P:Int):=(by rw[h5];exact hV);rw[<- h5]at HS2;have hO:=aa h5;clear h0 hF ho he hJ ht h5 HD HL hl hk;by_cases c1:C<=F
       ·have d1:decide ((C:Int)<=(F:Int))=true:=bE;have h0:(fun j=>if j=i then k1 else if j=i then k else if j<i then bj k C W j else 0)=fun a=>if a<i+1 then bj k C W a else 0:=by
         funext a;by_cases ea:a=i;·rw[Nf ea,Nf,ea];unfold bj;rw[Nf (by rw[<- hA.out];exact c1),hO.out]
         ·rw[Nd ea,Nd ea];by_cases ea2:a<i;·rw[Nf ea2,Nf]
          ·rw[Nd ea2,Nd]
        rw[h0]at HS2;clear h0 hs;have hr:=aa ((hz.out.setCell (p:=⟨wr.heap.size,i,none⟩) (ag _) (.int .i64 (k:Int))).setCell (p:=⟨wr.heap.size,i,none⟩) (ag _) (.int .i64 (k1:Int)));go_wp2_with fail;go_roundw;case rel=>exact⟨i+1,by omega,by go_num,HS2.out,hr.out⟩
        case measure=>simp[intOf];omega
       ·have d1:decide ((C:Int)<=(F:Int))=false:=aR;have h0:(fun j=>if j=i then k else if j<i then bj k C W j else 0)=fun a=>if a<i+1 then bj k C W a else 0:=by
         funext a;by_cases ea:a=i;·rw[Nf ea,Nf,ea];unfold bj;rw[Nd (by rw[<- hA.out];exact c1)]
         ·rw[Nd ea];by_cases ea2:a<i;·rw[Nf ea2,Nf]
          ·rw[Nd ea2,Nd]
        rw[h0]at hs;clear h0 HS2;have hr:=aa (hz.out.setCell (p:=⟨wr.heap.size,i,none⟩) (ag _) (.int .i64 (k:Int)));go_wp2_with fail;go_roundw;case rel=>exact⟨i+1,by omega,by go_num,hs.out,hr.out⟩
        case measure=>simp[intOf];omega
    ·obtain rfl:i=n:=(by omega);have di:decide ((i:Int)<(i:Int))=false:=aR;have h3:w2.ownsRow wr.heap.size 3 1 (.slice (some ⟨wr.heap.size,0,none⟩) i i) i (cN i fun a=>if a<i then bj k C W a else 0):=hf;rw[cw i _ (bj k C W) fun a ha=>Nf ha]at h3;rw[hD.out.2]at h3;have hR:=aa (hP.out _ k w2 hp.out hD.out.1 h3 hb);clear hf hb h3 HF HB hP hk hl hE HL;go_wp2_with fail;exact hR.out
theorem BH:∀(l:List Nat) (x:Nat),(∀ y∈l,1<=y)->x∈l->x+(l.length-1)<=l.sum
 | [],x,_,hx=>absurd hx aw
 | z::l,x,h,hx=>by
  have hl:∀l:List Nat,(∀ y∈l,1<=y)->l.length<=l.sum:=by
   intro l
   induction l with
   | nil=>intro _;exact Nk _
   | cons a l ih=>intro h;have:=ih fun y hy=>h y (Nm _ hy);have:=h a Nh;rw[Ns,Pz];omega
  rw[Ns,Pz];rcases List.mem_cons.1 hx with rfl|hx;·have:=hl l fun y hy=>h y (Nm _ hy);omega
  ·have h1:=BH l x (fun y hy=>h y (Nm _ hy)) hx;have h2:=h z Nh;have h3:0<l.length:=PD hx;omega
def Gh(a:List Nat):List Int:=a.map fun(x:Nat)=>(x:Int)
theorem JH{n:Nat}{len:Nat->Nat}(h2:2<=n)(hn:n<=258)(hl:∀i,i<n->len i<=20)(hs:((List.range n).map fun i=>2^(20-len i)).sum=2^20):bK (Gh ((List.range n).map len))/\bR (Gh ((List.range n).map len))=1048576:=by
 have hk:bR (Gh ((List.range n).map len))=1048576:=by unfold bR Gh;rw[Ou,Ou];have e:(((fun x:Int=>2^(20-x.toNat)) ∘ fun(x:Nat)=>(x:Int)) ∘ len)=fun i=>2^(20-len i):=(by funext i;show 2^(20-((len i:Nat):Int).toNat)=_;rw[Nv]);rw[e,hs]
 have h3:(Gh ((List.range n).map len)).length=n:=by simp[Gh]
 refine⟨⟨by rw[h3];exact h2,by rw[h3];exact hn,fun x hx=> ?_,by rw[hk];exact Nk _⟩,hk⟩;obtain⟨y,hy,rfl⟩:=List.mem_map.1 hx;obtain⟨i,hi,rfl⟩:=List.mem_map.1 hy;have hi:=List.mem_range.1 hi;have h4:=hl i hi;have h1:1<=len i:=by
  rcases OL (len i)with h0|h0
  ·exfalso;have hm:2^20∈(List.range n).map fun i=>2^(20-len i):=List.mem_map.2 ⟨i,List.mem_range.2 hi,by rw[h0]⟩
   have:=BH _ _ (fun y hy=>by
    obtain⟨j,_,rfl⟩:=List.mem_map.1 hy
    exact Nat.one_le_two_pow) hm
   rw[hs,Nu,NE]at this;omega
  ·exact h0
 omega
theorem JJ(w:World)(L:List Nat):aB (w.alloc (.cells (L.map iv).toArray 3)) (some ⟨w.heap.size,0,none⟩) L.length L:=by refine⟨rfl,fun _=>⟨w.heap.size,0,rfl,fun i hi=> ?_⟩⟩;rw[N8,ac (aj w 3 _)];simp[iv,hi]
