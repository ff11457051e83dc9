import Derived.Test.YtepokmggbfoakaaGreatDoorT20
import Derived.Lib.AppendZeros
import Derived.Lib.AppendZerosOnto
set_option maxHeartbeats 3200000
set_option maxRecDepth 100000
namespace Go.Proofs.YtepokmggbfoakaaGreatDoor.S07
open _root_.Go.Proofs.Tryz
open Go.RowKit
def yu(k:Int):List Nat×Nat:=if k<0\/2147483647<k then([],2)else(dig k.toNat,0)
def mw(n:Int)(L:List Int):List Nat×Nat:=if n<1\/256<n then([],2)else if ∀x∈L,0<=x/\x<n then(fY n.toNat 0 (L.map Int.toNat),0)else([],60)
def dH(n most:Int)(L:List Int):List Nat×Nat:=if n<1\/256<n\/most<0\/262144<most then([],2)else dI n.toNat most.toNat L [] 1 false
def cw(w:World)(ans:List Nat×Nat)(e:Ending)(w':World):Prop:=∃v,e=.returned (.tuple #[v,.int .i64 ans.2])/\w'.ownsRow w.heap.size 3 1 v ans.1.length (ans.1.map iv)/\Below w.heap.size w w'
theorem zX(n r:Nat)(l:List Nat):fY n r (0::l)=fY n (r+1) l:=by rw[fY,Ng rfl]
theorem zW(n r x:Nat)(l:List Nat)(h:x≠0):fY n r (x::l)=dig r++(x+1)::fY n 0 l:=by rw[fY,Nf h]
theorem dY(L:List Int)(q:Nat)(h:q<L.length):L.take (q+1)=L.take q++ [L.getD q 0]:=by rw[NI h,Nb,Nd h];rfl
theorem vm(L:List Int)(q:Nat)(h:q<L.length):(L.map Int.toNat).drop q=(L.getD q 0).toNat::(L.map Int.toNat).drop (q+1):=by have h1:q<(L.map Int.toNat).length:=(by rw[NC];exact h);rw[NP h1,RG,Nb,Nd h];rfl
theorem jN(m:Nat):(Builtin.zeroCells (Value.int .i64 0).cells m).toList=List.replicate m (.int .i64 0):=by
 apply Oa;intro j;by_cases hj:j<m;·simp[Builtin.zeroCells,hj,Nat.mod_one,Value.cells]
 ·simp[Builtin.zeroCells,hj,Value.cells]
theorem ij{P:Program}(w:World)(t tn ty e:TypeId)(i:TypeInfo)(kq kn:IntKind)(ht:P.underlying t=some (.slice e))(h8:P.underlying tn=some (.int kn))(hi:P.info? e=some i)(hz:i.zero=some (.int .i64 0))(hs:i.size=1)(h5:i.bytes=8)
 (g sLen sCap:Nat) (cur:Array Value) (hg:w.heap[g]? =some (.cells cur e (0,0)))
 (k:Nat) (h0:0<k) (hk:k<=1000000000) (h1:sLen+k<=sCap) (h6:sLen+k<=cur.size):
 (Builtin.append_ #[t,tn] ty #[.slice (some ⟨g,0,none⟩) sLen sCap,.int kq k]).run P w=
   .ok (.slice (some ⟨g,0,none⟩) (sLen+k) sCap) (w.setRow g (cur.toList.take sLen++List.replicate k (Value.int .i64 0)++cur.toList.drop (sLen+k)).toArray):=by have h7:k≠0:=(by omega);have hw:IntKind.i64.wrap (k:Int)=k:=(by rw[Oe];omega);have h2:¬(281474976710656<(k:Int)*8):=(by omega);have h3:¬((k:Int)<0):=(by omega);have h4:=run_storeCells_at P g sLen e (List.replicate k (Value.int .i64 0)) 0 cur w hg (by simp;omega) (by intro u hu;rw[QD hu];rfl);simp only[Og,NE]at h4;simp[Builtin.append_,PH ht,PH h8,sizeOf,typeInfo,zeroValue,hi,hz,hs,h5,asInt,asIntOf,hw,h1,h3,h7,h2,OX,jN,h4]
theorem fP{P:Program}(w:World)(base:Nat)(t tn ty e:TypeId)(i:TypeInfo)(kq kn:IntKind)(ht:P.underlying t=some (.slice e))(hb:P.underlying tn=some (.int kn))(hi:P.info? e=some i)(hz:i.zero=some (.int .i64 0))(hs:i.size=1)(h8:i.bytes=8)
 (v:Value) (n:Nat) (xs:List Value) (h1:w.ownsRow base e 1 v n xs) (k:Nat) (h0:0<k) (hk:k<=1000000000) (hn:n<=1000000000) (h6:base<=w.heap.size):
 ∃v' w',(Builtin.append_ #[t,tn] ty #[v,.int kq k]).run P w=.ok v' w'/\w'.ownsRow base e 1 v' (n+k) (xs++List.replicate k (Value.int .i64 0))/\w.grownBy w' v.ownBlock/\(v'.ownBlock=v.ownBlock\/v'.ownBlock=some w.heap.size):=by
 have h2:(xs++List.replicate k (Value.int .i64 0)).length=(n+k)*1:=by rw[Nc,h1.1,NE];omega
 have grown:∀(old:Nat),old<n+k->∀(row:Option Nat),
  (w.drew.alloc (.cells (xs.toArray++Builtin.zeroCells (Value.int .i64 0).cells k++Builtin.zeroCells (Value.int .i64 0).cells (grownCap w (n+k) old e - (n+k))) e)).ownsRow base e 1
    (.slice (some ⟨w.heap.size,0,none⟩) (n+k) (grownCap w (n+k) old e)) (n+k) (xs++List.replicate k (Value.int .i64 0))/\
  w.grownBy (w.drew.alloc (.cells (xs.toArray++Builtin.zeroCells (Value.int .i64 0).cells k++Builtin.zeroCells (Value.int .i64 0).cells (grownCap w (n+k) old e-(n+k))) e)) row:=by
  intro old ho row
  have hf:=grownCap_ge w (n+k) old e
  have h9:grownCap w (n+k) old e<=maxLen:=Sc w (n+k) old e (by unfold maxLen;omega)
  have hh:xs.length=n:=by rw[h1.1,Of]
  refine⟨⟨h2,.inr ⟨w.heap.size,_,_,rfl,h6,_root_.Go.heap_alloc_new w.drew _,hf,h9,?_,?_⟩⟩,⟨rfl,rfl,rfl,by simp,fun q hq _=>_root_.Go.heap_alloc_old w.drew _ hq⟩⟩
  ·simp only[Rv,PM,Sd,Value.cells,hh]
   simp
   omega
  ·simp only[Pu,Ni,jN]
   rw[<- Ni,<-h2]
   exact Rw
 rcases h1.2 with⟨rfl,rfl⟩|⟨g,cap,cur,rfl,hc,hg,hj,h9,he,h4⟩;·have hx:xs= []:=Nw (by simpa using h1.1);subst hx;have hr:=Lib.run_append_nil_zeros (P:=P) w t tn ty e i (.int .i64 0) kq kn ht hb hi hz k h0 (by omega) (by omega) (by rw[h8];omega);have h5:=grown 0 (by omega) (Value.ownBlock (.slice none 0 0));simp only[N8,NX,Array.empty_append]at h5 |-;exact⟨_,_,hr,h5.1,h5.2,Or.inr rfl⟩
 ·rw[Of]at he;by_cases h3:n+k<=cap
  ·have hr:=ij (P:=P) w t tn ty e i kq kn ht hb hi hz hs h8 g n cap cur hg k h0 hk h3 (by omega);refine⟨_,_,hr,⟨h2,.inr ⟨g,cap,_,rfl,hc,_root_.Go.setRow_heap w g cur _ e _ hg,h3,h9,?_,?_⟩⟩,⟨rfl,rfl,rfl,by simp,fun q _ hq=>_root_.Go.setRow_other w g q _ (fun e=>hq (by simp[Value.ownBlock,e]))⟩,Or.inl rfl⟩;·simp only[PM,Nc,Nz,Nq,Ra,NE];omega
   ·rw[Of]at h4;rw[h4,<-h2];exact Rw
  ·have h7:∀j u,xs[j]? =some u->w.cell? ((⟨g,0,none⟩:Addr).add j)=some u:=h1.cells (g:=g) rfl;have ha:=run_firstCells_some (P:=P) w.drew i.size n ⟨g,0,none⟩ n cap xs (by rw[h1.1,hs]) (by simpa using h7);have hr:=Lib.run_append_grow_zeros (P:=P) w t tn ty e i (.int .i64 0) kq kn ht hb hi hz (some ⟨g,0,none⟩) n cap xs ha k h0 (by omega) (by omega) (by omega) (by rw[h8];omega) (by rw[h8];exact growslice_fits (by omega) (by omega));have h5:=grown cap (by omega) (Value.ownBlock (.slice (some ⟨g,0,none⟩) n cap));exact⟨_,_,hr,h5.1,h5.2,Or.inr rfl⟩
def nI(B:Nat)(w:World)(o:List Nat)(k:Nat)(e:Ending)(w':World):Prop:=∃v,e=.returned (.tuple #[v,.bool true])/\w'.ownsRow B 3 1 v (o++List.replicate k 0).length ((o++List.replicate k 0).map iv)/\Below B w w'
theorem C8(w:World)(A:Option Addr)(n c k most:Nat)(h:most<n+k)(hn:n<=2000000)(hk:k<=2000000)(hm:most<=2000000):Calls prog 138 #[.slice A n c,.int .i64 k,.int .i64 most] w fun e w'=>e=.returned (.tuple #[.slice none 0 0,.bool false])/\w=w':=by have d0:decide ((most:Int)-(n:Int)<(k:Int))=true:=aX (by omega);go_enter func138,ntmps138;go_wp2_with fail;go_ret2;exact⟨rfl,rfl⟩
theorem AC(w:World)(B:Nat)(v:Value)(o:List Nat)(k most:Nat)(h2:w.ownsRow B 3 1 v o.length (o.map iv))(h:o.length+k<=most)(h0:0<k)(hm:most<=1000000)(hB:B<=w.heap.size):Calls prog 138 #[v,.int .i64 k,.int .i64 most] w (nI B w o k):=by obtain⟨i3,h3,h9,ha,hb⟩:=NY Tryz.info3;obtain⟨A,c,rfl,h8,hc,_⟩:=ak h2;obtain⟨v2,w2,h6,h4,h1,_⟩:=fP (P:=prog) w B 57 3 57 3 i3 .i64 .i64 underlying57 underlying3 h3 h9 ha hb _ _ _ h2 k h0 (by omega) (by omega) hB;have h7:Below B w w2:=(Nj B w).grown h1 hB (fun k hk=>(h2.lt k hk).1);have h5:w2.ownsRow B 3 1 v2 (o++List.replicate k 0).length ((o++List.replicate k 0).map iv):=(by rw[Nc,NE,NF,PW];exact h4);have HF:Hid (nI B w o k (.returned (.tuple #[v2,.bool true])) w2):=aa ⟨v2,rfl,h5,h7⟩;have HR:=aa h6;obtain⟨n,hn⟩:∃n,n=o.length:=⟨_,rfl⟩;rw[<- hn]at HR h h8 |-;have d0:decide ((most:Int)-(n:Int)<(k:Int))=false:=aD (by omega);clear h6 h2 h4 h1 h7 h5 hn;generalize nI B w o k=PO at*;go_enter func138,ntmps138;(go_wp2_with (at_builtin;refine Lib.wpList_append_run _ rfl _ _ 57 3 rfl (.slice A n c) (.int .i64 k) rfl rfl v2 w2 HR.out ?_));exact HF.out
theorem mu(n most:Nat)(s:Int)(l:List Int)(o:List Nat)(wo:Nat)(ended:Bool):dI n most (s::l) o wo ended=
 if s<0\/(n:Int)+1<s then([],60)
 else if ended then([],70)
 else if s=(n:Int)+1 then dI n most l o wo true
 else if 1<s then(if most<=o.length then([],3)else dI n most l (o++ [s.toNat-1]) 1 false)
 else if most<o.length+(s.toNat+1)*wo then([],3)else dI n most l (o++List.replicate ((s.toNat+1)*wo) 0) (wo*2) false:=rfl
theorem J8(w:World)(A:Option Addr)(m c:Nat)(n most:Int)(h:n<1\/256<n\/most<0\/262144<most):Calls prog 81 #[.int .i64 n,.int .i64 most,.slice A m c] w (cw w ([],2)):=by
 have fin:∀w':World,w=w'->cw w ([],2) (.returned (.tuple #[.slice none 0 0,.int .i64 2])) w':=by rintro w' rfl;exact⟨_,rfl,Ns _ _ _ _,Nj _ _⟩
 have F:=aa (fin w rfl);clear fin;by_cases h1:n<1;·clear h;go_enter func81,ntmps81;go_wp2_with fail;go_ret2;exact F.out
 ·by_cases h2:256<n;·clear h;go_enter func81,ntmps81;go_wp2_with fail;go_ret2;exact F.out
  ·by_cases h3:most<0;·clear h;go_enter func81,ntmps81;go_wp2_with fail;go_ret2;exact F.out
   ·have h4:262144<most:=(by omega);clear h;go_enter func81,ntmps81;go_wp2_with fail;go_ret2;exact F.out
theorem uF(w:World)(A:Option Addr)(m c:Nat)(L:List Int)(n most:Nat)(hL:ZIn w A m L)(H8:m<=c)(hm:m<=2000000)(hn:1<=n)(HA:n<=256)(hC:most<=262144):Calls prog 81 #[.int .i64 n,.int .i64 most,.slice A m c] w (cw w (dI n most L [] 1 false)):=by
 obtain⟨i3,h3,H1,H2,H3⟩:=NY Tryz.info3;have d0:decide ((n:Int)<1)=false:=aD (by omega);have d1:decide ((256:Int)<(n:Int))=false:=aD (by omega);have d2:decide ((most:Int)<0)=false:=aD (by omega);have d3:decide ((262144:Int)<(most:Int))=false:=aD (by omega);have HP:Hid (∀ (v:Value) (a:List Nat×Nat) (w':World),dI n most L [] 1 false=a->w'.ownsRow w.heap.size 3 1 v a.1.length (a.1.map iv)->Below w.heap.size w w'->cw w (dI n most L [] 1 false) (.returned (.tuple #[v,.int .i64 a.2])) w'):=aa fun v a w' h1 h2 h3=>⟨v,by rw[h1],by rw[h1];exact h2,h3⟩;have HL:=aa hL;have hB:=hL.1;have hl:=aa hB;obtain⟨n1,hE⟩:∃n1,n1=n+1:=⟨_,rfl⟩;have hY:((n:Int)+1)=(n1:Int):=by omega
 have H4:=aa hE;have hV:n1<=257:=by omega
 have hT:2<=n1:=by omega
 clear hL hB hE;generalize cw w (dI n most L [] 1 false)=PO at*;generalize hans:dI n most L [] 1 false=ans at*;have h6:=aa hans;clear hans;go_enter func81,ntmps81;go_wp2_with fail;go_loopw [8,9,10,11] (fun out wt ed i wx=>∃(q wo:Nat) (o:List Nat) (ended:Bool),q<=m/\i=.int .i64 q/\wt=.int .i64 wo/\ed=.bool ended/\wx.ownsRow w.heap.size 3 1 out o.length (o.map iv)/\o.length<=most/\1<=wo/\wo<=2*o.length+1/\Hid (ans=dI n most (L.drop q) o wo ended)/\Below w.heap.size w wx) (fun _ _ _ i _=>m-(intOf i).toNat)
 case atStart=>exact⟨0,1, [],false,Nh _,rfl,rfl,rfl,Ns _ _ _ _,Nh _,Nm _,by simp,by rw[<- h6.out];rfl,Nj _ _⟩
 case round=>
  obtain⟨q,wo,o,ended,hq,rfl,rfl,rfl,h8,hr,hZ,hv,h4,hb⟩:=hrel;have hH:=hb.size;obtain⟨A0,c0,rfl,hD,hS,hQ⟩:=ak h8;clear hQ;unfold maxLen at hS;have HB:=aa hb;by_cases e:q<m
  ·obtain⟨b,off,rfl,hc⟩:=HL.out.2 (by omega);have hj:=hc q e;have hR:=Nr w _ hj;have hp:L.drop q=L.getD q 0::L.drop (q+1):=(by rw[NP (by rw[hl.out];exact e),Nb,Nd (by rw[hl.out];exact e)];rfl);obtain⟨x,hx⟩:∃x,x=L.getD q 0:=⟨_,rfl⟩;rw[<- hx]at hj hp;have H5:=(hb.cell (p:=⟨b,off+q,none⟩) hR).trans hj;have h0:=h4.out;rw[hp,mu,hY]at h0;have HO:=aa h8;clear hc hx hj hp hb h8;by_cases e1:x<0\/(n1:Int)<x
   ·rw[Ng e1]at h0;have h7:=aa (HP.out (.slice none 0 0) _ wr h0 (Ns _ _ _ _) HB.out);clear h0 HP h6 h4;by_cases e2:x<0;·have d4:decide (x<0)=true:=No e2;clear e1;go_wp2_with fail;exact h7.out
    ·have d4:decide (x<0)=false:=Nk e2;have e3:(n1:Int)<x:=e1.resolve_left e2;have d5:decide ((n1:Int)<x)=true:=No e3;clear e1;go_wp2_with fail;exact h7.out
   ·obtain⟨s,rfl⟩:∃s:Nat,x=s:=⟨x.toNat,by omega⟩;have d4:decide ((s:Int)<0)=false:=aD (by omega);have HC:s<=n1:=(by omega);have hW:¬n1<s:=(by omega);have d5:decide ((n1:Int)<(s:Int))=false:=aD (by omega);rw[Nf e1,Nn]at h0;clear e1
    cases ended with
    | true=>rw[Ng rfl]at h0;have h7:=aa (HP.out (.slice none 0 0) _ wr h0 (Ns _ _ _ _) HB.out);clear h0 HP h6 h4;go_wp2_with fail;exact h7.out
    | false=>
     rw[Nf (by decide)]at h0;by_cases e2:s=n1
     ·subst e2;rw[Ng rfl]at h0;have d6:((s:Int)==(s:Int))=true:=OK _;have hf:=aa h0;clear h0 h4;go_wp2_with fail;go_roundw;case rel=>exact⟨q+1,wo,o,true,by omega,by go_num,rfl,rfl,HO.out,hr,hZ,hv,hf,HB.out⟩
      case measure=>simp[intOf];omega
     ·have d6:((s:Int)==(n1:Int))=false:=(by rw[NA];omega);rw[Nf (by omega)]at h0;by_cases e3:1<s
      ·have d7:decide ((1:Int)<(s:Int))=true:=aX (by omega);rw[Ng (by omega)]at h0;by_cases e4:most<=o.length;·rw[Ng e4]at h0;have h7:=aa (HP.out (.slice none 0 0) _ wr h0 (Ns _ _ _ _) HB.out);obtain⟨N,hN⟩:∃N,N=o.length:=⟨_,rfl⟩;rw[<- hN]at e4 hD hr hv |-;clear h0 HP h6 h4 hN;go_wp2_with fail;exact h7.out
       ·rw[Nf e4]at h0;have hf:=aa h0;obtain⟨s1,hG⟩:∃s1,s1=s-1:=⟨_,rfl⟩;rw[<- hG]at hf;have HD:((s:Int)-1)=(s1:Int):=(by omega);obtain⟨N,hN⟩:∃N,N=o.length:=⟨_,rfl⟩;obtain⟨X,hX⟩:∃X,X=o.map iv:=⟨_,rfl⟩;rw[<- hN,<-hX]at HO;have HN:=aa hN;have HX:=aa hX;rw[<- hN]at e4 hD hr hv |-;clear h0 h4 hN hX hG;(go_wp2_with (at_builtin;refine Ob _ rfl _ _ 57 rfl w.heap.size 3 i3 (.int .i64 0) 1 8 underlying57 h3 H1 H2 H3 rfl (by decide) _ _ _ rfl (HO.out.alloc _) ⟨wr.heap.size,0,none⟩ 1 1 [.int .i64 s1] rfl rfl ?c1 ?c2 ?c3 ?c4 ?c5 ?_));(try (case c1=>exact bn _ _ _));case c2=>first|(intro u hu;simp at hu;subst hu;rfl)|rfl
        case c3=>unfold maxLen;omega
        case c4=>omega
        case c5=>first|(simp;omega)|omega
        intro v4 w4 he ha _;have hz:Below w.heap.size w w4:=(HB.out.alloc hH _).grown ha (by simp;omega) (fun k hk=>(HO.out.lt k hk).1);have hM:=aa he;have hI:=aa hz;clear he ha hz;go_wp2_with fail;go_roundw;case rel=>refine⟨q+1,1,o++ [s1],false,by omega,by go_num,rfl,rfl,?_,by rw[Nc,<-HN.out];show N+1<=most;omega,Nm _,by omega,hf,hI.out⟩;rw[Nc,<-HN.out,NF,<-HX.out];exact hM.out
        case measure=>simp[intOf];omega
      ·have d7:decide ((1:Int)<(s:Int))=false:=aD (by omega);rw[Nf (by omega)]at h0;obtain⟨t,ht⟩:∃t,t=(s+1)*wo:=⟨_,rfl⟩;rw[<- ht]at h0;have HG:((s:Int)+1)*(wo:Int)=(t:Int):=(by rw[ht];simp);have HE:wo<=t:=(by rw[ht];exact Nat.le_mul_of_pos_left wo (by omega));have HF:t<=2*wo:=(by rw[ht];exact P6 wo (by omega));obtain⟨N,hN⟩:∃N,N=o.length:=⟨_,rfl⟩;by_cases e4:most<o.length+t;·rw[Ng e4]at h0;have h7:=aa fun w5 (h5:Below w.heap.size w w5)=>HP.out (.slice none 0 0) _ w5 h0 (Ns _ _ _ _) h5;have hK:=aa (C8 wr A0 o.length c0 t most e4 (by omega) (by omega) (by omega));clear h0 HP h6 h4 hN ht;go_wp2_with fail;refine hK.out.mono ?_;rintro e w5 ⟨rfl,rfl⟩;have ho:=aa (h7.out _ HB.out);clear h7;go_wp2_with fail;exact ho.out
       ·rw[Nf e4]at h0;have hf:=aa h0;have hP:=aa (AC wr w.heap.size _ o t most HO.out (by omega) (by omega) (by omega) hH);have hh:(o++List.replicate t 0).length=o.length+t:=(by rw[Nc,NE]);have hg:=aa hh;have hs:o.length+t<=most:=(by omega);obtain⟨wo2,hi⟩:∃wo2,wo2=wo*2:=⟨_,rfl⟩;have HH:(wo:Int)*2=(wo2:Int):=(by omega);have H0:IntKind.i64.wrap (wo2:Int)=(wo2:Int):=(by rw[Oe];omega);rw[<- hi]at hf;have hw:wo2<=2*(o.length+t)+1:=(by omega);have hy:1<=wo2:=(by omega);clear h0 h4 hN ht hh hi;go_wp2_with fail;refine hP.out.mono ?_;rintro e w5 ⟨v5,rfl,hF,hA⟩;have hO:=aa hF;have hJ:=aa (HB.out.trans hA);clear hF hA;go_wp2_with fail;go_roundw;case rel=>exact⟨q+1,wo2,o++List.replicate t 0,false,by omega,by go_num,rfl,rfl,hO.out,by rw[hg.out];exact hs,hy,by rw[hg.out];exact hw,hf,hJ.out⟩
        case measure=>simp[intOf];omega
  ·obtain rfl:q=m:=(by omega);have h9:=h4.out;rw[NW (Ox hl.out)]at h9
   cases ended with
   | true=>have h7:=aa (HP.out _ (o,0) wr h9 h8 HB.out);clear h9 HP h6 h4 h8 hb;go_wp2_with fail;exact h7.out
   | false=>have h7:=aa (HP.out (.slice none 0 0) ([],70) wr h9 (Ns _ _ _ _) HB.out);clear h9 HP h6 h4 h8 hb;go_wp2_with fail;exact h7.out
theorem J7(w:World)(A:Option Addr)(m c:Nat)(L:List Int)(n most:Int)(hL:ZIn w A m L)(h0:m<=c)(hm:m<=2000000):Calls prog 81 #[.int .i64 n,.int .i64 most,.slice A m c] w (cw w (dH n most L)):=by
 by_cases h:n<1\/256<n\/most<0\/262144<most;·rw[show dH n most L=([],2)from Ng h];exact J8 w A m c n most h
 ·obtain⟨k,rfl⟩:∃k:Nat,n=k:=⟨n.toNat,by omega⟩;obtain⟨j,rfl⟩:∃j:Nat,most=j:=⟨most.toNat,by omega⟩;rw[show dH (k:Int) (j:Int) L=dI k j L [] 1 false by unfold dH;rw[Nf h,Nn,Nn]];exact uF w A m c L k j hL h0 hm (by omega) (by omega) (by omega)
theorem vv(k:Int):(yu k).1.length<=31:=by
 unfold yu;split;·exact Nh _
 ·have h:=(tE k.toNat).1;show(dig k.toNat).length<=31;rcases NZ (dig k.toNat).length 32 with h1|h1;·omega
  ·have h2:2^32<=2^(dig k.toNat).length:=Oj (by decide) h1;omega
