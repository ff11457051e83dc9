import Derived.Test.YtfhgikojdfblpaaGreatM37
import Derived.Test.YtfhgikojdfblpaaGreatM19
import Derived.Test.YtfhgikojdfblpaaGreatM34
set_option maxHeartbeats 6400000
set_option maxRecDepth 100000
namespace Go.Proofs.YtfhgikojdfblpaaGreat
open _root_.Go.Proofs.Tryz
open Go.RowKit
theorem qi:∀(o r:List Nat) (x:Nat),x∈o->aX (o++r) x=aX o x
 | [],_,_,h=>by cases h
 | y::o,r,x,h=>by
  rw[Oq,aX,aX];by_cases e:y=x;·rw[Nf e,Nf e]
  ·rw[Nd e,Nd e,qi o r x (by
    rcases List.mem_cons.1 h with rfl|h
    ·exact absurd rfl e
    ·exact h)]
theorem pZ(o r:List Nat)(k:Nat)(hk:k<o.length):eu (o++r) k=eu o k++r:=by unfold eu;rw[OZ (by omega),PT (by omega),Na,NW hk,<-Na];simp
theorem rd{o:List Nat}{k x:Nat}(hk:k<o.length)(hx:x∈o):x∈eu o k:=by
 unfold eu;obtain⟨i,hi,rfl⟩:=Pr hx;rcases OI i k with h|h|h;·refine Nm _ (Pv _ ?_);exact List.mem_take_iff_getElem.2 ⟨i,by omega,rfl⟩
 ·subst h;rw[Na,Nc hk];exact Nh ..
 ·refine Nm _ (OX _ ?_);exact List.mem_drop_iff_getElem.2 ⟨i-(k+1),by omega,by simp only[show k+1+(i-(k+1))=i by omega]⟩
theorem mv:∀(P o r:List Nat),(∀ x∈P,x∈o)->aI (o++r) P=aI o P
 | [],_,_,_=>rfl
 | x::P,o,r,h=>by have hx:=h x (Nh ..);have hp:=fh o x hx;rw[aI,aI,qi o r x hx,pZ o r _ hp.1,mv P (eu o (aX o x)) r (fun y hy=>rd hp.1 (h y (Nm _ hy)))]
theorem xo{T:Nat}(h:T<=6):∃r, [0,1,2,3,4,5]=List.range T++r:=by refine⟨[0,1,2,3,4,5].drop T,?_⟩;have:T=0\/T=1\/T=2\/T=3\/T=4\/T=5\/T=6:=(by omega);rcases this with rfl|rfl|rfl|rfl|rfl|rfl|rfl <;>rfl
theorem uN{T:Nat}(h:T<=6)(P:List Nat)(hP:∀x∈P,x<T):aI [0,1,2,3,4,5] P=aI (List.range T) P:=by obtain⟨r,hr⟩:=xo h;rw[hr];exact mv P _ r fun x hx=>List.mem_range.2 (hP x hx)
theorem mw:∀(P o:List Nat) (T:Nat),o.length=T->(∀ x∈P,x∈o)->(aI o P).length<=T*P.length
 | [],_,_,_,_=>by simp[aI]
 | x::P,o,T,hT,h=>by have hx:=h x (Nh ..);have hp:=fh o x hx;have ih:=mw P (eu o (aX o x)) T (by rw[gn hp.1,hT]) (fun y hy=>rd hp.1 (h y (Nm _ hy)));rw[aI,Nb,NA,Ns,Ns,Nat.mul_succ];omega
theorem oM(f:Nat->Nat)(n p:Nat)(h:p<n):(List.range n).map (nc f p)=eu ((List.range n).map f) p:=by
 have hl:((List.range n).map f).length=n:=by simp
 apply Ob;intro j;by_cases hj:j<n
 ·rw[Np,NJ hj];unfold eu nc
  match j with
  | 0=>rw[List.getElem?_cons_zero,dE n f p h];rfl
  | j+1=>
   rw[Rl];by_cases e:j<p;·rw[NW (by simp;omega),PN,Nf e,Np,NJ (by omega)];show some (if j+1=0 then f p else if j+1<=p then f (j+1-1)else f (j+1))=_;rw[Nd,Nf];rfl
   ·rw[NO (by simp;omega),O3,NB,hl,OJ (by omega),show p+1+(j-p)=j+1 by omega,Np,NJ (by omega)];show some (if j+1=0 then f p else if j+1<=p then f (j+1-1)else f (j+1))=_;rw[Nd,Nd];rfl
 ·rw[Nw (by simp;omega),Nw (by rw[gn (by rw[hl];exact h),hl];omega)]
theorem Dv(k:Nat)(h:k<=5):ah (2^(k+1)-2) (k+1)=List.replicate k 1++ [0]:=by have:k=0\/k=1\/k=2\/k=3\/k=4\/k=5:=(by omega);rcases this with rfl|rfl|rfl|rfl|rfl|rfl <;>decide
theorem GN(k:Nat)(hk:k<=5)(B:Nat)(w:World)(p:Nat)(v:Value)(L:List Nat)(hW:IsW B w p v L)(hL:L.length<=1000000000000)(x n:Int)(hx:x=((2^(k+1)-2:Nat):Int))(hn:n=((k+1:Nat):Int)):
 Calls prog 45 #[.pointer (some ⟨p,0,none⟩),.int .u64 x,.int .i64 n] w fun e w'=>e=.returned (.int .i64 0)/\∃v',IsW B w' p v' (L++(List.replicate k 1++ [0]))/\ak B [p] [5] w w':=by rw[<- Dv k hk,hx,hn];refine fU B w p v L (2^(k+1)-2) (k+1) hW hL (by omega) ?_;have:=OE (k+1);omega
def sQ(B:Nat)(w:World)(p:Nat)(L:List Nat)(e:Ending)(w':World):Prop:=e=.returned (.tuple #[])/\(∃ v',IsW B w' p v' L)/\ak B [p] [5] w w'
theorem vA(B:Nat)(w:World)(p:Nat)(v:Value)(L:List Nat)(hW:IsW B w p v L)(hL:L.length<=1000000)(A:Option Addr)(T c:Nat)(Bp:Option Addr)(G d:Nat)(P:List Nat)(hP:aB w Bp G P)
 (H2:∀a,Bp=some a->a.block<B) (HW:2<=T) (HX:T<=6) (HQ:1<=G) (hG:G<=32767) (H1:∀x∈P,x<T):
 Calls prog 50 #[.pointer (some ⟨p,0,none⟩),.agg #[.slice A T c,.slice Bp G d]] w (sQ B w p (L++(ah T 3++ah G 15++aI (List.range T) P))):=by
 have hB:B<=w.heap.size:=ND hW.lo (NT (aA hW.blk));have p0:=aA hW.blk;have HH:=hP.1;obtain⟨b,off,rfl,HJ⟩:=hP.2 HQ;have HR:b<B:=H2 _ rfl;have HO:=aa HJ;have hc:ak B [p] [5] w (w.alloc (.cells #[.slice A T c,.slice (some ⟨b,off,none⟩) G d] 43)):=(ak.refl _ _ _ _).alloc hB _;have H5:=hW.alloc (.cells #[.slice A T c,.slice (some ⟨b,off,none⟩) G d] 43);have HF:=aj w 43 #[.slice A T c,.slice (some ⟨b,off,none⟩) G d];obtain⟨F,hF⟩:∃F,F=L++(ah T 3++ah G 15++aI (List.range T) P):=⟨_,rfl⟩;have HM:=aa hF;have hR:Hid (∀ w' v',IsW B w' p v' F->ak B [p] [5] w w'->sQ B w p F (.returned (.tuple #[])) w'):=aa fun w' v' h1 h2=>⟨rfl,⟨v',h1⟩,h2⟩;rw[<- hF];generalize sQ B w p F=PO at*;have hX:=aa H5;have hS:=aa hc;have he:=aa HF;have HP:=aa H1;have hf:=aa HH;clear hW hP H2 HJ hF hc H5 HF H1 HH;go_enter func50,ntmps50;go_upto_region 1 with fail;have HU:(w.alloc (.cells #[.slice A T c,.slice (some ⟨b,off,none⟩) G d] 43)).heap.size=w.heap.size+1:=by simp
 clear HU;generalize w.alloc (.cells #[.slice A T c,.slice (some ⟨b,off,none⟩) G d] 43)=w1 at*;have q0:w1.cell? ⟨w.heap.size,0,none⟩=some (.slice A T c):=(ac he.out 0).trans rfl;have q1:w1.cell? ⟨w.heap.size,1,none⟩=some (.slice (some ⟨b,off,none⟩) G d):=(ac he.out 1).trans rfl;have hO:Hid (Calls prog 45 #[.pointer (some ⟨p,0,none⟩),.int .u64 T,.int .i64 3] w1 fun e w'=>e=.returned (.int .i64 0)/\∃v',IsW B w' p v' (L++ah T 3)/\ak B [p] [5] w1 w'):=aa (fU B w1 p v L T 3 hX.out (by omega) (by omega) (by omega));go_wp2_with fail;refine hO.out.mono ?_;rintro e w2 ⟨rfl,v2,H6,hs⟩;have HI:w.heap.size∉ [p]:=by simp;omega
 have hh:=hs.blk he.out HI (by decide);have q0:w2.cell? ⟨w.heap.size,0,none⟩=some (.slice A T c):=(ac hh 0).trans rfl;have q1:w2.cell? ⟨w.heap.size,1,none⟩=some (.slice (some ⟨b,off,none⟩) G d):=(ac hh 1).trans rfl;have hQ:Hid (Calls prog 45 #[.pointer (some ⟨p,0,none⟩),.int .u64 G,.int .i64 15] w2 fun e w'=>e=.returned (.int .i64 0)/\∃v',IsW B w' p v' (L++ah T 3++ah G 15)/\ak B [p] [5] w2 w'):=aa (fU B w2 p v2 (L++ah T 3) G 15 H6 (by rw[Nb,af];omega) (by omega) (by omega));have hH:=aa hh;have HS2:=aa (hS.out.trans hs);clear H6 hs hh hX hS he hO;go_wp2_with fail;refine hQ.out.mono ?_;rintro e w3 ⟨rfl,v3,H7,ht⟩;have hv:=ht.blk hH.out HI (by decide);have q0:w3.cell? ⟨w.heap.size,0,none⟩=some (.slice A T c):=(ac hv 0).trans rfl;have hJ:=aa hv;have hq:=aa (HS2.out.trans ht);have hY:=aa H7;have hE:=aa (pE w3 T (by omega));clear H7 ht hv HS2 hH hQ q1;go_wp2_with fail;refine hE.out.mono ?_;rintro e w4 ⟨rfl,hu,HB⟩;have h0:=an HB;have HG:=h0.blk hJ.out aw aw;have q1:w4.cell? ⟨w.heap.size,1,none⟩=some (.slice (some ⟨b,off,none⟩) G d):=(ac HG 1).trans rfl;have HV:w.heap.size<=w3.heap.size:=hq.out.size;have hT:=aa (hq.out.trans (h0.mono (ND hB HV) (by simp) (by simp)));have hZ:=aa (hY.out.step h0 aw (fun _ _=>aw) aw aw);have hC:=aa hu;have hg:=aa hu.lt;clear hu HB h0 HG hE hJ hq hY;generalize w3.heap.size=g at*;go_wp2_with fail;go_loopw [6,7,27] (fun s6 s7 iv' wx=>∃(i:Nat) (f:Nat->Nat) (v':Value) (K:List Nat),i<=G/\iv'=.int .i64 i/\IsW B wx p v' K/\az wx g g T T f/\Hid (K++aI ((List.range T).map f) (P.drop i)=F/\K.length<=2000000+6*i/\∀x,x<T->x∈(List.range T).map f)/\ak B [p] [5] w wx) (fun _ _ iv' _=>G-(intOf iv').toNat)
 case atStart=>
  refine⟨0,fun j=>j,v3,_,Ng _,rfl,hZ.out,hC.out,⟨?_,?_,fun x hx=> ?_⟩,hT.out⟩;·rw[HM.out,List.map_id',QY];simp only[Ni]
  ·rw[Nb,Nb,af,af];omega
  ·rw[List.map_id'];exact List.mem_range.2 hx
 case round=>
  clear hZ hC hT;rename World=>w5;obtain⟨i,f,v5,K,hi,rfl,h7,ha,hI,h6⟩:=hrel;by_cases e:i<G
  ·have HZ:(0:Int)<=(i:Int):=(by omega);have HY:(i:Int)<(G:Int):=(by omega);have h9:w5.cell? ⟨b,off+i,none⟩=some (.int .i64 (P.getD i 0:Nat)):=(h6.below.cell (p:=⟨b,off+i,none⟩) HR).trans (HO.out i e);obtain⟨x,hx⟩:∃x,x=P.getD i 0:=⟨_,rfl⟩;have HL:x∈P:=(by rw[hx,Na,Nc (by rw[hf.out];exact e)];exact NM _);have HK:=HP.out x HL;have hA:=hI.out.2.2 x HK;have HC:P.drop i=x::P.drop (i+1):=(by rw[NN (by rw[hf.out];exact e),hx,Na,Nc (by rw[hf.out];exact e)];rfl);rw[<- hx]at h9;have ho:=aa (CE w5 (some ⟨g,0,none⟩) T T _ x ha.ints hA (by omega));have hm:=fh _ x hA;have hw:((List.range T).map f).length=T:=(by simp);obtain⟨k,hk⟩:∃k,k=aX ((List.range T).map f) x:=⟨_,rfl⟩;rw[<- hk]at ho hm;rw[hw]at hm;have hl:=hm.1;have hM:=aa (zP g w5 g T T f k ha hl (by omega))
   have hN:Hid ((K++(List.replicate k 1++ [0]))++aI ((List.range T).map (nc f k)) (P.drop (i+1))=F):=aa (by
    rw[<- hI.out.1,HC,aI,<-hk,oM f T k hl]
    simp)
   (have hK:Hid (∀ y,y<T->y∈(List.range T).map (nc f k)):=aa fun y hy=>by rw[oM f T k hl];exact rd (by rw[hw];exact hl) (hI.out.2.2 y hy));have H0:=hI.out.2.1;have hp:=aa H0;have hr:=aa h7;have hV:=aa h6;have hD:=aa ha;clear hm hI h7 h6 ha hx HL hA HC hk hw H0 HK;go_wp2_with fail;refine ho.out.mono ?_;rintro e w6 ⟨rfl,rfl⟩;clear ho;go_wp2_with fail;refine hM.out.mono ?_;rintro e w7 ⟨rfl,HD,hz⟩;have HS:p∉ [g]:=by have:=hg.out;simp;omega
   have H8:=hr.out.step hz HS (fun k hk=>by
    rw[Og]
    intro e
    obtain⟨c1,f1,e1⟩:=Lib.ownsRow_kind hr.out.row g (by rw[hk,e])
    obtain⟨c2,f2,e2⟩:=Lib.ownsRow_kind hD.out g rfl
    rw[e1]at e2
    simp at e2) aw aw
   have H3:ak B [p] [5] w w7:=hV.out.after hz (by have:=hg.out;omega) (fun j hj=>.inr (by rw[List.mem_singleton.1 hj];have:=hg.out;omega)) (by simp);have hb:K.length<=1000000000000:=(by have:=hp.out;omega);have HT:k<=5:=(by omega);have h5:=aa fun(x n:Int) (hx:x=((2^(k+1)-2:Nat):Int)) (hn:n=((k+1:Nat):Int))=>GN k HT B w7 p v5 K H8 hb x n hx hn;have h4:Hid (∀ w8 v8,IsW B w8 p v8 (K++(List.replicate k 1++ [0]))->ak B [p] [5] w7 w8->∃(i':Nat) (f':Nat->Nat) (v':Value) (K':List Nat),i'<=G/\(.int .i64 (i+1:Nat):Value)=.int .i64 i'/\IsW B w8 p v' K'/\az w8 g g T T f'/\Hid (K'++aI ((List.range T).map f') (P.drop i')=F/\K'.length<=2000000+6*i'/\∀x,x<T->x∈(List.range T).map f')/\ak B [p] [5] w w8):=aa fun w8 v8 h1 h2=>
    ⟨i+1,nc f k,v8,_,by omega,rfl,h1,h2.row HD (fun j hj=>by
      simp[Value.ownBlock]at hj
      have:=hg.out
      simp
      omega) (by decide),⟨hN.out,by
       rw[Nb,Nb,NA,NP]
       have:=hp.out
       omega,hK.out⟩,H3.trans h2⟩
   clear HD hz H8 H3 hb hM hN hK hp hr hV hD;have h8:k=0\/k=1\/k=2\/k=3\/k=4\/k=5:=(by omega);rcases h8 with rfl|rfl|rfl|rfl|rfl|rfl <;>
   ·go_wp2_with fail;refine(h5.out _ _ (by rfl) (by rfl)).mono ?_;rintro e w8 ⟨rfl,v8,HA,H4⟩;have HN:=aa (h4.out w8 v8 HA H4);clear HA H4 h4 h5;go_wp2_with fail;go_roundw;case rel=>exact HN.out
    case measure=>simp[intOf];omega
  ·obtain rfl:i=G:=(by omega);have h3:=hI.out.1;rw[N9 (by rw[hf.out];exact Nk _),aI,NU]at h3;rw[h3]at h7;have HE:=aa (hR.out w5 v5 h7 h6);clear h7 ha hI h6 h3 hR;go_wp2_with fail;(try simp only[Exit.inBlock,Exit.then]);refine NH (Qc rfl _ _ _) rfl ?_;exact HE.out
def eA(bits:List Nat)(a:Nat):Nat×Nat×Nat:=
 if bits.length<a+3 then(0,0,10)
 else if val ((bits.drop a).take 3)<2\/6<val ((bits.drop a).take 3)then(0,0,110)
 else if bits.length<a+18 then(0,0,10)
 else if val ((bits.drop (a+3)).take 15)=0 then(0,0,110)
 else(val ((bits.drop a).take 3),val ((bits.drop (a+3)).take 15),0)
def xA(B:Nat)(w:World)(p:Nat)(s:ByteArray)(a:Nat)(ans:Nat×Nat×Nat)(e:Ending)(w':World):Prop:=
 e=.returned (.tuple #[.int .i64 ans.1,.int .i64 ans.2.1,.int .i64 ans.2.2])/\(ans.2.2=0->IsR B w' p s (a+18))/\ak B [p] [] w w'
theorem zK(B:Nat)(w:World)(p:Nat)(s:ByteArray)(a:Nat)(hR:IsR B w p s a)(hs:s.size<=2000000)(ha:a<=8*s.size):
 Calls prog 124 #[.pointer (some ⟨p,0,none⟩)] w (xA B w p s a (eA (ao s.data.toList) a)):=by
 have hh:(ao s.data.toList).length=8*s.size:=by rw[aC];rfl
 obtain⟨bits,h4⟩:∃bits,bits=ao s.data.toList:=⟨_,rfl⟩;have hj:au bits:=by rw[h4];exact bh _
 have hg:eA bits a=if 8*s.size<a+3 then(0,0,10)
  else if val ((bits.drop a).take 3)<2\/6<val ((bits.drop a).take 3)then(0,0,110)
  else if 8*s.size<a+18 then(0,0,10)
  else if val ((bits.drop (a+3)).take 15)=0 then(0,0,110)
  else(val ((bits.drop a).take 3),val ((bits.drop (a+3)).take 15),0):=by
  unfold eA
  rw[h4,hh]
 rw[<- h4];rw[<- h4]at hh;have h9:Hid (∀ w' x y z,eA bits a=(x,y,z)->(z=0->IsR B w' p s (a+18))->ak B [p] [] w w'->xA B w p s a (eA bits a) (.returned (.tuple #[.int .i64 x,.int .i64 y,.int .i64 z])) w'):=aa fun w' x y z h1 h2 h3=>by rw[h1];exact⟨rfl,h2,h3⟩
 generalize xA B w p s a (eA bits a)=PO at*;generalize eA bits a=ans at*;have hc:=aa hg;by_cases e1:8*s.size<a+3;·have HT:Hid (Calls prog 71 #[.pointer (some ⟨p,0,none⟩),.int .i64 3] w (jE B w p s a 0 0 10)):=aa (fo B w p s a 3 hR (by omega) (by omega) ha e1);have h0:=hc.out;rw[Nf e1]at h0;have HA:=aa (h9.out · 0 0 10 h0 (fun h=>absurd h (by omega)));clear hg h0 hc h9 hh hj h4 hR;go_enter func124,ntmps124;go_wp2_with fail;refine HT.out.mono ?_;rintro e w2 ⟨rfl,_,h5⟩;have HE:=aa (HA.out w2 h5);clear h5 HA HT;go_wp2_with fail;go_ret3;exact HE.out
 ·have hT:=iF B w p s a 3 hR (by omega) (by omega) (by omega);rw[<- h4]at hT;have hr:val ((bits.drop a).take 3)<2^3:=by have h:=gH _ ((hj.drop a).take 3);rw[NB,Ny,hh,OJ (by omega)]at h;exact h
  have h0:=hc.out;rw[Nd e1]at h0;obtain⟨T,hn⟩:∃T,T=val ((bits.drop a).take 3):=⟨_,rfl⟩;rw[<- hn]at hT hr h0;have h6:=aa h0;have HT:Hid (Calls prog 71 #[.pointer (some ⟨p,0,none⟩),.int .i64 3] w (jE B w p s a 3 T 0)):=aa hT;have ho:=aa hj;have hq:=aa hh;have hp:=aa h4;clear hg h0 hc hh hj h4 hR hT hn;by_cases e2:T<2\/6<T
  ·have h0:=h6.out;rw[Nf e2]at h0;have HA:=aa (h9.out · 0 0 110 h0 (fun h=>absurd h (by omega)));clear h0 h6 h9;by_cases e3:T<2;·have d5:decide ((T:Int)<2)=true:=bE;clear e2;go_enter func124,ntmps124;go_wp2_with fail;refine HT.out.mono ?_;rintro e w2 ⟨rfl,_,h5⟩;have HE:=aa (HA.out w2 h5);clear h5 HA HT;go_wp2_with fail;go_ret3;exact HE.out
   ·have d5:decide ((T:Int)<2)=false:=aR;have d6:decide ((6:Int)<(T:Int))=true:=bE;clear e2;go_enter func124,ntmps124;go_wp2_with fail;refine HT.out.mono ?_;rintro e w2 ⟨rfl,_,h5⟩;have HE:=aa (HA.out w2 h5);clear h5 HA HT;go_wp2_with fail;go_ret3;exact HE.out
  ·have h0:=h6.out;rw[Nd e2]at h0;have h7:=aa h0;have d5:decide ((T:Int)<2)=false:=aR;have d6:decide ((6:Int)<(T:Int))=false:=aR;clear h0 h6 e2;by_cases e4:8*s.size<a+18;·have h0:=h7.out;rw[Nf e4]at h0;have HA:=aa (h9.out · 0 0 10 h0 (fun h=>absurd h (by omega)));clear h0 h7 h9;go_enter func124,ntmps124;go_wp2_with fail;refine HT.out.mono ?_;rintro e w2 ⟨rfl,hb,h5⟩;have he:Hid (Calls prog 71 #[.pointer (some ⟨p,0,none⟩),.int .i64 15] w2 (jE B w2 p s (a+3) 0 0 10)):=aa (fo B w2 p s (a+3) 15 hb (by omega) (by omega) (by omega) (by omega));have HS2:=aa h5;clear hb h5 HT;go_wp2_with fail;refine he.out.mono ?_;rintro e w3 ⟨rfl,_,hf⟩;have HE:=aa (HA.out w3 (HS2.out.trans hf));clear hf HA he;go_wp2_with fail;go_ret3;exact HE.out
   ·have hk:val ((bits.drop (a+3)).take 15)<2^15:=(by have h:=gH _ ((ho.out.drop (a+3)).take 15);rw[NB,Ny,hq.out,OJ (by omega)]at h;exact h);have h0:=h7.out;rw[Nd e4]at h0;(have he:Hid (∀ w2,IsR B w2 p s (a+3)->Calls prog 71 #[.pointer (some ⟨p,0,none⟩),.int .i64 15] w2 (jE B w2 p s (a+3) 15 (val ((bits.drop (a+3)).take 15)) 0)):=aa fun w2 hb=>by have h:=iF B w2 p s (a+3) 15 hb (by omega) (by omega) (by omega);rw[<- hp.out]at h;exact h);obtain⟨K,hl⟩:∃K,K=val ((bits.drop (a+3)).take 15):=⟨_,rfl⟩;rw[<- hl]at he hk h0;have h8:=aa h0;clear h0 h7 hl;by_cases e5:K=0;·have h0:=h8.out;rw[Nf e5]at h0;have HA:=aa (h9.out · 0 0 110 h0 (fun h=>absurd h (by omega)));subst e5;clear h0 h8 h9;go_enter func124,ntmps124;go_wp2_with fail;refine HT.out.mono ?_;rintro e w2 ⟨rfl,hb,h5⟩;have hi:=aa (he.out w2 hb);have HS2:=aa h5;clear hb h5 HT he;go_wp2_with fail;refine hi.out.mono ?_;rintro e w3 ⟨rfl,_,hf⟩;have HE:=aa (HA.out w3 (HS2.out.trans hf));clear hf HA hi;go_wp2_with fail;go_ret3;exact HE.out
    ·have h0:=h8.out;rw[Nd e5]at h0;have HA:=aa (h9.out · T K 0 h0);have d7:((K:Int)==0)=false:=(by rw[NC];omega);clear h0 h8 h9;go_enter func124,ntmps124;go_wp2_with fail;refine HT.out.mono ?_;rintro e w2 ⟨rfl,hb,h5⟩;have hi:=aa (he.out w2 hb);have HS2:=aa h5;clear hb h5 HT he;go_wp2_with fail;refine hi.out.mono ?_;rintro e w3 ⟨rfl,hm,hf⟩;have HE:=aa (HA.out w3 (fun _=>hm) (HS2.out.trans hf));clear hm hf HA hi;go_wp2_with fail;go_ret3;exact HE.out
theorem sb:∀(c n T:Nat),n+c<T->eE (List.replicate c 1) n T=.short
 | 0,_,_,_=>rfl
 | c+1,n,T,h=>by rw[Pb,eE,Nd,Nd];exact sb c (n+1) T (by omega)
theorem rZ:∀(c n T:Nat) (r:List Nat),n+c=T->0<c->eE (List.replicate c 1++r) n T=.bad
 | c+1,n,T,r,h,_=>by
  rw[Pb,Oq,eE,Nd];by_cases e:n+1=T;·rw[Nf e]
  ·rw[Nd e];exact rZ c (n+1) T r (by omega) (by omega)
theorem lE(bits:List Nat)(T:Nat)(hT:0<T):∀(k:Nat) (o r:List Nat) (p:Nat) (out:List Nat),o.length=T->aS bits T k (o++r) p out=aS bits T k o p out
 | 0,_,_,_,_,_=>rfl
 | k+1,o,r,p,out,ho=>by
  cases hp:eE (bits.drop p) 0 T with
  | hit n=>have hn:=(C7 _ _ _ _ hp hT).2.2;rw[iE hp,iE hp,pZ o r n (by omega),lE bits T hT k (eu o n) r _ _ (by rw[gn (by omega),ho])];congr 2;rw[Na,Na,NW (by omega)]
  | short=>rw[fN hp,fN hp]
  | bad=>rw[iD hp,iD hp]
theorem vO(bits:List Nat)(T:Nat)(hT:0<T)(h6:T<=6)(k p:Nat)(out:List Nat):aS bits T k [0,1,2,3,4,5] p out=aS bits T k (List.range T) p out:=by obtain⟨r,hr⟩:=xo h6;rw[hr];exact lE bits T hT k _ r p out (by simp)
structure lI (w0 w:World) (v:Value) (X:List Nat) (g T:Nat) (f:Nat->Nat):Prop where
 out:w.ownsRow w0.heap.size 3 1 v X.length (X.map iv)
 ord:az w w0.heap.size g T T f
 ne:v.ownBlock≠some g
theorem lI.step{w0 w w':World}{v:Value}{X:List Nat}{g T p B:Nat}{f:Nat->Nat}(h:lI w0 w v X g T f){u:TypeId}{ds:Array Value}(hk:Blk w p u ds)(h0:(3:TypeId)≠u)(hs:ak B [p] [] w w'):lI w0 w' v X g T f:=
 ⟨hs.row h.out (fun k hk2=>by rw[Og];exact dV h.out hk h0 k hk2) aw,hs.row h.ord (fun k hk2=>by rw[Og];exact dV h.ord hk h0 k hk2) aw,h.ne⟩
theorem lI.push{w0 w:World}{A:Option Addr}{N cap:Nat}{X:List Nat}{g T:Nat}{f:Nat->Nat}(h:lI w0 w (.slice A N cap) X g T f)(x:Nat)(hN:X.length=N)(hX:N<=1000000)(h1:w0.heap.size<=w.heap.size):
 ∃A2 cap2 w2,(Builtin.append_ #[37,37] 37 #[.slice A N cap,.slice (some ⟨w.heap.size,0,none⟩) 1 1]).run prog (w.alloc (.cells #[.int .i64 x] 3))=.ok (.slice A2 (N+1) cap2) w2/\
  lI w0 w2 (.slice A2 (N+1) cap2) (X++ [x]) g T f/\Below w0.heap.size w w2:=by
 obtain⟨i3,h3,h4,h5,h6⟩:=N4 Tryz.info3;subst hN
 obtain⟨v2,w2,hr,ho,hg,_,h0⟩:=P1 (P:=prog) (w.alloc (.cells #[.int .i64 x] 3)) w0.heap.size 37 37 3 i3 (.int .i64 0) 1 8 underlying37 h3 h4 h5 h6 rfl (by decide) _ _ _ (h.out.alloc _) ⟨w.heap.size,0,none⟩ 1 1 [iv x] rfl (bV w (iv x) 3)
  (fun u hu=>by rw[List.mem_singleton.1 hu];rfl) (by unfold maxLen;omega) (by omega) (by simp;omega)
 obtain⟨A2,cap2,rfl,_,_,_⟩:=ai ho;have h7:=NS h.ord g rfl;refine⟨A2,cap2,w2,hr,⟨?_,OU (RI h.ord _) hg (.inr fun e=>h.ne e.symm),?_⟩,?_⟩;·have h2:=ho;rw[show X.map iv++ [iv x]=(X++ [x]).map iv by simp]at h2;rw[Nb];exact h2
 ·rcases h0 with e|e;·rw[e];exact h.ne
  ·rw[e];intro e2;have:=On e2;simp at this;omega
 ·exact((Nj _ _).alloc h1 _).grown hg (by simp;omega) (fun k hk=>(h.out.lt k hk).1)
theorem KB{B:Nat}{ps:List Nat}{ts:List TypeId}{w wx w2:World}(h:ak B ps ts w wx)(hb:Below w.heap.size wx w2)(hB:B<=w.heap.size):ak B ps ts w w2:=
 ⟨h.below.trans (hb.mono hB),fun k cs t fr hk hp ht=>(hb.block k (Array.getElem?_eq_some_iff.1 hk).1).trans (h.keep k cs t fr hk hp ht)⟩
def nB(B:Nat)(w:World)(p:Nat)(s:ByteArray)(ans:List Nat×Nat×Nat)(e:Ending)(w':World):Prop:=
 ∃v,e=.returned (.tuple #[v,.int .i64 ans.2.2])/\w'.ownsRow w.heap.size 3 1 v ans.1.length (ans.1.map iv)/\(ans.2.2=0->IsR B w' p s ans.2.1)/\ak B [p] [] w w'
theorem tJ(B:Nat)(w:World)(p:Nat)(s:ByteArray)(a T K:Nat)(hR:IsR B w p s a)(hs:s.size<=2000000)(ha:a<=8*s.size)(HL:2<=T)(HH:T<=6)(hK:K<=40000):
 Calls prog 125 #[.pointer (some ⟨p,0,none⟩),.int .i64 T,.int .i64 K] w (nB B w p s (aS (ao s.data.toList) T K [0,1,2,3,4,5] a [])):=by
 rw[vO _ T (by omega) HH];have hB:B<=w.heap.size:=ND hR.lo (NT (aA hR.blk));have HJ:=aA hR.blk;have H3:(ao s.data.toList).length=8*s.size:=by rw[aC];rfl
 have hV:au (ao s.data.toList):=bh _;have hq:=aa fun(wx:World) (n:Nat) (h9:IsR B wx p s n) (hn:n<=8*s.size)=>show Calls prog 167 #[.pointer (some ⟨p,0,none⟩),.int .i64 (T-1:Nat)] wx fun e w'=>
  (∃ c,eE ((ao s.data.toList).drop n) 0 T=.hit c/\c<T/\e=.returned (.tuple #[.int .i64 c,.int .i64 0])/\IsR B w' p s (n+(c+1))/\n+(c+1)<=8*s.size/\ak B [p] [] wx w')\/
  (eE ((ao s.data.toList).drop n) 0 T=.short/\e=.returned (.tuple #[.int .i64 0,.int .i64 10])/\ak B [p] [] wx w')\/
  (eE ((ao s.data.toList).drop n) 0 T=.bad/\e=.returned (.tuple #[.int .i64 0,.int .i64 3])/\ak B [p] [] wx w')from by
  rcases BV (T-1) ((ao s.data.toList).drop n) (hV.drop n)with⟨c,r,hc,hd⟩|⟨c,hc,hd⟩|⟨r,hd⟩;·refine(KR B wx p s n c (T-1) r h9 (by omega) (by omega) hc hd).mono ?_;rintro e w' ⟨rfl,hy,h7⟩;have hJ:=(BZ hd).2;rw[H3]at hJ;refine .inl ⟨c,?_,by omega,rfl,hy,by omega,h7⟩;rw[hd,oQ c 0 T r (by omega),N8]
  ·refine(BU B wx p s n c (T-1) h9 hn (by omega) (by omega) hc hd).mono ?_;rintro e w' ⟨rfl,_,h7⟩;refine .inr (.inl ⟨?_,rfl,h7⟩);rw[hd];exact sb c 0 T (by omega)
  ·refine(Ij B wx p s n (T-1) r h9 (by omega) (by omega) hd).mono ?_;rintro e w' ⟨rfl,_,h7⟩;refine .inr (.inr ⟨?_,rfl,h7⟩);rw[hd];exact rZ (T-1+1) 0 T r (by omega) (by omega)
 obtain⟨bits,he⟩:∃bits,bits=ao s.data.toList:=⟨_,rfl⟩;rw[<- he]at hq |-;obtain⟨ANS,hh⟩:∃ANS,ANS=aS bits T K (List.range T) a []:=⟨_,rfl⟩;rw[<- hh];have h8:=aa hh;have hu:Hid (∀ w' v (X:List Nat) (n:Nat),ANS=(X,n,0)->w'.ownsRow w.heap.size 3 1 v X.length (X.map iv)->IsR B w' p s n->ak B [p] [] w w'->nB B w p s ANS (.returned (.tuple #[v,.int .i64 0])) w'):=aa fun w' v X n h1 h2 h3 h4=>by rw[h1];exact⟨v,rfl,h2,fun _=>h3,h4⟩
 have hr:Hid (∀ w' (z:Nat),z≠0->ANS=([],0,z)->ak B [p] [] w w'->nB B w p s ANS (.returned (.tuple #[.slice none 0 0,.int .i64 z])) w'):=aa fun w' z h0 h1 h4=>by rw[h1];exact⟨_,rfl,Nt _ _ _ _,fun h=>absurd h h0,h4⟩
 generalize nB B w p s ANS=PO at*;have hM:=aa (pE w T (by omega));have HR:=aa hR;obtain⟨tm,H8⟩:∃tm,tm=T-1:=⟨_,rfl⟩;rw[<- H8]at hq;have HK:(T:Int)-1=(tm:Int):=by omega
 clear hR H3 hV he hh H8;go_enter func125,ntmps125;go_wp2_with fail;refine hM.out.mono ?_;rintro e w1 ⟨rfl,H4,hF⟩;have hY:=HR.out.step (an hF) aw aw;have H0:ak B [p] [] w w1:=(an hF).mono hB (by simp) (by simp);have hP:Hid (lI w w1 (.slice none 0 0) [] w.heap.size T (fun j=>j)):=aa ⟨Nt _ _ _ _,H4,by simp[Value.ownBlock]⟩;have hQ:=aa hY;have hS:=aa H0;clear H4 hF hY H0 hM HR;go_wp2_with fail;go_loopw [9,10,11,15] (fun pv s10 s11 iv' wx=>∃(i:Nat) (f:Nat->Nat) (A9:Option Addr) (c9:Nat) (X:List Nat) (n:Nat),i<=K/\iv'=.int .i64 i/\pv=.slice A9 i c9/\lI w wx (.slice A9 i c9) X w.heap.size T f/\IsR B wx p s n/\Hid (X.length=i/\n<=8*s.size/\aS bits T (K-i) ((List.range T).map f) n X=ANS)/\ak B [p] [] w wx) (fun _ _ _ iv' _=>K-(intOf iv').toNat)
 case atStart=>refine⟨0,_,none,0, [],a,Ng _,rfl,rfl,hP.out,hQ.out,⟨rfl,ha,?_⟩,hS.out⟩;rw[h8.out,List.map_id',QF]
 case round=>
  clear hP hQ hS;rename World=>wx;obtain⟨i,f,A9,c9,X,n,hi,rfl,rfl,hO,h9,hI,hz⟩:=hrel;by_cases e:i<K
  ·have HU:=aa (hq.out wx n h9 hI.out.2.1);have hf:aS bits T (K-(i+1)+1) ((List.range T).map f) n X=ANS:=(by rw[show K-(i+1)+1=K-i by omega];exact hI.out.2.2);have ho:=aa hf;have hT:=aa hI.out.1;have HO:=aa hO;have hv:=aa h9;have hp:=aa hz;clear hf hI hO h9 hz;go_wp2_with fail;refine HU.out.mono ?_;intro e w2 hl;rcases hl with⟨c,h6,hG,rfl,hy,H5,h7⟩|⟨h6,rfl,h7⟩|⟨h6,rfl,h7⟩
   ·have hw:=HO.out.step hv.out.blk (by decide) h7;have ht:=hp.out.trans h7;have hN:=aa (zP w.heap.size w2 w.heap.size T T f c hw.ord hG (by omega));have hb:=aa hw.out;have hC:=aa hw.ne
    have HB:Hid (aS bits T (K-(i+1)) ((List.range T).map (nc f c)) (n+(c+1)) (X++ [f c])=ANS):=aa (by
     rw[<- ho.out,iE h6,oM f T c hG,dE T f c hG]
     rfl)
    have hD:=aa hy;have hg:=aa ht;clear h6 hy h7 hw ht HU ho HO hv hp;go_wp2_with fail;refine hN.out.mono ?_;rintro e w3 ⟨rfl,hH,hA⟩
    have H6:=hA.row hb.out (fun k hk=>by
     rw[Og]
     intro e
     exact hC.out (by rw[hk,e])) aw
    have hW:lI w w3 (.slice A9 i c9) X w.heap.size T (nc f c):=⟨H6,hH,hC.out⟩;have hL:w.heap.size<=w3.heap.size:=ND hg.out.size hA.size;have HI:w3.cell? ⟨w.heap.size,0,none⟩=some (.int .i64 (f c:Nat)):=(by have:=hH.cell 0 (by omega);rw[this];unfold nc;rw[Nf rfl]);obtain⟨x,hx⟩:∃x,x=f c:=⟨_,rfl⟩;rw[<- hx]at HI;obtain⟨A4,c4,w4,H7,hX,H2⟩:=hW.push x hT.out (by omega) hL;have hj:Below w.heap.size w2 w4:=hA.below.trans H2;have hZ:IsR B w4 p s (n+(c+1)):=⟨hD.out.lo,(hj.block p HJ).trans hD.out.blk⟩;have H1:=KB hg.out hj hB;have HD:=aa H7;have HC:=aa hX;have hE:=aa hZ;have HF:=aa H1;have HG:=aa hx;have HA:=aa H5;clear H6 hW hH hA hx H7 hX H2 hj hZ H1 H5 hN hb hC hD hg;(go_wp2_with (at_builtin;refine Lib.wpList_append_run _ rfl (.tmp 32) (.tmp 36) 37 37 rfl (.slice A9 i c9) (.slice (some ⟨w3.heap.size,0,none⟩) 1 1) rfl rfl _ w4 HD.out ?_));go_roundw;case rel=>exact⟨i+1,_,A4,c4,_,_,by omega,by go_num,rfl,HC.out,hE.out,⟨by rw[Nb,hT.out];rfl,HA.out,by rw[HG.out];exact HB.out⟩,HF.out⟩
    case measure=>simp[intOf];omega
   ·have h5:ANS=([],0,10):=(by rw[<- ho.out,fN h6]);have HE:=aa (hr.out w2 10 (by omega) h5 (hp.out.trans h7));clear h6 h7 h5 HU ho HO hv hp hq hu hr h8;go_wp2_with fail;(first|go_ret2|skip);exact HE.out
   ·have h5:ANS=([],0,110):=(by rw[<- ho.out,iD h6]);have HE:=aa (hr.out w2 110 (by omega) h5 (hp.out.trans h7));clear h6 h7 h5 HU ho HO hv hp hq hu hr h8;go_wp2_with fail;(first|go_ret2|skip);exact HE.out
  ·obtain rfl:i=K:=(by omega);have h5:ANS=(X,n,0):=(by rw[<- hI.out.2.2,Oz];rfl);have hm:=hO.out;rw[hI.out.1]at hm;have HE:=aa (hu.out wx (.slice A9 i c9) X n h5 (by rw[hI.out.1];exact hm) h9 hz);clear h5 hm hO h9 hI hz hq hu hr h8;go_wp2_with fail;(first|go_ret2|skip);exact HE.out
def pz(w:World)(T:Nat)(ans:List (List Nat)×Nat×Nat)(e:Ending)(w':World):Prop:=
 (ans.2.2=0/\∃A c F C,e=.returned (.tuple #[.slice A T c,.int .i64 ans.2.1,.int .i64 0])/\mA w w' (.slice A T c) T F C/\(List.range T).map C=ans.1/\∀t,t<T->(C t).length<=258)\/
 (ans.2.2≠0/\e=.returned (.tuple #[.slice none 0 0,.int .i64 0,.int .i64 ans.2.2])/\Below w.heap.size w w')
theorem vC(w:World)(s:ByteArray)(p n T:Nat)(hs:s.size<=2000000)(hp:p<=8*s.size)(_:n<=258)(hM:T<=6):
 Calls prog 126 #[.string s,.int .i64 p,.int .i64 n,.int .i64 T] w (pz w T (gG (ao s.data.toList) n T p [])):=by
 have hG:(ao s.data.toList).length=8*s.size:=by rw[aC];rfl
 have hk:=aa fun(wx:World) (q:Nat)=>S10.qR wx s (q:Int) (n:Int) hs;have hf:=aa fun(q:Nat)=>oo (ao s.data.toList) (q:Int) (n:Int);rw[hG]at hf;obtain⟨bits,h8⟩:∃bits,bits=ao s.data.toList:=⟨_,rfl⟩;rw[<- h8]at hk hf |-;obtain⟨ANS,h9⟩:∃ANS,ANS=gG bits n T p []:=⟨_,rfl⟩;rw[<- h9];have h7:=aa h9;have hu:Hid (∀ w' A c F C (q:Nat),ANS=((List.range T).map C,q,0)->mA w w' (.slice A T c) T F C->(∀ t,t<T->(C t).length<=258)->pz w T ANS (.returned (.tuple #[.slice A T c,.int .i64 q,.int .i64 0])) w'):=aa fun w' A c F C q h1 h2 h3=>by rw[h1];exact .inl ⟨rfl,A,c,F,C,rfl,h2,rfl,h3⟩
 have hg:Hid (∀ w' (z:Nat),z≠0->ANS=([],0,z)->Below w.heap.size w w'->pz w T ANS (.returned (.tuple #[.slice none 0 0,.int .i64 0,.int .i64 z])) w'):=aa fun w' z h0 h1 h4=>by rw[h1];exact .inr ⟨h0,rfl,h4⟩
 generalize pz w T ANS=PO at*;clear hG h8 h9;go_enter func126,ntmps126;go_wp2_with fail;go_loopw [1,11,12,13,14,16] (fun av tv s12 s13 s14 iv' wx=>∃(i q c:Nat) (A:Option Addr) (F:Nat->Value) (C:Nat->List Nat),i<=T/\iv'=.int .i64 i/\av=.int .i64 q/\tv=.slice A i c/\mA w wx (.slice A i c) i F C/\Hid (q<=8*s.size/\gG bits n (T-i) q ((List.range i).map C)=ANS/\∀t,t<i->(C t).length<=258)) (fun _ _ _ _ _ iv' _=>T-(intOf iv').toNat)
 case atStart=>refine⟨0,p,0,none,fun _=>.slice none 0 0,fun _=> [],Ng _,rfl,rfl,rfl,mA.nil _ _ _ _ (Nj _ _),⟨hp,?_,fun t ht=>absurd ht (O4 _)⟩⟩;rw[h7.out,QF];rfl
 case round=>
  rename World=>wx;obtain⟨i,q,c,A,F,C,hi,rfl,rfl,rfl,hL,hI⟩:=hrel;by_cases e:i<T
  ·have HT:=aa (hk.out wx q);have hy:=hf.out q;have h5:gG bits n (T-(i+1)+1) q ((List.range i).map C)=ANS:=(by rw[show T-(i+1)+1=T-i by omega];exact hI.out.2.1);rw[oW]at h5;obtain⟨⟨X,q2,z⟩,ha⟩:∃ans,ans=aN bits (q:Int) (n:Int):=⟨_,rfl⟩;rw[<- ha]at HT hy h5;dsimp only at hy h5;have hj:=aa h5;have hv:=aa hy;have hr:=aa hI.out.2.2;have hh:=aa hL;clear hL hI hy h5 ha;go_wp2_with fail;refine HT.out.mono ?_;rintro e w2 ⟨v2,rfl,hb,hn⟩;dsimp only at hb |-;obtain⟨A2,c2,rfl,hw,hx,_⟩:=ai hb;have ho:=aq hh.out.below hn;by_cases ez:z=0
   ·subst ez;have h6:=hj.out;rw[Nf rfl]at h6;have hz:X.length<=maxLen:=ND hw hx;have hc:ZIn w2 A2 X.length (zL X):=dw (aE hb);have he:=aa (lS w2 A2 X.length c2 (zL X) hc hz);by_cases eo:bK (zL X)
    ·rw[Nf eo]at h6 he;have hF:X.length<=258:=(by have:=eo.2.1;unfold zL at this;rw[Nu]at this;exact this);(obtain⟨D,hD⟩:∃D:Nat->List Nat,D=fun t=>if t=i then X else C t:=⟨_,rfl⟩);have hl:D i=X:=(by rw[hD];exact Nf rfl);have hB:(List.range i).map C++ [X]=(List.range (i+1)).map D:=(by rw[Oh,Nz,QG,hl];congr 1;apply Oe;intro t ht;have:=List.mem_range.1 ht;rw[hD];(show C t=if t=i then X else C t);rw[Nd]);(have hE:=hh.out.same (D:=D) fun t ht=>by rw[hD];(show C t=if t=i then X else C t);rw[Nd]);obtain⟨A3,c3,w3,hH,hC,_⟩:=hE.push (A1:=A2) (k1:=c2) (n:=X.length) (by rw[hl];exact hb) hn (by omega) (by rw[hl])
     have hJ:Hid (q2<=8*s.size/\gG bits n (T-(i+1)) q2 ((List.range (i+1)).map D)=ANS/\∀t,t<i+1->(D t).length<=258):=aa ⟨hv.out.1,by rw[<- hB];exact h6,fun t ht=>by
      by_cases et:t=i
      ·rw[et,hl];exact hF
      ·rw[hD]
       show(if t=i then X else C t).length<=258
       rw[Nd et]
       exact hr.out t (by omega)⟩
     have hA:=aa hH;have hK:=aa hC;obtain⟨xl,hq⟩:∃xl,xl=X.length:=⟨_,rfl⟩;rw[<- hq]at he hA |-;clear h6 hc hz eo hF hD hl hB hE hH hC hb hn ho hw hx HT hj hr hh hv hq;go_wp2_with fail;refine he.out.mono ?_;rintro e w2 ⟨rfl,rfl⟩;(go_wp2_with (at_builtin;refine Lib.wpList_append_run _ rfl (.tmp 33) (.tmp 35) 41 41 rfl (.slice A i c) (.slice (some ⟨w2.heap.size,0,none⟩) 1 1) rfl rfl _ w3 hA.out ?_));go_roundw;case rel=>exact⟨i+1,q2,c3,A3,_,D,by omega,by go_num,rfl,rfl,hK.out,hJ⟩
     case measure=>simp[intOf];omega
    ·rw[Nd eo]at h6 he;have HE:=aa (hg.out w2 80 (by omega) h6.symm ho);obtain⟨xl,hq⟩:∃xl,xl=X.length:=⟨_,rfl⟩;rw[<- hq]at he |-;clear h6 hc hz eo hb hn ho hw hx HT hj hr hh hv hq hu hg h7 hk hf;go_wp2_with fail;refine he.out.mono ?_;rintro e w2 ⟨rfl,rfl⟩;go_wp2_with fail;(first|go_ret3|skip);exact HE.out
   ·have h6:=hj.out;rw[Nd ez]at h6;have HE:=aa (hg.out w2 z ez h6.symm ho);have dz:((z:Int)==0)=false:=(by rw[NC];omega);have dz2:((z:Int) != 0)=true:=(by rw[Pe];omega);have dz4:(z==0)=false:=(by rw[NC];exact ez);clear h6 hb hn ho hw hx HT hj hr hh hv hu hg h7 hk hf;go_wp2_with fail;(first|go_ret3|skip);exact HE.out
  ·obtain rfl:i=T:=(by omega);have hm:ANS=((List.range i).map C,q,0):=(by rw[<- hI.out.2.1,Oz];rfl);have HE:=aa (hu.out wx A c F C q hm hL hI.out.2.2);clear hm hL hI hu hg h7 hk hf;go_wp2_with fail;(first|go_ret3|skip);exact HE.out
