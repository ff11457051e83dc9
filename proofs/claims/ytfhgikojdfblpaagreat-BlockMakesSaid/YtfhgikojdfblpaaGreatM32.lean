import Derived.Test.YtfhgikojdfblpaaGreatM31
import Derived.Lib.ConvBytes
import Derived.Lib.AtoiErrMem
import Derived.Laws.IdiomArrays
set_option maxHeartbeats 3200000
set_option maxRecDepth 100000
namespace Go.Proofs.YtfhgikojdfblpaaGreat
open _root_.Go.Proofs.Tryz
open Go.RowKit
theorem En{n:Nat}{l:List Nat}(h1:1<=n)(h2:n<=256)(h:∀x∈l,x<n):S07.gj (n:Nat) (zL l)=(S07.eM n 0 l,0):=by
 unfold S07.gj
 rw[Nd,Nf (fun x hx=>by
  unfold zL at hx
  obtain⟨y,hy,rfl⟩:=List.mem_map.1 hx
  have:=h y hy
  omega),Nv]
 rw[show (zL l).map Int.toNat=l from AV l]
theorem Ka(w:World)(s:ByteArray)(h0:0<s.size)(hs:s.size<=200000):Calls prog 20 #[.string s] w (aD w (df s.data.toList)):=by
 have hl:=S05.ik s h0;obtain⟨sl,h7⟩:∃sl,sl=s.data.toList:=⟨_,rfl⟩;have h6:sl.length=s.size:=by rw[h7];rfl
 have ha:sl≠ []:=by intro e;rw[e]at h6;simp only[Ox]at h6;omega
 obtain⟨t,ht⟩:∃t,t=S03.bW sl:=⟨_,rfl⟩;have htl:t.length<=250000:=by have:=S03.jx sl;rw[ht];omega
 have h3:t≠ []:=by rw[ht];exact kA ha
 have hB:0<t.length:=List.length_pos_iff.2 h3;have hO:=jA t h3;have hA:=uV hO;have hx:=lT hO;obtain⟨hm,hz,hn⟩:=mg hO;obtain⟨hM,hE,hy⟩:=jT hO h3 (by omega);have hg:=lA hO h3 (by omega) w;have he:=nC w hM;have hh:=sJ h3;have hj:=ym t;have h5:=S06.pX t h3;have hp:aL t=((aL t).1,(aL t).2.1,0):=by have h2:(aL t).2.2=0:=he.2.1;rw[<- h2]
 have h8:df s.data.toList=(ah 54156738319193 48++ah (S02.dQ sl) 32++ah (mh t) 25++S06.bU (S06.ofL t)++((cP (aL t).1 (aL t).2.1).1++(aT (aL t).1 (aL t).2.1 (zL (bO t))).1),0):=by rw[<- h7];unfold df;rw[Nd ha,Nd (by rw[<- ht];omega)];unfold dS fF gR;rw[<- ht]
 rw[h8];obtain⟨r,hq,hu⟩:=S06.iP (S06.ofL t);have hr:=lP (S06.bU (S06.ofL t)) (S06.lK _);have hw:∀(l:List Nat),(zL l).length=l.length:=fun l=>by unfold zL;rw[Nu]
 refine DH w s ⟨t.toArray⟩ ⟨(iT t).toArray⟩ (S06.eP (S06.ofL t)) ⟨(aK (S06.bU (S06.ofL t))).toArray⟩ (mh t) (S02.dQ sl) (S06.bU (S06.ofL t)).length (8*(((S06.bU (S06.ofL t)).length+7)/8)) ((S06.ofL t).length+2)
  (dB t) (bO t) (S06.bU (S06.ofL t)) (cP (aL t).1 (aL t).2.1).1 (aT (aL t).1 (aL t).2.1 (zL (bO t))).1 (S06.bU (S06.ofL t)++List.replicate (8*(((S06.bU (S06.ofL t)).length+7)/8)-(S06.bU (S06.ofL t)).length) 0) (aL t).1 (aL t).2.1
  hl (by show t.length<=262144;omega) (by omega) (S02.pD sl) (by show(S06.ofL t).length<=256;omega) (by show((S06.ofL t).length:Int)+2=_;omega) (eH _ _) ?hCQ rfl (by omega) (by rw[QZ]) (by omega) (by omega)
  (by rw[Nb,NA];omega) ?HE ?HF ?HU ?HFr ?HZ ?HBe ?HM ?HS2 ?HS ?HR ?HSh ?HB ?HC ?HOf
 case hCQ=>exact ND (dY _ _ _ (by rw[hw];omega)) (by omega)
 case HE=>intro wx;have h:=S03.uR wx s (by omega);rw[<- h7,<-ht]at h;exact h
 case HF=>intro wx;refine(S05.Kh wx ⟨t.toArray⟩ (by show 0<t.length;omega) (by show t.length<=262144;omega)).mono ?_;rintro e w' ⟨L,k,rfl,h1,hk,hf,hb⟩;have h1:S05.ep t L:=h1;have e1:=md h1;have e2:=sN h1 hk hf;subst e1;subst e2;exact⟨rfl,hb⟩
 case HU=>intro wx;exact S06.By wx ⟨t.toArray⟩ (by show t.length<=1000000;omega)
 case HFr=>intro wx;refine(S06.DO wx ⟨(iT t).toArray⟩ (S06.eP (S06.ofL t)) (by show(iT t).length<=1000000;omega) (by show(S06.ofL t).length<=1000000;omega)).mono ?_;rintro e w' ⟨v,L,c,h4,rfl,h9,hb⟩;have h4:S06.gl (iT t) (S06.ofL t)=(L,c):=h4;unfold S06.gl at h4;rw[Nf h5,hm]at h4;obtain⟨rfl,rfl⟩:=Prod.mk.inj h4;exact⟨v,rfl,h9,hb⟩
 case HZ=>intro wx A c hi hc;have h:=S07.Kc wx A (dB t).length c (zL (dB t)) ((S06.ofL t).length:Nat) (dw hi) hc (by omega);rw[En hh hj hn]at h;exact h
 case HBe=>intro wx A c hi hc;have h:=GS wx A (bO t).length c (zL (bO t)) ((S06.ofL t).length+2) (dw hi) hc (by omega) hM;rw[show ew (zL (bO t)) (((S06.ofL t).length+2:Nat):Int)=((aL t).1,(aL t).2.1,0)from hp]at h;exact h
 case HM=>exact fun wx=>fu wx 54156738319193 48 (by omega) (by omega)
 case HS2=>intro wx;have h:=S02.II wx s (by omega);rw[<- h7]at h;exact h
 case HS=>exact fun wx=>fu wx (S02.dQ sl) 32 (by have:=S02.pD sl;omega) (by omega)
 case HR=>exact fun wx=>fu wx (mh t) 25 (by omega) (by omega)
 case HSh=>exact fun wx=>S06.G6 wx (S06.eP (S06.ofL t)) (by show(S06.ofL t).length<=1000000;omega) h5
 case HB=>intro wx v hv;have h:=uP wx v _ _ hv;rw[show cP (aL t).1 (aL t).2.1=((cP (aL t).1 (aL t).2.1).1,0) by rw[nE hg]]at h;exact h
 case HC=>intro wx v hv A c hi hc;have h:=uQ wx v _ _ hv A (bO t).length c (zL (bO t)) (dw hi) (by omega);rw[show aT (aL t).1 (aL t).2.1 (zL (bO t))=((aT (aL t).1 (aL t).2.1 (zL (bO t))).1,0) by rw[jQ hg hM]]at h;exact h
 case HOf=>intro wx;have ho:=ee (S06.bU (S06.ofL t));have h:=JU wx ⟨(aK (S06.bU (S06.ofL t))).toArray⟩ (by show(aK (S06.bU (S06.ofL t))).length<=1000000;omega);rw[show (⟨(aK (S06.bU (S06.ofL t))).toArray⟩:ByteArray).size=((S06.bU (S06.ofL t)).length+7)/8 from ho,show(⟨(aK (S06.bU (S06.ofL t))).toArray⟩:ByteArray).data.toList=aK (S06.bU (S06.ofL t))from rfl,hr]at h;exact h
theorem DG(w:World):Calls prog 20 #[.string ⟨#[]⟩] w (aD w ([],2)):=by have HP:Hid (aD w ([],2) (.returned (.tuple #[.slice none 0 0,.int .i64 2])) w):=aa ⟨_,rfl,Nt _ _ _ _,Nj _ _⟩;generalize aD w ([],2)=PO at*;go_enter func20,ntmps20;go_wp2_with fail;exact HP.out
theorem GU(w:World)(s:ByteArray)(hs:s.size<=200000):Calls prog 20 #[.string s] w (aD w (df s.data.toList)):=by
 by_cases h0:0<s.size;·exact Ka w s h0 hs
 ·have e:s=⟨#[]⟩:=by
   obtain⟨⟨l⟩⟩:=s
   have hl:l= []:=Nq (by
    have h1:(⟨⟨l⟩⟩:ByteArray).size=l.length:=rfl
    omega)
   rw[hl]
  rw[e];exact DG w
theorem sZ(s:List UInt8)(_hs:s.length<=200000):(df s).1.length<=100000000:=by
 unfold df;split;·exact Ng _
 split;·exact Ng _
 ·rename_i h1 h2;show(dS s).length<=100000000;have hO:=jA _ (kA h1);have h6:=(jT hO (kA h1) (by omega)).2.2;have h3:=eH (aL (S03.bW s)).1 (aL (S03.bW s)).2.1;have h4:=dY (aL (S03.bW s)).1 (aL (S03.bW s)).2.1 (zL (bO (S03.bW s))) (by unfold zL;rw[Nu];omega);obtain⟨r,h0,h5⟩:=S06.iP (S06.ofL (S03.bW s));unfold dS gR;rw[Nb,Nb,Nb,ft];omega
theorem DF(w:World)(s:ByteArray)(hs:s.size<=200000):Calls prog 6 #[.string s] w (bn w (df s.data.toList)):=
 Bn w s (fun wx=>GU wx s hs) (sZ _ hs)
theorem sp(k:Nat):∀(l:List Nat) (a:Nat),(k<=a/\a<=k+1)->(∀ x∈l,k<=x/\x<=k+1)->(bL a l).length<=3*l.length
 | [],_,_,_=>by simp[bL]
 | x::l,a,ha,h=>by have hx:=h x Nh;have ih:=sp k l x hx fun y hy=>h y (Nm _ hy);rw[bL,Nb,mi,Ns];omega
theorem xW{k:Nat}(c:Nat)(w:List Nat)(i:Nat):k<=bj k c w i/\bj k c w i<=k+1:=by unfold bj;split <;>omega
theorem F0{W:List Nat}(h2:2<=W.length)(hn:W.length<=258):∃k,k<=8/\∀x∈mr W,k<=x/\x<=k+1:=by
 refine⟨Nat.log2 W.length,?_,fun x hx=> ?_⟩
 ·have h1:2^(Nat.log2 W.length)<=W.length:=Nat.log2_self_le (by omega);rcases N1 8 (Nat.log2 W.length)with h|h;·have h4:2^9<=2^(Nat.log2 W.length):=Od (by decide) h;omega
  ·exact h
 ·unfold mr at hx;obtain⟨i,_,rfl⟩:=List.mem_map.1 hx;exact xW _ _ _
theorem DS{k:Nat}{l:List Nat}(h:∀x∈l,k<=x/\x<=k+1):(bc l).length<=5+3*l.length:=by
 unfold bc;rw[Nb,af]
 match l,h with
 | [],_=>simp[bL]
 | x::l,h=>have h1:=sp k (x::l) x (h x Nh) h;show 5+(bL x (x::l)).length<=_;omega
theorem oi:∀G:Nat,(aI [0,1,2,3,4,5] (List.replicate G 0)).length=G
 | 0=>rfl
 | G+1=>by rw[Pb];show(List.replicate 0 1++0::aI [0,1,2,3,4,5] (List.replicate G 0)).length=_;rw[Nb,Ns,oi G,NA];omega
theorem rJ(T:List (List Nat))(P L:List Nat)(h:∀i j,(T.getD (P.getD i 0) []).getD j 0<=9):∀q,(dI T P L q).length<=9*q
 | 0=>by simp[dI]
 | q+1=>by have ih:=rJ T P L h q;have h1:=h (q/50) (L.getD q 0);rw[ky,Nb,cV,af];omega
theorem CY{L:List Int}{m:Int}(hM:eY L m):(du (aP L m).1 (aP L m).2.1 L).1<=1576+aH L.length+9*L.length:=by
 have hg:=nI hM;rw[xq hg hM,nE hg,jQ hg hM];obtain⟨f,hf⟩:∃f,f=jP (gu L) m.toNat:=⟨_,rfl⟩;obtain⟨G,hG⟩:∃G,G=aH L.length:=⟨_,rfl⟩;have h7:=hM.1;have h4:=hM.2.1;have h5:∃k,k<=8/\∀x∈f,k<=x/\x<=k+1:=by rw[hf];unfold jP;exact F0 (by unfold aM;simp;omega) (by unfold aM;simp;omega)
 have h6:f.length=m.toNat:=by rw[hf];unfold jP mr aM;simp
 have e1:(aP L m).1= [zL f,zL f]:=by unfold aP;rw[Nf hM,hf]
 have e2:(aP L m).2.1=zL (List.replicate G 0):=by unfold aP;rw[Nf hM,hG]
 rw[e1,e2,<-hG];show(gQ ([zL f,zL f].map nl) (nl (zL (List.replicate G 0)))).length+(dI ([zL f,zL f].map nl) (nl (zL (List.replicate G 0))) (nl L) L.length).length<=_;have e3: [zL f,zL f].map nl= [f,f]:=by simp only[Ow,QC,AV]
 rw[e3,AV];obtain⟨k,hk,h0⟩:=h5;have h1:=DS h0;have h2:(gQ [f,f] (List.replicate G 0)).length<=18+G+2*(5+3*f.length):=by unfold gQ;simp only[Nb,af,oi,Oa,List.flatMap_nil,Ox];omega
 have h3:=rJ [f,f] (List.replicate G 0) (nl L) (fun i j=>by
  have e4:(List.replicate G 0).getD i 0=0:=by
   rw[Na,OP]
   split <;>rfl
  rw[e4]
  show f.getD j 0<=9
  rw[Na]
  rcases N1 j f.length with hj|hj
  ·rw[Nc hj]
   have:=h0 _ (NM hj)
   show f[j]<=9
   omega
  ·rw[Nw hj]
   exact Ng _) L.length
 omega
theorem tc(w:World)(s:List UInt8):(df s).1.length<=12*s.length+4000:=by
 unfold df;split;·exact Ng _
 split;·exact Ng _
 ·rename_i h1 h2;show(dS s).length<=12*s.length+4000;have h0:=kA h1;have hO:=jA _ h0;obtain⟨hM,_,h9⟩:=jT hO h0 (by omega);have hg:=lA hO h0 (by omega) w;have h3:=(nC w hM).2.2;have h4:=CY hM;have h5:=xq hg hM;have h6:=S03.jx s;have hz:(zL (bO (S03.bW s))).length=(bO (S03.bW s)).length:=(by unfold zL;rw[Nu]);obtain⟨r,h7,h8⟩:=S06.iP (S06.ofL (S03.bW s));have e:(ew (zL (bO (S03.bW s))) (((S06.ofL (S03.bW s)).length+2:Nat):Int))=aL (S03.bW s):=rfl;rw[e,h5]at h3;unfold dS gR;rw[Nb,Nb,Nb,ft];unfold aH at h4;omega
theorem Fc(w:World){s:List UInt8}(hs:s≠ [])(htl:(S03.bW s).length<=262144):137<(df s).1.length:=by have e:(df s).1=dS s:=(by unfold df;rw[Nd hs,Nd]);have h1:=kA hs;have hO:=jA _ h1;obtain⟨h0,_⟩:=EM hO h1 htl w;obtain⟨r,h2,h3⟩:=S06.iP (S06.ofL (S03.bW s));rw[e];unfold dS;rw[Nb,Nb,ft,h0];unfold gQ;simp only[Nb,af];omega
structure kY (K:Nat):Prop where
 one:1<=K
 make:∀(w:World) (s:ByteArray),s.size<=K->Calls prog 5 #[.string s] w (bn w (df s.data.toList))
 take:∀(w:World) (s:ByteArray) (at' most:Int),s.size<=40000-> -9223372036854775808<=at'->at'<=9223372036854775807-> -9223372036854775808<=most->most<=9223372036854775807->Calls prog 7 #[.string s,.int .i64 at',.int .i64 most] w (jp w (mq (ao s.data.toList) at' most))
 sum:∀(w:World) (s:ByteArray),s.size<=40000->Calls prog 18 #[.string s] w fun e w'=>e=.returned (.int .u32 (S02.dQ s.data.toList))/\Below w.heap.size w w'
 enc:∀(w:World) (s:ByteArray),s.size<=40000->Calls prog 9 #[.string s] w fun e w'=>e=.returned (.string (S06.eP (S03.bW s.data.toList)))/\Below w.heap.size w w'
theorem yH:mq (ao (⟨#[0,0,0,0,0,0]⟩:ByteArray).data.toList) 0 1=([],0,0,120):=by decide +kernel
theorem MX:S02.dQ [97]=429103979:=by decide +kernel
theorem Md:S03.bW [97]= [97]:=by decide +kernel
theorem Li{s:List UInt8}(h:s≠ [])(h2:s.length<=200000):(df s).2=0:=by have:=S03.jx s;unfold df;rw[Nd h,Nd]
theorem Bb(l:List Nat):(⟨(aK l).toArray⟩:ByteArray).size=(l.length+7)/8:=by show(aK l).toArray.size=_;rw[P3,ee]
theorem Co(w:World){s:List UInt8}(hs:s≠ [])(h3:s.length<=200000)(u:ByteArray)(most:Int)(h1:1<=most)(h2:most<=262144):
 mq (ao (u++⟨(aK (df s).1).toArray⟩).data.toList) ((8*u.size:Nat):Int) most=if((S03.bW s).length:Int)<=most then(s,S02.dQ s,8*u.size+(df s).1.length,0)else([],0,0,3):=by obtain⟨Z,hZ,h0⟩:=Fm u _ (df s).1 (we s) rfl;have hl:=S03.jx s;have hb:(ao u.data.toList).length=8*u.size:=aC _;have h:=tk w hs (by omega) (by omega) (ao u.data.toList) Z h0 most h1 h2;rw[hb]at h;rw[hZ,h]
theorem zB(w:World){s:List UInt8}(hs:s≠ [])(h0:s.length<=200000)(most:Int)(h1:1<=most)(h2:most<=262144):
 mq (ao (⟨(aK (df s).1).toArray⟩:ByteArray).data.toList) 0 most=if((S03.bW s).length:Int)<=most then(s,S02.dQ s,(df s).1.length,0)else([],0,0,3):=by have h:=Co w hs h0 ⟨#[]⟩ most h1 h2;have e:(⟨#[]⟩:ByteArray)++⟨(aK (df s).1).toArray⟩=⟨(aK (df s).1).toArray⟩:=(by apply QL;simp);rw[e]at h;have e2:8*(⟨#[]⟩:ByteArray).size+(df s).1.length=(df s).1.length:=(by show 8*0+_=_;omega);rw[e2]at h;exact h
section
variable {K:Nat} (R:kY K)
include R
theorem zv(w:World):Calls prog 4 #[] w fun e w'=>e=.returned (.bool true)/\Below w.heap.size w w':=by
 have h6:=R.make w ⟨#[97]⟩ (ND (by decide) R.one);have h1:=Fc w (s:= [97]) (by simp) (by rw[Md];decide);have h0:=tc w [97];have hb:=Bb (df [97]).1;have h3:=zB w (s:= [97]) (by simp) (by decide) 1 (by omega) (by omega);rw[Md,MX]at h3;have h9:(df [97]).2=0:=Li (by simp) (by decide)
 have HM:Hid (Calls prog 5 #[.string ⟨#[97]⟩] w fun e w'=>e=.returned (.tuple #[.agg #[.string ⟨(aK (df [97]).1).toArray⟩,.int .i64 (df [97]).1.length],.int .i64 0])/\Below w.heap.size w w'):=aa (by
  have h:=h6
  unfold bn at h
  have e:df (⟨#[97]⟩:ByteArray).data.toList=df [97]:=rfl
  rw[e,h9]at h
  exact h)
 obtain⟨T,hT⟩:∃T,T=(⟨(aK (df [97]).1).toArray⟩:ByteArray):=⟨_,rfl⟩;obtain⟨n,hn⟩:∃n,n=(df [97]).1.length:=⟨_,rfl⟩;rw[<- hT,<-hn]at HM hb;rw[<- hT,<-hn]at h3;rw[<- hn]at h1 h0;have ha:([97]:List UInt8).length=1:=rfl;rw[ha]at h0 h3;have hh:Hid (∀ wx,Calls prog 7 #[.string T,.int .i64 0,.int .i64 1] wx fun e w'=>e=.returned (.tuple #[.string ⟨#[97]⟩,.int .u32 429103979,.int .i64 n,.int .i64 0])/\Below wx.heap.size wx w'):=aa fun wx=>by have h:=R.take wx T 0 1 (by omega) (by omega) (by omega) (by omega) (by omega);rw[h3,Nf]at h;exact h
 have hi:Hid (∀ wx,Calls prog 7 #[.string ⟨#[0,0,0,0,0,0]⟩,.int .i64 0,.int .i64 1] wx fun e w'=>e=.returned (.tuple #[.string ⟨#[]⟩,.int .u32 0,.int .i64 0,.int .i64 120])/\Below wx.heap.size wx w'):=aa fun wx=>by have h:=R.take wx ⟨#[0,0,0,0,0,0]⟩ 0 1 (by decide) (by omega) (by omega) (by omega) (by omega);rw[yH]at h;exact h
 have d1:decide ((137:Int)<(n:Int))=true:=bE;clear h6 h1 h0 hb h3 h9 hT hn ha R;go_enter func4,ntmps4;go_wp2_with fail;refine HM.out.mono ?_;rintro e w1 ⟨rfl,h7⟩;have h2:Below w1.heap.size w1 (w1.alloc (.cells #[.string T,.int .i64 n] 24)):=(Nj _ _).alloc (ag _) _;have HK:=aa (aj w1 24 #[.string T,.int .i64 n]);have hc:=aa (aq h7 h2);clear h2;go_upto_region 2 with fail;generalize w1.alloc (.cells #[.string T,.int .i64 n] 24)=w2 at*;generalize w1.heap.size=g at*;have q0:w2.cell? ⟨g,0,none⟩=some (.string T):=(ac HK.out 0).trans rfl;clear h7;go_wp2_with fail;refine(hh.out w2).mono ?_;rintro e w3 ⟨rfl,h4⟩;have hg:=aa (aO h4 HK.out);have he:=aa (aq hc.out h4);clear h4 q0;go_wp2_with fail;refine(hi.out w3).mono ?_;rintro e w4 ⟨rfl,h5⟩;have h8:=aO h5 hg.out;have hf:=aa (aq he.out h5);have q1:w4.cell? ⟨g,1,none⟩=some (.int .i64 n):=(ac h8 1).trans rfl;clear h5 h8;go_wp2_with fail;go_ret;exact⟨rfl,hf.out⟩
end
section
variable (R:kY 20000)
include R
theorem Gt(w:World)(s:ByteArray)(hs:s.size<=9223372036854775807):Calls prog 3 #[.string s] w fun e w'=>e=.returned (.bool true)/\Below w.heap.size w w':=by
 have h4:=aa (zv R);by_cases hm:300<s.size;·have d0:decide ((300:Int)<(s.size:Int))=true:=bE;clear R;go_enter func3,ntmps3;go_wp2_with fail;refine(h4.out _).mono ?_;rintro e w7 ⟨rfl,hh⟩;have hl:=aa hh;clear hh;go_wp2_with fail;go_ret;exact⟨rfl,hl.out⟩
 ·have d0:decide ((300:Int)<(s.size:Int))=false:=aR;have HC:=aa (R.make w s (by omega));have HR:=aa fun wx=>DF wx s (by omega);have hn:=wf s.data.toList;have h3:=tc w s.data.toList;have hi:s.data.toList.length=s.size:=rfl;rw[hi]at h3;generalize df s.data.toList=ans at*;obtain⟨bs,k⟩:=ans;have h7:Hid (Calls prog 5 #[.string s] w fun e w'=>e=.returned (.tuple #[.agg #[.string ⟨(aK bs).toArray⟩,.int .i64 bs.length],.int .i64 k])/\Below w.heap.size w w'):=HC;have hc:Hid (∀ wx:World,Calls prog 6 #[.string s] wx fun e w'=>e=.returned (.tuple #[.agg #[.string ⟨(aK bs).toArray⟩,.int .i64 bs.length],.int .i64 k])/\Below wx.heap.size wx w'):=HR;have ho:bs.length<=8000:=by have:bs.length<=12*s.size+4000:=h3;omega
  obtain⟨q,hq⟩:∃q,q=bs.length:=⟨_,rfl⟩;rw[<- hq]at h7 hc ho;generalize hT:(ByteArray.mk (aK bs).toArray)=T at*;have hp:=IE T q;have hg:=My;clear R HC HR hn h3 hi hq hT;go_enter func3,ntmps3;go_wp2_with fail;refine h7.out.mono ?_;rintro e w1 ⟨rfl,he⟩;have h1:Below w1.heap.size w1 (w1.alloc (.cells #[.string T,.int .i64 q] 24)):=(Nj _ _).alloc (ag _) _;have h8:=aa (aj w1 24 #[.string T,.int .i64 q]);have h5:=aa (aq he h1);clear h1 he;go_upto_region 4 with fail;generalize w1.alloc (.cells #[.string T,.int .i64 q] 24)=w2 at*;generalize w1.heap.size=g at*;go_wp2_with fail;refine(hc.out w2).mono ?_;rintro e w3 ⟨rfl,h2⟩;have h9:=aa (aO h2 h8.out);have h6:=aa (aq h5.out h2);have h0:Below w3.heap.size w3 (w3.alloc (.cells #[.string T,.int .i64 q] 24)):=(Nj _ _).alloc (ag _) _;have ha:=aa (aO h0 h9.out);have hb:=aa (aj w3 24 #[.string T,.int .i64 q]);have hj:=aa (aq h6.out h0);clear h0 h2 h9 h6 h8 h5;go_upto_region 5 with fail;generalize w3.alloc (.cells #[.string T,.int .i64 q] 24)=w4 at*;generalize w3.heap.size=g2 at*;have q0:w4.cell? ⟨g,0,none⟩=some (.string T):=(ac ha.out 0).trans rfl;have q1:w4.cell? ⟨g,1,none⟩=some (.int .i64 q):=(ac ha.out 1).trans rfl;have q2:w4.cell? ⟨g2,0,none⟩=some (.string T):=(ac hb.out 0).trans rfl;have q3:w4.cell? ⟨g2,1,none⟩=some (.int .i64 q):=(ac hb.out 1).trans rfl;go_wp2_with fail;refine(h4.out _).mono ?_;rintro e w5 ⟨rfl,hf⟩;have hk:=aa (aq hj.out hf);clear hf;go_wp2_with fail;go_ret;exact⟨rfl,hk.out⟩
end
end Go.Proofs.YtfhgikojdfblpaaGreat
namespace Go.Proofs.YtfhgikojdfblpaaGreat.BlockMakes
open _root_.Go.Proofs.Tryz
open Go.ChangeShapes Go.WideShapes Go.ChangeAt Go.RowKit
theorem MB(R:kY 20000)(os:Os)(started:os.Started)(H:Type)(enc:TypeId×Value->H):
 ReturnsInHanded {} checked os 3 .any (Rows.blockMakesSpec.pre6 enc prog Tryz.f3 Rows.blockMakesRow.domain false) (Rows.blockMakesSpec.post enc prog Tryz.f3 false true false false):=by
 refine returnsInHanded_of_change (C:=checked) own started (by kernel_rfl) func3
  (ChangeSpec.witness6 (enc:=enc) (C:=checked) false ⟨#[],#[.string ⟨#[]⟩], []⟩ 8 (by kernel_rfl) (by kernel_rfl) (by kernel_rfl) (by kernel_rfl)) ?_
 intro W base args ds gs before h1 hW h6 _;have h2:∀(j:Nat) t v,Tryz.f3.params[j]? =some t->args[j]? =some v->Value.okWide prog W .any base t v:=h1;have h5:=hW;obtain⟨p,q,h3,hV,rfl,h7,h8⟩:=hW;have hA:DataW.TrodAll enc prog W 0 (fun _=>true) true Tryz.f3.params.toList args.toList ds p:=h3;rw[params3]at hA h2;obtain⟨v0,vs0,d0,ds0,p0,q0,h4,rfl,rfl,h0,r0⟩:=trodAll_cons hA;obtain⟨rfl,rfl,rfl⟩:=trodAll_nil r0;obtain rfl:args=#[v0]:=by cases args;simp_all
 obtain⟨rfl,rfl⟩:=trodVars_none hV;obtain⟨s0,rfl,rfl,rfl,ws0⟩:=Go.ChangeMaps.open_string underlying9 (h2 0 9 v0 rfl rfl) h0;clear h3 h1;have fin:∀e W',(e=Ending.returned (.bool true)/\Below W.heap.size W W')->∃v,e=Ending.returned v/\Rows.blockMakesSpec.post enc prog Tryz.f3 false true false false W #[.string s0] v W':=by rintro e W' ⟨rfl,hb⟩;exact⟨_,rfl,JG h5 rfl hb (by kernel_rfl) (by kernel_rfl) rfl⟩
 unfold maxLen at ws0;exact(Gt R W s0 (by omega)).mono fin
theorem M9(R:kY 20000):Rows.blockMakesRow.holds Tryz.pinned (OpenSpec.ofChange Rows.blockMakesSpec):=
 OpenClaim.holds_of_wide 3 Tryz.f3 rfl rfl rfl rfl rfl rfl rfl ⟨rfl,rfl,rfl,rfl,rfl⟩ rfl rfl rfl rfl rfl (by kernel_rfl) func3 (by kernel_rfl)
  (Rn (by kernel_rfl)) (by unfold Func.isWrapper;first|(rw [Nf (by decide +kernel)];kernel_rfl)|(rw [Nd (by decide +kernel)];exact⟨rfl,rfl⟩))
  (fun os started H enc _=>MB R os started H enc)
