import Derived.Test.YtepokmggbfoakaaGreatDoorT06
import Derived.Test.YtepokmggbfoakaaGreatDoorT23
import Derived.WalkMore
set_option maxHeartbeats 3200000
set_option maxRecDepth 100000
namespace Go.Proofs.YtepokmggbfoakaaGreatDoor.S10
open _root_.Go.Proofs.Tryz
open Go.RowKit
theorem fe(w:World)(n:Int):Calls prog 158 #[.int .i64 n] w fun e w'=>e=.returned (.bool (decide (2<=n/\n<=258)))/\w=w':=by
 by_cases h1:2<=n
 ·by_cases h2:n<=258;·have d1:decide (n<=(258:Int))=true:=No h2;have hd:decide (2<=n/\n<=258)=true:=No ⟨h1,h2⟩;go_enter func158,ntmps158;go_wp2_with fail;go_ret;first|exact⟨rfl,rfl⟩|(rw [hd];exact⟨rfl,rfl⟩)
  ·have d1:decide (n<=(258:Int))=false:=Nk h2;have hd:decide (2<=n/\n<=258)=false:=aD (by omega);go_enter func158,ntmps158;go_wp2_with fail;go_ret;first|exact⟨rfl,rfl⟩|(rw [hd];exact⟨rfl,rfl⟩)
 ·have hd:decide (2<=n/\n<=258)=false:=aD (by omega);go_enter func158,ntmps158;go_wp2_with fail;go_ret;first|exact⟨rfl,rfl⟩|(rw [hd];exact⟨rfl,rfl⟩)
theorem xm(w:World)(n:Int):Calls prog 160 #[.int .i64 n] w fun e w'=>e=.returned (.bool (decide (n<1\/20<n)))/\w=w':=by
 by_cases h1:n<1;·have hd:decide (n<1\/20<n)=true:=No (.inl h1);go_enter func160,ntmps160;go_wp2_with fail;go_ret;first|exact⟨rfl,rfl⟩|(rw [hd];exact⟨rfl,rfl⟩)
 ·by_cases h2:20<n;·have hd:decide (n<1\/20<n)=true:=No (.inr h2);go_enter func160,ntmps160;go_wp2_with fail;go_ret;first|exact⟨rfl,rfl⟩|(rw [hd];exact⟨rfl,rfl⟩)
  ·have hd:decide (n<1\/20<n)=false:=aD (by omega);go_enter func160,ntmps160;go_wp2_with fail;go_ret;first|exact⟨rfl,rfl⟩|(rw [hd];exact⟨rfl,rfl⟩)
abbrev KS:Value:=.func (.func 160) #[] #[]
def oo(L:List Int):Prop:=∃x∈L,x<1\/20<x
instance (L:List Int):Decidable (oo L):=inferInstanceAs (Decidable (∃ x∈L,_))
theorem qj(w:World)(A:Option Addr)(n c:Nat)(L:List Int)(hz:ZIn w A n L)(hn:n<=1000000):Calls prog 208 #[.slice A n c,KS] w fun e w'=>∃k:Int,e=.returned (.int .i64 k)/\(0<=k↔oo L)/\Below w.heap.size w w':=by
 have HL:=aa hz;have h3:=aa hz.1;have HW:=aa xm;clear hz;go_enter func208,ntmps208;go_wp2_with fail;go_loopw [5,8] (fun s5 x wx=>∃i:Nat,i<=n/\x=.int .i64 i/\Hid (¬ oo (L.take i))/\wx=w) (fun _ x _=>n-(intOf x).toNat)
 case atStart=>refine⟨0,Nh _,rfl,aa ?_,rfl⟩;rintro⟨x,hx,_⟩;cases hx
 case round=>
  obtain⟨i,hi,rfl,h6,rfl⟩:=hrel;by_cases e:i<n
  ·obtain⟨b,off,rfl,hc⟩:=HL.out.2 (by omega);have h8:=hc i e;have h4:=vA L i (by rw[h3.out];exact e);obtain⟨x,hx⟩:∃x,x=L.getD i 0:=⟨_,rfl⟩;rw[<- hx]at h8 h4;have h7:=aa h4;have HX:=aa hx;clear hc hx h4;go_wp2_with fail;refine(HW.out _ x).mono ?_;rintro e w1 ⟨rfl,rfl⟩;by_cases hb:x<1\/20<x;·rw[No hb];have h2:=aa hb;clear hb;go_wp2_with fail;go_ret;refine⟨i,rfl,⟨fun _=>⟨x,?_,h2.out⟩,fun _=>by omega⟩,Nj _ _⟩;rw[HX.out];exact sf (by rw[h3.out];exact e)
   ·rw[Nk hb];have h2:=aa hb;clear hb;go_wp2_with fail;go_roundw;case rel=>
     refine⟨i+1,by omega,by go_num,aa ?_,trivial⟩;rw[h7.out];rintro⟨y,hy,h5⟩;rcases List.mem_append.1 hy with hy|hy;·exact h6.out ⟨y,hy,h5⟩
     ·rw[List.mem_singleton.1 hy]at h5;exact h2.out h5
    case measure=>simp[intOf];omega
  ·obtain rfl:i=n:=(by omega);have h0:¬oo L:=(by have h:=h6.out;rw[Nt (Ox h3.out)]at h;exact h);have h1:=aa h0;clear h0;go_wp2_with fail;go_ret;exact⟨-1,rfl,⟨fun h=>absurd h (by omega),fun h=>absurd h h1.out⟩,Nj _ _⟩
theorem oJ(w:World)(A:Option Addr)(n c:Nat)(L:List Int)(hz:ZIn w A n L)(hn:n<=1000000):Calls prog 159 #[.slice A n c,KS] w fun e w'=>e=.returned (.bool (decide (oo L)))/\Below w.heap.size w w':=by
 have HI:=aa (qj w A n c L hz hn);clear hz;go_enter func159,ntmps159;go_wp2_with fail;refine HI.out.mono ?_;rintro e w1 ⟨k,rfl,hk,hb⟩;have HB:=aa hb;by_cases h:oo L;·have d0:decide ((0:Int)<=k)=true:=No (hk.2 h);have HD:=aa (No h);clear hb hk h;go_wp2_with fail;go_ret;rw[HD.out];exact⟨rfl,HB.out⟩
 ·have d0:decide ((0:Int)<=k)=false:=Nk fun h1=>h (hk.1 h1);have HD:=aa (Nk h);clear hb hk h;go_wp2_with fail;go_ret;rw[HD.out];exact⟨rfl,HB.out⟩
theorem EL(B:Nat)(w:World)(p:Nat)(v:Value)(L:List Nat)(q:Nat)(h:IsW B w p v L)(hL:L.length<=1000000000000)(hq:q<4):Calls prog 60 #[.pointer (some ⟨p,0,none⟩),.int .u64 q,.int .i64 2] w fun e w'=>e=.returned (.int .i64 0)/\∃v',IsW B w' p v' (L++ag q 2)/\Below B w w':=
 (fo B w p v L q 2 h hL (by omega) hq).mono fun _ _ ⟨he,v',hW,hs⟩=>⟨he,v',hW,hs.below⟩
theorem Lq(B:Nat)(w:World)(p:Nat)(v:Value)(L:List Nat)(h:IsW B w p v L)(hL:L.length<=1000000000000):Calls prog 60 #[.pointer (some ⟨p,0,none⟩),.int .u64 0,.int .i64 1] w fun e w'=>e=.returned (.int .i64 0)/\∃v',IsW B w' p v' (L++ [0])/\Below B w w':=
 (fo B w p v L 0 1 h hL (by omega) (by decide)).mono fun _ _ ⟨he,v',hW,hs⟩=>⟨he,v',hW,hs.below⟩
theorem KI(B:Nat)(w:World)(p:Nat)(v:Value)(L:List Nat)(a x:Nat)(hW:IsW B w p v L)(hL:L.length<=1000000)(ha:a<=20)(hx:x<=20):Calls prog 161 #[.pointer (some ⟨p,0,none⟩),.int .i64 a,.int .i64 x] w fun e w'=>e=.returned (.tuple #[])/\∃v',IsW B w' p v' (L++gE a x)/\Below B w w':=by
 have HW:=aa hW;have hh:=aa fun(w1:World) (v1:Value) (j:Nat) (h:IsW B w1 p v1 (L++ups j)) (hj:j<=20)=>EL B w1 p v1 _ 2 h (by rw[Nc,jK];omega) (by omega);have hf:=aa fun(w1:World) (v1:Value) (j:Nat) (h:IsW B w1 p v1 (L++ups (x-a)++iA j)) (hj:j<=20)=>EL B w1 p v1 _ 3 h (by rw[Nc,Nc,jK,iV];omega) (by omega);have hg:=aa fun(w1:World) (v1:Value) (h:IsW B w1 p v1 (L++ups (x-a)++iA (a-x)))=>Lq B w1 p v1 _ h (by rw[Nc,Nc,jK,iV];omega);clear hW;go_enter func161,ntmps161;go_wp2_with fail;go_loopw [1] (fun f wx=>∃(j:Nat) (v':Value),j<=x-a/\f=.int .i64 (a+j:Nat)/\IsW B wx p v' (L++ups j)/\Below B w wx) (fun f _=>x-(intOf f).toNat)
 case atStart=>exact⟨0,v,Nh _,rfl,by rw[show L++ups 0=L from NR L];exact HW.out,Nj _ _⟩
 case round=>
  obtain⟨j,v1,hj,rfl,h7,h9⟩:=hrel;by_cases e:a+j<x
  ·have d0:decide (((a+j:Nat):Int)<(x:Int))=true:=aX (by omega);have HC:=aa (hh.out wr v1 j h7 (by omega));have HB:=aa h9;clear h7 h9;obtain⟨m,hm⟩:∃m,m=a+j:=⟨_,rfl⟩;rw[<- hm]at d0 e |-;have HM:=aa hm;clear hm;go_wp2_with fail;refine HC.out.mono ?_;rintro e w2 ⟨rfl,v2,h0,h3⟩;have h5:=aa h0;have h4:=aa (HB.out.trans h3);clear h0 h3;go_wp2_with fail;go_roundw;case rel=>have:=HM.out;refine⟨j+1,v2,by omega,by rw[this];go_num,?_,h4.out⟩;rw[BC,<-Ni];exact h5.out
   case measure=>simp[intOf];omega
  ·have d0:decide (((a+j:Nat):Int)<(x:Int))=false:=aD (by omega);obtain rfl:j=x-a:=(by omega);obtain⟨m,hm⟩:∃m,m=a+(x-a):=⟨_,rfl⟩;have h6:m=max a x:=(by omega);rw[<- hm]at d0 |-;have hc:=aa h6;have hi:=aa h7;have he:=aa h9;have e1:¬m<x:=(by omega);clear hm h6 h7 h9 hj e;go_wp2_with fail;(go_loopw [1] (fun f wx=>∃(j m':Nat) (v':Value),j<=a-x/\m'+j=m/\f=.int .i64 (m':Nat)/\IsW B wx p v' (L++ups (x-a)++iA j)/\Below B w wx) (fun f _=>(intOf f).toNat));case atStart=>exact⟨0,m,v1,Nh _,rfl,rfl,by rw[show L++ups (x-a)++iA 0=L++ups (x-a)from NR _];exact hi.out,he.out⟩
   case round=>
    obtain⟨j,k,v3,hj,hk,rfl,h8,hb⟩:=hrel;have h6:=hc.out;by_cases e2:x<k
    ·have HC:=aa (hf.out wr v3 j h8 (by omega));have HB:=aa hb;have HK:=aa hk;obtain⟨q,hq⟩:∃q,q+1=k:=⟨k-1,by omega⟩;have hl:(k:Int)-1=(q:Int):=(by omega);have hn:q<=40:=(by omega);have HQ:=aa hq;clear h8 hb hk h6 hq;go_wp2_with fail;refine HC.out.mono ?_;rintro e w2 ⟨rfl,v2,h0,h3⟩;have h5:=aa h0;have h4:=aa (HB.out.trans h3);clear h0 h3;go_wp2_with fail;go_roundw;case rel=>have h1:=HK.out;have h2:=hc.out;refine⟨j+1,q,v2,by omega,by omega,by go_num,?_,h4.out⟩;rw[tG,<-Ni];exact h5.out
     case measure=>simp[intOf];omega
    ·obtain rfl:j=a-x:=(by omega);have HC:=aa (hg.out wr v3 h8);have HB:=aa hb;clear h8 hb hk h6 hj;go_wp2_with fail;refine HC.out.mono ?_;rintro e w2 ⟨rfl,v2,h0,h3⟩;have h5:=aa h0;have h4:=aa (HB.out.trans h3);clear h0 h3;go_wp2_with fail;(try simp only[Exit.inBlock,Exit.then]);(go_end0);refine⟨rfl,v2,?_,h4.out⟩;rw[show gE a x=ups (x-a)++iA (a-x)++ [0]from rfl,<-Ni,<-Ni];exact h5.out
theorem jb{B:Nat}{w w':World}{g:Nat}{t:TypeId}{cs:Array Value}(h:Below B w w')(hb:Blk w g t cs)(hg:g<B):Blk w' g t cs:=(h.block g hg).trans hb
theorem FD(w:World)(A:Option Addr)(n c:Nat)(L:List Int)(_hz:ZIn w A n L)(_hn:n<=maxLen)(h:¬(2<=(n:Int)/\(n:Int)<=258)):Calls prog 104 #[.slice A n c] w (aZ w ([],80)):=by
 unfold maxLen at _hn;have h0:Blk (w.alloc (.cells #[.string ⟨#[]⟩,.int .i64 0] 43)) w.heap.size 43 #[.string ⟨#[]⟩,.int .i64 0]:=aj w 43 _;have h1:Below w.heap.size w (w.alloc (.cells #[.string ⟨#[]⟩,.int .i64 0] 43)):=(Nj _ _).alloc (ah _) _;have HE:=aa (fe (w.alloc (.cells #[.string ⟨#[]⟩,.int .i64 0] 43)) n);rw[Nk h]at HE;have HB:=aa h1;have q0:=ac h0 0;have q1:=ac h0 1;have f0:=ae h0 0;have f1:=ae h0 1;simp at q0 q1;clear h0 h1 h;go_enter func104,ntmps104;go_wp2_with fail;refine HE.out.mono ?_;rintro e w1 ⟨rfl,rfl⟩;go_wp2_with fail;refine ND (v:=.tuple #[.agg #[.string ⟨#[]⟩,.int .i64 0],.int .i64 80]) ?_ rfl ?_;·simp[results,results104,go_sem]
 ·first|exact⟨rfl,HB.out⟩|exact⟨rfl,(HB.out.setCell (p:=⟨w.heap.size,0,none⟩) (ah _) _).setCell (p:=⟨w.heap.size,1,none⟩) (ah _) _⟩
theorem vZ(w:World)(A:Option Addr)(n c:Nat)(L:List Int)(hz:ZIn w A n L)(h:2<=(n:Int)/\(n:Int)<=258)(h0:oo L):Calls prog 104 #[.slice A n c] w (aZ w ([],80)):=by
 have h4:Blk (w.alloc (.cells #[.string ⟨#[]⟩,.int .i64 0] 43)) w.heap.size 43 #[.string ⟨#[]⟩,.int .i64 0]:=aj w 43 _;have h1:Below w.heap.size w (w.alloc (.cells #[.string ⟨#[]⟩,.int .i64 0] 43)):=(Nj _ _).alloc (ah _) _;have HE:=aa (fe (w.alloc (.cells #[.string ⟨#[]⟩,.int .i64 0] 43)) n);rw[No h]at HE;have HC:=aa (oJ (w.alloc (.cells #[.string ⟨#[]⟩,.int .i64 0] 43)) A n c L (hz.below h1) (by omega));rw[No h0]at HC;have HB:=aa h1;have HK:=aa h4;clear h4 h1 hz h h0;go_enter func104,ntmps104;go_wp2_with fail;refine HE.out.mono ?_;rintro e w1 ⟨rfl,rfl⟩;go_wp2_with fail;refine HC.out.mono ?_;rintro e w2 ⟨rfl,h2⟩;have hk:=aO h2 HK.out;have h3:Below w.heap.size w w2:=HB.out.trans (h2.mono (by simp));have q0:w2.cell? ⟨w.heap.size,0,none⟩=some (.string ⟨#[]⟩):=ac hk 0;have q1:w2.cell? ⟨w.heap.size,1,none⟩=some (.int .i64 0):=ac hk 1;have f0:=ae hk 0;have f1:=ae hk 1;have h5:=aa h3;clear h2 hk h3;go_wp2_with fail;refine ND (v:=.tuple #[.agg #[.string ⟨#[]⟩,.int .i64 0],.int .i64 80]) ?_ rfl ?_;·simp[results,results104,go_sem,q0,q1]
 ·exact⟨rfl,(h5.out.setCell (p:=⟨w.heap.size,0,none⟩) (ah _) _).setCell (p:=⟨w.heap.size,1,none⟩) (ah _) _⟩
theorem I4(w:World)(A:Option Addr)(n c:Nat)(L:List Int)(hz:ZIn w A n L)(h:DOk L):Calls prog 104 #[.slice A n c] w (aZ w (bc (nl L),0)):=by
 have H0:=hz.1;obtain⟨l,hl⟩:∃l,l=nl L:=⟨_,rfl⟩;have hZ:l.length=n:=by rw[hl,bL];exact H0
 have ht:∀j,j<n->1<=l.getD j 0/\l.getD j 0<=20:=by intro j hj;rw[hl];exact Ev h _ (o6 (by rw[bL];omega))
 have hr:∀j,j<n->L.getD j 0=(l.getD j 0:Nat):=by intro j hj;have h1:=h.2.2 _ (sf (L:=L) (j:=j) (by omega));rw[hl,qt,Qc (by omega)]
 have H2:¬oo L:=by rintro⟨x,hx,HU⟩;have:=h.2.2 x hx;omega
 have p0:2<=n:=by have:=h.1;omega
 have H1:n<=258:=by have:=h.2.1;omega
 rw[<- hl];have hV:Blk (w.alloc (.cells #[.string ⟨#[]⟩,.int .i64 0] 43)) w.heap.size 43 #[.string ⟨#[]⟩,.int .i64 0]:=aj w 43 _;have hy:Below w.heap.size w (w.alloc (.cells #[.string ⟨#[]⟩,.int .i64 0] 43)):=(Nj _ _).alloc (ah _) _;have HE:=aa (fe (w.alloc (.cells #[.string ⟨#[]⟩,.int .i64 0] 43)) n);rw[No (show 2<=(n:Int)/\(n:Int)<=258 by omega)]at HE;have HC:=aa (oJ (w.alloc (.cells #[.string ⟨#[]⟩,.int .i64 0] 43)) A n c L (hz.below hy) (by omega));rw[Nk H2]at HC;have HB:=aa hy;have HK:=aa hV;have HZ:=aa hz;have HG:=aa hr;have hv:=aa ht;have HX:=aa hZ;have H3:∀i,i<n->bP (l.getD 0 0) (l.take (i+1))=bP (l.getD 0 0) (l.take i)++gE (nL l i) (l.getD i 0):=fun i hi=>Bj (by omega);have HL:=aa H3;have h6:∀i,i<=n->(ag (l.getD 0 0) 5++bP (l.getD 0 0) (l.take i)).length<=20000:=by
  intro i hi
  have h1:=uN (l.take i) (l.getD 0 0) (ht 0 (by omega)).2 (fun x hx=>by
   obtain⟨j,hj,rfl⟩:=List.mem_iff_getElem.1 (Po hx)
   have:=(ht j (by omega)).2
   rw[Nb,Nd hj]at this
   exact this)
  rw[Nc,af,kB];have h2:(l.take i).length<=258:=by rw[Nz];omega
  omega
 have HI:=aa h6;have hq:bc l=ag (l.getD 0 0) 5++bP (l.getD 0 0) (l.take n):=by rw[Nt (by omega)];rfl
 have HF:=aa hq;have hP:∀i,nL l (i+1)=l.getD i 0:=fun i=>rfl;have H4:=aa hP;have ho:nL l 0=l.getD 0 0:=rfl;have hw:=aa ho;have hh:=aa KI;clear hV hy hz hr ht hZ H3 h6 hq hP ho H2 h hl H0;go_enter func104,ntmps104;go_wp2_with fail;refine HE.out.mono ?_;rintro e w1 ⟨rfl,rfl⟩;go_wp2_with fail;refine HC.out.mono ?_;rintro e w2 ⟨rfl,hB⟩;have hE:=aO hB HK.out;have hQ:Below w.heap.size w w2:=HB.out.trans (hB.mono (by simp));have hJ:=aa hE;have hH:=aa hQ;have h8:w.heap.size<w2.heap.size:=az hE;clear hB hE hQ HB HK HE HC;go_upto_region 4 with(go_at_call 55;refine(C7 w2).mono ?_;rintro e w3 ⟨rfl,hs⟩;have hn:=aa hs;clear hs)
 have hG:=hn.out;clear hn;have hC:Below w2.heap.size w2 w3:=bQ hG;obtain⟨p,hp⟩:∃p,p=w2.heap.size:=⟨_,rfl⟩;have hM:IsW p w3 p (.slice none 0 0) []:=by rw[hG,hp];exact lB w2 _ (ah _)
 have hX:=jb hC hJ.out h8;have h5:Below w.heap.size w w3:=hH.out.trans (hC.mono (NV h8));rw[<- hp]at h8 |-;have HW:=HZ.out.below h5;obtain⟨b,off,hA,hc⟩:=HZ.out.2 (by omega);subst hA;have h3:∀(wx:World),Below w.heap.size w wx->∀i,i<n->wx.cell? ⟨b,off+i,none⟩=some (.int .i64 (l.getD i 0:Nat)):=by
  intro wx HQ i hi;obtain⟨b',off',hA,HR⟩:=(HZ.out.below HQ).2 (by omega);injection hA with hA
  injection hA with h1 h2
  subst h1 h2;rw[HR i hi,HG.out i hi]
 have h9:=aa h3;have hR:w3.cell? ⟨b,off,none⟩=some (.int .i64 (l.getD 0 0:Nat)):=h3 w3 h5 0 (by omega);obtain⟨x0,hu⟩:∃x0,x0=l.getD 0 0:=⟨_,rfl⟩;have h7:1<=x0/\x0<=20:=by rw[hu];exact hv.out 0 (by omega)
 have p1:=h7.1;have HU:=h7.2;rw[<- hu]at hR;have hL:=aa hu;have hK:=aa hX;have hI:=aa h5;have HY:(0:Int)<(n:Int):=by omega
 have hf:=aa (fo p w3 p _ [] x0 5 hM (by simp) (by omega) (by show x0<32;omega));clear hG hC hp hM hX h5 hc h3 hu h7 HW hJ hH;go_wp2_with fail;refine hf.out.mono ?_;rintro e w4 ⟨rfl,v4,hN,hF⟩;have hY:=jb hF.below hK.out h8;have HA:=aa hY;have H5:=aa (hI.out.trans (hF.below.mono (NV h8)));have HN:=aa hN;clear hN hF hY hK hI hf hR;go_wp2_with fail;go_loopw [5,7,27] (fun a5 a7 x wx=>∃(i:Nat) (v:Value),i<=n/\x=.int .i64 i/\a5=.int .i64 (nL l i:Nat)/\IsW p wx p v (ag (l.getD 0 0) 5++bP (l.getD 0 0) (l.take i))/\Blk wx w.heap.size 43 #[.string ⟨#[]⟩,.int .i64 0]/\Below w.heap.size w wx) (fun _ _ x _=>n-(intOf x).toNat)
 case atStart=>refine⟨0,v4,Nh _,rfl,by rw[hw.out,<-hL.out],?_,HA.out,H5.out⟩;have h1:=HN.out;rw[hL.out]at h1;rw[Qq];show IsW p w4 p v4 (ag (l.getD 0 0) 5++ []);rw[NR];exact h1
 case round=>
  obtain⟨i,v,hi,rfl,rfl,hW,hk,hb⟩:=hrel;by_cases e:i<n
  ·have HS:=h9.out wr hb i e;have h0:=HL.out i e;obtain⟨x,hx⟩:∃x,x=l.getD i 0:=⟨_,rfl⟩;have HV:x<=20:=(by rw[hx];exact(hv.out i e).2);obtain⟨a,ha⟩:∃a,a=nL l i:=⟨_,rfl⟩;have HP:a<=20:=(by rw[ha];exact(hv.out (i-1) (by omega)).2);have h4:=H4.out i;rw[<- hx]at HS h0 h4;rw[<- ha]at h0 |-;have HT:=aa (hh.out p wr p v _ a x hW (NH (HI.out i hi) (by omega)) HP HV);have hg:=aa h0;have he:=aa h4;have HK:=aa hk;have HB:=aa hb;clear hW hk hb hx ha h0 h4;go_wp2_with fail;refine HT.out.mono ?_;rintro e w5 ⟨rfl,v5,hO,hD⟩;have HO:=aa hO;have HD:=aa (jb hD HK.out h8);have H8:=aa (HB.out.trans (hD.mono (NV h8)));clear hO hD;go_wp2_with fail;go_roundw;case rel=>refine⟨i+1,v5,by omega,by go_num,by rw[he.out],?_,HD.out,H8.out⟩;rw[hg.out,<-Ni];exact HO.out
   case measure=>simp[intOf];omega
  ·obtain rfl:i=n:=(by omega);rw[<- HF.out]at hW;obtain⟨S,hS⟩:∃S:ByteArray,S=⟨(aF (bc l)).toArray⟩:=⟨_,rfl⟩;have hT:=im p wr p v (bc l) hW;rw[<- hS]at hT;have HT:=aa hT;have HJ:=aa hS;obtain⟨m,hm⟩:∃m,m=(bc l).length:=⟨_,rfl⟩;have c0:=ac hW.blk 0;have c2:=ac hW.blk 2;simp at c0 c2;have HM:=aa hm;rw[<- hm]at c2;have HH:=aa (jM wr p m c0 c2);have q0:wr.cell? ⟨w.heap.size,0,none⟩=some (.string ⟨#[]⟩):=ac hk 0;have q1:wr.cell? ⟨w.heap.size,1,none⟩=some (.int .i64 0):=ac hk 1;have f0:=ae hk 0;have f1:=ae hk 1;have HB:=aa hb;clear hW hk hb hS hm c0 c2 hT;go_wp2_with fail;refine HT.out.mono ?_;rintro e w8 ⟨rfl,rfl⟩;go_wp2_with fail;refine HH.out.mono ?_;rintro e w8 ⟨rfl,rfl⟩;go_wp2_with fail;refine ND (v:=.tuple #[.agg #[.string S,.int .i64 m],.int .i64 0]) ?_ rfl ?_;·simp[results,results104,go_sem,q0,q1]
   ·exact⟨by rw[HJ.out,HM.out];rfl,(HB.out.setCell (p:=⟨w.heap.size,0,none⟩) (ah _) _).setCell (p:=⟨w.heap.size,1,none⟩) (ah _) _⟩
theorem p9(w:World)(A:Option Addr)(n c:Nat)(L:List Int)(hz:ZIn w A n L)(hn:n<=maxLen):Calls prog 104 #[.slice A n c] w (aZ w (j8 L)):=by
 by_cases h:2<=(n:Int)/\(n:Int)<=258
 ·by_cases hb:oo L
  ·rw[j8,Nf];·exact vZ w A n c L hz h hb
   ·intro h0;obtain⟨x,hx,h3⟩:=hb;have:=h0.2.2 x hx;omega
  ·have h0:DOk L:=by
    refine⟨by have:=hz.1;omega,by have:=hz.1;omega,fun x hx=> ?_⟩;by_cases h1:x<1\/20<x;·exact absurd ⟨x,hx,h1⟩ hb
    ·omega
   rw[j8,Ng h0];exact I4 w A n c L hz h0
 ·rw[j8,Nf];·exact FD w A n c L hz hn h
  ·intro h0;have h1:=h0.1;have h2:=h0.2.1;have:=hz.1;omega
theorem sw(l:List Nat)(k:Nat)(h:k<l.length):val ((l.drop k).take 1)=l.getD k 0:=by have:=mW l k 0 (by omega);rw[this,Qq];show 2*0+_=_;rw[Nat.mul_zero,N8,Og]
theorem pB(B:Nat)(w:World)(p:Nat)(s:ByteArray)(k:Nat)(hR:IsR B w p s k)(hs:s.size<=281474976710656)(h0:k<8*s.size):Calls prog 36 #[.pointer (some ⟨p,0,none⟩),.int .i64 1] w fun e w'=>e=.returned (.tuple #[.int .u64 ((ai s.data.toList).getD k 0:Nat),.int .i64 0])/\IsR B w' p s (k+1)/\al B [p] [] w w':=by have h:=fS B w p s k 1 hR hs (by omega) (by omega);rw[sw _ k (by rw[aq];exact h0)]at h;exact h
theorem Bq(B:Nat)(w:World)(p:Nat)(s:ByteArray)(k:Nat)(hR:IsR B w p s k)(hs:s.size<=281474976710656)(h0:k=8*s.size):Calls prog 36 #[.pointer (some ⟨p,0,none⟩),.int .i64 1] w fun e w'=>e=.returned (.tuple #[.int .u64 0,.int .i64 10])/\IsR B w' p s k/\al B [p] [] w w':=
 dX B w p s k 1 hR hs (by omega) (by omega) (by omega)
abbrev MY (br:Nat):Value:=.func (.func 299) #[] #[.pointer (some ⟨br,0,none⟩)]
theorem Bi(w:World)(p:Nat):Calls prog 294 #[.pointer (some ⟨p,0,none⟩)] w fun e w'=>e=.returned (MY w.heap.size)/\w'=w.alloc (.cells #[.pointer (some ⟨p,0,none⟩)] 71):=by go_enter func294,ntmps294;go_wp2_with fail;go_ret;exact⟨rfl,rfl⟩
def ox(B:Nat)(w:World)(p:Nat)(s:ByteArray)(st:Int)(er k:Nat)(e:Ending)(w':World):Prop:=
 e=.returned (.tuple #[.int .i64 st,.int .i64 er])/\IsR B w' p s k/\al B [p] [] w w'
section
variable (B:Nat) (w:World) (p br:Nat) (s:ByteArray) (k:Nat)
theorem Hl(hR:IsR B w p s k)(hs:s.size<=281474976710656)(hb:Blk w br 71 #[.pointer (some ⟨p,0,none⟩)])(h:k=8*s.size):Calls prog 299 #[.pointer (some ⟨br,0,none⟩)] w (ox B w p s 0 10 k):=by have HT:=aa (Bq B w p s k hR hs h);have c0:=ac hb 0;simp at c0;clear hR hb h;go_enter func299,ntmps299;go_wp2_with fail;refine HT.out.mono ?_;rintro e w1 ⟨rfl,h0,h1⟩;have h2:=aa h0;have h3:=aa h1;clear h0 h1;go_wp2_with fail;go_ret2;exact⟨rfl,h2.out,h3.out⟩
theorem Hm(hR:IsR B w p s k)(hs:s.size<=281474976710656)(hb:Blk w br 71 #[.pointer (some ⟨p,0,none⟩)])(h:k<8*s.size)(h0:(ai s.data.toList).getD k 0=0):Calls prog 299 #[.pointer (some ⟨br,0,none⟩)] w (ox B w p s 0 0 (k+1)):=by have ht:=pB B w p s k hR hs h;rw[h0]at ht;have HT:=aa ht;have c0:=ac hb 0;simp at c0;clear hR hb h ht h0;go_enter func299,ntmps299;go_wp2_with fail;refine HT.out.mono ?_;rintro e w1 ⟨rfl,h1,h2⟩;have h3:=aa h1;have h4:=aa h2;clear h1 h2;go_wp2_with fail;go_ret2;exact⟨rfl,h3.out,h4.out⟩
theorem pq{B:Nat}{w w':World}{p br:Nat}{s:ByteArray}{k:Nat}{v:Value}(hR:IsR B w p s k)(hb:Blk w br 71 #[v])(hs:al B [p] [] w w'):Blk w' br 71 #[v]:=by
 refine hs.blk hb ?_ ar;intro h;rw[List.mem_singleton.1 h]at hb;have h2:=hR.blk;unfold Blk at hb h2;rw[h2]at hb;injection hb with hb
 injection hb with _ h3
 exact absurd h3 (by decide)
theorem Hj(hR:IsR B w p s k)(hs:s.size<=281474976710656)(hb:Blk w br 71 #[.pointer (some ⟨p,0,none⟩)])(h:k+1=8*s.size)(h0:(ai s.data.toList).getD k 0=1):Calls prog 299 #[.pointer (some ⟨br,0,none⟩)] w (ox B w p s 0 10 (k+1)):=by have ht:=pB B w p s k hR hs (by omega);rw[h0]at ht;have HT:=aa ht;have h8:=aa fun w1 (h1:IsR B w1 p s (k+1))=>Bq B w1 p s (k+1) h1 hs h;have c0:=ac hb 0;simp at c0;have HK:=aa fun w1 (h1:al B [p] [] w w1)=>pq hR hb h1;clear hR hb h ht h0;go_enter func299,ntmps299;go_wp2_with fail;refine HT.out.mono ?_;rintro e w1 ⟨rfl,h3,h2⟩;have c1:=ac (HK.out w1 h2) 0;simp at c1;have h9:=aa (h8.out w1 h3);have h7:=aa h2;clear h3 h2;go_wp2_with fail;refine h9.out.mono ?_;rintro e w2 ⟨rfl,h4,h5⟩;have h6:=aa h4;have HS2:=aa (h7.out.trans h5);clear h4 h5;go_wp2_with fail;go_ret2;exact⟨rfl,h6.out,HS2.out⟩
theorem Hk(d:Nat)(hR:IsR B w p s k)(hs:s.size<=281474976710656)(hb:Blk w br 71 #[.pointer (some ⟨p,0,none⟩)])(h:k+1<8*s.size)(h0:(ai s.data.toList).getD k 0=1)(h1:(ai s.data.toList).getD (k+1) 0=d)(hd:d<2):Calls prog 299 #[.pointer (some ⟨br,0,none⟩)] w (ox B w p s (1-2*(d:Int)) 0 (k+2)):=by have ht:=pB B w p s k hR hs (by omega);rw[h0]at ht;have HT:=aa ht;have h4:=aa fun w1 (h2:IsR B w1 p s (k+1))=>pB B w1 p s (k+1) h2 hs h;rw[h1]at h4;have c0:=ac hb 0;simp at c0;have HK:=aa fun w1 (h1:al B [p] [] w w1)=>pq hR hb h1;clear hR hb h ht h0 h1;go_enter func299,ntmps299;go_wp2_with fail;refine HT.out.mono ?_;rintro e w1 ⟨rfl,h5,h3⟩;have c1:=ac (HK.out w1 h3) 0;simp at c1;have ha:=aa (h4.out w1 h5);have h9:=aa h3;clear h5 h3;go_wp2_with fail;refine ha.out.mono ?_;rintro e w2 ⟨rfl,h6,h7⟩;have h8:=aa h6;have HS2:=aa (h9.out.trans h7);clear h6 h7;go_wp2_with fail;go_ret2;exact⟨rfl,h8.out,HS2.out⟩
end
def Lb(w:World)(p:Nat):Nat:=match w.cell? ⟨p,2,none⟩with|some (.int .i64 k)=>k.toNat|_=>0
theorem rZ{B:Nat}{w:World}{p:Nat}{s:ByteArray}{k:Nat}(h:IsR B w p s k):Lb w p=k:=by have:=ac h.blk 2;simp at this;simp[Lb,this]
def me(B:Nat)(w:World)(p:Nat)(s:ByteArray)(ans:List Nat×Nat×Nat)(e:Ending)(w':World):Prop:=
 ∃v k,e=.returned (.tuple #[v,.int .i64 ans.2.2])/\w'.ownsRow w.heap.size 3 1 v ans.1.length (ans.1.map iv)/\(ans.2.2=0->k=ans.2.1)/\IsR B w' p s k/\Below B w w'
theorem KE(B:Nat)(w:World)(p:Nat)(s:ByteArray)(k:Nat)(hR:IsR B w p s k)(hs:s.size<=281474976710656)(h0:k+5<=8*s.size):Calls prog 36 #[.pointer (some ⟨p,0,none⟩),.int .i64 5] w fun e w'=>e=.returned (.tuple #[.int .u64 (val (((ai s.data.toList).drop k).take 5):Nat),.int .i64 0])/\IsR B w' p s (k+5)/\al B [p] [] w w':=
 fS B w p s k 5 hR hs (by omega) h0
theorem KD(B:Nat)(w:World)(p:Nat)(s:ByteArray)(k:Nat)(hR:IsR B w p s k)(hs:s.size<=281474976710656)(hk:k<=8*s.size)(h0:8*s.size<k+5):Calls prog 36 #[.pointer (some ⟨p,0,none⟩),.int .i64 5] w fun e w'=>e=.returned (.tuple #[.int .u64 0,.int .i64 10])/\IsR B w' p s k/\al B [p] [] w w':=
 dX B w p s k 5 hR hs (by omega) hk h0
theorem Dr(B:Nat)(w:World)(p:Nat)(s:ByteArray)(a n:Nat)(hR:IsR B w p s a)(hs:s.size<=2000000)(ha:a<=8*s.size)(h:8*s.size<a+5):Calls prog 277 #[.pointer (some ⟨p,0,none⟩),.int .i64 n] w (me B w p s ([],0,10)):=by have HT:=aa (KD B w p s a hR (by omega) ha h);clear hR;go_enter func277,ntmps277;go_wp2_with fail;go_step3;go_wp2_with fail;refine HT.out.mono ?_;rintro e w1 ⟨rfl,h0,h1⟩;have h3:=aa h0;have h2:=aa h1.below;clear h0 h1;go_wp2_with fail;go_ret2;exact⟨_,a,rfl,Ns _ _ _ _,fun h=>absurd h (by decide),h3.out,h2.out⟩
theorem J9(B:Nat)(w:World)(p:Nat)(s:ByteArray)(a n:Nat)(hR:IsR B w p s a)(hs:s.size<=2000000)(h:a+5<=8*s.size)(r1:2<=n)(r2:n<=258):Calls prog 277 #[.pointer (some ⟨p,0,none⟩),.int .i64 n] w (me B w p s (bu ((ai s.data.toList).drop (a+5)) (val (((ai s.data.toList).drop a).take 5)) n (a+5) [])):=by
 obtain⟨i3,h3,p6,p7,pb⟩:=NY Tryz.info3;have p2:∀w1:World,(Instr.makeSlice 57 (.int .i64 0) (.int .i64 n)).run prog w1=.ok (.slice (some ⟨w1.heap.size,0,none⟩) 0 n) (w1.alloc (.cells (madeCells #[.int .i64 0] n) 3)):=by intro w1;have h:=QZ (P:=prog) w1 57 3 i3 (.int .i64 0) underlying57 h3 p6 .i64 .i64 (0:Int) (n:Int) (by omega) (by omega) (by rw[pb];omega) (by omega);rw[p7,Nn,Of]at h;exact h
 have pn:=aa p2;have HT:=aa (KE B w p s a hR (by omega) h);have HS:val (((ai s.data.toList).drop a).take 5)<2^5:=ga _ _ _ _ (aG _) (ah _);have q8:=hR.lo;have q5:=aa xm;have hQ:=aa (show(ai s.data.toList).length=8*s.size from aq _);have HV:=aa (aG s.data.toList);have q3:=aa fun(w1:World) (br k:Nat) (h1:IsR B w1 p s k) h2=>Hl B w1 p br s k h1 (by omega) h2;have q4:=aa fun(w1:World) (br k:Nat) (h1:IsR B w1 p s k) h2=>Hm B w1 p br s k h1 (by omega) h2;have q1:=aa fun(w1:World) (br k:Nat) (h1:IsR B w1 p s k) h2=>Hj B w1 p br s k h1 (by omega) h2;have q2:=aa fun(w1:World) (br k d:Nat) (h1:IsR B w1 p s k) h2=>Hk B w1 p br s k d h1 (by omega) h2;obtain⟨ans,ht⟩:∃ans,ans=bu ((ai s.data.toList).drop (a+5)) (val (((ai s.data.toList).drop a).take 5)) n (a+5) []:=⟨_,rfl⟩;rw[<- ht];have hp:∀(v:Value) (k:Nat) (w':World) (er:Nat),w'.ownsRow w.heap.size 3 1 v ans.1.length (ans.1.map iv)->er=ans.2.2->(ans.2.2=0->k=ans.2.1)->IsR B w' p s k->Below B w w'->me B w p s ans (.returned (.tuple #[v,.int .i64 er])) w':=fun v k w' er h1 h2 h3 h4 h5=>⟨v,k,by rw[h2],h1,h3,h4,h5⟩;have HP:=aa hp;generalize me B w p s ans=PO at*;obtain⟨x,hx⟩:∃x,x=val (((ai s.data.toList).drop a).take 5):=⟨_,rfl⟩;rw[<- hx]at HT ht HS;have qo:x<32:=HS;have hZ:=aa ht;generalize ai s.data.toList=bits at*;clear hR p2 hx ht hp HS;go_enter func277,ntmps277;go_wp2_with fail;go_step3;go_wp2_with fail;refine HT.out.mono ?_;rintro e w1 ⟨rfl,ha,HN⟩;have hV:=aa ha;have hy:=aa HN.below;have HU:=HN.size;have hO:=az ha.blk;clear ha HN HT;have HW:=aa (Bi w1 p);go_wp2_with fail;refine HW.out.mono ?_;rintro e w2 ⟨rfl,hW⟩;obtain⟨br,HE⟩:∃br,br=w1.heap.size:=⟨_,rfl⟩;have HH:Blk w2 br 71 #[.pointer (some ⟨p,0,none⟩)]:=by rw[hW,HE];exact aj w1 _ _
 have HY:IsR B w2 p s (a+5):=by rw[hW];exact hV.out.alloc _
 have hI:Below B w w2:=by rw[hW];exact hy.out.alloc (by omega) _
 have HF:=az HH;have r3:p<br:=by omega
 have r6:w.heap.size<=br:=by omega
 rw[<- HE];have pk:=aa HH;have pv:=aa HY;have pg:=aa hI;have HJ:=pn.out w2;clear HE hW HH HY hI hV hy HW HU hO;go_wp2_with fail;go_step3;go_wp2_with fail;clear HJ;go_loopw [8,10] (fun f8 f10 wx=>∃(now k:Nat) (o:List Nat),f8=.int .i64 now/\now<=31/\k<=8*s.size/\o.length<=n/\wx.ownsRow w2.heap.size 3 1 f10 o.length (o.map iv)/\bu (bits.drop k) now (n-o.length) k o=ans/\IsR B wx p s k/\Blk wx br 71 #[.pointer (some ⟨p,0,none⟩)]/\Below B w wx/\w2.heap.size<=wx.heap.size) (fun _ _ wx=>8*s.size-Lb wx p)
 case atStart=>have hm:(madeCells #[.int .i64 0] n).size=n*1:=(by simp[madeCells]);have HD:Below w2.heap.size w2 (w2.alloc (.cells (madeCells #[.int .i64 0] n) 3)):=(Nj _ _).alloc (ah _) _;exact⟨x,a+5, [],rfl,by omega,h,Nh _,Pd w2 (madeCells #[.int .i64 0] n) n (ah _) (by unfold maxLen;omega) hm,hZ.out.symm,pv.out.alloc _,jb HD pk.out HF,pg.out.trans (HD.mono (by omega)),HD.size⟩
 case round=>
  obtain⟨now,k,o,rfl,HL,hk,qb,hr,HQ,hR,p0,hb,qs⟩:=hrel;obtain⟨A0,c0,rfl,qa,q9,q7⟩:=ak hr;clear q7;unfold maxLen at q9;obtain⟨m,hm⟩:∃m,m=o.length:=⟨_,rfl⟩;rw[<- hm]at hr qa qb HQ |-;have HZ:=rZ hR;have pf:=aa HZ;have HM:=aa hm;have HB:=aa hb;have H8:=aa HQ;have HR:=aa hR;have HK:=aa p0;obtain⟨X,hX⟩:∃X,X=o.map iv:=⟨_,rfl⟩;rw[<- hX]at hr;have HX:=aa hX;have HO:=aa hr;clear hX hr hm hb HQ hR p0 HZ;by_cases e:m<n
  ·obtain⟨q,hq⟩:∃q,n-m=q+1:=⟨n-m-1,by omega⟩;have p4:n-(m+1)=q:=(by omega);rw[hq]at H8;have ps:=aa p4;clear hq p4;go_wp2_with fail;(go_loopw [8,10] (fun f8 f10 wx=>∃(now1 k1:Nat),f10=.slice A0 m c0/\f8=.int .i64 now1/\now1<=31/\k<=k1/\k1<=8*s.size/\bu (bits.drop k1) now1 (q+1) k1 o=ans/\IsR B wx p s k1/\Blk wx br 71 #[.pointer (some ⟨p,0,none⟩)]/\wx.ownsRow w2.heap.size 3 1 (.slice A0 m c0) m X/\Below B w wx/\w2.heap.size<=wx.heap.size) (fun _ _ wx=>8*s.size-Lb wx p));case atStart=>exact⟨now,k,rfl,rfl,HL,Nm _,hk,H8.out,HR.out,HK.out,HO.out,HB.out,qs⟩
   case round=>
    obtain⟨now1,k1,rfl,rfl,p3,r0,qv,hg,ha,h7,h9,hH,hP⟩:=hrel;have hf:=rZ ha;have hO:p<wr.heap.size:=az ha.blk;have H0:=aa hf;have hi:=aa hg;have hD:=aa (q5.out wr now1);have hy:=aa hH;have hS:=aa h9;by_cases hw:(now1:Int)<1\/20<(now1:Int);·rw[No hw]at hD;have h8:ans=([],0,80):=(by rw[<- hi.out,f6 _ _ _ _ _ (by omega)]);have h6:=aa h8;have hV:=aa ha;clear h8 hw hf hg ha h7 h9 hH;go_wp2_with fail;refine hD.out.mono ?_;rintro e w3 ⟨rfl,rfl⟩;go_wp2_with fail;(try rw[Oz]);(first|go_ret2|skip);refine HP.out (.slice none 0 0) k1 _ 80 ?_ (by rw[h6.out]) (fun h=>absurd h (by rw[h6.out];decide)) hV.out hy.out;rw[h6.out];exact Ns _ _ _ _
    ·rw[Nk hw]at hD;have hz:¬(now1<1\/20<now1):=(by omega);by_cases hv:k1=8*s.size;·have HC:=aa (q3.out wr br k1 ha h7 hv);have h8:ans=([],0,10):=(by rw[<- hi.out,NW (by rw[hQ.out];omega),ik _ _ _ _ hz]);have h6:=aa h8;clear h8 hw hz hf hg ha h7 h9 hH hv;go_wp2_with fail;refine hD.out.mono ?_;rintro e w3 ⟨rfl,rfl⟩;go_wp2_with fail;refine HC.out.mono ?_;rintro e w3 ⟨rfl,hh,he⟩;have hC:=aa hh;have hB:=aa (hy.out.trans he.below);clear hh he;go_wp2_with fail;(try rw[Oz]);(first|go_ret2|skip);refine HP.out (.slice none 0 0) k1 _ 10 ?_ (by rw[h6.out]) (fun h=>absurd h (by rw[h6.out];decide)) hC.out hB.out;rw[h6.out];exact Ns _ _ _ _
     ·have hM:k1<bits.length:=(by rw[hQ.out];omega);have hJ:=mv hM;have hI:bits.getD k1 0<2:=HV.out _ (o6 hM);by_cases h0:bits.getD k1 0=0
      ·have HC:=aa (q4.out wr br k1 ha h7 (by omega) h0);have hN:bu (bits.drop (k1+1)) now1 q (k1+1) (o++ [now1])=ans:=(by rw[<- hi.out,hJ,h0,ft _ _ _ _ _ hz]);have H5:=aa hN;have H4:=aa fun w3 (h3:al B [p] [] wr w3)=>pq ha h7 h3;clear hN hw hz hf hg ha h7 h9 hH h0 hI hJ hM;go_wp2_with fail;refine hD.out.mono ?_;rintro e w3 ⟨rfl,rfl⟩;go_wp2_with fail;refine HC.out.mono ?_;rintro e w3 ⟨rfl,hh,he⟩;have hK:=he.row hS.out (fun j hj=>by have:=(hS.out.lt j hj).1;simp;omega) (by simp);have hY:w2.heap.size<=w3.heap.size:=NH hP he.size;have hT:=aa hK;have H3:=aa (H4.out w3 he);have hB:=aa (hy.out.trans he.below);have hC:=aa hh;clear hh he hK;(go_wp2_with (at_builtin;refine Ob _ rfl _ _ 57 rfl w2.heap.size 3 i3 (.int .i64 0) 1 8 underlying57 h3 p6 p7 pb rfl (by decide) _ _ _ rfl (hT.out.alloc _) ⟨w3.heap.size,0,none⟩ 1 1 [.int .i64 now1] rfl rfl ?c1 ?c2 ?c3 ?c4 ?c5 ?_));case c1=>exact bn _ _ _
       case c2=>intro u hu;simp at hu;subst hu;rfl
       case c3=>unfold maxLen;omega
       case c4=>omega
       case c5=>simp;omega
       intro v4 w4 hA hl _;have hL:Below w2.heap.size w3 w4:=((Nj w2.heap.size w3).alloc hY _).grown hl (by simp;omega) (fun k hk=>(hT.out.lt k hk).1);have po:=aa hA;have HA:IsR B w4 p s (k1+1):=⟨q8,jb hL hC.out.blk (by omega)⟩;have H2:=aa (rZ HA);have q0:=aa HA;have pl:=aa (jb hL H3.out (by omega));have pj:=aa (hB.out.trans (hL.mono (by omega)));have qq:w2.heap.size<=w4.heap.size:=NH hY hL.size;clear hA hl hL HA;go_wp2_with fail;go_roundw;case rel=>refine⟨now1,k1+1,o++ [now1],rfl,by omega,by omega,by rw[Nc,<-HM.out];exact e,?_,by rw[Nc,<-HM.out];show bu _ _ (n-(m+1)) _ _=ans;rw[ps.out];exact H5.out,q0.out,pl.out,pj.out,qq⟩;rw[Nc,<-HM.out,NF,<-HX.out];exact po.out
       case measure=>rw[H2.out,pf.out];omega
      ·have h1:bits.getD k1 0=1:=(by omega);by_cases hn:k1+1=8*s.size;·have HC:=aa (q1.out wr br k1 ha h7 hn h1);have h8:ans=([],0,10):=(by rw[<- hi.out,hJ,h1,NW (by rw[hQ.out];omega),ji _ _ _ _ _ hz (by omega)]);have h6:=aa h8;clear h8 hw hz hf hg ha h7 h9 hH hv hM hJ hI h0 h1 hn;go_wp2_with fail;refine hD.out.mono ?_;rintro e w3 ⟨rfl,rfl⟩;go_wp2_with fail;refine HC.out.mono ?_;rintro e w3 ⟨rfl,hh,he⟩;have hC:=aa hh;have hB:=aa (hy.out.trans he.below);clear hh he;go_wp2_with fail;(try rw[Oz]);(first|go_ret2|skip);refine HP.out (.slice none 0 0) (k1+1) _ 10 ?_ (by rw[h6.out]) (fun h=>absurd h (by rw[h6.out];decide)) hC.out hB.out;rw[h6.out];exact Ns _ _ _ _
       ·have hF:k1+1<bits.length:=(by rw[hQ.out];omega);have hE:=mv hF;have HG:bits.getD (k1+1) 0<2:=HV.out _ (o6 hF);obtain⟨d,hd⟩:∃d,d=bits.getD (k1+1) 0:=⟨_,rfl⟩;rw[<- hd]at HG hE;have hc:=q2.out wr br k1 d ha h7 (by omega) h1 hd.symm HG;(obtain⟨now2,ho⟩:∃now2,now2=if d=0 then now1+1 else now1-1:=⟨_,rfl⟩);have hN:bu (bits.drop (k1+2)) now2 (q+1) (k1+2) o=ans:=(by rw[<- hi.out,hJ,h1,hE,eH _ _ _ _ _ _ _ hz (by omega),<-ho]);obtain⟨st,p5⟩:∃st:Int,st=1-2*(d:Int):=⟨_,rfl⟩;rw[<- p5]at hc;have ql:(st==0)=false:=(by rw[NA];omega);have qm:(now1:Int)+st=(now2:Int):=by
         rw[ho];by_cases p1:d=0;·rw[Ng p1];omega
         ·rw[Nf p1];omega
        have hG:now2<=31:=(by omega);have HC:=aa hc;have H5:=aa hN;have H4:=aa fun w3 (h3:al B [p] [] wr w3)=>pq ha h7 h3;have HI:k1+2<=8*s.size:=(by omega);clear hN hc hw hz hf hg ha h7 h9 hH h0 h1 hI hJ hM hF hE HG hd ho p5 hn hv;go_wp2_with fail;refine hD.out.mono ?_;rintro e w3 ⟨rfl,rfl⟩;go_wp2_with fail;refine HC.out.mono ?_;rintro e w3 ⟨rfl,hh,he⟩;have hK:=he.row hS.out (fun j hj=>by have:=(hS.out.lt j hj).1;simp;omega) (by simp);have hY:w2.heap.size<=w3.heap.size:=NH hP he.size;have hT:=aa hK;have H3:=aa (H4.out w3 he);have hB:=aa (hy.out.trans he.below);have H1:=aa (rZ hh);have hC:=aa hh;clear hh he hK;go_wp2_with fail;go_roundw;case rel=>exact⟨now2,k1+2,rfl,by go_num,hG,by omega,HI,H5.out,hC.out,H3.out,hT.out,hB.out,hY⟩
        case measure=>rw[H1.out,H0.out];omega
  ·obtain rfl:m=n:=(by omega);have h8:ans=(o,k,0):=(by rw[<- H8.out,Ow,eG]);have h6:=aa h8;clear h8;go_wp2_with fail;(try rw[Oz]);(first|go_ret2|skip);refine HP.out (.slice A0 m c0) k _ 0 ?_ (by rw[h6.out]) (fun _=>by rw[h6.out]) HR.out HB.out;rw[h6.out];show wr.ownsRow w.heap.size 3 1 (.slice A0 m c0) o.length (o.map iv);rw[<- HM.out,<-HX.out];exact World.ownsRow.mono HO.out (by omega)
theorem zP(w:World)(s:ByteArray)(at' n:Int)(hs:s.size<=2000000)(h:at'<0\/8*(s.size:Int)<at'):Calls prog 245 #[.string s,.int .i64 at',.int .i64 n] w (aL w ([],0,2)):=by have HN:=aa (kY w s at' (by omega) h);have HP:=aa (show aL w ([],0,2) (.returned (.tuple #[.slice none 0 0,.int .i64 0,.int .i64 2])) w from⟨_,rfl,Ns _ _ _ _,Nj _ _⟩);generalize aL w ([],0,2)=PO at*;clear h;go_enter func245,ntmps245;go_wp2_with fail;refine HN.out.mono ?_;rintro e w1 ⟨rfl,rfl⟩;go_wp2_with fail;first|exact HP.out|(go_ret3;exact HP.out)
theorem Co(w:World)(s:ByteArray)(at' n:Int)(hs:s.size<=2000000)(h1:0<=at')(h2:at'<=8*(s.size:Int))(hn:¬(2<=n/\n<=258)):Calls prog 245 #[.string s,.int .i64 at',.int .i64 n] w (aL w ([],0,2)):=by have HN:=aa (fh w s at' (by omega) h1 h2);have HE:=aa fun w1=>fe w1 n;rw[Nk hn]at HE;have HP:=aa (show ∀w',Below w.heap.size w w'->aL w ([],0,2) (.returned (.tuple #[.slice none 0 0,.int .i64 0,.int .i64 2])) w' from fun w' h=>⟨_,rfl,Ns _ _ _ _,h⟩);generalize aL w ([],0,2)=PO at*;clear h1 h2 hn;go_enter func245,ntmps245;go_wp2_with fail;refine HN.out.mono ?_;rintro e w1 ⟨rfl,h4⟩;have h3:Below w.heap.size w w1:=bQ h4;have h0:=aa (HP.out w1 h3);clear h4 h3;go_wp2_with fail;refine(HE.out _).mono ?_;rintro e w2 ⟨rfl,rfl⟩;go_wp2_with fail;first|exact h0.out|(go_ret3;exact h0.out)
theorem Cp(w:World)(s:ByteArray)(a n:Nat)(ans:List Nat×Nat×Nat)(hs:s.size<=2000000)(h2:a<=8*s.size)(hx:2<=n)(hy:n<=258)(hq:ans.2.1<=20000000/\ans.2.2<=80)(ha:ans.2.2≠0->ans=([],0,ans.2.2))
 (h6:∀(w1:World) (p:Nat),IsR p w1 p s a->Calls prog 277 #[.pointer (some ⟨p,0,none⟩),.int .i64 n] w1 (me p w1 p s ans)):
 Calls prog 245 #[.string s,.int .i64 a,.int .i64 n] w (aL w ans):=by
 have HN:=aa (fh w s a (by omega) (by omega) (by omega));have HE:=aa fun w1=>fe w1 n;rw[No (show 2<=(n:Int)/\(n:Int)<=258 by omega)]at HE;have HP:=aa (show ∀(v:Value) (k r:Nat) w',w'.ownsRow w.heap.size 3 1 v ans.1.length (ans.1.map iv)->k=ans.2.1->r=ans.2.2->Below w.heap.size w w'->aL w ans (.returned (.tuple #[v,.int .i64 k,.int .i64 r])) w' from fun v k r w' h0 h1 h3 h4=>⟨v,by rw[h1,h3],h0,h4⟩);generalize aL w ans=PO at*;have hl:=aa h6;have hc:=aa ha;have hw:=hq.2;clear ha h6 hq;go_enter func245,ntmps245;go_wp2_with fail;refine HN.out.mono ?_;rintro e w1 ⟨rfl,hg⟩;have hn:Below w.heap.size w w1:=bQ hg;have hm:IsR w.heap.size w1 w.heap.size s a:=by rw[hg];exact iY w _ (ah _) s a
 have hh:=aa hn;have h9:=aa (hl.out w1 w.heap.size hm);obtain⟨p,hp⟩:∃p,p=w.heap.size:=⟨_,rfl⟩;rw[<- hp]at h9 |-;have hv:=aa hp;clear hg hn hm hp hl;go_wp2_with fail;refine(HE.out _).mono ?_;rintro e w2 ⟨rfl,rfl⟩;go_wp2_with fail;refine h9.out.mono ?_;rintro e w3 ⟨v,k,rfl,h5,hf,hR,he⟩;have hb:Below w.heap.size w w3:=hh.out.trans (by rw[<- hv.out];exact he);have ho:w3.ownsRow w.heap.size 3 1 v ans.1.length (ans.1.map iv):=World.ownsRow.mono h5 hh.out.size;have hj:=aa (HP.out v · · w3 ho);have hi:=aa hb;have c0:=ac hR.blk 0;have c2:=ac hR.blk 2;simp at c0 c2;obtain⟨A0,c0',rfl,_,_,_⟩:=ak h5;by_cases h0:ans.2.2=0;·have hk:=hf h0;have hu:=aa (j7 w3 p k c0 c2);have HK:=aa hk;have H0:=aa h0;rw[h0];clear he hb ho h5 hf hR c0 c2 h0 hk;go_wp2_with fail;refine hu.out.mono ?_;rintro e w4 ⟨rfl,rfl⟩;go_wp2_with fail;first|exact hj.out k 0 HK.out H0.out.symm hi.out|(go_ret3;exact hj.out k 0 HK.out H0.out.symm hi.out)
 ·have h8:=hc.out h0;have ht:ans.2.1=0:=(by rw[h8]);have hz:ans.1= []:=(by rw[h8]);have h7:=aa (HP.out (.slice none 0 0) 0 ans.2.2 w3 (by rw[hz];exact Ns _ _ _ _) ht.symm rfl hb);obtain⟨r,hr⟩:∃r,r=ans.2.2:=⟨_,rfl⟩;rw[<- hr]at h7 hw h0 |-;have d0:((r:Int) != 0)=true:=(by rw[OP];omega);clear he hb ho h5 hf hR c0 c2 h8 ht hz hr;go_wp2_with fail;first|exact h7.out|(go_ret3;exact h7.out)
theorem mR:∀(bs:List Nat) (now n p:Nat) (out:List Nat),(bu bs now n p out).2.2≠0->bu bs now n p out=([],0,(bu bs now n p out).2.2)
 | bs,now,0,p,out=>by
   rw[eG]
   exact fun h=>absurd rfl h
 | [],now,n+1,p,out=>by
   by_cases h:now<1\/20<now
   ·rw[f6 _ _ _ _ _ h]
    exact fun _=>rfl
   ·rw[ik _ _ _ _ h]
    exact fun _=>rfl
 | b :: bs,now,n+1,p,out=>by
   by_cases h:now<1\/20<now
   ·rw[f6 _ _ _ _ _ h]
    exact fun _=>rfl
   ·by_cases hb:b=0
    ·subst hb
     rw[ft _ _ _ _ _ h]
     exact mR bs now n (p+1) (out++ [now])
    ·match bs with
     | []=>
       rw[ji _ _ _ _ _ h hb]
       exact fun _=>rfl
     | d :: bs=>
       rw[eH _ _ _ _ _ _ _ h hb]
       exact mR bs _ (n+1) (p+2) out
 termination_by bs=>bs.length
theorem qc(w:World)(s:ByteArray)(at' n:Int)(hs:s.size<=2000000):Calls prog 245 #[.string s,.int .i64 at',.int .i64 n] w (aL w (ao (ai s.data.toList) at' n)):=by
 have hl:(ai s.data.toList).length=8*s.size:=aq _;by_cases h1:at'<0\/8*(s.size:Int)<at';·rw[ao,Ng (by omega)];exact zP w s at' n hs h1
 ·by_cases hn:2<=n/\n<=258
  ·obtain⟨a,rfl⟩:∃a:Nat,at'=a:=⟨at'.toNat,by omega⟩;obtain⟨m,rfl⟩:∃m:Nat,n=m:=⟨n.toNat,by omega⟩;have h0:=vy (ai s.data.toList) a m;rw[hl]at h0;(have he:ao (ai s.data.toList) (a:Int) (m:Int)=if 8*s.size<a+5 then([],0,10)else bu ((ai s.data.toList).drop (a+5)) (val (((ai s.data.toList).drop a).take 5)) m (a+5) []:=by rw[ao,Nf (by omega),hl];rfl);refine Cp w s a m _ hs (by omega) (by omega) (by omega) ⟨by omega,h0.2.2⟩ ?_ ?_
   ·rw[he];by_cases h5:8*s.size<a+5;·rw[Ng h5];exact fun _=>rfl
    ·rw[Nf h5];exact mR _ _ _ _ _
   ·intro w1 p hR;rw[he];by_cases h5:8*s.size<a+5;·rw[Ng h5];exact Dr p w1 p s a m hR hs (by omega) h5
    ·rw[Nf h5];exact J9 p w1 p s a m hR hs (by omega) (by omega) (by omega)
  ·rw[ao,Ng (by omega)];exact Co w s at' n hs (by omega) (by omega) hn
