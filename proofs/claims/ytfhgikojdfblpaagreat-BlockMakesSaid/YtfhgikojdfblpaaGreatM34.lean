import Derived.Test.YtfhgikojdfblpaaGreatM10
import Derived.Test.YtfhgikojdfblpaaGreatM33
import Derived.WalkMore
set_option maxHeartbeats 3200000
set_option maxRecDepth 100000
namespace Go.Proofs.YtfhgikojdfblpaaGreat.S10
open _root_.Go.Proofs.Tryz
open Go.RowKit
theorem fg(w:World)(n:Int):Calls prog 97 #[.int .i64 n] w fun e w'=>e=.returned (.bool (decide (2<=n/\n<=258)))/\w=w':=by
 by_cases h1:2<=n
 ·by_cases h2:n<=258;·have d1:decide (n<=(258:Int))=true:=Nn h2;have hd:decide (2<=n/\n<=258)=true:=Nn ⟨h1,h2⟩;go_enter func97,ntmps97;go_wp2_with fail;go_ret;first|exact⟨rfl,rfl⟩|(rw [hd];exact⟨rfl,rfl⟩)
  ·have d1:decide (n<=(258:Int))=false:=Nl h2;have hd:decide (2<=n/\n<=258)=false:=aR;go_enter func97,ntmps97;go_wp2_with fail;go_ret;first|exact⟨rfl,rfl⟩|(rw [hd];exact⟨rfl,rfl⟩)
 ·have hd:decide (2<=n/\n<=258)=false:=aR;go_enter func97,ntmps97;go_wp2_with fail;go_ret;first|exact⟨rfl,rfl⟩|(rw [hd];exact⟨rfl,rfl⟩)
theorem xx(w:World)(n:Int):Calls prog 99 #[.int .i64 n] w fun e w'=>e=.returned (.bool (decide (n<1\/20<n)))/\w=w':=by
 by_cases h1:n<1;·have hd:decide (n<1\/20<n)=true:=Nn (.inl h1);go_enter func99,ntmps99;go_wp2_with fail;go_ret;first|exact⟨rfl,rfl⟩|(rw [hd];exact⟨rfl,rfl⟩)
 ·by_cases h2:20<n;·have hd:decide (n<1\/20<n)=true:=Nn (.inr h2);go_enter func99,ntmps99;go_wp2_with fail;go_ret;first|exact⟨rfl,rfl⟩|(rw [hd];exact⟨rfl,rfl⟩)
  ·have hd:decide (n<1\/20<n)=false:=aR;go_enter func99,ntmps99;go_wp2_with fail;go_ret;first|exact⟨rfl,rfl⟩|(rw [hd];exact⟨rfl,rfl⟩)
abbrev KW:Value:=.func (.func 99) #[] #[]
def pe(L:List Int):Prop:=∃x∈L,x<1\/20<x
instance (L:List Int):Decidable (pe L):=inferInstanceAs (Decidable (∃ x∈L,_))
theorem qY(w:World)(A:Option Addr)(n c:Nat)(L:List Int)(hz:ZIn w A n L)(hn:n<=1000000):Calls prog 151 #[.slice A n c,KW] w fun e w'=>∃k:Int,e=.returned (.int .i64 k)/\(0<=k↔pe L)/\Below w.heap.size w w':=by
 have HL:=aa hz;have h3:=aa hz.1;have HW:=aa xx;clear hz;go_enter func151,ntmps151;go_wp2_with fail;go_loopw [5,8] (fun s5 x wx=>∃i:Nat,i<=n/\x=.int .i64 i/\Hid (¬ pe (L.take i))/\wx=w) (fun _ x _=>n-(intOf x).toNat)
 case atStart=>refine⟨0,Ng _,rfl,aa ?_,rfl⟩;rintro⟨x,hx,_⟩;cases hx
 case round=>
  obtain⟨i,hi,rfl,h6,rfl⟩:=hrel;by_cases e:i<n
  ·obtain⟨b,off,rfl,hc⟩:=HL.out.2 (by omega);have h8:=hc i e;have h4:=oq L i (by rw[h3.out];exact e);obtain⟨x,hx⟩:∃x,x=L.getD i 0:=⟨_,rfl⟩;rw[<- hx]at h8 h4;have h7:=aa h4;have HX:=aa hx;clear hc hx h4;go_wp2_with fail;refine(HW.out _ x).mono ?_;rintro e w1 ⟨rfl,rfl⟩;by_cases hb:x<1\/20<x;·rw[Nn hb];have h2:=aa hb;clear hb;go_wp2_with fail;go_ret;refine⟨i,rfl,⟨fun _=>⟨x,?_,h2.out⟩,fun _=>by omega⟩,Nj _ _⟩;rw[HX.out];exact pS (by rw[h3.out];exact e)
   ·rw[Nl hb];have h2:=aa hb;clear hb;go_wp2_with fail;go_roundw;case rel=>
     refine⟨i+1,by omega,by go_num,aa ?_,trivial⟩;rw[h7.out];rintro⟨y,hy,h5⟩;rcases List.mem_append.1 hy with hy|hy;·exact h6.out ⟨y,hy,h5⟩
     ·rw[List.mem_singleton.1 hy]at h5;exact h2.out h5
    case measure=>simp[intOf];omega
  ·obtain rfl:i=n:=(by omega);have h0:¬pe L:=(by have h:=h6.out;rw[Nr (Oi h3.out)]at h;exact h);have h1:=aa h0;clear h0;go_wp2_with fail;go_ret;exact⟨-1,rfl,⟨fun h=>absurd h (by omega),fun h=>absurd h h1.out⟩,Nj _ _⟩
theorem pH(w:World)(A:Option Addr)(n c:Nat)(L:List Int)(hz:ZIn w A n L)(hn:n<=1000000):Calls prog 98 #[.slice A n c,KW] w fun e w'=>e=.returned (.bool (decide (pe L)))/\Below w.heap.size w w':=by
 have HI:=aa (qY w A n c L hz hn);clear hz;go_enter func98,ntmps98;go_wp2_with fail;refine HI.out.mono ?_;rintro e w1 ⟨k,rfl,hk,hb⟩;have HB:=aa hb;by_cases h:pe L;·have d0:decide ((0:Int)<=k)=true:=Nn (hk.2 h);have HD:=aa (Nn h);clear hb hk h;go_wp2_with fail;go_ret;rw[HD.out];exact⟨rfl,HB.out⟩
 ·have d0:decide ((0:Int)<=k)=false:=Nl fun h1=>h (hk.1 h1);have HD:=aa (Nl h);clear hb hk h;go_wp2_with fail;go_ret;rw[HD.out];exact⟨rfl,HB.out⟩
theorem EO(B:Nat)(w:World)(p:Nat)(v:Value)(L:List Nat)(q:Nat)(h:IsW B w p v L)(hL:L.length<=1000000000000)(hq:q<4):Calls prog 45 #[.pointer (some ⟨p,0,none⟩),.int .u64 q,.int .i64 2] w fun e w'=>e=.returned (.int .i64 0)/\∃v',IsW B w' p v' (L++ah q 2)/\Below B w w':=
 (fU B w p v L q 2 h hL (by omega) hq).mono fun _ _ ⟨he,v',hW,hs⟩=>⟨he,v',hW,hs.below⟩
theorem Lv(B:Nat)(w:World)(p:Nat)(v:Value)(L:List Nat)(h:IsW B w p v L)(hL:L.length<=1000000000000):Calls prog 45 #[.pointer (some ⟨p,0,none⟩),.int .u64 0,.int .i64 1] w fun e w'=>e=.returned (.int .i64 0)/\∃v',IsW B w' p v' (L++ [0])/\Below B w w':=
 (fU B w p v L 0 1 h hL (by omega) (by decide)).mono fun _ _ ⟨he,v',hW,hs⟩=>⟨he,v',hW,hs.below⟩
theorem KO(B:Nat)(w:World)(p:Nat)(v:Value)(L:List Nat)(a x:Nat)(hW:IsW B w p v L)(hL:L.length<=1000000)(ha:a<=20)(hx:x<=20):Calls prog 100 #[.pointer (some ⟨p,0,none⟩),.int .i64 a,.int .i64 x] w fun e w'=>e=.returned (.tuple #[])/\∃v',IsW B w' p v' (L++fJ a x)/\Below B w w':=by
 have HW:=aa hW;have hh:=aa fun(w1:World) (v1:Value) (j:Nat) (h:IsW B w1 p v1 (L++ups j)) (hj:j<=20)=>EO B w1 p v1 _ 2 h (by rw[Nb,ko];omega) (by omega);have hf:=aa fun(w1:World) (v1:Value) (j:Nat) (h:IsW B w1 p v1 (L++ups (x-a)++fW j)) (hj:j<=20)=>EO B w1 p v1 _ 3 h (by rw[Nb,Nb,ko,ja];omega) (by omega);have hg:=aa fun(w1:World) (v1:Value) (h:IsW B w1 p v1 (L++ups (x-a)++fW (a-x)))=>Lv B w1 p v1 _ h (by rw[Nb,Nb,ko,ja];omega);clear hW;go_enter func100,ntmps100;go_wp2_with fail;go_loopw [1] (fun f wx=>∃(j:Nat) (v':Value),j<=x-a/\f=.int .i64 (a+j:Nat)/\IsW B wx p v' (L++ups j)/\Below B w wx) (fun f _=>x-(intOf f).toNat)
 case atStart=>exact⟨0,v,Ng _,rfl,by rw[show L++ups 0=L from NU L];exact HW.out,Nj _ _⟩
 case round=>
  obtain⟨j,v1,hj,rfl,h7,h9⟩:=hrel;by_cases e:a+j<x
  ·have d0:decide (((a+j:Nat):Int)<(x:Int))=true:=bE;have HC:=aa (hh.out wr v1 j h7 (by omega));have HB:=aa h9;clear h7 h9;obtain⟨m,hm⟩:∃m,m=a+j:=⟨_,rfl⟩;rw[<- hm]at d0 e |-;have HM:=aa hm;clear hm;go_wp2_with fail;refine HC.out.mono ?_;rintro e w2 ⟨rfl,v2,h0,h3⟩;have h5:=aa h0;have h4:=aa (HB.out.trans h3);clear h0 h3;go_wp2_with fail;go_roundw;case rel=>have:=HM.out;refine⟨j+1,v2,by omega,by rw[this];go_num,?_,h4.out⟩;rw[vt,<-Ni];exact h5.out
   case measure=>simp[intOf];omega
  ·have d0:decide (((a+j:Nat):Int)<(x:Int))=false:=aR;obtain rfl:j=x-a:=(by omega);obtain⟨m,hm⟩:∃m,m=a+(x-a):=⟨_,rfl⟩;have h6:m=max a x:=(by omega);rw[<- hm]at d0 |-;have hc:=aa h6;have hi:=aa h7;have he:=aa h9;have e1:¬m<x:=(by omega);clear hm h6 h7 h9 hj e;go_wp2_with fail;(go_loopw [1] (fun f wx=>∃(j m':Nat) (v':Value),j<=a-x/\m'+j=m/\f=.int .i64 (m':Nat)/\IsW B wx p v' (L++ups (x-a)++fW j)/\Below B w wx) (fun f _=>(intOf f).toNat));case atStart=>exact⟨0,m,v1,Ng _,rfl,rfl,by rw[show L++ups (x-a)++fW 0=L++ups (x-a)from NU _];exact hi.out,he.out⟩
   case round=>
    obtain⟨j,k,v3,hj,hk,rfl,h8,hb⟩:=hrel;have h6:=hc.out;by_cases e2:x<k
    ·have HC:=aa (hf.out wr v3 j h8 (by omega));have HB:=aa hb;have HK:=aa hk;obtain⟨q,hq⟩:∃q,q+1=k:=⟨k-1,by omega⟩;have hl:(k:Int)-1=(q:Int):=(by omega);have hn:q<=40:=(by omega);have HQ:=aa hq;clear h8 hb hk h6 hq;go_wp2_with fail;refine HC.out.mono ?_;rintro e w2 ⟨rfl,v2,h0,h3⟩;have h5:=aa h0;have h4:=aa (HB.out.trans h3);clear h0 h3;go_wp2_with fail;go_roundw;case rel=>have h1:=HK.out;have h2:=hc.out;refine⟨j+1,q,v2,by omega,by omega,by go_num,?_,h4.out⟩;rw[oF,<-Ni];exact h5.out
     case measure=>simp[intOf];omega
    ·obtain rfl:j=a-x:=(by omega);have HC:=aa (hg.out wr v3 h8);have HB:=aa hb;clear h8 hb hk h6 hj;go_wp2_with fail;refine HC.out.mono ?_;rintro e w2 ⟨rfl,v2,h0,h3⟩;have h5:=aa h0;have h4:=aa (HB.out.trans h3);clear h0 h3;go_wp2_with fail;(try simp only[Exit.inBlock,Exit.then]);(go_end0);refine⟨rfl,v2,?_,h4.out⟩;rw[show fJ a x=ups (x-a)++fW (a-x)++ [0]from rfl,<-Ni,<-Ni];exact h5.out
theorem jt{B:Nat}{w w':World}{g:Nat}{t:TypeId}{cs:Array Value}(h:Below B w w')(hb:Blk w g t cs)(hg:g<B):Blk w' g t cs:=(h.block g hg).trans hb
theorem FH(w:World)(A:Option Addr)(n c:Nat)(L:List Int)(_hz:ZIn w A n L)(_hn:n<=maxLen)(h:¬(2<=(n:Int)/\(n:Int)<=258)):Calls prog 51 #[.slice A n c] w (bn w ([],80)):=by
 unfold maxLen at _hn;have h0:Blk (w.alloc (.cells #[.string ⟨#[]⟩,.int .i64 0] 24)) w.heap.size 24 #[.string ⟨#[]⟩,.int .i64 0]:=aj w 24 _;have h1:Below w.heap.size w (w.alloc (.cells #[.string ⟨#[]⟩,.int .i64 0] 24)):=(Nj _ _).alloc (ag _) _;have HE:=aa (fg (w.alloc (.cells #[.string ⟨#[]⟩,.int .i64 0] 24)) n);rw[Nl h]at HE;have HB:=aa h1;have q0:=ac h0 0;have q1:=ac h0 1;have f0:=ae h0 0;have f1:=ae h0 1;simp at q0 q1;clear h0 h1 h;go_enter func51,ntmps51;go_wp2_with fail;refine HE.out.mono ?_;rintro e w1 ⟨rfl,rfl⟩;go_wp2_with fail;refine NH (v:=.tuple #[.agg #[.string ⟨#[]⟩,.int .i64 0],.int .i64 80]) ?_ rfl ?_;·simp[results,results51,go_sem]
 ·first|exact⟨rfl,HB.out⟩|exact⟨rfl,(HB.out.setCell (p:=⟨w.heap.size,0,none⟩) (ag _) _).setCell (p:=⟨w.heap.size,1,none⟩) (ag _) _⟩
theorem wv(w:World)(A:Option Addr)(n c:Nat)(L:List Int)(hz:ZIn w A n L)(h:2<=(n:Int)/\(n:Int)<=258)(h0:pe L):Calls prog 51 #[.slice A n c] w (bn w ([],80)):=by
 have h4:Blk (w.alloc (.cells #[.string ⟨#[]⟩,.int .i64 0] 24)) w.heap.size 24 #[.string ⟨#[]⟩,.int .i64 0]:=aj w 24 _;have h1:Below w.heap.size w (w.alloc (.cells #[.string ⟨#[]⟩,.int .i64 0] 24)):=(Nj _ _).alloc (ag _) _;have HE:=aa (fg (w.alloc (.cells #[.string ⟨#[]⟩,.int .i64 0] 24)) n);rw[Nn h]at HE;have HC:=aa (pH (w.alloc (.cells #[.string ⟨#[]⟩,.int .i64 0] 24)) A n c L (hz.below h1) (by omega));rw[Nn h0]at HC;have HB:=aa h1;have HK:=aa h4;clear h4 h1 hz h h0;go_enter func51,ntmps51;go_wp2_with fail;refine HE.out.mono ?_;rintro e w1 ⟨rfl,rfl⟩;go_wp2_with fail;refine HC.out.mono ?_;rintro e w2 ⟨rfl,h2⟩;have hk:=aO h2 HK.out;have h3:Below w.heap.size w w2:=HB.out.trans (h2.mono (by simp));have q0:w2.cell? ⟨w.heap.size,0,none⟩=some (.string ⟨#[]⟩):=ac hk 0;have q1:w2.cell? ⟨w.heap.size,1,none⟩=some (.int .i64 0):=ac hk 1;have f0:=ae hk 0;have f1:=ae hk 1;have h5:=aa h3;clear h2 hk h3;go_wp2_with fail;refine NH (v:=.tuple #[.agg #[.string ⟨#[]⟩,.int .i64 0],.int .i64 80]) ?_ rfl ?_;·simp[results,results51,go_sem,q0,q1]
 ·exact⟨rfl,(h5.out.setCell (p:=⟨w.heap.size,0,none⟩) (ag _) _).setCell (p:=⟨w.heap.size,1,none⟩) (ag _) _⟩
theorem Jc(w:World)(A:Option Addr)(n c:Nat)(L:List Int)(hz:ZIn w A n L)(h:DOk L):Calls prog 51 #[.slice A n c] w (bn w (bc (nl L),0)):=by
 have H0:=hz.1;obtain⟨l,hl⟩:∃l,l=nl L:=⟨_,rfl⟩;have hZ:l.length=n:=by rw[hl,bN];exact H0
 have ht:∀j,j<n->1<=l.getD j 0/\l.getD j 0<=20:=by intro j hj;rw[hl];exact EC h _ (mc (by rw[bN];omega))
 have hr:∀j,j<n->L.getD j 0=(l.getD j 0:Nat):=by intro j hj;have h1:=h.2.2 _ (pS (L:=L) (j:=j) (by omega));rw[hl,nf,PH (by omega)]
 have H2:¬pe L:=by rintro⟨x,hx,HR⟩;have:=h.2.2 x hx;omega
 have HX:2<=n:=by have:=h.1;omega
 have H1:n<=258:=by have:=h.2.1;omega
 rw[<- hl];have hV:Blk (w.alloc (.cells #[.string ⟨#[]⟩,.int .i64 0] 24)) w.heap.size 24 #[.string ⟨#[]⟩,.int .i64 0]:=aj w 24 _;have hy:Below w.heap.size w (w.alloc (.cells #[.string ⟨#[]⟩,.int .i64 0] 24)):=(Nj _ _).alloc (ag _) _;have HE:=aa (fg (w.alloc (.cells #[.string ⟨#[]⟩,.int .i64 0] 24)) n);rw[Nn (show 2<=(n:Int)/\(n:Int)<=258 by omega)]at HE;have HC:=aa (pH (w.alloc (.cells #[.string ⟨#[]⟩,.int .i64 0] 24)) A n c L (hz.below hy) (by omega));rw[Nl H2]at HC;have HB:=aa hy;have HK:=aa hV;have HZ:=aa hz;have HG:=aa hr;have hv:=aa ht;have HV:=aa hZ;have H3:∀i,i<n->bL (l.getD 0 0) (l.take (i+1))=bL (l.getD 0 0) (l.take i)++fJ (ow l i) (l.getD i 0):=fun i hi=>sq (by omega);have HI:=aa H3;have h6:∀i,i<=n->(ah (l.getD 0 0) 5++bL (l.getD 0 0) (l.take i)).length<=20000:=by
  intro i hi
  have h1:=vc (l.take i) (l.getD 0 0) (ht 0 (by omega)).2 (fun x hx=>by
   obtain⟨j,hj,rfl⟩:=List.mem_iff_getElem.1 (OC hx)
   have:=(ht j (by omega)).2
   rw[Na,Nc hj]at this
   exact this)
  rw[Nb,af,kU];have h2:(l.take i).length<=258:=by rw[NB];omega
  omega
 have HD:=aa h6;have hq:bc l=ah (l.getD 0 0) 5++bL (l.getD 0 0) (l.take n):=by rw[Nr (by omega)];rfl
 have HF:=aa hq;have hP:∀i,ow l (i+1)=l.getD i 0:=fun i=>rfl;have H4:=aa hP;have ho:ow l 0=l.getD 0 0:=rfl;have hw:=aa ho;have hh:=aa KO;clear hV hy hz hr ht hZ H3 h6 hq hP ho H2 h hl H0;go_enter func51,ntmps51;go_wp2_with fail;refine HE.out.mono ?_;rintro e w1 ⟨rfl,rfl⟩;go_wp2_with fail;refine HC.out.mono ?_;rintro e w2 ⟨rfl,hB⟩;have hE:=aO hB HK.out;have hQ:Below w.heap.size w w2:=HB.out.trans (hB.mono (by simp));have hJ:=aa hE;have hH:=aa hQ;have h8:w.heap.size<w2.heap.size:=aA hE;clear hB hE hQ HB HK HE HC;go_upto_region 4 with(go_at_call 44;refine(Gw w2).mono ?_;rintro e w3 ⟨rfl,hs⟩;have hn:=aa hs;clear hs)
 have hG:=hn.out;clear hn;have hC:Below w2.heap.size w2 w3:=cB hG;obtain⟨p,hp⟩:∃p,p=w2.heap.size:=⟨_,rfl⟩;have hM:IsW p w3 p (.slice none 0 0) []:=by rw[hG,hp];exact nK w2 _ (ag _)
 have hX:=jt hC hJ.out h8;have h5:Below w.heap.size w w3:=hH.out.trans (hC.mono (NT h8));rw[<- hp]at h8 |-;have HU:=HZ.out.below h5;obtain⟨b,off,hA,hc⟩:=HZ.out.2 (by omega);subst hA;have h3:∀(wx:World),Below w.heap.size w wx->∀i,i<n->wx.cell? ⟨b,off+i,none⟩=some (.int .i64 (l.getD i 0:Nat)):=by
  intro wx HO i hi;obtain⟨b',off',hA,HP⟩:=(HZ.out.below HO).2 (by omega);injection hA with hA
  injection hA with h1 h2
  subst h1 h2;rw[HP i hi,HG.out i hi]
 have h9:=aa h3;have hR:w3.cell? ⟨b,off,none⟩=some (.int .i64 (l.getD 0 0:Nat)):=h3 w3 h5 0 (by omega);obtain⟨x0,hu⟩:∃x0,x0=l.getD 0 0:=⟨_,rfl⟩;have h7:1<=x0/\x0<=20:=by rw[hu];exact hv.out 0 (by omega)
 have HY:=h7.1;have HR:=h7.2;rw[<- hu]at hR;have hL:=aa hu;have hK:=aa hX;have hI:=aa h5;have HW:(0:Int)<(n:Int):=by omega
 have hf:=aa (fU p w3 p _ [] x0 5 hM (by simp) (by omega) (by show x0<32;omega));clear hG hC hp hM hX h5 hc h3 hu h7 HU hJ hH;go_wp2_with fail;refine hf.out.mono ?_;rintro e w4 ⟨rfl,v4,hN,hF⟩;have hY:=jt hF.below hK.out h8;have H7:=aa hY;have H5:=aa (hI.out.trans (hF.below.mono (NT h8)));have HJ:=aa hN;clear hN hF hY hK hI hf hR;go_wp2_with fail;go_loopw [5,7,27] (fun a5 a7 x wx=>∃(i:Nat) (v:Value),i<=n/\x=.int .i64 i/\a5=.int .i64 (ow l i:Nat)/\IsW p wx p v (ah (l.getD 0 0) 5++bL (l.getD 0 0) (l.take i))/\Blk wx w.heap.size 24 #[.string ⟨#[]⟩,.int .i64 0]/\Below w.heap.size w wx) (fun _ _ x _=>n-(intOf x).toNat)
 case atStart=>refine⟨0,v4,Ng _,rfl,by rw[hw.out,<-hL.out],?_,H7.out,H5.out⟩;have h1:=HJ.out;rw[hL.out]at h1;rw[Rs];show IsW p w4 p v4 (ah (l.getD 0 0) 5++ []);rw[NU];exact h1
 case round=>
  obtain⟨i,v,hi,rfl,rfl,hW,hk,hb⟩:=hrel;by_cases e:i<n
  ·have HQ:=h9.out wr hb i e;have h0:=HI.out i e;obtain⟨x,hx⟩:∃x,x=l.getD i 0:=⟨_,rfl⟩;have HS:x<=20:=(by rw[hx];exact(hv.out i e).2);obtain⟨a,ha⟩:∃a,a=ow l i:=⟨_,rfl⟩;have HN:a<=20:=(by rw[ha];exact(hv.out (i-1) (by omega)).2);have h4:=H4.out i;rw[<- hx]at HQ h0 h4;rw[<- ha]at h0 |-;have HT:=aa (hh.out p wr p v _ a x hW (ND (HD.out i hi) (by omega)) HN HS);have hg:=aa h0;have he:=aa h4;have HK:=aa hk;have HB:=aa hb;clear hW hk hb hx ha h0 h4;go_wp2_with fail;refine HT.out.mono ?_;rintro e w5 ⟨rfl,v5,hO,hD⟩;have HL:=aa hO;have H8:=aa (jt hD HK.out h8);have H6:=aa (HB.out.trans (hD.mono (NT h8)));clear hO hD;go_wp2_with fail;go_roundw;case rel=>refine⟨i+1,v5,by omega,by go_num,by rw[he.out],?_,H8.out,H6.out⟩;rw[hg.out,<-Ni];exact HL.out
   case measure=>simp[intOf];omega
  ·obtain rfl:i=n:=(by omega);rw[<- HF.out]at hW;obtain⟨S,hS⟩:∃S:ByteArray,S=⟨(aK (bc l)).toArray⟩:=⟨_,rfl⟩;have hT:=jC p wr p v (bc l) hW;rw[<- hS]at hT;have HT:=aa hT;have HH:=aa hS;obtain⟨m,hm⟩:∃m,m=(bc l).length:=⟨_,rfl⟩;have c0:=ac hW.blk 0;have c2:=ac hW.blk 2;simp at c0 c2;have HM:=aa hm;rw[<- hm]at c2;have HA:=aa (lF wr p m c0 c2);have q0:wr.cell? ⟨w.heap.size,0,none⟩=some (.string ⟨#[]⟩):=ac hk 0;have q1:wr.cell? ⟨w.heap.size,1,none⟩=some (.int .i64 0):=ac hk 1;have f0:=ae hk 0;have f1:=ae hk 1;have HB:=aa hb;clear hW hk hb hS hm c0 c2 hT;go_wp2_with fail;refine HT.out.mono ?_;rintro e w8 ⟨rfl,rfl⟩;go_wp2_with fail;refine HA.out.mono ?_;rintro e w8 ⟨rfl,rfl⟩;go_wp2_with fail;refine NH (v:=.tuple #[.agg #[.string S,.int .i64 m],.int .i64 0]) ?_ rfl ?_;·simp[results,results51,go_sem,q0,q1]
   ·exact⟨by rw[HH.out,HM.out];rfl,(HB.out.setCell (p:=⟨w.heap.size,0,none⟩) (ag _) _).setCell (p:=⟨w.heap.size,1,none⟩) (ag _) _⟩
theorem qQ(w:World)(A:Option Addr)(n c:Nat)(L:List Int)(hz:ZIn w A n L)(hn:n<=maxLen):Calls prog 51 #[.slice A n c] w (bn w (eN L)):=by
 by_cases h:2<=(n:Int)/\(n:Int)<=258
 ·by_cases hb:pe L
  ·rw[eN,if_neg];·exact wv w A n c L hz h hb
   ·intro h0;obtain⟨x,hx,h3⟩:=hb;have:=h0.2.2 x hx;omega
  ·have h0:DOk L:=by
    refine⟨by have:=hz.1;omega,by have:=hz.1;omega,fun x hx=> ?_⟩;by_cases h1:x<1\/20<x;·exact absurd ⟨x,hx,h1⟩ hb
    ·omega
   rw[eN,Nf h0];exact Jc w A n c L hz h0
 ·rw[eN,if_neg];·exact FH w A n c L hz hn h
  ·intro h0;have h1:=h0.1;have h2:=h0.2.1;have:=hz.1;omega
theorem sP(l:List Nat)(k:Nat)(h:k<l.length):val ((l.drop k).take 1)=l.getD k 0:=by have:=nz l k 0 (by omega);rw[this,Rs];show 2*0+_=_;rw[Nat.mul_zero,N8,NY]
theorem qy(B:Nat)(w:World)(p:Nat)(s:ByteArray)(k:Nat)(hR:IsR B w p s k)(hs:s.size<=281474976710656)(h0:k<8*s.size):Calls prog 71 #[.pointer (some ⟨p,0,none⟩),.int .i64 1] w fun e w'=>e=.returned (.tuple #[.int .u64 ((ao s.data.toList).getD k 0:Nat),.int .i64 0])/\IsR B w' p s (k+1)/\ak B [p] [] w w':=by have h:=iF B w p s k 1 hR hs (by omega) (by omega);rw[sP _ k (by rw[aC];exact h0)]at h;exact h
theorem BL(B:Nat)(w:World)(p:Nat)(s:ByteArray)(k:Nat)(hR:IsR B w p s k)(hs:s.size<=281474976710656)(h0:k=8*s.size):Calls prog 71 #[.pointer (some ⟨p,0,none⟩),.int .i64 1] w fun e w'=>e=.returned (.tuple #[.int .u64 0,.int .i64 10])/\IsR B w' p s k/\ak B [p] [] w w':=
 fo B w p s k 1 hR hs (by omega) (by omega) (by omega)
abbrev MW (br:Nat):Value:=.func (.func 240) #[] #[.pointer (some ⟨br,0,none⟩)]
theorem BG(w:World)(p:Nat):Calls prog 225 #[.pointer (some ⟨p,0,none⟩)] w fun e w'=>e=.returned (MW w.heap.size)/\w'=w.alloc (.cells #[.pointer (some ⟨p,0,none⟩)] 56):=by go_enter func225,ntmps225;go_wp2_with fail;go_ret;exact⟨rfl,rfl⟩
def px(B:Nat)(w:World)(p:Nat)(s:ByteArray)(st:Int)(er k:Nat)(e:Ending)(w':World):Prop:=
 e=.returned (.tuple #[.int .i64 st,.int .i64 er])/\IsR B w' p s k/\ak B [p] [] w w'
section
variable (B:Nat) (w:World) (p br:Nat) (s:ByteArray) (k:Nat)
theorem Hm(hR:IsR B w p s k)(hs:s.size<=281474976710656)(hb:Blk w br 56 #[.pointer (some ⟨p,0,none⟩)])(h:k=8*s.size):Calls prog 240 #[.pointer (some ⟨br,0,none⟩)] w (px B w p s 0 10 k):=by have HT:=aa (BL B w p s k hR hs h);have c0:=ac hb 0;simp at c0;clear hR hb h;go_enter func240,ntmps240;go_wp2_with fail;refine HT.out.mono ?_;rintro e w1 ⟨rfl,h0,h1⟩;have h2:=aa h0;have h3:=aa h1;clear h0 h1;go_wp2_with fail;go_ret2;exact⟨rfl,h2.out,h3.out⟩
theorem Hn(hR:IsR B w p s k)(hs:s.size<=281474976710656)(hb:Blk w br 56 #[.pointer (some ⟨p,0,none⟩)])(h:k<8*s.size)(h0:(ao s.data.toList).getD k 0=0):Calls prog 240 #[.pointer (some ⟨br,0,none⟩)] w (px B w p s 0 0 (k+1)):=by have ht:=qy B w p s k hR hs h;rw[h0]at ht;have HT:=aa ht;have c0:=ac hb 0;simp at c0;clear hR hb h ht h0;go_enter func240,ntmps240;go_wp2_with fail;refine HT.out.mono ?_;rintro e w1 ⟨rfl,h1,h2⟩;have h3:=aa h1;have h4:=aa h2;clear h1 h2;go_wp2_with fail;go_ret2;exact⟨rfl,h3.out,h4.out⟩
theorem qn{B:Nat}{w w':World}{p br:Nat}{s:ByteArray}{k:Nat}{v:Value}(hR:IsR B w p s k)(hb:Blk w br 56 #[v])(hs:ak B [p] [] w w'):Blk w' br 56 #[v]:=by
 refine hs.blk hb ?_ aw;intro h;rw[List.mem_singleton.1 h]at hb;have h2:=hR.blk;unfold Blk at hb h2;rw[h2]at hb;injection hb with hb
 injection hb with _ h3
 exact absurd h3 (by decide)
theorem Hj(hR:IsR B w p s k)(hs:s.size<=281474976710656)(hb:Blk w br 56 #[.pointer (some ⟨p,0,none⟩)])(h:k+1=8*s.size)(h0:(ao s.data.toList).getD k 0=1):Calls prog 240 #[.pointer (some ⟨br,0,none⟩)] w (px B w p s 0 10 (k+1)):=by have ht:=qy B w p s k hR hs (by omega);rw[h0]at ht;have HT:=aa ht;have h8:=aa fun w1 (h1:IsR B w1 p s (k+1))=>BL B w1 p s (k+1) h1 hs h;have c0:=ac hb 0;simp at c0;have HK:=aa fun w1 (h1:ak B [p] [] w w1)=>qn hR hb h1;clear hR hb h ht h0;go_enter func240,ntmps240;go_wp2_with fail;refine HT.out.mono ?_;rintro e w1 ⟨rfl,h3,h2⟩;have c1:=ac (HK.out w1 h2) 0;simp at c1;have h9:=aa (h8.out w1 h3);have h7:=aa h2;clear h3 h2;go_wp2_with fail;refine h9.out.mono ?_;rintro e w2 ⟨rfl,h4,h5⟩;have h6:=aa h4;have HS2:=aa (h7.out.trans h5);clear h4 h5;go_wp2_with fail;go_ret2;exact⟨rfl,h6.out,HS2.out⟩
theorem Hk(d:Nat)(hR:IsR B w p s k)(hs:s.size<=281474976710656)(hb:Blk w br 56 #[.pointer (some ⟨p,0,none⟩)])(h:k+1<8*s.size)(h0:(ao s.data.toList).getD k 0=1)(h1:(ao s.data.toList).getD (k+1) 0=d)(hd:d<2):Calls prog 240 #[.pointer (some ⟨br,0,none⟩)] w (px B w p s (1-2*(d:Int)) 0 (k+2)):=by have ht:=qy B w p s k hR hs (by omega);rw[h0]at ht;have HT:=aa ht;have h4:=aa fun w1 (h2:IsR B w1 p s (k+1))=>qy B w1 p s (k+1) h2 hs h;rw[h1]at h4;have c0:=ac hb 0;simp at c0;have HK:=aa fun w1 (h1:ak B [p] [] w w1)=>qn hR hb h1;clear hR hb h ht h0 h1;go_enter func240,ntmps240;go_wp2_with fail;refine HT.out.mono ?_;rintro e w1 ⟨rfl,h5,h3⟩;have c1:=ac (HK.out w1 h3) 0;simp at c1;have ha:=aa (h4.out w1 h5);have h9:=aa h3;clear h5 h3;go_wp2_with fail;refine ha.out.mono ?_;rintro e w2 ⟨rfl,h6,h7⟩;have h8:=aa h6;have HS2:=aa (h9.out.trans h7);clear h6 h7;go_wp2_with fail;go_ret2;exact⟨rfl,h8.out,HS2.out⟩
end
def Lg(w:World)(p:Nat):Nat:=match w.cell? ⟨p,2,none⟩with|some (.int .i64 k)=>k.toNat|_=>0
theorem sC{B:Nat}{w:World}{p:Nat}{s:ByteArray}{k:Nat}(h:IsR B w p s k):Lg w p=k:=by have:=ac h.blk 2;simp at this;simp[Lg,this]
def mG(B:Nat)(w:World)(p:Nat)(s:ByteArray)(ans:List Nat×Nat×Nat)(e:Ending)(w':World):Prop:=
 ∃v k,e=.returned (.tuple #[v,.int .i64 ans.2.2])/\w'.ownsRow w.heap.size 3 1 v ans.1.length (ans.1.map iv)/\(ans.2.2=0->k=ans.2.1)/\IsR B w' p s k/\Below B w w'
theorem KK(B:Nat)(w:World)(p:Nat)(s:ByteArray)(k:Nat)(hR:IsR B w p s k)(hs:s.size<=281474976710656)(h0:k+5<=8*s.size):Calls prog 71 #[.pointer (some ⟨p,0,none⟩),.int .i64 5] w fun e w'=>e=.returned (.tuple #[.int .u64 (val (((ao s.data.toList).drop k).take 5):Nat),.int .i64 0])/\IsR B w' p s (k+5)/\ak B [p] [] w w':=
 iF B w p s k 5 hR hs (by omega) h0
theorem KJ(B:Nat)(w:World)(p:Nat)(s:ByteArray)(k:Nat)(hR:IsR B w p s k)(hs:s.size<=281474976710656)(hk:k<=8*s.size)(h0:8*s.size<k+5):Calls prog 71 #[.pointer (some ⟨p,0,none⟩),.int .i64 5] w fun e w'=>e=.returned (.tuple #[.int .u64 0,.int .i64 10])/\IsR B w' p s k/\ak B [p] [] w w':=
 fo B w p s k 5 hR hs (by omega) hk h0
theorem DL(B:Nat)(w:World)(p:Nat)(s:ByteArray)(a n:Nat)(hR:IsR B w p s a)(hs:s.size<=2000000)(ha:a<=8*s.size)(h:8*s.size<a+5):Calls prog 197 #[.pointer (some ⟨p,0,none⟩),.int .i64 n] w (mG B w p s ([],0,10)):=by have HT:=aa (KJ B w p s a hR (by omega) ha h);clear hR;go_enter func197,ntmps197;go_wp2_with fail;go_step3;go_wp2_with fail;refine HT.out.mono ?_;rintro e w1 ⟨rfl,h0,h1⟩;have h3:=aa h0;have h2:=aa h1.below;clear h0 h1;go_wp2_with fail;go_ret2;exact⟨_,a,rfl,Nt _ _ _ _,fun h=>absurd h (by decide),h3.out,h2.out⟩
theorem Kb(B:Nat)(w:World)(p:Nat)(s:ByteArray)(a n:Nat)(hR:IsR B w p s a)(hs:s.size<=2000000)(h:a+5<=8*s.size)(ql:2<=n)(qm:n<=258):Calls prog 197 #[.pointer (some ⟨p,0,none⟩),.int .i64 n] w (mG B w p s (cD ((ao s.data.toList).drop (a+5)) (val (((ao s.data.toList).drop a).take 5)) n (a+5) [])):=by
 obtain⟨i3,h3,p4,p5,p6⟩:=N4 Tryz.info3;have p0:∀w1:World,(Instr.makeSlice 37 (.int .i64 0) (.int .i64 n)).run prog w1=.ok (.slice (some ⟨w1.heap.size,0,none⟩) 0 n) (w1.alloc (.cells (madeCells #[.int .i64 0] n) 3)):=by intro w1;have h:=Qv (P:=prog) w1 37 3 i3 (.int .i64 0) underlying37 h3 p4 .i64 .i64 (0:Int) (n:Int) (by omega) (by omega) (by rw[p6];omega) (by omega);rw[p5,Nv,Oc]at h;exact h
 have pg:=aa p0;have HT:=aa (KK B w p s a hR (by omega) h);have HN:val (((ao s.data.toList).drop a).take 5)<2^5:=fY _ _ _ _ (bh _) (ag _);have q1:=hR.lo;have pv:=aa xx;have hQ:=aa (show(ao s.data.toList).length=8*s.size from aC _);have HS:=aa (bh s.data.toList);have pr:=aa fun(w1:World) (br k:Nat) (h1:IsR B w1 p s k) h2=>Hm B w1 p br s k h1 (by omega) h2;have ps:=aa fun(w1:World) (br k:Nat) (h1:IsR B w1 p s k) h2=>Hn B w1 p br s k h1 (by omega) h2;have pn:=aa fun(w1:World) (br k:Nat) (h1:IsR B w1 p s k) h2=>Hj B w1 p br s k h1 (by omega) h2;have po:=aa fun(w1:World) (br k d:Nat) (h1:IsR B w1 p s k) h2=>Hk B w1 p br s k d h1 (by omega) h2;obtain⟨ans,ht⟩:∃ans,ans=cD ((ao s.data.toList).drop (a+5)) (val (((ao s.data.toList).drop a).take 5)) n (a+5) []:=⟨_,rfl⟩;rw[<- ht];have hp:∀(v:Value) (k:Nat) (w':World) (er:Nat),w'.ownsRow w.heap.size 3 1 v ans.1.length (ans.1.map iv)->er=ans.2.2->(ans.2.2=0->k=ans.2.1)->IsR B w' p s k->Below B w w'->mG B w p s ans (.returned (.tuple #[v,.int .i64 er])) w':=fun v k w' er h1 h2 h3 h4 h5=>⟨v,k,by rw[h2],h1,h3,h4,h5⟩;have HP:=aa hp;generalize mG B w p s ans=PO at*;obtain⟨x,hx⟩:∃x,x=val (((ao s.data.toList).drop a).take 5):=⟨_,rfl⟩;rw[<- hx]at HT ht HN;have q7:x<32:=HN;have hZ:=aa ht;generalize ao s.data.toList=bits at*;clear hR p0 hx ht hp HN;go_enter func197,ntmps197;go_wp2_with fail;go_step3;go_wp2_with fail;refine HT.out.mono ?_;rintro e w1 ⟨rfl,ha,HJ⟩;have hV:=aa ha;have hy:=aa HJ.below;have HQ:=HJ.size;have hO:=aA ha.blk;clear ha HJ HT;have HU:=aa (BG w1 p);go_wp2_with fail;refine HU.out.mono ?_;rintro e w2 ⟨rfl,hW⟩;obtain⟨br,HA⟩:∃br,br=w1.heap.size:=⟨_,rfl⟩;have HF:Blk w2 br 56 #[.pointer (some ⟨p,0,none⟩)]:=by rw[hW,HA];exact aj w1 _ _
 have HV:IsR B w2 p s (a+5):=by rw[hW];exact hV.out.alloc _
 have hI:Below B w w2:=by rw[hW];exact hy.out.alloc (by omega) _
 have HD:=aA HF;have qo:p<br:=by omega
 have qs:w.heap.size<=br:=by omega
 rw[<- HA];have pb:=aa HF;have pl:=aa HV;have p8:=aa hI;have HH:=pg.out w2;clear HA hW HF HV hI hV hy HU HQ hO;go_wp2_with fail;go_step3;go_wp2_with fail;clear HH;go_loopw [8,10] (fun f8 f10 wx=>∃(now k:Nat) (o:List Nat),f8=.int .i64 now/\now<=31/\k<=8*s.size/\o.length<=n/\wx.ownsRow w2.heap.size 3 1 f10 o.length (o.map iv)/\cD (bits.drop k) now (n-o.length) k o=ans/\IsR B wx p s k/\Blk wx br 56 #[.pointer (some ⟨p,0,none⟩)]/\Below B w wx/\w2.heap.size<=wx.heap.size) (fun _ _ wx=>8*s.size-Lg wx p)
 case atStart=>have hm:(madeCells #[.int .i64 0] n).size=n*1:=(by simp[madeCells]);have H8:Below w2.heap.size w2 (w2.alloc (.cells (madeCells #[.int .i64 0] n) 3)):=(Nj _ _).alloc (ag _) _;exact⟨x,a+5, [],rfl,by omega,h,Ng _,OM w2 (madeCells #[.int .i64 0] n) n (ag _) (by unfold maxLen;omega) hm,hZ.out.symm,pl.out.alloc _,jt H8 pb.out HD,p8.out.trans (H8.mono (by omega)),H8.size⟩
 case round=>
  obtain⟨now,k,o,rfl,HI,hk,q4,hr,HL,hR,HY,hb,q9⟩:=hrel;obtain⟨A0,c0,rfl,q3,q2,q0⟩:=ai hr;clear q0;unfold maxLen at q2;obtain⟨m,hm⟩:∃m,m=o.length:=⟨_,rfl⟩;rw[<- hm]at hr q3 q4 HL |-;have HW:=sC hR;have p7:=aa HW;have HM:=aa hm;have HB:=aa hb;have H6:=aa HL;have HR:=aa hR;have HK:=aa HY;obtain⟨X,hX⟩:∃X,X=o.map iv:=⟨_,rfl⟩;rw[<- hX]at hr;have HX:=aa hX;have HO:=aa hr;clear hX hr hm hb HL hR HY HW;by_cases e:m<n
  ·obtain⟨q,hq⟩:∃q,n-m=q+1:=⟨n-m-1,by omega⟩;have p2:n-(m+1)=q:=(by omega);rw[hq]at H6;have pk:=aa p2;clear hq p2;go_wp2_with fail;(go_loopw [8,10] (fun f8 f10 wx=>∃(now1 k1:Nat),f10=.slice A0 m c0/\f8=.int .i64 now1/\now1<=31/\k<=k1/\k1<=8*s.size/\cD (bits.drop k1) now1 (q+1) k1 o=ans/\IsR B wx p s k1/\Blk wx br 56 #[.pointer (some ⟨p,0,none⟩)]/\wx.ownsRow w2.heap.size 3 1 (.slice A0 m c0) m X/\Below B w wx/\w2.heap.size<=wx.heap.size) (fun _ _ wx=>8*s.size-Lg wx p));case atStart=>exact⟨now,k,rfl,rfl,HI,Nk _,hk,H6.out,HR.out,HK.out,HO.out,HB.out,q9⟩
   case round=>
    obtain⟨now1,k1,rfl,rfl,p1,qb,qa,hg,ha,h7,h9,hH,hP⟩:=hrel;have hf:=sC ha;have hO:p<wr.heap.size:=aA ha.blk;have H0:=aa hf;have hi:=aa hg;have hD:=aa (pv.out wr now1);have hy:=aa hH;have hS:=aa h9;by_cases hw:(now1:Int)<1\/20<(now1:Int);·rw[Nn hw]at hD;have h8:ans=([],0,80):=(by rw[<- hi.out,jB _ _ _ _ _ (by omega)]);have h6:=aa h8;have hV:=aa ha;clear h8 hw hf hg ha h7 h9 hH;go_wp2_with fail;refine hD.out.mono ?_;rintro e w3 ⟨rfl,rfl⟩;go_wp2_with fail;(try rw[OR]);(first|go_ret2|skip);refine HP.out (.slice none 0 0) k1 _ 80 ?_ (by rw[h6.out]) (fun h=>absurd h (by rw[h6.out];decide)) hV.out hy.out;rw[h6.out];exact Nt _ _ _ _
    ·rw[Nl hw]at hD;have hz:¬(now1<1\/20<now1):=(by omega);by_cases hv:k1=8*s.size;·have HC:=aa (pr.out wr br k1 ha h7 hv);have h8:ans=([],0,10):=(by rw[<- hi.out,N9 (by rw[hQ.out];omega),lD _ _ _ _ hz]);have h6:=aa h8;clear h8 hw hz hf hg ha h7 h9 hH hv;go_wp2_with fail;refine hD.out.mono ?_;rintro e w3 ⟨rfl,rfl⟩;go_wp2_with fail;refine HC.out.mono ?_;rintro e w3 ⟨rfl,hh,he⟩;have hC:=aa hh;have hB:=aa (hy.out.trans he.below);clear hh he;go_wp2_with fail;(try rw[OR]);(first|go_ret2|skip);refine HP.out (.slice none 0 0) k1 _ 10 ?_ (by rw[h6.out]) (fun h=>absurd h (by rw[h6.out];decide)) hC.out hB.out;rw[h6.out];exact Nt _ _ _ _
     ·have hM:k1<bits.length:=(by rw[hQ.out];omega);have hJ:=tP hM;have hI:bits.getD k1 0<2:=HS.out _ (mc hM);by_cases h0:bits.getD k1 0=0
      ·have HC:=aa (ps.out wr br k1 ha h7 (by omega) h0);have hN:cD (bits.drop (k1+1)) now1 q (k1+1) (o++ [now1])=ans:=(by rw[<- hi.out,hJ,h0,kd _ _ _ _ _ hz]);have H5:=aa hN;have H4:=aa fun w3 (h3:ak B [p] [] wr w3)=>qn ha h7 h3;clear hN hw hz hf hg ha h7 h9 hH h0 hI hJ hM;go_wp2_with fail;refine hD.out.mono ?_;rintro e w3 ⟨rfl,rfl⟩;go_wp2_with fail;refine HC.out.mono ?_;rintro e w3 ⟨rfl,hh,he⟩;have hK:=he.row hS.out (fun j hj=>by have:=(hS.out.lt j hj).1;simp;omega) (by simp);have hY:w2.heap.size<=w3.heap.size:=ND hP he.size;have hT:=aa hK;have H3:=aa (H4.out w3 he);have hB:=aa (hy.out.trans he.below);have hC:=aa hh;clear hh he hK;(go_wp2_with (at_builtin;refine N5 _ rfl _ _ 37 rfl w2.heap.size 3 i3 (.int .i64 0) 1 8 underlying37 h3 p4 p5 p6 rfl (by decide) _ _ _ rfl (hT.out.alloc _) ⟨w3.heap.size,0,none⟩ 1 1 [.int .i64 now1] rfl rfl ?c1 ?c2 ?c3 ?c4 ?c5 ?_));case c1=>exact bV _ _ _
       case c2=>intro u hu;simp at hu;subst hu;rfl
       case c3=>unfold maxLen;omega
       case c4=>omega
       case c5=>simp;omega
       intro v4 w4 hA hl _;have hL:Below w2.heap.size w3 w4:=((Nj w2.heap.size w3).alloc hY _).grown hl (by simp;omega) (fun k hk=>(hT.out.lt k hk).1);have pj:=aa hA;have H7:IsR B w4 p s (k1+1):=⟨q1,jt hL hC.out.blk (by omega)⟩;have H2:=aa (sC H7);have pm:=aa H7;have pf:=aa (jt hL H3.out (by omega));have p9:=aa (hB.out.trans (hL.mono (by omega)));have q8:w2.heap.size<=w4.heap.size:=ND hY hL.size;clear hA hl hL H7;go_wp2_with fail;go_roundw;case rel=>refine⟨now1,k1+1,o++ [now1],rfl,by omega,by omega,by rw[Nb,<-HM.out];exact e,?_,by rw[Nb,<-HM.out];show cD _ _ (n-(m+1)) _ _=ans;rw[pk.out];exact H5.out,pm.out,pf.out,p9.out,q8⟩;rw[Nb,<-HM.out,Nz,<-HX.out];exact pj.out
       case measure=>rw[H2.out,p7.out];omega
      ·have h1:bits.getD k1 0=1:=(by omega);by_cases hn:k1+1=8*s.size;·have HC:=aa (pn.out wr br k1 ha h7 hn h1);have h8:ans=([],0,10):=(by rw[<- hi.out,hJ,h1,N9 (by rw[hQ.out];omega),nV _ _ _ _ _ hz (by omega)]);have h6:=aa h8;clear h8 hw hz hf hg ha h7 h9 hH hv hM hJ hI h0 h1 hn;go_wp2_with fail;refine hD.out.mono ?_;rintro e w3 ⟨rfl,rfl⟩;go_wp2_with fail;refine HC.out.mono ?_;rintro e w3 ⟨rfl,hh,he⟩;have hC:=aa hh;have hB:=aa (hy.out.trans he.below);clear hh he;go_wp2_with fail;(try rw[OR]);(first|go_ret2|skip);refine HP.out (.slice none 0 0) (k1+1) _ 10 ?_ (by rw[h6.out]) (fun h=>absurd h (by rw[h6.out];decide)) hC.out hB.out;rw[h6.out];exact Nt _ _ _ _
       ·have hF:k1+1<bits.length:=(by rw[hQ.out];omega);have hE:=tP hF;have HE:bits.getD (k1+1) 0<2:=HS.out _ (mc hF);obtain⟨d,hd⟩:∃d,d=bits.getD (k1+1) 0:=⟨_,rfl⟩;rw[<- hd]at HE hE;have hc:=po.out wr br k1 d ha h7 (by omega) h1 hd.symm HE;(obtain⟨now2,ho⟩:∃now2,now2=if d=0 then now1+1 else now1-1:=⟨_,rfl⟩);have hN:cD (bits.drop (k1+2)) now2 (q+1) (k1+2) o=ans:=(by rw[<- hi.out,hJ,h1,hE,ix _ _ _ _ _ _ _ hz (by omega),<-ho]);obtain⟨st,p3⟩:∃st:Int,st=1-2*(d:Int):=⟨_,rfl⟩;rw[<- p3]at hc;have q5:(st==0)=false:=(by rw[NC];omega);have q6:(now1:Int)+st=(now2:Int):=by
         rw[ho];by_cases HZ:d=0;·rw[Nf HZ];omega
         ·rw[Nd HZ];omega
        have hG:now2<=31:=(by omega);have HC:=aa hc;have H5:=aa hN;have H4:=aa fun w3 (h3:ak B [p] [] wr w3)=>qn ha h7 h3;have HG:k1+2<=8*s.size:=(by omega);clear hN hc hw hz hf hg ha h7 h9 hH h0 h1 hI hJ hM hF hE HE hd ho p3 hn hv;go_wp2_with fail;refine hD.out.mono ?_;rintro e w3 ⟨rfl,rfl⟩;go_wp2_with fail;refine HC.out.mono ?_;rintro e w3 ⟨rfl,hh,he⟩;have hK:=he.row hS.out (fun j hj=>by have:=(hS.out.lt j hj).1;simp;omega) (by simp);have hY:w2.heap.size<=w3.heap.size:=ND hP he.size;have hT:=aa hK;have H3:=aa (H4.out w3 he);have hB:=aa (hy.out.trans he.below);have H1:=aa (sC hh);have hC:=aa hh;clear hh he hK;go_wp2_with fail;go_roundw;case rel=>exact⟨now2,k1+2,rfl,by go_num,hG,by omega,HG,H5.out,hC.out,H3.out,hT.out,hB.out,hY⟩
        case measure=>rw[H1.out,H0.out];omega
  ·obtain rfl:m=n:=(by omega);have h8:ans=(o,k,0):=(by rw[<- H6.out,Oz,iw]);have h6:=aa h8;clear h8;go_wp2_with fail;(try rw[OR]);(first|go_ret2|skip);refine HP.out (.slice A0 m c0) k _ 0 ?_ (by rw[h6.out]) (fun _=>by rw[h6.out]) HR.out HB.out;rw[h6.out];show wr.ownsRow w.heap.size 3 1 (.slice A0 m c0) o.length (o.map iv);rw[<- HM.out,<-HX.out];exact World.ownsRow.mono HO.out (by omega)
theorem Ai(w:World)(s:ByteArray)(at' n:Int)(hs:s.size<=2000000)(h:at'<0\/8*(s.size:Int)<at'):Calls prog 168 #[.string s,.int .i64 at',.int .i64 n] w (cn w ([],0,2)):=by have HN:=aa (lx w s at' (by omega) h);have HP:=aa (show cn w ([],0,2) (.returned (.tuple #[.slice none 0 0,.int .i64 0,.int .i64 2])) w from⟨_,rfl,Nt _ _ _ _,Nj _ _⟩);generalize cn w ([],0,2)=PO at*;clear h;go_enter func168,ntmps168;go_wp2_with fail;refine HN.out.mono ?_;rintro e w1 ⟨rfl,rfl⟩;go_wp2_with fail;first|exact HP.out|(go_ret3;exact HP.out)
theorem CK(w:World)(s:ByteArray)(at' n:Int)(hs:s.size<=2000000)(h1:0<=at')(h2:at'<=8*(s.size:Int))(hn:¬(2<=n/\n<=258)):Calls prog 168 #[.string s,.int .i64 at',.int .i64 n] w (cn w ([],0,2)):=by have HN:=aa (gv w s at' (by omega) h1 h2);have HE:=aa fun w1=>fg w1 n;rw[Nl hn]at HE;have HP:=aa (show ∀w',Below w.heap.size w w'->cn w ([],0,2) (.returned (.tuple #[.slice none 0 0,.int .i64 0,.int .i64 2])) w' from fun w' h=>⟨_,rfl,Nt _ _ _ _,h⟩);generalize cn w ([],0,2)=PO at*;clear h1 h2 hn;go_enter func168,ntmps168;go_wp2_with fail;refine HN.out.mono ?_;rintro e w1 ⟨rfl,h4⟩;have h3:Below w.heap.size w w1:=cB h4;have h0:=aa (HP.out w1 h3);clear h4 h3;go_wp2_with fail;refine(HE.out _).mono ?_;rintro e w2 ⟨rfl,rfl⟩;go_wp2_with fail;first|exact h0.out|(go_ret3;exact h0.out)
theorem CL(w:World)(s:ByteArray)(a n:Nat)(ans:List Nat×Nat×Nat)(hs:s.size<=2000000)(h2:a<=8*s.size)(hx:2<=n)(hy:n<=258)(hq:ans.2.1<=20000000/\ans.2.2<=80)(ha:ans.2.2≠0->ans=([],0,ans.2.2))
 (h6:∀(w1:World) (p:Nat),IsR p w1 p s a->Calls prog 197 #[.pointer (some ⟨p,0,none⟩),.int .i64 n] w1 (mG p w1 p s ans)):
 Calls prog 168 #[.string s,.int .i64 a,.int .i64 n] w (cn w ans):=by
 have HN:=aa (gv w s a (by omega) (by omega) (by omega));have HE:=aa fun w1=>fg w1 n;rw[Nn (show 2<=(n:Int)/\(n:Int)<=258 by omega)]at HE;have HP:=aa (show ∀(v:Value) (k r:Nat) w',w'.ownsRow w.heap.size 3 1 v ans.1.length (ans.1.map iv)->k=ans.2.1->r=ans.2.2->Below w.heap.size w w'->cn w ans (.returned (.tuple #[v,.int .i64 k,.int .i64 r])) w' from fun v k r w' h0 h1 h3 h4=>⟨v,by rw[h1,h3],h0,h4⟩);generalize cn w ans=PO at*;have hl:=aa h6;have hc:=aa ha;have hw:=hq.2;clear ha h6 hq;go_enter func168,ntmps168;go_wp2_with fail;refine HN.out.mono ?_;rintro e w1 ⟨rfl,hg⟩;have hn:Below w.heap.size w w1:=cB hg;have hm:IsR w.heap.size w1 w.heap.size s a:=by rw[hg];exact lY w _ (ag _) s a
 have hh:=aa hn;have h9:=aa (hl.out w1 w.heap.size hm);obtain⟨p,hp⟩:∃p,p=w.heap.size:=⟨_,rfl⟩;rw[<- hp]at h9 |-;have hv:=aa hp;clear hg hn hm hp hl;go_wp2_with fail;refine(HE.out _).mono ?_;rintro e w2 ⟨rfl,rfl⟩;go_wp2_with fail;refine h9.out.mono ?_;rintro e w3 ⟨v,k,rfl,h5,hf,hR,he⟩;have hb:Below w.heap.size w w3:=hh.out.trans (by rw[<- hv.out];exact he);have ho:w3.ownsRow w.heap.size 3 1 v ans.1.length (ans.1.map iv):=World.ownsRow.mono h5 hh.out.size;have hj:=aa (HP.out v · · w3 ho);have hi:=aa hb;have c0:=ac hR.blk 0;have c2:=ac hR.blk 2;simp at c0 c2;obtain⟨A0,c0',rfl,_,_,_⟩:=ai h5;by_cases h0:ans.2.2=0;·have hk:=hf h0;have hu:=aa (nS w3 p k c0 c2);have HK:=aa hk;have H0:=aa h0;rw[h0];clear he hb ho h5 hf hR c0 c2 h0 hk;go_wp2_with fail;refine hu.out.mono ?_;rintro e w4 ⟨rfl,rfl⟩;go_wp2_with fail;first|exact hj.out k 0 HK.out H0.out.symm hi.out|(go_ret3;exact hj.out k 0 HK.out H0.out.symm hi.out)
 ·have h8:=hc.out h0;have ht:ans.2.1=0:=(by rw[h8]);have hz:ans.1= []:=(by rw[h8]);have h7:=aa (HP.out (.slice none 0 0) 0 ans.2.2 w3 (by rw[hz];exact Nt _ _ _ _) ht.symm rfl hb);obtain⟨r,hr⟩:∃r,r=ans.2.2:=⟨_,rfl⟩;rw[<- hr]at h7 hw h0 |-;have d0:((r:Int) != 0)=true:=(by rw[Pe];omega);clear he hb ho h5 hf hR c0 c2 h8 ht hz hr;go_wp2_with fail;first|exact h7.out|(go_ret3;exact h7.out)
theorem nw:∀(bs:List Nat) (now n p:Nat) (out:List Nat),(cD bs now n p out).2.2≠0->cD bs now n p out=([],0,(cD bs now n p out).2.2)
 | bs,now,0,p,out=>by
   rw[iw]
   exact fun h=>absurd rfl h
 | [],now,n+1,p,out=>by
   by_cases h:now<1\/20<now
   ·rw[jB _ _ _ _ _ h]
    exact fun _=>rfl
   ·rw[lD _ _ _ _ h]
    exact fun _=>rfl
 | b :: bs,now,n+1,p,out=>by
   by_cases h:now<1\/20<now
   ·rw[jB _ _ _ _ _ h]
    exact fun _=>rfl
   ·by_cases hb:b=0
    ·subst hb
     rw[kd _ _ _ _ _ h]
     exact nw bs now n (p+1) (out++ [now])
    ·match bs with
     | []=>
       rw[nV _ _ _ _ _ h hb]
       exact fun _=>rfl
     | d :: bs=>
       rw[ix _ _ _ _ _ _ _ h hb]
       exact nw bs _ (n+1) (p+2) out
 termination_by bs=>bs.length
theorem qR(w:World)(s:ByteArray)(at' n:Int)(hs:s.size<=2000000):Calls prog 168 #[.string s,.int .i64 at',.int .i64 n] w (cn w (aN (ao s.data.toList) at' n)):=by
 have hl:(ao s.data.toList).length=8*s.size:=aC _;by_cases h1:at'<0\/8*(s.size:Int)<at';·rw[aN,Nf];exact Ai w s at' n hs h1
 ·by_cases hn:2<=n/\n<=258
  ·obtain⟨a,rfl⟩:∃a:Nat,at'=a:=⟨at'.toNat,by omega⟩;obtain⟨m,rfl⟩:∃m:Nat,n=m:=⟨n.toNat,by omega⟩;have h0:=vN (ao s.data.toList) a m;rw[hl]at h0;(have he:aN (ao s.data.toList) (a:Int) (m:Int)=if 8*s.size<a+5 then([],0,10)else cD ((ao s.data.toList).drop (a+5)) (val (((ao s.data.toList).drop a).take 5)) m (a+5) []:=by rw[aN,Nd,hl];rfl);refine CL w s a m _ hs (by omega) (by omega) (by omega) ⟨by omega,h0.2.2⟩ ?_ ?_
   ·rw[he];by_cases h5:8*s.size<a+5;·rw[Nf h5];exact fun _=>rfl
    ·rw[Nd h5];exact nw _ _ _ _ _
   ·intro w1 p hR;rw[he];by_cases h5:8*s.size<a+5;·rw[Nf h5];exact DL p w1 p s a m hR hs (by omega) h5
    ·rw[Nd h5];exact Kb p w1 p s a m hR hs (by omega) (by omega) (by omega)
  ·rw[aN,Nf];exact CK w s at' n hs (by omega) (by omega) hn
