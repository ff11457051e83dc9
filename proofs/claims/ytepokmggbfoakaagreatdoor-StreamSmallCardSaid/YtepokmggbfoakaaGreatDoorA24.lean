import Derived.Test.YtepokmggbfoakaaGreatDoorA06
import Derived.Test.YtepokmggbfoakaaGreatDoorA23
import Derived.WalkMore
set_option maxHeartbeats 3200000
set_option maxRecDepth 100000
namespace Go.Proofs.YtepokmggbfoakaaGreatDoor.S10
open Go.RowKit
theorem eR(w:World)(n:Int):Calls Tryz.prog 158 #[.int .i64 n] w fun e w'=>e=.returned (.bool (decide (2≤n∧n≤258)))∧w=w':=by
 by_cases h1:2≤n
 ·by_cases h2:n≤258;·have d1:decide (n≤(258:Int))=true:=L8 h2;have hd:decide (2≤n∧n≤258)=true:=L8 ⟨h1,h2⟩;go_enter Tryz.func158,Tryz.ntmps158;go_wp2_with fail;go_ret;first | exact⟨rfl,rfl⟩ | (rw [hd];exact⟨rfl,rfl⟩)
  ·have d1:decide (n≤(258:Int))=false:=L7 h2;have hd:decide (2≤n∧n≤258)=false:=aN (by omega);go_enter Tryz.func158,Tryz.ntmps158;go_wp2_with fail;go_ret;first | exact⟨rfl,rfl⟩ | (rw [hd];exact⟨rfl,rfl⟩)
 ·have hd:decide (2≤n∧n≤258)=false:=aN (by omega);go_enter Tryz.func158,Tryz.ntmps158;go_wp2_with fail;go_ret;first | exact⟨rfl,rfl⟩ | (rw [hd];exact⟨rfl,rfl⟩)
theorem wt(w:World)(n:Int):Calls Tryz.prog 160 #[.int .i64 n] w fun e w'=>e=.returned (.bool (decide (n<1∨20<n)))∧w=w':=by
 by_cases h1:n<1;·have hd:decide (n<1∨20<n)=true:=L8 (.inl h1);go_enter Tryz.func160,Tryz.ntmps160;go_wp2_with fail;go_ret;first | exact⟨rfl,rfl⟩ | (rw [hd];exact⟨rfl,rfl⟩)
 ·by_cases h2:20<n;·have hd:decide (n<1∨20<n)=true:=L8 (.inr h2);go_enter Tryz.func160,Tryz.ntmps160;go_wp2_with fail;go_ret;first | exact⟨rfl,rfl⟩ | (rw [hd];exact⟨rfl,rfl⟩)
  ·have hd:decide (n<1∨20<n)=false:=aN (by omega);go_enter Tryz.func160,Tryz.ntmps160;go_wp2_with fail;go_ret;first | exact⟨rfl,rfl⟩ | (rw [hd];exact⟨rfl,rfl⟩)
abbrev JO:Value:=.func (.func 160) #[] #[]
def nZ(L:List Int):Prop:=∃x∈L,x<1∨20<x
instance (L:List Int):Decidable (nZ L):=inferInstanceAs (Decidable (∃ x∈L,_))
theorem pV(w:World)(A:Option Addr)(n c:Nat)(L:List Int)(hz:ZIn w A n L)(hn:n≤1000000):Calls Tryz.prog 208 #[.slice A n c,JO] w fun e w'=>∃k:Int,e=.returned (.int .i64 k)∧(0≤k↔nZ L)∧Below w.heap.size w w':=by
 have HL:=aa hz;have h3:=aa hz.1;have HW:=aa wt;clear hz;go_enter Tryz.func208,Tryz.ntmps208;go_wp2_with fail;go_loopw [5,8] (fun s5 x wx=>∃i:Nat,i≤n∧x=.int .i64 i∧Hid (¬ nZ (L.take i))∧wx=w) (fun _ x _=>n - (intOf x).toNat)
 case atStart=>refine⟨0,LY _,rfl,aa ?_,rfl⟩;rintro⟨x,hx,_⟩;cases hx
 case round=>
  obtain⟨i,hi,rfl,h6,rfl⟩:=hrel;by_cases e:i<n
  ·obtain⟨b,off,rfl,hc⟩:=HL.out.2 (by omega);have h8:=hc i e;have h4:=uW L i (by rw[h3.out];exact e);obtain⟨x,hx⟩:∃x,x=L.getD i 0:=⟨_,rfl⟩;rw[← hx]at h8 h4;have h7:=aa h4;have HX:=aa hx;clear hc hx h4;go_wp2_with fail;refine(HW.out _ x).mono ?_;rintro e w1 ⟨rfl,rfl⟩;by_cases hb:x<1∨20<x;·rw[L8 hb];have h2:=aa hb;clear hb;go_wp2_with fail;go_ret;refine⟨i,rfl,⟨fun _=>⟨x,?_,h2.out⟩,fun _=>by omega⟩,L6 _ _⟩;rw[HX.out];exact rF (by rw[h3.out];exact e)
   ·rw[L7 hb];have h2:=aa hb;clear hb;go_wp2_with fail;go_roundw;case rel=>
     refine⟨i+1,by omega,by go_num,aa ?_,trivial⟩;rw[h7.out];rintro⟨y,hy,h5⟩;rcases List.mem_append.1 hy with hy | hy;·exact h6.out ⟨y,hy,h5⟩
     ·rw[List.mem_singleton.1 hy]at h5;exact h2.out h5
    case measure=>simp[intOf];omega
  ·obtain rfl:i=n:=(by omega);have h0:¬nZ L:=(by have h:=h6.out;rw[Mh (Nr h3.out)]at h;exact h);have h1:=aa h0;clear h0;go_wp2_with fail;go_ret;exact⟨-1,rfl,⟨fun h=>absurd h (by omega),fun h=>absurd h h1.out⟩,L6 _ _⟩
theorem ou(w:World)(A:Option Addr)(n c:Nat)(L:List Int)(hz:ZIn w A n L)(hn:n≤1000000):Calls Tryz.prog 159 #[.slice A n c,JO] w fun e w'=>e=.returned (.bool (decide (nZ L)))∧Below w.heap.size w w':=by
 have HI:=aa (pV w A n c L hz hn);clear hz;go_enter Tryz.func159,Tryz.ntmps159;go_wp2_with fail;refine HI.out.mono ?_;rintro e w1 ⟨k,rfl,hk,hb⟩;have HB:=aa hb;by_cases h:nZ L;·have d0:decide ((0:Int)≤k)=true:=L8 (hk.2 h);have HD:=aa (L8 h);clear hb hk h;go_wp2_with fail;go_ret;rw[HD.out];exact⟨rfl,HB.out⟩
 ·have d0:decide ((0:Int)≤k)=false:=L7 fun h1=>h (hk.1 h1);have HD:=aa (L7 h);clear hb hk h;go_wp2_with fail;go_ret;rw[HD.out];exact⟨rfl,HB.out⟩
theorem DY(B:Nat)(w:World)(p:Nat)(v:Value)(L:List Nat)(q:Nat)(h:IsW B w p v L)(hL:L.length≤1000000000000)(hq:q<4):Calls Tryz.prog 60 #[.pointer (some ⟨p,0,none⟩),.int .u64 q,.int .i64 2] w fun e w'=>e=.returned (.int .i64 0)∧∃v',IsW B w' p v' (L++aj q 2)∧Below B w w':=
 (eV B w p v L q 2 h hL (by omega) hq).mono fun _ _ ⟨he,v',hW,hs⟩=>⟨he,v',hW,hs.below⟩
theorem Km(B:Nat)(w:World)(p:Nat)(v:Value)(L:List Nat)(h:IsW B w p v L)(hL:L.length≤1000000000000):Calls Tryz.prog 60 #[.pointer (some ⟨p,0,none⟩),.int .u64 0,.int .i64 1] w fun e w'=>e=.returned (.int .i64 0)∧∃v',IsW B w' p v' (L++ [0])∧Below B w w':=
 (eV B w p v L 0 1 h hL (by omega) (by decide)).mono fun _ _ ⟨he,v',hW,hs⟩=>⟨he,v',hW,hs.below⟩
theorem JF(B:Nat)(w:World)(p:Nat)(v:Value)(L:List Nat)(a x:Nat)(hW:IsW B w p v L)(hL:L.length≤1000000)(ha:a≤20)(hx:x≤20):Calls Tryz.prog 161 #[.pointer (some ⟨p,0,none⟩),.int .i64 a,.int .i64 x] w fun e w'=>e=.returned (.tuple #[])∧∃v',IsW B w' p v' (L++gj a x)∧Below B w w':=by
 have HW:=aa hW;have hh:=aa fun(w1:World) (v1:Value) (j:Nat) (h:IsW B w1 p v1 (L++ups j)) (hj:j≤20)=>DY B w1 p v1 _ 2 h (by rw[LR,jF];omega) (by omega);have hf:=aa fun(w1:World) (v1:Value) (j:Nat) (h:IsW B w1 p v1 (L++ups (x - a)++ie j)) (hj:j≤20)=>DY B w1 p v1 _ 3 h (by rw[LR,LR,jF,iN];omega) (by omega);have hg:=aa fun(w1:World) (v1:Value) (h:IsW B w1 p v1 (L++ups (x - a)++ie (a - x)))=>Km B w1 p v1 _ h (by rw[LR,LR,jF,iN];omega);clear hW;go_enter Tryz.func161,Tryz.ntmps161;go_wp2_with fail;go_loopw [1] (fun f wx=>∃(j:Nat) (v':Value),j≤x - a∧f=.int .i64 (a+j:Nat)∧IsW B wx p v' (L++ups j)∧Below B w wx) (fun f _=>x - (intOf f).toNat)
 case atStart=>exact⟨0,v,LY _,rfl,by rw[show L++ups 0=L from Mv L];exact HW.out,L6 _ _⟩
 case round=>
  obtain⟨j,v1,hj,rfl,h7,h9⟩:=hrel;by_cases e:a+j<x
  ·have d0:decide (((a+j:Nat):Int)<(x:Int))=true:=bD (by omega);have HC:=aa (hh.out wr v1 j h7 (by omega));have HB:=aa h9;clear h7 h9;obtain⟨m,hm⟩:∃m,m=a+j:=⟨_,rfl⟩;rw[← hm]at d0 e ⊢;have HM:=aa hm;clear hm;go_wp2_with fail;refine HC.out.mono ?_;rintro e w2 ⟨rfl,v2,h0,h3⟩;have h5:=aa h0;have h4:=aa (HB.out.trans h3);clear h0 h3;go_wp2_with fail;go_roundw;case rel=>have:=HM.out;refine⟨j+1,v2,by omega,by rw[this];go_num,?_,h4.out⟩;rw[AT,←LZ];exact h5.out
   case measure=>simp[intOf];omega
  ·have d0:decide (((a+j:Nat):Int)<(x:Int))=false:=aN (by omega);obtain rfl:j=x - a:=(by omega);obtain⟨m,hm⟩:∃m,m=a+(x - a):=⟨_,rfl⟩;have h6:m=max a x:=(by omega);rw[← hm]at d0 ⊢;have hc:=aa h6;have hi:=aa h7;have he:=aa h9;have e1:¬m<x:=(by omega);clear hm h6 h7 h9 hj e;go_wp2_with fail;(go_loopw [1] (fun f wx=>∃(j m':Nat) (v':Value),j≤a - x∧m'+j=m∧f=.int .i64 (m':Nat)∧IsW B wx p v' (L++ups (x - a)++ie j)∧Below B w wx) (fun f _=>(intOf f).toNat));case atStart=>exact⟨0,m,v1,LY _,rfl,rfl,by rw[show L++ups (x - a)++ie 0=L++ups (x - a)from Mv _];exact hi.out,he.out⟩
   case round=>
    obtain⟨j,k,v3,hj,hk,rfl,h8,hb⟩:=hrel;have h6:=hc.out;by_cases e2:x<k
    ·have HC:=aa (hf.out wr v3 j h8 (by omega));have HB:=aa hb;have HK:=aa hk;obtain⟨q,hq⟩:∃q,q+1=k:=⟨k - 1,by omega⟩;have hl:(k:Int) - 1=(q:Int):=(by omega);have hn:q≤40:=(by omega);have HQ:=aa hq;clear h8 hb hk h6 hq;go_wp2_with fail;refine HC.out.mono ?_;rintro e w2 ⟨rfl,v2,h0,h3⟩;have h5:=aa h0;have h4:=aa (HB.out.trans h3);clear h0 h3;go_wp2_with fail;go_roundw;case rel=>have h1:=HK.out;have h2:=hc.out;refine⟨j+1,q,v2,by omega,by omega,by go_num,?_,h4.out⟩;rw[sQ,←LZ];exact h5.out
     case measure=>simp[intOf];omega
    ·obtain rfl:j=a - x:=(by omega);have HC:=aa (hg.out wr v3 h8);have HB:=aa hb;clear h8 hb hk h6 hj;go_wp2_with fail;refine HC.out.mono ?_;rintro e w2 ⟨rfl,v2,h0,h3⟩;have h5:=aa h0;have h4:=aa (HB.out.trans h3);clear h0 h3;go_wp2_with fail;(try simp only[Exit.inBlock,Exit.then]);(go_end0);refine⟨rfl,v2,?_,h4.out⟩;rw[show gj a x=ups (x - a)++ie (a - x)++ [0]from rfl,←LZ,←LZ];exact h5.out
theorem i7{B:Nat}{w w':World}{g:Nat}{t:TypeId}{cs:Array Value}(h:Below B w w')(hb:Blk w g t cs)(hg:g<B):Blk w' g t cs:=(h.block g hg).trans hb
theorem EP(w:World)(A:Option Addr)(n c:Nat)(L:List Int)(_hz:ZIn w A n L)(_hn:n≤maxLen)(h:¬(2≤(n:Int)∧(n:Int)≤258)):Calls Tryz.prog 104 #[.slice A n c] w (aS w ([],80)):=by
 unfold maxLen at _hn;have h0:Blk (w.alloc (.cells #[.string ⟨#[]⟩,.int .i64 0] 43)) w.heap.size 43 #[.string ⟨#[]⟩,.int .i64 0]:=ah w 43 _;have h1:Below w.heap.size w (w.alloc (.cells #[.string ⟨#[]⟩,.int .i64 0] 43)):=(L6 _ _).alloc (ag _) _;have HE:=aa (eR (w.alloc (.cells #[.string ⟨#[]⟩,.int .i64 0] 43)) n);rw[L7 h]at HE;have HB:=aa h1;have q0:=ac h0 0;have q1:=ac h0 1;have f0:=ae h0 0;have f1:=ae h0 1;simp at q0 q1;clear h0 h1 h;go_enter Tryz.func104,Tryz.ntmps104;go_wp2_with fail;refine HE.out.mono ?_;rintro e w1 ⟨rfl,rfl⟩;go_wp2_with fail;refine Mm (v:=.tuple #[.agg #[.string ⟨#[]⟩,.int .i64 0],.int .i64 80]) ?_ rfl ?_;·simp[results,Tryz.results104,go_sem]
 ·first | exact⟨rfl,HB.out⟩ | exact⟨rfl,(HB.out.setCell (p:=⟨w.heap.size,0,none⟩) (ag _) _).setCell (p:=⟨w.heap.size,1,none⟩) (ag _) _⟩
theorem vt(w:World)(A:Option Addr)(n c:Nat)(L:List Int)(hz:ZIn w A n L)(h:2≤(n:Int)∧(n:Int)≤258)(h0:nZ L):Calls Tryz.prog 104 #[.slice A n c] w (aS w ([],80)):=by
 have h4:Blk (w.alloc (.cells #[.string ⟨#[]⟩,.int .i64 0] 43)) w.heap.size 43 #[.string ⟨#[]⟩,.int .i64 0]:=ah w 43 _;have h1:Below w.heap.size w (w.alloc (.cells #[.string ⟨#[]⟩,.int .i64 0] 43)):=(L6 _ _).alloc (ag _) _;have HE:=aa (eR (w.alloc (.cells #[.string ⟨#[]⟩,.int .i64 0] 43)) n);rw[L8 h]at HE;have HC:=aa (ou (w.alloc (.cells #[.string ⟨#[]⟩,.int .i64 0] 43)) A n c L (hz.below h1) (by omega));rw[L8 h0]at HC;have HB:=aa h1;have HK:=aa h4;clear h4 h1 hz h h0;go_enter Tryz.func104,Tryz.ntmps104;go_wp2_with fail;refine HE.out.mono ?_;rintro e w1 ⟨rfl,rfl⟩;go_wp2_with fail;refine HC.out.mono ?_;rintro e w2 ⟨rfl,h2⟩;have hk:=aP h2 HK.out;have h3:Below w.heap.size w w2:=HB.out.trans (h2.mono (by simp));have q0:w2.cell? ⟨w.heap.size,0,none⟩=some (.string ⟨#[]⟩):=ac hk 0;have q1:w2.cell? ⟨w.heap.size,1,none⟩=some (.int .i64 0):=ac hk 1;have f0:=ae hk 0;have f1:=ae hk 1;have h5:=aa h3;clear h2 hk h3;go_wp2_with fail;refine Mm (v:=.tuple #[.agg #[.string ⟨#[]⟩,.int .i64 0],.int .i64 80]) ?_ rfl ?_;·simp[results,Tryz.results104,go_sem,q0,q1]
 ·exact⟨rfl,(h5.out.setCell (p:=⟨w.heap.size,0,none⟩) (ag _) _).setCell (p:=⟨w.heap.size,1,none⟩) (ag _) _⟩
theorem Hz(w:World)(A:Option Addr)(n c:Nat)(L:List Int)(hz:ZIn w A n L)(h:DOk L):Calls Tryz.prog 104 #[.slice A n c] w (aS w (aZ (nl L),0)):=by
 have H0:=hz.1;obtain⟨l,hl⟩:∃l,l=nl L:=⟨_,rfl⟩;have hZ:l.length=n:=by rw[hl,bV];exact H0
 have ht:∀j,j<n→1≤l.getD j 0∧l.getD j 0≤20:=by intro j hj;rw[hl];exact DH h _ (rJ (by rw[bV];omega))
 have hr:∀j,j<n→L.getD j 0=(l.getD j 0:Nat):=by intro j hj;have h1:=h.2.2 _ (rF (L:=L) (j:=j) (by omega));rw[hl,tI,OX (by omega)]
 have H2:¬nZ L:=by rintro⟨x,hx,HR⟩;have:=h.2.2 x hx;omega
 have HX:2≤n:=by have:=h.1;omega
 have H1:n≤258:=by have:=h.2.1;omega
 rw[← hl];have hV:Blk (w.alloc (.cells #[.string ⟨#[]⟩,.int .i64 0] 43)) w.heap.size 43 #[.string ⟨#[]⟩,.int .i64 0]:=ah w 43 _;have hy:Below w.heap.size w (w.alloc (.cells #[.string ⟨#[]⟩,.int .i64 0] 43)):=(L6 _ _).alloc (ag _) _;have HE:=aa (eR (w.alloc (.cells #[.string ⟨#[]⟩,.int .i64 0] 43)) n);rw[L8 (show 2≤(n:Int)∧(n:Int)≤258 by omega)]at HE;have HC:=aa (ou (w.alloc (.cells #[.string ⟨#[]⟩,.int .i64 0] 43)) A n c L (hz.below hy) (by omega));rw[L7 H2]at HC;have HB:=aa hy;have HK:=aa hV;have HZ:=aa hz;have HG:=aa hr;have hv:=aa ht;have HV:=aa hZ;have H3:∀i,i<n→bE (l.getD 0 0) (l.take (i+1))=bE (l.getD 0 0) (l.take i)++gj (nu l i) (l.getD i 0):=fun i hi=>AA (by omega);have HI:=aa H3;have h6:∀i,i≤n→(aj (l.getD 0 0) 5++bE (l.getD 0 0) (l.take i)).length≤20000:=by
  intro i hi
  have h1:=uh (l.take i) (l.getD 0 0) (ht 0 (by omega)).2 (fun x hx=>by
   obtain⟨j,hj,rfl⟩:=List.mem_iff_getElem.1 (NO hx)
   have:=(ht j (by omega)).2
   rw[LU,LV hj]at this
   exact this)
  rw[LR,af,kp];have h2:(l.take i).length≤258:=by rw[Mj];omega
  omega
 have HD:=aa h6;have hq:aZ l=aj (l.getD 0 0) 5++bE (l.getD 0 0) (l.take n):=by rw[Mh (by omega)];rfl
 have HF:=aa hq;have hP:∀i,nu l (i+1)=l.getD i 0:=fun i=>rfl;have H4:=aa hP;have ho:nu l 0=l.getD 0 0:=rfl;have hw:=aa ho;have hh:=aa JF;clear hV hy hz hr ht hZ H3 h6 hq hP ho H2 h hl H0;go_enter Tryz.func104,Tryz.ntmps104;go_wp2_with fail;refine HE.out.mono ?_;rintro e w1 ⟨rfl,rfl⟩;go_wp2_with fail;refine HC.out.mono ?_;rintro e w2 ⟨rfl,hB⟩;have hE:=aP hB HK.out;have hQ:Below w.heap.size w w2:=HB.out.trans (hB.mono (by simp));have hJ:=aa hE;have hH:=aa hQ;have h8:w.heap.size<w2.heap.size:=aB hE;clear hB hE hQ HB HK HE HC;go_upto_region 4 with(go_at_call 55;refine(Cu w2).mono ?_;rintro e w3 ⟨rfl,hs⟩;have hn:=aa hs;clear hs)
 have hG:=hn.out;clear hn;have hC:Below w2.heap.size w2 w3:=b9 hG;obtain⟨p,hp⟩:∃p,p=w2.heap.size:=⟨_,rfl⟩;have hM:IsW p w3 p (.slice none 0 0) []:=by rw[hG,hp];exact ly w2 _ (ag _)
 have hX:=i7 hC hJ.out h8;have h5:Below w.heap.size w w3:=hH.out.trans (hC.mono (MB h8));rw[← hp]at h8 ⊢;have HU:=HZ.out.below h5;obtain⟨b,off,hA,hc⟩:=HZ.out.2 (by omega);subst hA;have h3:∀(wx:World),Below w.heap.size w wx→∀i,i<n→wx.cell? ⟨b,off+i,none⟩=some (.int .i64 (l.getD i 0:Nat)):=by
  intro wx HO i hi;obtain⟨b',off',hA,HP⟩:=(HZ.out.below HO).2 (by omega);injection hA with hA
  injection hA with h1 h2
  subst h1 h2;rw[HP i hi,HG.out i hi]
 have h9:=aa h3;have hR:w3.cell? ⟨b,off,none⟩=some (.int .i64 (l.getD 0 0:Nat)):=h3 w3 h5 0 (by omega);obtain⟨x0,hu⟩:∃x0,x0=l.getD 0 0:=⟨_,rfl⟩;have h7:1≤x0∧x0≤20:=by rw[hu];exact hv.out 0 (by omega)
 have HY:=h7.1;have HR:=h7.2;rw[← hu]at hR;have hL:=aa hu;have hK:=aa hX;have hI:=aa h5;have HW:(0:Int)<(n:Int):=by omega
 have hf:=aa (eV p w3 p _ [] x0 5 hM (by simp) (by omega) (by show x0<32;omega));clear hG hC hp hM hX h5 hc h3 hu h7 HU hJ hH;go_wp2_with fail;refine hf.out.mono ?_;rintro e w4 ⟨rfl,v4,hN,hF⟩;have hY:=i7 hF.below hK.out h8;have H7:=aa hY;have H5:=aa (hI.out.trans (hF.below.mono (MB h8)));have HJ:=aa hN;clear hN hF hY hK hI hf hR;go_wp2_with fail;go_loopw [5,7,27] (fun a5 a7 x wx=>∃(i:Nat) (v:Value),i≤n∧x=.int .i64 i∧a5=.int .i64 (nu l i:Nat)∧IsW p wx p v (aj (l.getD 0 0) 5++bE (l.getD 0 0) (l.take i))∧Blk wx w.heap.size 43 #[.string ⟨#[]⟩,.int .i64 0]∧Below w.heap.size w wx) (fun _ _ x _=>n - (intOf x).toNat)
 case atStart=>refine⟨0,v4,LY _,rfl,by rw[hw.out,←hL.out],?_,H7.out,H5.out⟩;have h1:=HJ.out;rw[hL.out]at h1;rw[OJ];show IsW p w4 p v4 (aj (l.getD 0 0) 5++ []);rw[Mv];exact h1
 case round=>
  obtain⟨i,v,hi,rfl,rfl,hW,hk,hb⟩:=hrel;by_cases e:i<n
  ·have HQ:=h9.out wr hb i e;have h0:=HI.out i e;obtain⟨x,hx⟩:∃x,x=l.getD i 0:=⟨_,rfl⟩;have HS:x≤20:=(by rw[hx];exact(hv.out i e).2);obtain⟨a,ha⟩:∃a,a=nu l i:=⟨_,rfl⟩;have HN:a≤20:=(by rw[ha];exact(hv.out (i - 1) (by omega)).2);have h4:=H4.out i;rw[← hx]at HQ h0 h4;rw[← ha]at h0 ⊢;have HT:=aa (hh.out p wr p v _ a x hW (Mk (HD.out i hi) (by omega)) HN HS);have hg:=aa h0;have he:=aa h4;have HK:=aa hk;have HB:=aa hb;clear hW hk hb hx ha h0 h4;go_wp2_with fail;refine HT.out.mono ?_;rintro e w5 ⟨rfl,v5,hO,hD⟩;have HL:=aa hO;have H8:=aa (i7 hD HK.out h8);have H6:=aa (HB.out.trans (hD.mono (MB h8)));clear hO hD;go_wp2_with fail;go_roundw;case rel=>refine⟨i+1,v5,by omega,by go_num,by rw[he.out],?_,H8.out,H6.out⟩;rw[hg.out,←LZ];exact HL.out
   case measure=>simp[intOf];omega
  ·obtain rfl:i=n:=(by omega);rw[← HF.out]at hW;obtain⟨S,hS⟩:∃S:ByteArray,S=⟨(pack (aZ l)).toArray⟩:=⟨_,rfl⟩;have hT:=gU p wr p v (aZ l) hW;rw[← hS]at hT;have HT:=aa hT;have HH:=aa hS;obtain⟨m,hm⟩:∃m,m=(aZ l).length:=⟨_,rfl⟩;have c0:=ac hW.blk 0;have c2:=ac hW.blk 2;simp at c0 c2;have HM:=aa hm;rw[← hm]at c2;have HA:=aa (jG wr p m c0 c2);have q0:wr.cell? ⟨w.heap.size,0,none⟩=some (.string ⟨#[]⟩):=ac hk 0;have q1:wr.cell? ⟨w.heap.size,1,none⟩=some (.int .i64 0):=ac hk 1;have f0:=ae hk 0;have f1:=ae hk 1;have HB:=aa hb;clear hW hk hb hS hm c0 c2 hT;go_wp2_with fail;refine HT.out.mono ?_;rintro e w8 ⟨rfl,rfl⟩;go_wp2_with fail;refine HA.out.mono ?_;rintro e w8 ⟨rfl,rfl⟩;go_wp2_with fail;refine Mm (v:=.tuple #[.agg #[.string S,.int .i64 m],.int .i64 0]) ?_ rfl ?_;·simp[results,Tryz.results104,go_sem,q0,q1]
   ·exact⟨by rw[HH.out,HM.out];rfl,(HB.out.setCell (p:=⟨w.heap.size,0,none⟩) (ag _) _).setCell (p:=⟨w.heap.size,1,none⟩) (ag _) _⟩
theorem pN(w:World)(A:Option Addr)(n c:Nat)(L:List Int)(hz:ZIn w A n L)(hn:n≤maxLen):Calls Tryz.prog 104 #[.slice A n c] w (aS w (jV L)):=by
 by_cases h:2≤(n:Int)∧(n:Int)≤258
 ·by_cases hb:nZ L
  ·rw[jV,LW];·exact vt w A n c L hz h hb
   ·intro h0;obtain⟨x,hx,h3⟩:=hb;have:=h0.2.2 x hx;omega
  ·have h0:DOk L:=by
    refine⟨by have:=hz.1;omega,by have:=hz.1;omega,fun x hx=> ?_⟩;by_cases h1:x<1∨20<x;·exact absurd ⟨x,hx,h1⟩ hb
    ·omega
   rw[jV,LX h0];exact Hz w A n c L hz h0
 ·rw[jV,LW];·exact EP w A n c L hz hn h
  ·intro h0;have h1:=h0.1;have h2:=h0.2.1;have:=hz.1;omega
theorem rQ(l:List Nat)(k:Nat)(h:k<l.length):val ((l.drop k).take 1)=l.getD k 0:=by have:=mK l k 0 (by omega);rw[this,OJ];show 2*0+_=_;rw[Nat.mul_zero,MG,MM]
theorem pe(B:Nat)(w:World)(p:Nat)(s:ByteArray)(k:Nat)(hR:IsR B w p s k)(hs:s.size≤281474976710656)(h0:k<8*s.size):Calls Tryz.prog 36 #[.pointer (some ⟨p,0,none⟩),.int .i64 1] w fun e w'=>e=.returned (.tuple #[.int .u64 ((ai s.data.toList).getD k 0:Nat),.int .i64 0])∧IsR B w' p s (k+1)∧ak B [p] [] w w':=by have h:=fA B w p s k 1 hR hs (by omega) (by omega);rw[rQ _ k (by rw[aw];exact h0)]at h;exact h
theorem AG(B:Nat)(w:World)(p:Nat)(s:ByteArray)(k:Nat)(hR:IsR B w p s k)(hs:s.size≤281474976710656)(h0:k=8*s.size):Calls Tryz.prog 36 #[.pointer (some ⟨p,0,none⟩),.int .i64 1] w fun e w'=>e=.returned (.tuple #[.int .u64 0,.int .i64 10])∧IsR B w' p s k∧ak B [p] [] w w':=
 dL B w p s k 1 hR hs (by omega) (by omega) (by omega)
abbrev LJ (br:Nat):Value:=.func (.func 299) #[] #[.pointer (some ⟨br,0,none⟩)]
theorem Az(w:World)(p:Nat):Calls Tryz.prog 294 #[.pointer (some ⟨p,0,none⟩)] w fun e w'=>e=.returned (LJ w.heap.size)∧w'=w.alloc (.cells #[.pointer (some ⟨p,0,none⟩)] 71):=by go_enter Tryz.func294,Tryz.ntmps294;go_wp2_with fail;go_ret;exact⟨rfl,rfl⟩
def oc(B:Nat)(w:World)(p:Nat)(s:ByteArray)(st:Int)(er k:Nat)(e:Ending)(w':World):Prop:=
 e=.returned (.tuple #[.int .i64 st,.int .i64 er])∧IsR B w' p s k∧ak B [p] [] w w'
section
variable (B:Nat) (w:World) (p br:Nat) (s:ByteArray) (k:Nat)
theorem Gq(hR:IsR B w p s k)(hs:s.size≤281474976710656)(hb:Blk w br 71 #[.pointer (some ⟨p,0,none⟩)])(h:k=8*s.size):Calls Tryz.prog 299 #[.pointer (some ⟨br,0,none⟩)] w (oc B w p s 0 10 k):=by have HT:=aa (AG B w p s k hR hs h);have c0:=ac hb 0;simp at c0;clear hR hb h;go_enter Tryz.func299,Tryz.ntmps299;go_wp2_with fail;refine HT.out.mono ?_;rintro e w1 ⟨rfl,h0,h1⟩;have h2:=aa h0;have h3:=aa h1;clear h0 h1;go_wp2_with fail;go_ret2;exact⟨rfl,h2.out,h3.out⟩
theorem Gr(hR:IsR B w p s k)(hs:s.size≤281474976710656)(hb:Blk w br 71 #[.pointer (some ⟨p,0,none⟩)])(h:k<8*s.size)(h0:(ai s.data.toList).getD k 0=0):Calls Tryz.prog 299 #[.pointer (some ⟨br,0,none⟩)] w (oc B w p s 0 0 (k+1)):=by have ht:=pe B w p s k hR hs h;rw[h0]at ht;have HT:=aa ht;have c0:=ac hb 0;simp at c0;clear hR hb h ht h0;go_enter Tryz.func299,Tryz.ntmps299;go_wp2_with fail;refine HT.out.mono ?_;rintro e w1 ⟨rfl,h1,h2⟩;have h3:=aa h1;have h4:=aa h2;clear h1 h2;go_wp2_with fail;go_ret2;exact⟨rfl,h3.out,h4.out⟩
theorem o4{B:Nat}{w w':World}{p br:Nat}{s:ByteArray}{k:Nat}{v:Value}(hR:IsR B w p s k)(hb:Blk w br 71 #[v])(hs:ak B [p] [] w w'):Blk w' br 71 #[v]:=by
 refine hs.blk hb ?_ ay;intro h;rw[List.mem_singleton.1 h]at hb;have h2:=hR.blk;unfold Blk at hb h2;rw[h2]at hb;injection hb with hb
 injection hb with _ h3
 exact absurd h3 (by decide)
theorem Gn(hR:IsR B w p s k)(hs:s.size≤281474976710656)(hb:Blk w br 71 #[.pointer (some ⟨p,0,none⟩)])(h:k+1=8*s.size)(h0:(ai s.data.toList).getD k 0=1):Calls Tryz.prog 299 #[.pointer (some ⟨br,0,none⟩)] w (oc B w p s 0 10 (k+1)):=by have ht:=pe B w p s k hR hs (by omega);rw[h0]at ht;have HT:=aa ht;have h8:=aa fun w1 (h1:IsR B w1 p s (k+1))=>AG B w1 p s (k+1) h1 hs h;have c0:=ac hb 0;simp at c0;have HK:=aa fun w1 (h1:ak B [p] [] w w1)=>o4 hR hb h1;clear hR hb h ht h0;go_enter Tryz.func299,Tryz.ntmps299;go_wp2_with fail;refine HT.out.mono ?_;rintro e w1 ⟨rfl,h3,h2⟩;have c1:=ac (HK.out w1 h2) 0;simp at c1;have h9:=aa (h8.out w1 h3);have h7:=aa h2;clear h3 h2;go_wp2_with fail;refine h9.out.mono ?_;rintro e w2 ⟨rfl,h4,h5⟩;have h6:=aa h4;have HS2:=aa (h7.out.trans h5);clear h4 h5;go_wp2_with fail;go_ret2;exact⟨rfl,h6.out,HS2.out⟩
theorem Gp(d:Nat)(hR:IsR B w p s k)(hs:s.size≤281474976710656)(hb:Blk w br 71 #[.pointer (some ⟨p,0,none⟩)])(h:k+1<8*s.size)(h0:(ai s.data.toList).getD k 0=1)(h1:(ai s.data.toList).getD (k+1) 0=d)(hd:d<2):Calls Tryz.prog 299 #[.pointer (some ⟨br,0,none⟩)] w (oc B w p s (1 - 2*(d:Int)) 0 (k+2)):=by have ht:=pe B w p s k hR hs (by omega);rw[h0]at ht;have HT:=aa ht;have h4:=aa fun w1 (h2:IsR B w1 p s (k+1))=>pe B w1 p s (k+1) h2 hs h;rw[h1]at h4;have c0:=ac hb 0;simp at c0;have HK:=aa fun w1 (h1:ak B [p] [] w w1)=>o4 hR hb h1;clear hR hb h ht h0 h1;go_enter Tryz.func299,Tryz.ntmps299;go_wp2_with fail;refine HT.out.mono ?_;rintro e w1 ⟨rfl,h5,h3⟩;have c1:=ac (HK.out w1 h3) 0;simp at c1;have ha:=aa (h4.out w1 h5);have h9:=aa h3;clear h5 h3;go_wp2_with fail;refine ha.out.mono ?_;rintro e w2 ⟨rfl,h6,h7⟩;have h8:=aa h6;have HS2:=aa (h9.out.trans h7);clear h6 h7;go_wp2_with fail;go_ret2;exact⟨rfl,h8.out,HS2.out⟩
end
def J6(w:World)(p:Nat):Nat:=match w.cell? ⟨p,2,none⟩with | some (.int .i64 k)=>k.toNat | _=>0
theorem ry{B:Nat}{w:World}{p:Nat}{s:ByteArray}{k:Nat}(h:IsR B w p s k):J6 w p=k:=by have:=ac h.blk 2;simp at this;simp[J6,this]
def lX(B:Nat)(w:World)(p:Nat)(s:ByteArray)(ans:List Nat×Nat×Nat)(e:Ending)(w':World):Prop:=
 ∃v k,e=.returned (.tuple #[v,.int .i64 ans.2.2])∧w'.ownsRow w.heap.size 3 1 v ans.1.length (ans.1.map iv)∧(ans.2.2=0→k=ans.2.1)∧IsR B w' p s k∧Below B w w'
theorem JB(B:Nat)(w:World)(p:Nat)(s:ByteArray)(k:Nat)(hR:IsR B w p s k)(hs:s.size≤281474976710656)(h0:k+5≤8*s.size):Calls Tryz.prog 36 #[.pointer (some ⟨p,0,none⟩),.int .i64 5] w fun e w'=>e=.returned (.tuple #[.int .u64 (val (((ai s.data.toList).drop k).take 5):Nat),.int .i64 0])∧IsR B w' p s (k+5)∧ak B [p] [] w w':=
 fA B w p s k 5 hR hs (by omega) h0
theorem JA(B:Nat)(w:World)(p:Nat)(s:ByteArray)(k:Nat)(hR:IsR B w p s k)(hs:s.size≤281474976710656)(hk:k≤8*s.size)(h0:8*s.size<k+5):Calls Tryz.prog 36 #[.pointer (some ⟨p,0,none⟩),.int .i64 5] w fun e w'=>e=.returned (.tuple #[.int .u64 0,.int .i64 10])∧IsR B w' p s k∧ak B [p] [] w w':=
 dL B w p s k 5 hR hs (by omega) hk h0
theorem CK(B:Nat)(w:World)(p:Nat)(s:ByteArray)(a n:Nat)(hR:IsR B w p s a)(hs:s.size≤2000000)(ha:a≤8*s.size)(h:8*s.size<a+5):Calls Tryz.prog 277 #[.pointer (some ⟨p,0,none⟩),.int .i64 n] w (lX B w p s ([],0,10)):=by have HT:=aa (JA B w p s a hR (by omega) ha h);clear hR;go_enter Tryz.func277,Tryz.ntmps277;go_wp2_with fail;go_step3;go_wp2_with fail;refine HT.out.mono ?_;rintro e w1 ⟨rfl,h0,h1⟩;have h3:=aa h0;have h2:=aa h1.below;clear h0 h1;go_wp2_with fail;go_ret2;exact⟨_,a,rfl,Ml _ _ _ _,fun h=>absurd h (by decide),h3.out,h2.out⟩
theorem Jc(B:Nat)(w:World)(p:Nat)(s:ByteArray)(a n:Nat)(hR:IsR B w p s a)(hs:s.size≤2000000)(h:a+5≤8*s.size)(r0:2≤n)(r1:n≤258):Calls Tryz.prog 277 #[.pointer (some ⟨p,0,none⟩),.int .i64 n] w (lX B w p s (bj ((ai s.data.toList).drop (a+5)) (val (((ai s.data.toList).drop a).take 5)) n (a+5) [])):=by
 obtain⟨i3,h3,p4,p5,p6⟩:=MT Tryz.info3;have p0:∀w1:World,(Instr.makeSlice 57 (.int .i64 0) (.int .i64 n)).run Tryz.prog w1=.ok (.slice (some ⟨w1.heap.size,0,none⟩) 0 n) (w1.alloc (.cells (madeCells #[.int .i64 0] n) 3)):=by intro w1;have h:=PD (P:=Tryz.prog) w1 57 3 i3 (.int .i64 0) Tryz.underlying57 h3 p4 .i64 .i64 (0:Int) (n:Int) (by omega) (by omega) (by rw[p6];omega) (by omega);rw[p5,L9,MR]at h;exact h
 have pk:=aa p0;have HT:=aa (JB B w p s a hR (by omega) h);have HN:val (((ai s.data.toList).drop a).take 5)<2 ^ 5:=fO _ _ _ _ (aI _) (ag _);have q4:=hR.lo;have q2:=aa wt;have hQ:=aa (show(ai s.data.toList).length=8*s.size from aw _);have HS:=aa (aI s.data.toList);have q0:=aa fun(w1:World) (br k:Nat) (h1:IsR B w1 p s k) h2=>Gq B w1 p br s k h1 (by omega) h2;have q1:=aa fun(w1:World) (br k:Nat) (h1:IsR B w1 p s k) h2=>Gr B w1 p br s k h1 (by omega) h2;have ps:=aa fun(w1:World) (br k:Nat) (h1:IsR B w1 p s k) h2=>Gn B w1 p br s k h1 (by omega) h2;have pv:=aa fun(w1:World) (br k d:Nat) (h1:IsR B w1 p s k) h2=>Gp B w1 p br s k d h1 (by omega) h2;obtain⟨ans,ht⟩:∃ans,ans=bj ((ai s.data.toList).drop (a+5)) (val (((ai s.data.toList).drop a).take 5)) n (a+5) []:=⟨_,rfl⟩;rw[← ht];have hp:∀(v:Value) (k:Nat) (w':World) (er:Nat),w'.ownsRow w.heap.size 3 1 v ans.1.length (ans.1.map iv)→er=ans.2.2→(ans.2.2=0→k=ans.2.1)→IsR B w' p s k→Below B w w'→lX B w p s ans (.returned (.tuple #[v,.int .i64 er])) w':=fun v k w' er h1 h2 h3 h4 h5=>⟨v,k,by rw[h2],h1,h3,h4,h5⟩;have HP:=aa hp;generalize lX B w p s ans=PO at*;obtain⟨x,hx⟩:∃x,x=val (((ai s.data.toList).drop a).take 5):=⟨_,rfl⟩;rw[← hx]at HT ht HN;have ql:x<32:=HN;have hZ:=aa ht;generalize ai s.data.toList=bits at*;clear hR p0 hx ht hp HN;go_enter Tryz.func277,Tryz.ntmps277;go_wp2_with fail;go_step3;go_wp2_with fail;refine HT.out.mono ?_;rintro e w1 ⟨rfl,ha,HJ⟩;have hV:=aa ha;have hy:=aa HJ.below;have HQ:=HJ.size;have hO:=aB ha.blk;clear ha HJ HT;have HU:=aa (Az w1 p);go_wp2_with fail;refine HU.out.mono ?_;rintro e w2 ⟨rfl,hW⟩;obtain⟨br,HA⟩:∃br,br=w1.heap.size:=⟨_,rfl⟩;have HF:Blk w2 br 71 #[.pointer (some ⟨p,0,none⟩)]:=by rw[hW,HA];exact ah w1 _ _
 have HV:IsR B w2 p s (a+5):=by rw[hW];exact hV.out.alloc _
 have hI:Below B w w2:=by rw[hW];exact hy.out.alloc (by omega) _
 have HD:=aB HF;have r2:p<br:=by omega
 have r3:w.heap.size≤br:=by omega
 rw[← HA];have pg:=aa HF;have po:=aa HV;have pb:=aa hI;have HH:=pk.out w2;clear HA hW HF HV hI hV hy HU HQ hO;go_wp2_with fail;go_step3;go_wp2_with fail;clear HH;go_loopw [8,10] (fun f8 f10 wx=>∃(now k:Nat) (o:List Nat),f8=.int .i64 now∧now≤31∧k≤8*s.size∧o.length≤n∧wx.ownsRow w2.heap.size 3 1 f10 o.length (o.map iv)∧bj (bits.drop k) now (n - o.length) k o=ans∧IsR B wx p s k∧Blk wx br 71 #[.pointer (some ⟨p,0,none⟩)]∧Below B w wx∧w2.heap.size≤wx.heap.size) (fun _ _ wx=>8*s.size - J6 wx p)
 case atStart=>have hm:(madeCells #[.int .i64 0] n).size=n*1:=(by simp[madeCells]);have H8:Below w2.heap.size w2 (w2.alloc (.cells (madeCells #[.int .i64 0] n) 3)):=(L6 _ _).alloc (ag _) _;exact⟨x,a+5, [],rfl,by omega,h,LY _,NH w2 (madeCells #[.int .i64 0] n) n (ag _) (by unfold maxLen;omega) hm,hZ.out.symm,po.out.alloc _,i7 H8 pg.out HD,pb.out.trans (H8.mono (by omega)),H8.size⟩
 case round=>
  obtain⟨now,k,o,rfl,HI,hk,q9,hr,HL,hR,HY,hb,qo⟩:=hrel;obtain⟨A0,c0,rfl,q8,q5,q3⟩:=ao hr;clear q3;unfold maxLen at q5;obtain⟨m,hm⟩:∃m,m=o.length:=⟨_,rfl⟩;rw[← hm]at hr q8 q9 HL ⊢;have HW:=ry hR;have p7:=aa HW;have HM:=aa hm;have HB:=aa hb;have H6:=aa HL;have HR:=aa hR;have HK:=aa HY;obtain⟨X,hX⟩:∃X,X=o.map iv:=⟨_,rfl⟩;rw[← hX]at hr;have HX:=aa hX;have HO:=aa hr;clear hX hr hm hb HL hR HY HW;by_cases e:m<n
  ·obtain⟨q,hq⟩:∃q,n - m=q+1:=⟨n - m - 1,by omega⟩;have p2:n - (m+1)=q:=(by omega);rw[hq]at H6;have pm:=aa p2;clear hq p2;go_wp2_with fail;(go_loopw [8,10] (fun f8 f10 wx=>∃(now1 k1:Nat),f10=.slice A0 m c0∧f8=.int .i64 now1∧now1≤31∧k≤k1∧k1≤8*s.size∧bj (bits.drop k1) now1 (q+1) k1 o=ans∧IsR B wx p s k1∧Blk wx br 71 #[.pointer (some ⟨p,0,none⟩)]∧wx.ownsRow w2.heap.size 3 1 (.slice A0 m c0) m X∧Below B w wx∧w2.heap.size≤wx.heap.size) (fun _ _ wx=>8*s.size - J6 wx p));case atStart=>exact⟨now,k,rfl,rfl,HI,L5 _,hk,H6.out,HR.out,HK.out,HO.out,HB.out,qo⟩
   case round=>
    obtain⟨now1,k1,rfl,rfl,p1,qs,qq,hg,ha,h7,h9,hH,hP⟩:=hrel;have hf:=ry ha;have hO:p<wr.heap.size:=aB ha.blk;have H0:=aa hf;have hi:=aa hg;have hD:=aa (q2.out wr now1);have hy:=aa hH;have hS:=aa h9;by_cases hw:(now1:Int)<1∨20<(now1:Int);·rw[L8 hw]at hD;have h8:ans=([],0,80):=(by rw[← hi.out,gQ _ _ _ _ _ (by omega)]);have h6:=aa h8;have hV:=aa ha;clear h8 hw hf hg ha h7 h9 hH;go_wp2_with fail;refine hD.out.mono ?_;rintro e w3 ⟨rfl,rfl⟩;go_wp2_with fail;(try rw[MZ]);(first | go_ret2 | skip);refine HP.out (.slice none 0 0) k1 _ 80 ?_ (by rw[h6.out]) (fun h=>absurd h (by rw[h6.out];decide)) hV.out hy.out;rw[h6.out];exact Ml _ _ _ _
    ·rw[L7 hw]at hD;have hz:¬(now1<1∨20<now1):=(by omega);by_cases hv:k1=8*s.size;·have HC:=aa (q0.out wr br k1 ha h7 hv);have h8:ans=([],0,10):=(by rw[← hi.out,MP (by rw[hQ.out];omega),jf _ _ _ _ hz]);have h6:=aa h8;clear h8 hw hz hf hg ha h7 h9 hH hv;go_wp2_with fail;refine hD.out.mono ?_;rintro e w3 ⟨rfl,rfl⟩;go_wp2_with fail;refine HC.out.mono ?_;rintro e w3 ⟨rfl,hh,he⟩;have hC:=aa hh;have hB:=aa (hy.out.trans he.below);clear hh he;go_wp2_with fail;(try rw[MZ]);(first | go_ret2 | skip);refine HP.out (.slice none 0 0) k1 _ 10 ?_ (by rw[h6.out]) (fun h=>absurd h (by rw[h6.out];decide)) hC.out hB.out;rw[h6.out];exact Ml _ _ _ _
     ·have hM:k1<bits.length:=(by rw[hQ.out];omega);have hJ:=zl hM;have hI:bits.getD k1 0<2:=HS.out _ (rJ hM);by_cases h0:bits.getD k1 0=0
      ·have HC:=aa (q1.out wr br k1 ha h7 (by omega) h0);have hN:bj (bits.drop (k1+1)) now1 q (k1+1) (o++ [now1])=ans:=(by rw[← hi.out,hJ,h0,fJ _ _ _ _ _ hz]);have H5:=aa hN;have H4:=aa fun w3 (h3:ak B [p] [] wr w3)=>o4 ha h7 h3;clear hN hw hz hf hg ha h7 h9 hH h0 hI hJ hM;go_wp2_with fail;refine hD.out.mono ?_;rintro e w3 ⟨rfl,rfl⟩;go_wp2_with fail;refine HC.out.mono ?_;rintro e w3 ⟨rfl,hh,he⟩;have hK:=he.row hS.out (fun j hj=>by have:=(hS.out.lt j hj).1;simp;omega) (by simp);have hY:w2.heap.size≤w3.heap.size:=Mk hP he.size;have hT:=aa hK;have H3:=aa (H4.out w3 he);have hB:=aa (hy.out.trans he.below);have hC:=aa hh;clear hh he hK;(go_wp2_with (at_builtin;refine No _ rfl _ _ 57 rfl w2.heap.size 3 i3 (.int .i64 0) 1 8 Tryz.underlying57 h3 p4 p5 p6 rfl (by decide) _ _ _ rfl (hT.out.alloc _) ⟨w3.heap.size,0,none⟩ 1 1 [.int .i64 now1] rfl rfl ?c1 ?c2 ?c3 ?c4 ?c5 ?_));case c1=>exact cQ _ _ _
       case c2=>intro u hu;simp at hu;subst hu;rfl
       case c3=>unfold maxLen;omega
       case c4=>omega
       case c5=>simp;omega
       intro v4 w4 hA hl _;have hL:Below w2.heap.size w3 w4:=((L6 w2.heap.size w3).alloc hY _).grown hl (by simp;omega) (fun k hk=>(hT.out.lt k hk).1);have pl:=aa hA;have H7:IsR B w4 p s (k1+1):=⟨q4,i7 hL hC.out.blk (by omega)⟩;have H2:=aa (ry H7);have pr:=aa H7;have pj:=aa (i7 hL H3.out (by omega));have pf:=aa (hB.out.trans (hL.mono (by omega)));have qm:w2.heap.size≤w4.heap.size:=Mk hY hL.size;clear hA hl hL H7;go_wp2_with fail;go_roundw;case rel=>refine⟨now1,k1+1,o++ [now1],rfl,by omega,by omega,by rw[LR,←HM.out];exact e,?_,by rw[LR,←HM.out];show bj _ _ (n - (m+1)) _ _=ans;rw[pm.out];exact H5.out,pr.out,pj.out,pf.out,qm⟩;rw[LR,←HM.out,Mw,←HX.out];exact pl.out
       case measure=>rw[H2.out,p7.out];omega
      ·have h1:bits.getD k1 0=1:=(by omega);by_cases hn:k1+1=8*s.size;·have HC:=aa (ps.out wr br k1 ha h7 hn h1);have h8:ans=([],0,10):=(by rw[← hi.out,hJ,h1,MP (by rw[hQ.out];omega),kY _ _ _ _ _ hz (by omega)]);have h6:=aa h8;clear h8 hw hz hf hg ha h7 h9 hH hv hM hJ hI h0 h1 hn;go_wp2_with fail;refine hD.out.mono ?_;rintro e w3 ⟨rfl,rfl⟩;go_wp2_with fail;refine HC.out.mono ?_;rintro e w3 ⟨rfl,hh,he⟩;have hC:=aa hh;have hB:=aa (hy.out.trans he.below);clear hh he;go_wp2_with fail;(try rw[MZ]);(first | go_ret2 | skip);refine HP.out (.slice none 0 0) (k1+1) _ 10 ?_ (by rw[h6.out]) (fun h=>absurd h (by rw[h6.out];decide)) hC.out hB.out;rw[h6.out];exact Ml _ _ _ _
       ·have hF:k1+1<bits.length:=(by rw[hQ.out];omega);have hE:=zl hF;have HE:bits.getD (k1+1) 0<2:=HS.out _ (rJ hF);obtain⟨d,hd⟩:∃d,d=bits.getD (k1+1) 0:=⟨_,rfl⟩;rw[← hd]at HE hE;have hc:=pv.out wr br k1 d ha h7 (by omega) h1 hd.symm HE;(obtain⟨now2,ho⟩:∃now2,now2=if d=0 then now1+1 else now1 - 1:=⟨_,rfl⟩);have hN:bj (bits.drop (k1+2)) now2 (q+1) (k1+2) o=ans:=(by rw[← hi.out,hJ,h1,hE,eY _ _ _ _ _ _ _ hz (by omega),←ho]);obtain⟨st,p3⟩:∃st:Int,st=1 - 2*(d:Int):=⟨_,rfl⟩;rw[← p3]at hc;have qa:(st==0)=false:=(by rw[Mr];omega);have qb:(now1:Int)+st=(now2:Int):=by
         rw[ho];by_cases HZ:d=0;·rw[LX HZ];omega
         ·rw[LW HZ];omega
        have hG:now2≤31:=(by omega);have HC:=aa hc;have H5:=aa hN;have H4:=aa fun w3 (h3:ak B [p] [] wr w3)=>o4 ha h7 h3;have HG:k1+2≤8*s.size:=(by omega);clear hN hc hw hz hf hg ha h7 h9 hH h0 h1 hI hJ hM hF hE HE hd ho p3 hn hv;go_wp2_with fail;refine hD.out.mono ?_;rintro e w3 ⟨rfl,rfl⟩;go_wp2_with fail;refine HC.out.mono ?_;rintro e w3 ⟨rfl,hh,he⟩;have hK:=he.row hS.out (fun j hj=>by have:=(hS.out.lt j hj).1;simp;omega) (by simp);have hY:w2.heap.size≤w3.heap.size:=Mk hP he.size;have hT:=aa hK;have H3:=aa (H4.out w3 he);have hB:=aa (hy.out.trans he.below);have H1:=aa (ry hh);have hC:=aa hh;clear hh he hK;go_wp2_with fail;go_roundw;case rel=>exact⟨now2,k1+2,rfl,by go_num,hG,by omega,HG,H5.out,hC.out,H3.out,hT.out,hB.out,hY⟩
        case measure=>rw[H1.out,H0.out];omega
  ·obtain rfl:m=n:=(by omega);have h8:ans=(o,k,0):=(by rw[← H6.out,Ng,eX]);have h6:=aa h8;clear h8;go_wp2_with fail;(try rw[MZ]);(first | go_ret2 | skip);refine HP.out (.slice A0 m c0) k _ 0 ?_ (by rw[h6.out]) (fun _=>by rw[h6.out]) HR.out HB.out;rw[h6.out];show wr.ownsRow w.heap.size 3 1 (.slice A0 m c0) o.length (o.map iv);rw[← HM.out,←HX.out];exact World.ownsRow.mono HO.out (by omega)
theorem y8(w:World)(s:ByteArray)(at' n:Int)(hs:s.size≤2000000)(h:at'<0∨8*(s.size:Int)<at'):Calls Tryz.prog 245 #[.string s,.int .i64 at',.int .i64 n] w (bz w ([],0,2)):=by have HN:=aa (kR w s at' (by omega) h);have HP:=aa (show bz w ([],0,2) (.returned (.tuple #[.slice none 0 0,.int .i64 0,.int .i64 2])) w from⟨_,rfl,Ml _ _ _ _,L6 _ _⟩);generalize bz w ([],0,2)=PO at*;clear h;go_enter Tryz.func245,Tryz.ntmps245;go_wp2_with fail;refine HN.out.mono ?_;rintro e w1 ⟨rfl,rfl⟩;go_wp2_with fail;first | exact HP.out | (go_ret3;exact HP.out)
theorem BK(w:World)(s:ByteArray)(at' n:Int)(hs:s.size≤2000000)(h1:0≤at')(h2:at'≤8*(s.size:Int))(hn:¬(2≤n∧n≤258)):Calls Tryz.prog 245 #[.string s,.int .i64 at',.int .i64 n] w (bz w ([],0,2)):=by have HN:=aa (eU w s at' (by omega) h1 h2);have HE:=aa fun w1=>eR w1 n;rw[L7 hn]at HE;have HP:=aa (show ∀w',Below w.heap.size w w'→bz w ([],0,2) (.returned (.tuple #[.slice none 0 0,.int .i64 0,.int .i64 2])) w' from fun w' h=>⟨_,rfl,Ml _ _ _ _,h⟩);generalize bz w ([],0,2)=PO at*;clear h1 h2 hn;go_enter Tryz.func245,Tryz.ntmps245;go_wp2_with fail;refine HN.out.mono ?_;rintro e w1 ⟨rfl,h4⟩;have h3:Below w.heap.size w w1:=b9 h4;have h0:=aa (HP.out w1 h3);clear h4 h3;go_wp2_with fail;refine(HE.out _).mono ?_;rintro e w2 ⟨rfl,rfl⟩;go_wp2_with fail;first | exact h0.out | (go_ret3;exact h0.out)
theorem BL(w:World)(s:ByteArray)(a n:Nat)(ans:List Nat×Nat×Nat)(hs:s.size≤2000000)(h2:a≤8*s.size)(hx:2≤n)(hy:n≤258)(hq:ans.2.1≤20000000∧ans.2.2≤80)(ha:ans.2.2≠0→ans=([],0,ans.2.2))
 (h6:∀(w1:World) (p:Nat),IsR p w1 p s a→Calls Tryz.prog 277 #[.pointer (some ⟨p,0,none⟩),.int .i64 n] w1 (lX p w1 p s ans)):
 Calls Tryz.prog 245 #[.string s,.int .i64 a,.int .i64 n] w (bz w ans):=by
 have HN:=aa (eU w s a (by omega) (by omega) (by omega));have HE:=aa fun w1=>eR w1 n;rw[L8 (show 2≤(n:Int)∧(n:Int)≤258 by omega)]at HE;have HP:=aa (show ∀(v:Value) (k r:Nat) w',w'.ownsRow w.heap.size 3 1 v ans.1.length (ans.1.map iv)→k=ans.2.1→r=ans.2.2→Below w.heap.size w w'→bz w ans (.returned (.tuple #[v,.int .i64 k,.int .i64 r])) w' from fun v k r w' h0 h1 h3 h4=>⟨v,by rw[h1,h3],h0,h4⟩);generalize bz w ans=PO at*;have hl:=aa h6;have hc:=aa ha;have hw:=hq.2;clear ha h6 hq;go_enter Tryz.func245,Tryz.ntmps245;go_wp2_with fail;refine HN.out.mono ?_;rintro e w1 ⟨rfl,hg⟩;have hn:Below w.heap.size w w1:=b9 hg;have hm:IsR w.heap.size w1 w.heap.size s a:=by rw[hg];exact iQ w _ (ag _) s a
 have hh:=aa hn;have h9:=aa (hl.out w1 w.heap.size hm);obtain⟨p,hp⟩:∃p,p=w.heap.size:=⟨_,rfl⟩;rw[← hp]at h9 ⊢;have hv:=aa hp;clear hg hn hm hp hl;go_wp2_with fail;refine(HE.out _).mono ?_;rintro e w2 ⟨rfl,rfl⟩;go_wp2_with fail;refine h9.out.mono ?_;rintro e w3 ⟨v,k,rfl,h5,hf,hR,he⟩;have hb:Below w.heap.size w w3:=hh.out.trans (by rw[← hv.out];exact he);have ho:w3.ownsRow w.heap.size 3 1 v ans.1.length (ans.1.map iv):=World.ownsRow.mono h5 hh.out.size;have hj:=aa (HP.out v · · w3 ho);have hi:=aa hb;have c0:=ac hR.blk 0;have c2:=ac hR.blk 2;simp at c0 c2;obtain⟨A0,c0',rfl,_,_,_⟩:=ao h5;by_cases h0:ans.2.2=0;·have hk:=hf h0;have hu:=aa (jU w3 p k c0 c2);have HK:=aa hk;have H0:=aa h0;rw[h0];clear he hb ho h5 hf hR c0 c2 h0 hk;go_wp2_with fail;refine hu.out.mono ?_;rintro e w4 ⟨rfl,rfl⟩;go_wp2_with fail;first | exact hj.out k 0 HK.out H0.out.symm hi.out | (go_ret3;exact hj.out k 0 HK.out H0.out.symm hi.out)
 ·have h8:=hc.out h0;have ht:ans.2.1=0:=(by rw[h8]);have hz:ans.1= []:=(by rw[h8]);have h7:=aa (HP.out (.slice none 0 0) 0 ans.2.2 w3 (by rw[hz];exact Ml _ _ _ _) ht.symm rfl hb);obtain⟨r,hr⟩:∃r,r=ans.2.2:=⟨_,rfl⟩;rw[← hr]at h7 hw h0 ⊢;have d0:((r:Int) != 0)=true:=(by rw[Oe];omega);clear he hb ho h5 hf hR c0 c2 h8 ht hz hr;go_wp2_with fail;first | exact h7.out | (go_ret3;exact h7.out)
theorem mE:∀(bs:List Nat) (now n p:Nat) (out:List Nat),(bj bs now n p out).2.2≠0→bj bs now n p out=([],0,(bj bs now n p out).2.2)
 | bs,now,0,p,out=>by
   rw[eX]
   exact fun h=>absurd rfl h
 | [],now,n+1,p,out=>by
   by_cases h:now<1∨20<now
   ·rw[gQ _ _ _ _ _ h]
    exact fun _=>rfl
   ·rw[jf _ _ _ _ h]
    exact fun _=>rfl
 | b :: bs,now,n+1,p,out=>by
   by_cases h:now<1∨20<now
   ·rw[gQ _ _ _ _ _ h]
    exact fun _=>rfl
   ·by_cases hb:b=0
    ·subst hb
     rw[fJ _ _ _ _ _ h]
     exact mE bs now n (p+1) (out++ [now])
    ·match bs with
     | []=>
       rw[kY _ _ _ _ _ h hb]
       exact fun _=>rfl
     | d :: bs=>
       rw[eY _ _ _ _ _ _ _ h hb]
       exact mE bs _ (n+1) (p+2) out
 termination_by bs=>bs.length
theorem pO(w:World)(s:ByteArray)(at' n:Int)(hs:s.size≤2000000):Calls Tryz.prog 245 #[.string s,.int .i64 at',.int .i64 n] w (bz w (ax (ai s.data.toList) at' n)):=by
 have hl:(ai s.data.toList).length=8*s.size:=aw _;by_cases h1:at'<0∨8*(s.size:Int)<at';·rw[ax,LX (by omega)];exact y8 w s at' n hs h1
 ·by_cases hn:2≤n∧n≤258
  ·obtain⟨a,rfl⟩:∃a:Nat,at'=a:=⟨at'.toNat,by omega⟩;obtain⟨m,rfl⟩:∃m:Nat,n=m:=⟨n.toNat,by omega⟩;have h0:=uU (ai s.data.toList) a m;rw[hl]at h0;(have he:ax (ai s.data.toList) (a:Int) (m:Int)=if 8*s.size<a+5 then([],0,10)else bj ((ai s.data.toList).drop (a+5)) (val (((ai s.data.toList).drop a).take 5)) m (a+5) []:=by rw[ax,LW (by omega),hl];rfl);refine BL w s a m _ hs (by omega) (by omega) (by omega) ⟨by omega,h0.2.2⟩ ?_ ?_
   ·rw[he];by_cases h5:8*s.size<a+5;·rw[LX h5];exact fun _=>rfl
    ·rw[LW h5];exact mE _ _ _ _ _
   ·intro w1 p hR;rw[he];by_cases h5:8*s.size<a+5;·rw[LX h5];exact CK p w1 p s a m hR hs (by omega) h5
    ·rw[LW h5];exact Jc p w1 p s a m hR hs (by omega) (by omega) (by omega)
  ·rw[ax,LX (by omega)];exact BK w s at' n hs (by omega) (by omega) hn
end Go.Proofs.YtepokmggbfoakaaGreatDoor.S10
