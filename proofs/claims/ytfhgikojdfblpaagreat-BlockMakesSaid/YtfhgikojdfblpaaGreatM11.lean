import Derived.Test.YtfhgikojdfblpaaGreatM10
set_option maxHeartbeats 800000
set_option maxRecDepth 100000
namespace Go.Proofs.YtfhgikojdfblpaaGreat
open _root_.Go.Proofs.Tryz
open Go.RowKit
theorem IsW.c0{B:Nat}{w:World}{p:Nat}{v:Value}{L:List Nat}(h:IsW B w p v L):w.cell? ⟨p,0,none⟩=some (.bool true):=ac h.blk 0
theorem IsW.c2{B:Nat}{w:World}{p:Nat}{v:Value}{L:List Nat}(h:IsW B w p v L):w.cell? ⟨p,2,none⟩=some (.int .i64 L.length):=ac h.blk 2
theorem M7{B:Nat}{w:World}{p:Nat}{v:Value}{L:List Nat}(h:IsW B w p v L):Calls prog 48 #[.pointer (some ⟨p,0,none⟩)] w fun e w'=>e=.returned (.int .i64 L.length)/\w=w':=
 lF w p _ h.c0 h.c2
theorem IsW.drew{B:Nat}{w:World}{p:Nat}{v:Value}{L:List Nat}(h:IsW B w p v L):IsW B w.drew p v L:=⟨h.lo,h.blk,h.row,h.bit⟩
def Lc(w:World)(B:Nat)(A:Option Addr)(n:Nat)(X Y:Nat->Value):Prop:=
 0<n->∃b off,A=some ⟨b,off,none⟩/\b<B/\∀i,i<n->w.cell? ⟨b,off+i*2,none⟩=some (X i)/\w.cell? ⟨b,off+i*2+1,none⟩=some (Y i)
def pW(s:ByteArray)(n:Int):Bool:=
 decide (0<=n/\n<=8*(s.size:Int)/\8*(s.size:Int)<n+8)&&((ao s.data.toList).drop n.toNat).all (· ==0)
theorem nM{s:ByteArray}{k:Nat}:pW s k=true↔(k<=8*s.size/\8*s.size<k+8/\((ao s.data.toList).drop k).all (· ==0)=true):=by
 unfold pW;rw[Bool.and_eq_true,ON,Nv];constructor;·rintro⟨⟨_,h1,h2⟩,h3⟩;exact⟨by omega,by omega,h3⟩
 ·rintro⟨h1,h2,h3⟩;exact⟨⟨by omega,by omega,by omega⟩,h3⟩
theorem LD{s:ByteArray}{n:Int}(h:pW s n=true):∃k:Nat,n=k/\k<=8*s.size:=by unfold pW at h;rw[Bool.and_eq_true,ON]at h;exact⟨n.toNat,by omega,by omega⟩
theorem LE(s:ByteArray)(n:Int)(h:n<0):pW s n=false:=by unfold pW;have:decide (0<=n/\n<=8*(s.size:Int)/\8*(s.size:Int)<n+8)=false:=(by rw[Qy];omega);rw[this,Bool.false_and]
theorem Gv(s:ByteArray)(k:Nat)(h:k%8=0):pW s k=decide (s.size=k/8):=by
 rw[Rf,nM,ON];constructor;·rintro⟨h1,h2,_⟩;omega
 ·intro h1;refine⟨by omega,by omega,?_⟩;have hl:(ao s.data.toList).length=8*s.size:=(by rw[aC];rfl);rw[N9 (by rw[hl];omega)];rfl
theorem AR(s:ByteArray)(k:Nat)(h:k%8≠0)(h1:s.size≠k/8+1):pW s k=false:=by rw[Bool.eq_false_iff];intro h2;have:=nM.1 h2;omega
theorem Ip(v m:Nat):(ah v m).all (· ==0)=true↔v%2^m=0:=by
 constructor;·intro h;have h1:ah v m=List.replicate m 0:=(by rw[List.eq_replicate_iff];refine⟨af m v,fun b hb=> ?_⟩;have:=List.all_eq_true.1 h b hb;simpa using this);rw[<- eG,h1,<-oA,eG,Nat.zero_mod]
 ·intro h;have h1:=js (ah v m) (aQ m v);rw[af,eG,h,oA]at h1;rw[<- h1];simp
theorem LC(c r:Nat)(hr:r<=8):c*2^r%256=0↔c%2^(8-r)=0:=by
 have e:256=2^(8-r)*2^r:=by rw[<- Pw,show 8-r+r=8 by omega]
 conv=>lhs;lhs;rhs;rw[e]
 rw[Nat.mul_mod_mul_right];constructor
 ·intro h;rcases Nat.mul_eq_zero.1 h with h|h;·exact h
  ·have:=OE r;omega
 ·intro h;rw[h,Nat.zero_mul]
theorem JL(s:ByteArray)(k:Nat)(h:k%8≠0)(h1:s.size=k/8+1)(h5:k/8<s.size):pW s k=decide (s[k/8].toNat*2^(k%8)%256=0):=by
 rw[Rf,nM,ON,LC _ _ (by omega),<-Ip];have hd:(ao s.data.toList).drop k=ah s[k/8].toNat (8-k%8):=by have hl:s.data.toList.length=k/8+1:=(by rw[<- h1];rfl);have h4:k/8<s.data.toList.length:=(by omega);have e:s.data.toList=s.data.toList.take (k/8)++ [s[k/8]]:=(by have e1:=NF h4;rw[Nr (by omega)]at e1;exact e1);have h0:(ao (s.data.toList.take (k/8))).length=8*(k/8):=(by rw[aC,NB];omega);have h2:ah s[k/8].toNat 8=ah (s[k/8].toNat/2^(8-k%8)) (k%8)++ah s[k/8].toNat (8-k%8):=(by rw[<- jr,show k%8+(8-k%8)=8 by omega]);(conv=>lhs;rw[e]);rw[lN,fd,qK,NU];(conv=>lhs;lhs;rw[show k=8*(k/8)+k%8 by omega]);rw[<- Qw,Rg h0,h2,Rg (af _ _)]
 rw[hd];constructor;·rintro⟨_,_,h3⟩;exact h3
 ·intro h3;exact⟨by omega,by omega,h3⟩
def iM(T:Nat->ByteArray)(K:Nat->Int):Nat->List Nat
 | 0=> []
 | i+1=>iM T K i++(ao (T i).data.toList).take (K i).toNat
def vS(T:Nat->ByteArray):Nat->Nat
 | 0=>0
 | i+1=>vS T i+(T i).size
theorem yf(T:Nat->ByteArray)(K:Nat->Int)(i:Nat):(iM T K i).length<=8*vS T i:=by
 induction i with
 | zero=>simp[iM]
 | succ i ih=>have hl:(ao (T i).data.toList).length=8*(T i).size:=(by rw[aC];rfl);rw[iM,vS,Nb,NB];omega
theorem Id(T:Nat->ByteArray){i j:Nat}(h:i<=j):vS T i<=vS T j:=by
 induction h with
 | refl=>exact Nk _
 | step _ ih=>exact ND ih (by rw[vS];omega)
theorem xw(l:List Nat)(a i k:Nat):(l.drop a).take (i+k)=(l.drop a).take i++(l.drop (a+i)).take k:=by rw[List.take_add,Qw]
theorem ti(l:List Nat)(a k:Nat)(hb:au l)(h:a+k<=l.length):ah (val ((l.drop a).take k)) k=(l.drop a).take k:=by have h1:=js ((l.drop a).take k) ((hb.drop a).take k);rwa [NB,Ny,OJ (by omega)]at h1
def EU(B:Nat)(w:World)(p q:Nat)(L:List Nat)(s:ByteArray)(a m:Nat)(e:Ending)(w':World):Prop:=
 e=.returned (.tuple #[])/\(∃ v',IsW B w' p v' (L++((ao s.data.toList).drop a).take m))/\IsR B w' q s (a+m)/\ak B [p,q] [5] w w'
theorem IJ(B:Nat)(w:World)(p q:Nat)(v:Value)(L:List Nat)(s:ByteArray)(a m:Nat)(hW:IsW B w p v L)(hR:IsR B w q s a)(hs:s.size<=281474976710656)(hh:a+m<=8*s.size)(hL:L.length+m<=1000000000000):
 Calls prog 56 #[.pointer (some ⟨p,0,none⟩),.pointer (some ⟨q,0,none⟩),.int .i64 m] w (EU B w p q L s a m):=by
 have hf:(ao s.data.toList).length=8*s.size:=by rw[aC];rfl
 have he:=aa hf;clear hf;go_enter func56,ntmps56;go_wp2;go_loopw [2] (fun i wr=>∃(r:Nat) (v':Value),r<=m/\i=.int .i64 r/\IsW B wr p v' (L++((ao s.data.toList).drop a).take (m-r))/\IsR B wr q s (a+(m-r))/\ak B [p,q] [5] w wr) (fun i _=>(intOf i).toNat)
 case atStart=>exact⟨m,v,Nk _,rfl,by simpa using hW,by simpa using hR,ak.refl _ _ _ _⟩
 case round=>
  obtain⟨r,v',hr,rfl,h8,h0,hS⟩:=hrel;have h7:(L++((ao s.data.toList).drop a).take (m-r)).length<=1000000000000:=by rw[Nb,NB];omega
  by_cases h:0<r
  ·by_cases h9:r<=64
   ·have hT:=iF B wr q s (a+(m-r)) r h0 hs h9 (by omega);have hx:val (((ao s.data.toList).drop (a+(m-r))).take r)<2^r:=fY _ _ _ _ (bh _) (ag _);have h6:=ti (ao s.data.toList) (a+(m-r)) r (bh _) (by rw[he.out];omega);generalize val (((ao s.data.toList).drop (a+(m-r))).take r)=x at*;have HT:=aa hT;have HB:=aa h6;clear hT h6;go_wp2_with fail;refine HT.out.mono ?_;rintro e w2 ⟨rfl,ha,h2⟩;have h4:=h8.take h0 h2;go_wp2_with fail;refine(fU _ _ _ _ _ _ _ h4 h7 h9 hx).mono ?_;rintro e w3 ⟨rfl,v3,h5,h3⟩;have h1:=ha.put h4 h3;have hb:=(hS.trans (h2.mono (ag _) (by simp) (by simp))).trans (h3.mono (ag _) (by simp) (by simp));rw[HB.out,Ni,<-xw,show m-r+r=m-0 by omega]at h5;rw[OQ,show m-r+r=m-0 by omega]at h1;go_wp2_with fail;go_roundw;case rel=>exact⟨0,v3,Ng _,rfl,h5,h1,hb⟩
    case measure=>simp[intOf];omega
   ·have hg:64<r:=(by omega);have hT:=iF B wr q s (a+(m-r)) 64 h0 hs (ag _) (by omega);have hx:val (((ao s.data.toList).drop (a+(m-r))).take 64)<2^64:=fY _ _ _ _ (bh _) (ag _);have h6:=ti (ao s.data.toList) (a+(m-r)) 64 (bh _) (by rw[he.out];omega);generalize val (((ao s.data.toList).drop (a+(m-r))).take 64)=x at*;have HT:Hid (Calls prog 71 #[.pointer (some ⟨q,0,none⟩),.int .i64 64] wr (jE B wr q s (a+(m-r)) 64 x 0)):=aa hT;have HB:=aa h6;clear hT h6 h9;go_wp2_with fail;refine HT.out.mono ?_;rintro e w2 ⟨rfl,ha,h2⟩;have h4:=h8.take h0 h2;have hP:Calls prog 45 #[.pointer (some ⟨p,0,none⟩),.int .u64 x,.int .i64 64] w2 _:=fU _ _ _ _ _ _ 64 h4 h7 (ag _) hx;have HP:=aa hP;clear hP;go_wp2_with fail;refine HP.out.mono ?_;rintro e w3 ⟨rfl,v3,h5,h3⟩;have h1:=ha.put h4 h3;have hb:=(hS.trans (h2.mono (ag _) (by simp) (by simp))).trans (h3.mono (ag _) (by simp) (by simp));rw[HB.out,Ni,<-xw,show m-r+64=m-(r-64) by omega]at h5;rw[OQ,show m-r+64=m-(r-64) by omega]at h1;go_wp2_with fail;go_roundw;case rel=>have hc:((r-64:Nat):Int)=(r:Int)-64:=(by omega);exact⟨r-64,v3,by omega,by rw[hc],h5,h1,hb⟩
    case measure=>simp[intOf];omega
  ·obtain rfl:r=0:=(by omega);rw[QF]at h8 h0;go_wp2;(go_end0);exact⟨rfl,⟨v',h8⟩,h0,hS⟩
def qE(w:World)(t:List UInt8)(n r:Nat)(e:Ending)(w':World):Prop:=
 e=.returned (.tuple #[.agg #[.string ⟨t.toArray⟩,.int .i64 n],.int .i64 r])/\Below w.heap.size w w'
def K8(w:World)(b:Bool)(e:Ending)(w':World):Prop:=e=.returned (.bool b)/\Below w.heap.size w w'
theorem JM(w:World)(s:ByteArray)(n:Int)(hs:s.size<=100000000)(hn: -9223372036854775808<=n/\n<=9223372036854775807):
 Calls prog 55 #[.agg #[.string s,.int .i64 n]] w (K8 w (pW s n)):=by
 have h0:Below w.heap.size w (w.alloc (.cells #[.string s,.int .i64 n] 24)):=(Nj _ _).alloc (ag _) _;by_cases h2:n<0;·rw[LE s n h2];go_enter func55,ntmps55;go_wp2;go_ret;exact⟨rfl,h0⟩
 obtain⟨k,rfl⟩:=Qz (show 0<=n by omega);by_cases h8:k%8=0;·have hb:((s.size:Int)==(k:Int)/8)=pW s k:=(by rw[Gv s k h8,Rf,Pn,ON];omega);have hd:((k:Int)%8==0)=true:=(by rw[Pn];omega);rw[<- hb];clear hb h8;go_enter func55,ntmps55;go_wp2;go_region;go_wp2;go_ret;exact⟨rfl,by first|exact h0|exact h0.drew⟩
 have hd:((k:Int)%8==0)=false:=by rw[NC];omega
 by_cases h1:s.size=k/8+1;·have h3:k/8<s.size:=(by omega);have hb:((s[k/8].toNat:Int)*2^(k%8)%256==0)=pW s k:=(by rw[JL s k h8 h1 h3,Rf,Pn,ON];have e:((s[k/8].toNat:Int)*2^(k%8)%256)=((s[k/8].toNat*2^(k%8)%256:Nat):Int):=(by rw[Qx,Re,QJ];rfl);rw[e];omega);have hq:((s.size:Int)==(k:Int)/8+1)=true:=(by rw[Pn];omega);have h4:0<=(k:Int)/8:=(by omega);have h5:(k:Int)/8<s.size:=(by omega);rw[<- hb];clear hb h8 h1;go_enter func55,ntmps55;go_wp2;go_region;go_wp2;go_ret;exact⟨rfl,by first|exact h0|exact h0.drew⟩
 ·have hq:((s.size:Int)==(k:Int)/8+1)=false:=(by rw[NC];omega);rw[AR s k h8 h1];clear h8 h1;go_enter func55,ntmps55;go_wp2;go_region;go_wp2;go_ret;exact⟨rfl,by first|exact h0|exact h0.drew⟩
theorem LB(w:World)(A:Option Addr)(n c:Nat)(T:Nat->ByteArray)(K:Nat->Int)(hp:Lc w w.heap.size A n (fun i=>.string (T i)) (fun i=>.int .i64 (K i)))(hn:n<=maxLen)
 (hH:vS T n<=1000000000) (hi:∀i,i<n->(T i).size<=100000000) (hK:∀i,i<n-> -9223372036854775808<=K i/\K i<=9223372036854775807) (h4:∀i,i<n->pW (T i) (K i)=true):
 Calls prog 17 #[.slice A n c] w (qE w (aK (iM T K n)) (iM T K n).length 0):=by
 unfold maxLen at hn;go_enter func17,ntmps17;go_wp2_with fail;refine(Gw _).mono ?_;rintro e w1 ⟨rfl,h9⟩;have ho:(World.alloc w (.cells #[.string ⟨#[]⟩,.int .i64 0] 24)).heap.size=w.heap.size+1:=by simp
 rw[ho];have hy:IsW w.heap.size w1 (w.heap.size+1) (.slice none 0 0) []:=by have:=nK (w.alloc (.cells #[.string ⟨#[]⟩,.int .i64 0] 24)) w.heap.size (by simp);rw[ho]at this;rw[h9];exact this
 have hE:Blk w1 w.heap.size 24 #[.string ⟨#[]⟩,.int .i64 0]:=by rw[h9];exact(O8 _ _ _ (by simp)).trans (aj w 24 _)
 have hD:Below w.heap.size w w1:=by rw[h9];exact((Nj _ _).alloc (ag _) _).alloc (by simp) _
 clear h9 ho;go_wp2_with fail;go_loopw [10] (fun i wr=>∃(j:Nat) (v:Value),j<=n/\i=.int .i64 j/\IsW w.heap.size wr (w.heap.size+1) v (iM T K j)/\Blk wr w.heap.size 24 #[.string ⟨#[]⟩,.int .i64 0]/\Below w.heap.size w wr) (fun i _=>n-(intOf i).toNat)
 case atStart=>exact⟨0,_,Ng _,rfl,hy,hE,hD⟩
 case round=>
  obtain⟨j,v,hj,rfl,hW,hk,hb⟩:=hrel;have hL:=yf T K j;have hM:=Id T hj;have hz:=hb.size;by_cases h:j<n
  ·obtain⟨b,off,rfl,hs,hc⟩:=hp (by omega);obtain⟨k,h8,hN⟩:=LD (h4 j h);have hJ:=hi j h;have h0:=JM (wr.alloc (.cells #[.string (T j),.int .i64 k] 24)) (T j) (K j) (by omega) (hK j h);rw[h4 j h,h8]at h0;have g1:wr.cell? ⟨b,off+j*2,none⟩=some (.string (T j)):=(hb.cell (p:=⟨b,off+j*2,none⟩) hs).trans (hc j h).1;have g2:wr.cell? ⟨b,off+j*2+1,none⟩=some (.int .i64 k):=(by rw[<- h8];exact(hb.cell (p:=⟨b,off+j*2+1,none⟩) hs).trans (hc j h).2);have HM:=aa h0;have hw:=aa h8;clear h0 h8 hc;have hC:=hW.alloc (.cells #[.string (T j),.int .i64 k] 24);go_wp2_with fail;refine HM.out.mono ?_;rintro e w2 ⟨rfl,hr⟩;have hm:=an hr;have hA:IsW w.heap.size w2.drew (w.heap.size+1) v (iM T K j):=(hC.step hm (by simp) (by simp) (by simp) (by simp)).drew;have hg:Blk w2.drew w.heap.size 24 #[.string ⟨#[]⟩,.int .i64 0]:=hm.blk ((O8 _ _ _ (aA hk)).trans hk) (by simp) (by simp);have h7:Blk w2.drew wr.heap.size 24 #[.string (T j),.int .i64 k]:=hm.blk (aj wr 24 _) (by simp) (by simp);have h5:Below w.heap.size w w2.drew:=((hb.alloc hz _).trans (hr.mono (by simp;omega))).drew;have e1:w2.cell? ⟨wr.heap.size,0,none⟩=some (.string (T j)):=ac h7 0;have e2:w2.cell? ⟨wr.heap.size,1,none⟩=some (.int .i64 k):=ac h7 1;have hv:=h5.size;have hh:wr.heap.size∉ [w.heap.size+1,w2.drew.heap.size]:=(by have h1:=aA hW.blk;have h2:=aA h7;simp only[PA,aw,or_false];omega);have h6:w.heap.size∉ [w.heap.size+1,w2.drew.heap.size]:=(by have h2:=aA hg;simp only[PA,aw,or_false];omega);go_upto_region 7 with fail
   go_region_held3 (fun w'=>w'.cell? ⟨wr.heap.size,0,none⟩=some (.string (T j))/\w'.cell? ⟨wr.heap.size,1,none⟩=some (.int .i64 k)) (first|exact⟨e1,e2⟩|exact⟨ac hu 0,ac hu 1⟩|exact⟨ac hl 0,ac hl 1⟩|go_keep)
    (first|(go_at_call 22;refine(gv _ _ 0 (by omega) (by omega) (by omega)).mono ?_;rintro e w3 ⟨rfl,h3⟩;have hB:IsW w.heap.size w3 (w.heap.size+1) v (iM T K j):=(by rw[h3];exact hA.alloc _);have hx:IsR w.heap.size w3 w2.drew.heap.size (T j) 0:=(by rw[h3];exact lY w2.drew _ hv (T j) 0);have hl:Blk w3 wr.heap.size 24 #[.string (T j),.int .i64 k]:=(by rw[h3];exact(O8 _ _ _ (aA h7)).trans h7);have hF:Blk w3 w.heap.size 24 #[.string ⟨#[]⟩,.int .i64 0]:=(by rw[h3];exact(O8 _ _ _ (aA hg)).trans hg);have he:Below w.heap.size w w3:=(by rw[h3];exact h5.alloc hv _);clear h3)|(go_at_call 56;refine(IJ _ _ _ _ _ _ _ 0 k hB hx (by omega) (by omega) (by omega)).mono ?_;rintro e w4 ⟨rfl,⟨v4,hq⟩,hI,ha⟩;have hu:=ha.blk hl hh (by simp)))
   have hG:=ha.blk hF h6 (by simp);have ht:iM T K j++((ao (T j).data.toList).drop 0).take k=iM T K (j+1):=(by rw[iM,hw.out,Nv,QY]);rw[ht]at hq;clear ht;have hf:=he.trans ha.below;go_wp2_with fail;go_roundw;case rel=>exact⟨j+1,v4,h,by go_num,hq,hG,hf⟩
   case measure=>simp[intOf];omega
  ·obtain rfl:j=n:=(by omega);have q0:wr.cell? ⟨w.heap.size,0,none⟩=some (.string ⟨#[]⟩):=ac hk 0;have q1:wr.cell? ⟨w.heap.size,1,none⟩=some (.int .i64 0):=ac hk 1;have f0:=ae hk 0;have f1:=ae hk 1;(go_wp2_with (first|(go_at_call 47;refine(jC _ _ _ _ _ hW).mono ?_;rintro e w' ⟨rfl,rfl⟩)|(go_at_call 48;refine(M7 hW).mono ?_;rintro e w' ⟨rfl,rfl⟩)));refine NH (v:=.tuple #[.agg #[.string ⟨(aK (iM T K j)).toArray⟩,.int .i64 (iM T K j).length],.int .i64 0]) ?_ rfl ⟨rfl,?_⟩;·simp[results,results17,go_sem,q0,q1]
   ·exact(hb.setCell (p:=⟨w.heap.size,0,none⟩) (ag _) _).setCell (p:=⟨w.heap.size,1,none⟩) (ag _) _
