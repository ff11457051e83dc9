import Derived.Test.YtfhgikojdfblpaaGreatM21
set_option maxHeartbeats 1600000
set_option maxRecDepth 1000000
namespace Go.Proofs.YtfhgikojdfblpaaGreat.S02
open _root_.Go.Proofs.Tryz
open Go.RowKit
theorem zZ(x:Nat)(hx:x<4294967296):fS x=(2*x%4294967296) ^^^ (x/2147483648*79764919%4294967296):=by
 unfold fS;by_cases h:2147483648<=x;·rw[Nf h,show x/2147483648=1 by omega]
 ·rw[Nd h,show x/2147483648=0 by omega]
theorem xT(n:Nat):∀c,dJ (n+1) c=fS (dJ n c):=by
 induction n with
 | zero=>intro c;rfl
 | succ n ih=>intro c;rw[dJ,ih];rfl
theorem BC(w:World)(c:Nat)(hc:c<4294967296):
 Calls prog 154 #[.int .u32 c] w fun e w'=>e=.returned (.int .u32 (dJ 8 c))/\w=w':=by
 go_enter func154,ntmps154;go_wp2_with fail;go_loop [0,4] (fun v i=>∃j x:Nat,j<=8/\i=.int .i64 j/\v=.int .u32 x/\x=dJ j c/\x<4294967296) (fun _ i=>8-(intOf i).toNat)
 case atStart=>exact⟨0,c,by omega,rfl,rfl,rfl,hc⟩
 case round=>
  obtain⟨j,x,hj,rfl,rfl,hx,h6⟩:=hrel;have HX:=aa hx;clear hx;by_cases h:j<8;·have h3:=zZ x h6;have h2:=ig x;have h4:=aa h2;have h5:=aa h3;clear h3 h2;go_wp2_with fail;refine⟨⟨j+1,fS x,by omega,by go_num,?_,by rw[HX.out,xT],h4.out⟩,by simp[intOf];omega⟩;have h0:((x:Int)*2%4294967296)=((2*x%4294967296:Nat):Int):=(by omega);have h1:((x:Int)/2147483648*79764919)=((x/2147483648*79764919%4294967296:Nat):Int):=(by omega);rw[h0,h1,u32_xor_nat _ _ (by omega) (by omega),h5.out]
  ·obtain rfl:j=8:=(by omega);go_wp2_with fail;go_ret;rw[<- HX.out];exact⟨rfl,rfl⟩
def mj(n:Nat):Array Value:=(Array.range 256).map fun i=>.int .u32 (if i<n then(kO i:Int)else 0)
theorem xt(n:Nat):(mj n).size=256:=by simp[mj]
theorem Hr:mj 0=Array.replicate 256 (.int .u32 0):=by
 apply Rm;·simp[mj]
 ·intro i h1 h2;simp[mj]
theorem K4:(∀ w,(zeroValue 150).run prog w=.ok (.agg (mj 0)) w)/\(prog.info? 150).map (·.size)=some 256:=by rw[Hr];exact RO (by kernel_rfl)
theorem Hq(n:Nat):(mj n).setIfInBounds n (.int .u32 (kO n))=mj (n+1):=by
 apply Rm;·simp[mj]
 ·intro i h1 h2;rw[Qb (by simpa [mj]using h2)];by_cases e:n=i;·subst e;simp[mj]
  ·rw[Nd e];have e2:i<n↔i<n+1:=(by omega);simp[mj,e2]
theorem BI(n:Nat):(mj n).all (·.oneCell')=true:=by rw[QS];intro i h;simp[mj,Value.oneCell']
theorem KD(i:Nat)(h:i<256):(mj 256)[i]? =some (.int .u32 (kO i:Nat)):=by simp[mj,h]
theorem CX(w:World):Calls prog 105 #[] w fun e w'=>e=.returned (.agg (mj 256))/\Below w.heap.size w w':=by
 obtain⟨hz,hi⟩:=K4;have HS:=aa xt;have HN:=aa Hq;have HO:=aa BI;generalize mj=T at*;have HI:=aa hi;clear hi;go_enter func105,ntmps105;go_wp2;go_loopg [3] 256 (fun g s3 wx=>∃i:Nat,i+g=256/\s3=.int .i64 i/\wx=(w.alloc (.cells (T 0) 150)).alloc (.cells (T i) 150))
 case atStart=>exact⟨0,by omega,rfl,rfl⟩
 case round=>
  obtain⟨i,h9,rfl,rfl⟩:=hrel;clear hz
  cases gk with
  | zero=>
   obtain rfl:i=256:=(by omega);have h6:=run_loadCellsFrom_new (P:=prog) (w.alloc (.cells (T 0) 150)) 150 (T 256) 256 (HS.out 256);have h3:(w.alloc (.cells (T 0) 150)).heap.size=w.heap.size+1:=(by simp);rw[h3]at h6;clear h3;go_wp2;trace_state
   have h2:((w.alloc (.cells (T 0) 150)).alloc (.cells (T 256) 150)).heap[w.heap.size+1]? =some (.cells (T 256) 150 (0,0)):=(by have:=heap_alloc_last (w.alloc (.cells (T 0) 150)) (.cells (T 256) 150);simpa using this);have h1:((w.alloc (.cells (T 0) 150)).alloc (.cells (T 256) 150)).heap[w.heap.size]? =some (.cells (T 0) 150 (0,0)):=(by rw[bZ _ _ _ (by simp)];exact heap_alloc_last w _);have h0:(prog.info? 150).map (·.size)=some (T 256).size:=(by rw[HS.out];exact HI.out);refine kL rfl rfl h2 underlying150 h0 ?_;have ha:=cT (P:=prog) h1 h0 (by rw[HS.out,HS.out]) (HO.out _);have h7:=HS.out 256;have h5:=aa h0;have h4:=aa h1;clear h0 h1 h2;go_wp2;refine NH (v:=.agg (T 256)) (jf rfl rfl (QB _ _ _ _ _ _ h4.out) underlying150 h5.out) rfl ⟨rfl,?_⟩;exact below_setRow (((Nj _ w).alloc (ag _) _).alloc (by simp) _) (ag _) _
  | succ g=>
   have h8:i<256:=(by omega);have h7:(T i).size=256:=HS.out i;have HC:=aa (BC ((w.alloc (.cells (T 0) 150)).alloc (.cells (T i) 150)) (i*16777216) (by omega));(go_wp2_with (refine HC.out.mono ?_));rintro e w1 ⟨rfl,rfl⟩;go_wp2;(go_roundg g);case measure=>omega
   case rel=>exact⟨i+1,by omega,by first|rfl|simp,by rw[<- HN.out i];rfl⟩
theorem Ci(w:World)(g c b:Nat)(hg:∀i,i<256->w.cell? ⟨g,i,none⟩=some (.int .u32 (kO i)))(hc:c<4294967296)(hb:b<256):
 Calls prog 106 #[.pointer (some ⟨g,0,none⟩),.int .u32 c,.int .u8 b] w fun e w'=>e=.returned (.int .u32 (kz c b))/\w=w':=by have h1:c/16777216<256:=(by omega);have h2:(c/16777216) ^^^ b<256:=QH (n:=8) h1 hb;have hx:bits .xor .u8 ((c:Int)/16777216) (b:Int)=(((c/16777216) ^^^ b:Nat):Int):=(by rw[show ((c:Int)/16777216)=((c/16777216:Nat):Int) by omega,u8_xor_nat _ _ h1 hb]);have g1:=hg _ h2;have h3:=FF ((c/16777216) ^^^ b);have ht:=Ac c b hc hb;generalize kO ((c/16777216) ^^^ b)=y at*;generalize (c/16777216) ^^^ b=k at*;have HT:=aa ht;have H3:=aa h3;clear ht h3 hg;go_enter func106,ntmps106;go_wp2;go_ret;refine⟨?_,rfl⟩;rw[HT.out,show((c:Int)*256%4294967296)=((c%16777216*256:Nat):Int) by omega,u32_xor_nat _ _ (by omega) H3.out];rfl
theorem Hz(c:Nat)(s:ByteArray)(j:Nat)(h:j<s.size):gi c (s.data.toList.take (j+1))=kz (gi c (s.data.toList.take j)) (s[j]).toNat:=by have h0:j<s.data.toList.length:=(by simpa using h);rw[NF h0,tF];rfl
theorem FA(w:World)(c:Nat)(s:ByteArray)(hc:c<4294967296)(hs:s.size<=9223372036854775807):
 Calls prog 57 #[.int .u32 c,.string s] w fun e w'=>e=.returned (.int .u32 (gi c s.data.toList))/\Below w.heap.size w w':=by
 have HS:=aa xt;have HG:=aa KD;have HO:=aa BI;have HE:=aa CX;obtain⟨hz,hi⟩:=K4;generalize mj=T at*;have HI:=aa hi;clear hi;go_enter func57,ntmps57;go_wp2_with fail;refine(HE.out w).mono ?_;rintro e w1 ⟨rfl,h2⟩;have h8:=RZ (P:=prog) w1 150 (T 0) (T 256) (by rw[HS.out];exact HI.out) (by rw[HS.out,HS.out]) (HO.out _);have ha:=HS.out 256;have h0:∀i,i<256->(w1.alloc (.cells (T 256) 150)).cell? ⟨w1.heap.size,i,none⟩=some (.int .u32 (kO i)):=by intro i h;rw[Rv];exact HG.out i h
 have HC:=aa h0;have h4:Below w.heap.size w (w1.alloc (.cells (T 256) 150)):=h2.alloc h2.size _;have HB:=aa h4;clear h0 h2 h4;go_wp2_with fail;clear h8;generalize w1.alloc (.cells (T 256) 150)=w2 at*;generalize w1.heap.size=g at*;generalize T 256=T2 at*;go_loop [0,10] (fun v i=>∃j x:Nat,j<=s.size/\i=.int .i64 j/\v=.int .u32 x/\x=gi c (s.data.toList.take j)/\x<4294967296) (fun _ i=>s.size-(intOf i).toNat)
 case atStart=>exact⟨0,c,by omega,rfl,rfl,rfl,hc⟩
 case round=>
  obtain⟨j,x,hj,rfl,rfl,hx,h9⟩:=hrel;by_cases h:j<s.size;·have h3:=Hz c s j h;rw[<- hx]at h3;have h5:=oE x (s[j]).toNat;have hb:=PZ (s[j]);have HR:=aa (Ci w2 g x (s[j]).toNat HC.out h9 hb);have h7:=aa h3;have h6:=aa h5;have HX:=aa hx;clear h3 h5 hx;(go_wp2_with (refine HR.out.mono ?_));exact⟨⟨j+1,_,by omega,by go_num,rfl,h7.out.symm,h6.out⟩,by simp[intOf];omega⟩
  ·obtain rfl:j=s.size:=(by omega);have h1:s.data.toList.take s.size=s.data.toList:=Nr (Oi rfl);rw[h1]at hx;clear h1;have HX:=aa hx;clear hx;go_wp2_with fail;go_ret;rw[<- HX.out];exact⟨rfl,HB.out⟩
theorem KZ(x:Nat)(hx:x<4294967296):4294967295 ^^^ x=4294967295-x:=by
 apply Qq;intro i;have h1:=Nat.testBit_two_pow_sub_succ (n:=32) hx i;have h2:=Nat.testBit_two_pow_sub_one 32 i;rw[show (4294967295-x:Nat)=2^32-(x+1) by omega,h1,RG,show(4294967295:Nat)=2^32-1 by rfl,h2];by_cases h:i<32;·simp[h]
 ·have h3:x.testBit i=false:=Nat.testBit_lt_two_pow (OA hx (Od (n:=2) (by omega) (by omega:32<=i)));simp[h,h3]
theorem LG(x:Nat)(hx:x<4294967296):bits .xor .u32 IntKind.u32.max (x:Int)=((4294967295-x:Nat):Int):=by rw[<- KZ x hx,<-u32_xor_nat _ _ (by omega) hx];rfl
theorem yO:(IntKind.u32.signed=true)=False:=by decide
theorem wl(w:World)(s:ByteArray)(hs:s.size<=9223372036854775807):
 Calls prog 18 #[.string s] w fun e w'=>e=.returned (.int .u32 (4294967295-gi 4294967295 s.data.toList:Nat))/\Below w.heap.size w w':=by go_enter func18,ntmps18;go_wp2_with fail;refine(FA w 4294967295 s (by decide) hs).mono ?_;rintro e w1 ⟨rfl,hb⟩;have h0:=tG s.data.toList 4294967295 (by decide);generalize hX:gi 4294967295 s.data.toList=x at*;have HX:=aa hX;clear hX;have h1:=LG x h0;have h2:=yO;go_wp2_with fail;go_ret;rw[HX.out];exact⟨rfl,hb⟩
