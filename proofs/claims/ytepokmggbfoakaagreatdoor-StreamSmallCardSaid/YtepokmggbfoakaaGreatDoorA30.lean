import Derived.Test.YtepokmggbfoakaaGreatDoorA12
set_option maxHeartbeats 1600000
set_option maxRecDepth 1000000
namespace Go.Proofs.YtepokmggbfoakaaGreatDoor.S02
open Go.RowKit
theorem yW(x:Nat)(hx:x<4294967296):fF x=(2*x % 4294967296) ^^^ (x / 2147483648*79764919 % 4294967296):=by
 unfold fF;by_cases h:2147483648≤x;·rw[LX h,show x / 2147483648=1 by omega]
 ·rw[LW h,show x / 2147483648=0 by omega]
theorem wV(n:Nat):∀c,cV (n+1) c=fF (cV n c):=by
 induction n with
 | zero=>intro c;rfl
 | succ n ih=>intro c;rw[cV,ih];rfl
theorem Av(w:World)(c:Nat)(hc:c<4294967296):
 Calls Tryz.prog 166 #[.int .u32 c] w fun e w'=>e=.returned (.int .u32 (cV 8 c))∧w=w':=by
 go_enter Tryz.func166,Tryz.ntmps166;go_wp2_with fail;go_loop [0,4] (fun v i=>∃j x:Nat,j≤8∧i=.int .i64 j∧v=.int .u32 x∧x=cV j c∧x<4294967296) (fun _ i=>8 - (intOf i).toNat)
 case atStart=>exact⟨0,c,by omega,rfl,rfl,rfl,hc⟩
 case round=>
  obtain⟨j,x,hj,rfl,rfl,hx,h6⟩:=hrel;have HX:=aa hx;clear hx;by_cases h:j<8;·have h3:=yW x h6;have h2:=gz x;have h4:=aa h2;have h5:=aa h3;clear h3 h2;go_wp2_with fail;refine⟨⟨j+1,fF x,by omega,by go_num,?_,by rw[HX.out,wV],h4.out⟩,by simp[intOf];omega⟩;have h0:((x:Int)*2 % 4294967296)=((2*x % 4294967296:Nat):Int):=(by omega);have h1:((x:Int) / 2147483648*79764919)=((x / 2147483648*79764919 % 4294967296:Nat):Int):=(by omega);rw[h0,h1,u32_xor_nat _ _ (by omega) (by omega),h5.out]
  ·obtain rfl:j=8:=(by omega);go_wp2_with fail;go_ret;rw[← HX.out];exact⟨rfl,rfl⟩
def lG(n:Nat):Array Value:=(Array.range 256).map fun i=>.int .u32 (if i<n then(j7 i:Int)else 0)
theorem wg(n:Nat):(lG n).size=256:=by simp[lG]
theorem Gv:lG 0=Array.replicate 256 (.int .u32 0):=by
 apply PU;·simp[lG]
 ·intro i h1 h2;simp[lG]
theorem JV:(∀ w,(zeroValue 151).run Tryz.prog w=.ok (.agg (lG 0)) w)∧(Tryz.prog.info? 151).map (·.size)=some 256:=by rw[Gv];exact Qy (by kernel_rfl)
theorem Gu(n:Nat):(lG n).setIfInBounds n (.int .u32 (j7 n))=lG (n+1):=by
 apply PU;·simp[lG]
 ·intro i h1 h2;rw[Oz (by simpa [lG]using h2)];by_cases e:n=i;·subst e;simp[lG]
  ·rw[LW e];have e2:i<n↔i<n+1:=(by omega);simp[lG,e2]
theorem AD(n:Nat):(lG n).all (·.oneCell')=true:=by rw[Pj];intro i h;simp[lG,Value.oneCell']
theorem Jv(i:Nat)(h:i<256):(lG 256)[i]? =some (.int .u32 (j7 i:Nat)):=by simp[lG,h]
theorem BU(w:World):Calls Tryz.prog 108 #[] w fun e w'=>e=.returned (.agg (lG 256))∧Below w.heap.size w w':=by
 obtain⟨hz,hi⟩:=JV;have HS:=aa wg;have HN:=aa Gu;have HO:=aa AD;generalize lG=T at*;have HI:=aa hi;clear hi;go_enter Tryz.func108,Tryz.ntmps108;go_wp2;go_loopg [3] 256 (fun g s3 wx=>∃i:Nat,i+g=256∧s3=.int .i64 i∧wx=(w.alloc (.cells (T 0) 151)).alloc (.cells (T i) 151))
 case atStart=>exact⟨0,by omega,rfl,rfl⟩
 case round=>
  obtain⟨i,h9,rfl,rfl⟩:=hrel;clear hz
  cases gk with
  | zero=>
   obtain rfl:i=256:=(by omega);have h6:=run_loadCellsFrom_new (P:=Tryz.prog) (w.alloc (.cells (T 0) 151)) 151 (T 256) 256 (HS.out 256);have h3:(w.alloc (.cells (T 0) 151)).heap.size=w.heap.size+1:=(by simp);rw[h3]at h6;clear h3;go_wp2;trace_state
   have h2:((w.alloc (.cells (T 0) 151)).alloc (.cells (T 256) 151)).heap[w.heap.size+1]? =some (.cells (T 256) 151 (0,0)):=(by have:=heap_alloc_last (w.alloc (.cells (T 0) 151)) (.cells (T 256) 151);simpa using this);have h1:((w.alloc (.cells (T 0) 151)).alloc (.cells (T 256) 151)).heap[w.heap.size]? =some (.cells (T 0) 151 (0,0)):=(by rw[bw _ _ _ (by simp)];exact heap_alloc_last w _);have h0:(Tryz.prog.info? 151).map (·.size)=some (T 256).size:=(by rw[HS.out];exact HI.out);refine jZ rfl rfl h2 Tryz.underlying151 h0 ?_;have ha:=cu (P:=Tryz.prog) h1 h0 (by rw[HS.out,HS.out]) (HO.out _);have h7:=HS.out 256;have h5:=aa h0;have h4:=aa h1;clear h0 h1 h2;go_wp2;refine Mm (v:=.agg (T 256)) (iT rfl rfl (O9 _ _ _ _ _ _ h4.out) Tryz.underlying151 h5.out) rfl ⟨rfl,?_⟩;exact below_setRow (((L6 _ w).alloc (ag _) _).alloc (by simp) _) (ag _) _
  | succ g=>
   have h8:i<256:=(by omega);have h7:(T i).size=256:=HS.out i;have HC:=aa (Av ((w.alloc (.cells (T 0) 151)).alloc (.cells (T i) 151)) (i*16777216) (by omega));(go_wp2_with (refine HC.out.mono ?_));rintro e w1 ⟨rfl,rfl⟩;go_wp2;(go_roundg g);case measure=>omega
   case rel=>exact⟨i+1,by omega,by first | rfl | simp,by rw[← HN.out i];rfl⟩
theorem Bg(w:World)(g c b:Nat)(hg:∀i,i<256→w.cell? ⟨g,i,none⟩=some (.int .u32 (j7 i)))(hc:c<4294967296)(hb:b<256):
 Calls Tryz.prog 109 #[.pointer (some ⟨g,0,none⟩),.int .u32 c,.int .u8 b] w fun e w'=>e=.returned (.int .u32 (jO c b))∧w=w':=by have h1:c / 16777216<256:=(by omega);have h2:(c / 16777216) ^^^ b<256:=OI (n:=8) h1 hb;have hx:bits .xor .u8 ((c:Int) / 16777216) (b:Int)=(((c / 16777216) ^^^ b:Nat):Int):=(by rw[show ((c:Int) / 16777216)=((c / 16777216:Nat):Int) by omega,u8_xor_nat _ _ h1 hb]);have g1:=hg _ h2;have h3:=EN ((c / 16777216) ^^^ b);have ht:=yX c b hc hb;generalize j7 ((c / 16777216) ^^^ b)=y at*;generalize (c / 16777216) ^^^ b=k at*;have HT:=aa ht;have H3:=aa h3;clear ht h3 hg;go_enter Tryz.func109,Tryz.ntmps109;go_wp2;go_ret;refine⟨?_,rfl⟩;rw[HT.out,show((c:Int)*256 % 4294967296)=((c % 16777216*256:Nat):Int) by omega,u32_xor_nat _ _ (by omega) H3.out];rfl
theorem GC(c:Nat)(s:ByteArray)(j:Nat)(h:j<s.size):fX c (s.data.toList.take (j+1))=jO (fX c (s.data.toList.take j)) (s[j]).toNat:=by have h0:j<s.data.toList.length:=(by simpa using h);rw[Mn h0,sF];rfl
theorem EG(w:World)(c:Nat)(s:ByteArray)(hc:c<4294967296)(hs:s.size≤9223372036854775807):
 Calls Tryz.prog 54 #[.int .u32 c,.string s] w fun e w'=>e=.returned (.int .u32 (fX c s.data.toList))∧Below w.heap.size w w':=by
 have HS:=aa wg;have HG:=aa Jv;have HO:=aa AD;have HE:=aa BU;obtain⟨hz,hi⟩:=JV;generalize lG=T at*;have HI:=aa hi;clear hi;go_enter Tryz.func54,Tryz.ntmps54;go_wp2_with fail;refine(HE.out w).mono ?_;rintro e w1 ⟨rfl,h2⟩;have h8:=QF (P:=Tryz.prog) w1 151 (T 0) (T 256) (by rw[HS.out];exact HI.out) (by rw[HS.out,HS.out]) (HO.out _);have ha:=HS.out 256;have h0:∀i,i<256→(w1.alloc (.cells (T 256) 151)).cell? ⟨w1.heap.size,i,none⟩=some (.int .u32 (j7 i)):=by intro i h;rw[World.cell?_alloc_new];exact HG.out i h
 have HC:=aa h0;have h4:Below w.heap.size w (w1.alloc (.cells (T 256) 151)):=h2.alloc h2.size _;have HB:=aa h4;clear h0 h2 h4;go_wp2_with fail;clear h8;generalize w1.alloc (.cells (T 256) 151)=w2 at*;generalize w1.heap.size=g at*;generalize T 256=T2 at*;go_loop [0,10] (fun v i=>∃j x:Nat,j≤s.size∧i=.int .i64 j∧v=.int .u32 x∧x=fX c (s.data.toList.take j)∧x<4294967296) (fun _ i=>s.size - (intOf i).toNat)
 case atStart=>exact⟨0,c,by omega,rfl,rfl,rfl,hc⟩
 case round=>
  obtain⟨j,x,hj,rfl,rfl,hx,h9⟩:=hrel;by_cases h:j<s.size;·have h3:=GC c s j h;rw[← hx]at h3;have h5:=nA x (s[j]).toNat;have hb:=Oq (s[j]);have HR:=aa (Bg w2 g x (s[j]).toNat HC.out h9 hb);have h7:=aa h3;have h6:=aa h5;have HX:=aa hx;clear h3 h5 hx;(go_wp2_with (refine HR.out.mono ?_));exact⟨⟨j+1,_,by omega,by go_num,rfl,h7.out.symm,h6.out⟩,by simp[intOf];omega⟩
  ·obtain rfl:j=s.size:=(by omega);have h1:s.data.toList.take s.size=s.data.toList:=Mh (Nr rfl);rw[h1]at hx;clear h1;have HX:=aa hx;clear hx;go_wp2_with fail;go_ret;rw[← HX.out];exact⟨rfl,HB.out⟩
theorem JR(x:Nat)(hx:x<4294967296):4294967295 ^^^ x=4294967295 - x:=by
 apply OS;intro i;have h1:=Nat.testBit_two_pow_sub_succ (n:=32) hx i;have h2:=Nat.testBit_two_pow_sub_one 32 i;rw[show (4294967295 - x:Nat)=2 ^ 32 - (x+1) by omega,h1,Qn,show(4294967295:Nat)=2 ^ 32 - 1 by rfl,h2];by_cases h:i<32;·simp[h]
 ·have h3:x.testBit i=false:=Nat.testBit_lt_two_pow (Np hx (MW (n:=2) (by omega) (by omega:32≤i)));simp[h,h3]
theorem KB(x:Nat)(hx:x<4294967296):bits .xor .u32 IntKind.u32.max (x:Int)=((4294967295 - x:Nat):Int):=by rw[← JR x hx,←u32_xor_nat _ _ (by omega) hx];rfl
theorem xZ:(IntKind.u32.signed=true)=False:=by decide
theorem vn(w:World)(s:ByteArray)(hs:s.size≤9223372036854775807):
 Calls Tryz.prog 21 #[.string s] w fun e w'=>e=.returned (.int .u32 (4294967295 - fX 4294967295 s.data.toList:Nat))∧Below w.heap.size w w':=by go_enter Tryz.func21,Tryz.ntmps21;go_wp2_with fail;refine(EG w 4294967295 s (by decide) hs).mono ?_;rintro e w1 ⟨rfl,hb⟩;have h0:=sG s.data.toList 4294967295 (by decide);generalize hX:fX 4294967295 s.data.toList=x at*;have HX:=aa hX;clear hX;have h1:=KB x h0;have h2:=xZ;go_wp2_with fail;go_ret;rw[HX.out];exact⟨rfl,hb⟩
theorem CP(w:World)(x:Nat)(hx:x<4294967296):
 Calls Tryz.prog 61 #[.int .u32 x,.int .i64 1] w fun e w'=>e=.returned (.int .u32 (x % 2147483648*2+x / 2147483648:Nat))∧w=w':=by
 have h0:bits .and .u64 1 31=1:=by rfl
 have h1:bits .or .u32 ((x:Int)*2 % 4294967296) ((x:Int) / 2147483648)=((x % 2147483648*2+x / 2147483648:Nat):Int):=by
  rw[show ((x:Int)*2 % 4294967296)=((x % 2147483648*2:Nat):Int) by omega,show((x:Int) / 2147483648)=((x / 2147483648:Nat):Int) by omega,u32_or_nat _ _ (by omega) (by omega),
   nat_join 1 _ _ (by omega) (by omega)]
 go_enter Tryz.func61,Tryz.ntmps61;go_wp2;go_ret;exact⟨rfl,rfl⟩
theorem l9(w:World)(A:Option Addr)(n c:Nat)(L:List Nat)(hi:Dl w A n L)(hb:∀x∈L,x<4294967296)(hn:n≤9223372036854775807):
 Calls Tryz.prog 24 #[.slice A n c] w fun e w'=>e=.returned (.int .u32 (dc L))∧w=w':=by
 have HI:=aa hi;have HB:=aa hb;clear hi hb;go_enter Tryz.func24,Tryz.ntmps24;go_wp2_with fail;go_loop [3,8] (fun v i=>∃j x:Nat,j≤n∧i=.int .i64 j∧v=.int .u32 x∧x=dc (L.take j)∧x<4294967296) (fun _ i=>n - (intOf i).toNat)
 case atStart=>exact⟨0,0,LY _,rfl,rfl,by simp[dc],by omega⟩
 case round=>
  obtain⟨j,x,hj,rfl,rfl,hx,h4⟩:=hrel;by_cases h:j<n;·obtain⟨hl,hc⟩:=HI.out;obtain⟨b,off,rfl,h2⟩:=hc (by omega);have g:=h2 j h;have hy:L.getD j 0<4294967296:=(by rw[LU,LV (by omega)];exact HB.out _ (Mu _));have h1:=xP L j (by omega);rw[← hx]at h1;have h3:=nm x (L.getD j 0) h4 hy;have HR:=aa (CP w x h4);have h6:=aa h1;have HX:=aa hx;have h5:=aa h3;have HL:=aa hl;clear hl hc h2 h1 hx h3;generalize L.getD j 0=y at*;(go_wp2_with (refine HR.out.mono ?_));refine⟨⟨j+1,fI x y,by omega,by go_num,?_,h6.out.symm,h5.out⟩,by simp[intOf];omega⟩;have h0:((x:Int) % 2147483648*2+(x:Int) / 2147483648)=((x % 2147483648*2+x / 2147483648:Nat):Int):=(by omega);rw[h0,u32_xor_nat _ _ (by omega) hy];rfl
  ·obtain rfl:j=n:=(by omega);have hl:=HI.out.1;rw[Mh (by omega)]at hx;have HX:=aa hx;clear hx hl;go_wp2_with fail;go_ret;rw[← HX.out];exact⟨rfl,rfl⟩
end Go.Proofs.YtepokmggbfoakaaGreatDoor.S02
