import Derived.Test.YtepokmggbfoakaaGreatDoorT12
set_option maxHeartbeats 1600000
set_option maxRecDepth 1000000
namespace Go.Proofs.YtepokmggbfoakaaGreatDoor.S02
open _root_.Go.Proofs.Tryz
open Go.RowKit
theorem zF(x:Nat)(hx:x<4294967296):fX x=(2*x%4294967296) ^^^ (x/2147483648*79764919%4294967296):=by
 unfold fX;by_cases h:2147483648<=x;·rw[Ng h,show x/2147483648=1 by omega]
 ·rw[Nf h,show x/2147483648=0 by omega]
theorem xK(n:Nat):∀c,cV (n+1) c=fX (cV n c):=by
 induction n with
 | zero=>intro c;rfl
 | succ n ih=>intro c;rw[cV,ih];rfl
theorem Bd(w:World)(c:Nat)(hc:c<4294967296):
 Calls prog 166 #[.int .u32 c] w fun e w'=>e=.returned (.int .u32 (cV 8 c))/\w=w':=by
 go_enter func166,ntmps166;go_wp2_with fail;go_loop [0,4] (fun v i=>∃j x:Nat,j<=8/\i=.int .i64 j/\v=.int .u32 x/\x=cV j c/\x<4294967296) (fun _ i=>8-(intOf i).toNat)
 case atStart=>exact⟨0,c,by omega,rfl,rfl,rfl,hc⟩
 case round=>
  obtain⟨j,x,hj,rfl,rfl,hx,h6⟩:=hrel;have HX:=aa hx;clear hx;by_cases h:j<8;·have h3:=zF x h6;have h2:=gU x;have h4:=aa h2;have h5:=aa h3;clear h3 h2;go_wp2_with fail;refine⟨⟨j+1,fX x,by omega,by go_num,?_,by rw[HX.out,xK],h4.out⟩,by simp[intOf];omega⟩;have h0:((x:Int)*2%4294967296)=((2*x%4294967296:Nat):Int):=(by omega);have h1:((x:Int)/2147483648*79764919)=((x/2147483648*79764919%4294967296:Nat):Int):=(by omega);rw[h0,h1,Sg _ _ (by omega) (by omega),h5.out]
  ·obtain rfl:j=8:=(by omega);go_wp2_with fail;go_ret;rw[<- HX.out];exact⟨rfl,rfl⟩
def lN(n:Nat):Array Value:=(Array.range 256).map fun i=>.int .u32 (if i<n then(kt i:Int)else 0)
theorem xf(n:Nat):(lN n).size=256:=by simp[lN]
theorem Ho:lN 0=Array.replicate 256 (.int .u32 0):=by
 apply Ro;·simp[lN]
 ·intro i h1 h2;simp[lN]
theorem KZ:(∀ w,(zeroValue 151).run prog w=.ok (.agg (lN 0)) w)/\(prog.info? 151).map (·.size)=some 256:=by rw[Ho];exact R2 (by kernel_rfl)
theorem Hn(n:Nat):(lN n).setIfInBounds n (.int .u32 (kt n))=lN (n+1):=by
 apply Ro;·simp[lN]
 ·intro i h1 h2;rw[Qh (by simpa [lN]using h2)];by_cases e:n=i;·subst e;simp[lN]
  ·rw[Nf e];have e2:i<n↔i<n+1:=(by omega);simp[lN,e2]
theorem Bm(n:Nat):(lN n).all (·.oneCell')=true:=by rw[QS];intro i h;simp[lN,Value.oneCell']
theorem Kw(i:Nat)(h:i<256):(lN 256)[i]? =some (.int .u32 (kt i:Nat)):=by simp[lN,h]
theorem Cx(w:World):Calls prog 108 #[] w fun e w'=>e=.returned (.agg (lN 256))/\Below w.heap.size w w':=by
 obtain⟨hz,hi⟩:=KZ;have HS:=aa xf;have HN:=aa Hn;have HO:=aa Bm;generalize lN=T at*;have HI:=aa hi;clear hi;go_enter func108,ntmps108;go_wp2;go_loopg [3] 256 (fun g s3 wx=>∃i:Nat,i+g=256/\s3=.int .i64 i/\wx=(w.alloc (.cells (T 0) 151)).alloc (.cells (T i) 151))
 case atStart=>exact⟨0,by omega,rfl,rfl⟩
 case round=>
  obtain⟨i,h9,rfl,rfl⟩:=hrel;clear hz
  cases gk with
  | zero=>
   obtain rfl:i=256:=(by omega);have h6:=run_loadCellsFrom_new (P:=prog) (w.alloc (.cells (T 0) 151)) 151 (T 256) 256 (HS.out 256);have h3:(w.alloc (.cells (T 0) 151)).heap.size=w.heap.size+1:=(by simp);rw[h3]at h6;clear h3;go_wp2;trace_state
   have h2:((w.alloc (.cells (T 0) 151)).alloc (.cells (T 256) 151)).heap[w.heap.size+1]? =some (.cells (T 256) 151 (0,0)):=(by have:=heap_alloc_last (w.alloc (.cells (T 0) 151)) (.cells (T 256) 151);simpa using this);have h1:((w.alloc (.cells (T 0) 151)).alloc (.cells (T 256) 151)).heap[w.heap.size]? =some (.cells (T 0) 151 (0,0)):=(by rw[bH _ _ _ (by simp)];exact heap_alloc_last w _);have h0:(prog.info? 151).map (·.size)=some (T 256).size:=(by rw[HS.out];exact HI.out);refine kh rfl rfl h2 underlying151 h0 ?_;have ha:=cE (P:=prog) h1 h0 (by rw[HS.out,HS.out]) (HO.out _);have h7:=HS.out 256;have h5:=aa h0;have h4:=aa h1;clear h0 h1 h2;go_wp2;refine ND (v:=.agg (T 256)) (i6 rfl rfl (QJ _ _ _ _ _ _ h4.out) underlying151 h5.out) rfl ⟨rfl,?_⟩;exact below_setRow (((Nj _ w).alloc (ah _) _).alloc (by simp) _) (ah _) _
  | succ g=>
   have h8:i<256:=(by omega);have h7:(T i).size=256:=HS.out i;have HC:=aa (Bd ((w.alloc (.cells (T 0) 151)).alloc (.cells (T i) 151)) (i*16777216) (by omega));(go_wp2_with (refine HC.out.mono ?_));rintro e w1 ⟨rfl,rfl⟩;go_wp2;(go_roundg g);case measure=>omega
   case rel=>exact⟨i+1,by omega,by first|rfl|simp,by rw[<- HN.out i];rfl⟩
theorem BQ(w:World)(g c b:Nat)(hg:∀i,i<256->w.cell? ⟨g,i,none⟩=some (.int .u32 (kt i)))(hc:c<4294967296)(hb:b<256):
 Calls prog 109 #[.pointer (some ⟨g,0,none⟩),.int .u32 c,.int .u8 b] w fun e w'=>e=.returned (.int .u32 (jY c b))/\w=w':=by have h1:c/16777216<256:=(by omega);have h2:(c/16777216) ^^^ b<256:=Qp (n:=8) h1 hb;have hx:bits .xor .u8 ((c:Int)/16777216) (b:Int)=(((c/16777216) ^^^ b:Nat):Int):=(by rw[show ((c:Int)/16777216)=((c/16777216:Nat):Int) by omega,u8_xor_nat _ _ h1 hb]);have g1:=hg _ h2;have h3:=FB ((c/16777216) ^^^ b);have ht:=zG c b hc hb;generalize kt ((c/16777216) ^^^ b)=y at*;generalize (c/16777216) ^^^ b=k at*;have HT:=aa ht;have H3:=aa h3;clear ht h3 hg;go_enter func109,ntmps109;go_wp2;go_ret;refine⟨?_,rfl⟩;rw[HT.out,show((c:Int)*256%4294967296)=((c%16777216*256:Nat):Int) by omega,Sg _ _ (by omega) H3.out];rfl
theorem Hw(c:Nat)(s:ByteArray)(j:Nat)(h:j<s.size):gn c (s.data.toList.take (j+1))=jY (gn c (s.data.toList.take j)) (s[j]).toNat:=by have h0:j<s.data.toList.length:=(by simpa using h);rw[NI h0,tk];rfl
theorem Fw(w:World)(c:Nat)(s:ByteArray)(hc:c<4294967296)(hs:s.size<=9223372036854775807):
 Calls prog 54 #[.int .u32 c,.string s] w fun e w'=>e=.returned (.int .u32 (gn c s.data.toList))/\Below w.heap.size w w':=by
 have HS:=aa xf;have HG:=aa Kw;have HO:=aa Bm;have HE:=aa Cx;obtain⟨hz,hi⟩:=KZ;generalize lN=T at*;have HI:=aa hi;clear hi;go_enter func54,ntmps54;go_wp2_with fail;refine(HE.out w).mono ?_;rintro e w1 ⟨rfl,h2⟩;have h8:=Se (P:=prog) w1 151 (T 0) (T 256) (by rw[HS.out];exact HI.out) (by rw[HS.out,HS.out]) (HO.out _);have ha:=HS.out 256;have h0:∀i,i<256->(w1.alloc (.cells (T 256) 151)).cell? ⟨w1.heap.size,i,none⟩=some (.int .u32 (kt i)):=by intro i h;rw[World.cell?_alloc_new];exact HG.out i h
 have HC:=aa h0;have h4:Below w.heap.size w (w1.alloc (.cells (T 256) 151)):=h2.alloc h2.size _;have HB:=aa h4;clear h0 h2 h4;go_wp2_with fail;clear h8;generalize w1.alloc (.cells (T 256) 151)=w2 at*;generalize w1.heap.size=g at*;generalize T 256=T2 at*;go_loop [0,10] (fun v i=>∃j x:Nat,j<=s.size/\i=.int .i64 j/\v=.int .u32 x/\x=gn c (s.data.toList.take j)/\x<4294967296) (fun _ i=>s.size-(intOf i).toNat)
 case atStart=>exact⟨0,c,by omega,rfl,rfl,rfl,hc⟩
 case round=>
  obtain⟨j,x,hj,rfl,rfl,hx,h9⟩:=hrel;by_cases h:j<s.size;·have h3:=Hw c s j h;rw[<- hx]at h3;have h5:=nO x (s[j]).toNat;have hb:=Pr (s[j]);have HR:=aa (BQ w2 g x (s[j]).toNat HC.out h9 hb);have h7:=aa h3;have h6:=aa h5;have HX:=aa hx;clear h3 h5 hx;(go_wp2_with (refine HR.out.mono ?_));exact⟨⟨j+1,_,by omega,by go_num,rfl,h7.out.symm,h6.out⟩,by simp[intOf];omega⟩
  ·obtain rfl:j=s.size:=(by omega);have h1:s.data.toList.take s.size=s.data.toList:=Nt (Ox rfl);rw[h1]at hx;clear h1;have HX:=aa hx;clear hx;go_wp2_with fail;go_ret;rw[<- HX.out];exact⟨rfl,HB.out⟩
theorem KV(x:Nat)(hx:x<4294967296):4294967295 ^^^ x=4294967295-x:=by
 apply QA;intro i;have h1:=Nat.testBit_two_pow_sub_succ (n:=32) hx i;have h2:=Nat.testBit_two_pow_sub_one 32 i;rw[show (4294967295-x:Nat)=2^32-(x+1) by omega,h1,RT,show(4294967295:Nat)=2^32-1 by rfl,h2];by_cases h:i<32;·simp[h]
 ·have h3:x.testBit i=false:=Nat.testBit_lt_two_pow (OM hx (Oj (n:=2) (by omega) (by omega:32<=i)));simp[h,h3]
theorem LG(x:Nat)(hx:x<4294967296):bits .xor .u32 IntKind.u32.max (x:Int)=((4294967295-x:Nat):Int):=by rw[<- KV x hx,<-Sg _ _ (by omega) hx];rfl
theorem yI:(IntKind.u32.signed=true)=False:=by decide
theorem vT(w:World)(s:ByteArray)(hs:s.size<=9223372036854775807):
 Calls prog 21 #[.string s] w fun e w'=>e=.returned (.int .u32 (4294967295-gn 4294967295 s.data.toList:Nat))/\Below w.heap.size w w':=by go_enter func21,ntmps21;go_wp2_with fail;refine(Fw w 4294967295 s (by decide) hs).mono ?_;rintro e w1 ⟨rfl,hb⟩;have h0:=tp s.data.toList 4294967295 (by decide);generalize hX:gn 4294967295 s.data.toList=x at*;have HX:=aa hX;clear hX;have h1:=LG x h0;have h2:=yI;go_wp2_with fail;go_ret;rw[HX.out];exact⟨rfl,hb⟩
theorem Dv(w:World)(x:Nat)(hx:x<4294967296):
 Calls prog 61 #[.int .u32 x,.int .i64 1] w fun e w'=>e=.returned (.int .u32 (x%2147483648*2+x/2147483648:Nat))/\w=w':=by
 have h0:bits .and .u64 1 31=1:=by rfl
 have h1:bits .or .u32 ((x:Int)*2%4294967296) ((x:Int)/2147483648)=((x%2147483648*2+x/2147483648:Nat):Int):=by
  rw[show ((x:Int)*2%4294967296)=((x%2147483648*2:Nat):Int) by omega,show((x:Int)/2147483648)=((x/2147483648:Nat):Int) by omega,u32_or_nat _ _ (by omega) (by omega),
   nat_join 1 _ _ (by omega) (by omega)]
 go_enter func61,ntmps61;go_wp2;go_ret;exact⟨rfl,rfl⟩
theorem mr(w:World)(A:Option Addr)(n c:Nat)(L:List Nat)(hi:xz w A n L)(hb:∀x∈L,x<4294967296)(hn:n<=9223372036854775807):
 Calls prog 24 #[.slice A n c] w fun e w'=>e=.returned (.int .u32 (cn L))/\w=w':=by
 have HI:=aa hi;have HB:=aa hb;clear hi hb;go_enter func24,ntmps24;go_wp2_with fail;go_loop [3,8] (fun v i=>∃j x:Nat,j<=n/\i=.int .i64 j/\v=.int .u32 x/\x=cn (L.take j)/\x<4294967296) (fun _ i=>n-(intOf i).toNat)
 case atStart=>exact⟨0,0,Nh _,rfl,rfl,by simp[cn],by omega⟩
 case round=>
  obtain⟨j,x,hj,rfl,rfl,hx,h4⟩:=hrel;by_cases h:j<n;·obtain⟨hl,hc⟩:=HI.out;obtain⟨b,off,rfl,h2⟩:=hc (by omega);have g:=h2 j h;have hy:L.getD j 0<4294967296:=(by rw[Nb,Nd (by omega)];exact HB.out _ (NL _));have h1:=pA L j (by omega);rw[<- hx]at h1;have h3:=kC x (L.getD j 0) h4 hy;have HR:=aa (Dv w x h4);have h6:=aa h1;have HX:=aa hx;have h5:=aa h3;have HL:=aa hl;clear hl hc h2 h1 hx h3;generalize L.getD j 0=y at*;(go_wp2_with (refine HR.out.mono ?_));refine⟨⟨j+1,fs x y,by omega,by go_num,?_,h6.out.symm,h5.out⟩,by simp[intOf];omega⟩;have h0:((x:Int)%2147483648*2+(x:Int)/2147483648)=((x%2147483648*2+x/2147483648:Nat):Int):=(by omega);rw[h0,Sg _ _ (by omega) hy];rfl
  ·obtain rfl:j=n:=(by omega);have hl:=HI.out.1;rw[Nt (by omega)]at hx;have HX:=aa hx;clear hx hl;go_wp2_with fail;go_ret;rw[<- HX.out];exact⟨rfl,rfl⟩
