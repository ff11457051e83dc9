import Derived.Test.YthakcjehhlpjnaaGreatB17
set_option maxHeartbeats 1600000
set_option maxRecDepth 1000000
namespace Go.Proofs.YthakcjehhlpjnaaGreat.S02
open Go.RowKit
theorem wE(x:Nat)(hx:x<4294967296):fu x=(2*x % 4294967296) ^^^ (x / 2147483648*79764919 % 4294967296):=by
 unfold fu
 by_cases h:2147483648≤x
 ·rw[if_pos h,show x / 2147483648=1 by omega]
 ·rw[if_neg h,show x / 2147483648=0 by omega]
theorem vO(n:Nat):∀c,cz (n+1) c=fu (cz n c):=by
 induction n with
 | zero=>intro c;rfl
 | succ n ih=>intro c;rw[cz,ih];rfl
theorem yl(w:World)(c:Nat)(hc:c<4294967296):
 Calls Tryz.prog 161 #[.int .u32 c] w fun e w'=>e=.returned (.int .u32 (cz 8 c))∧w=w':=by
 go_enter Tryz.func161,Tryz.ntmps161
 go_wp2_with fail
 go_loop [0,4] (fun v i=>∃j x:Nat,j≤8∧i=.int .i64 j∧v=.int .u32 x∧x=cz j c∧x<4294967296) (fun _ i=>8 - (intOf i).toNat)
 case atStart=>exact⟨0,c,by omega,rfl,rfl,rfl,hc⟩
 case round=>
  obtain⟨j,x,hj,rfl,rfl,hx,h6⟩:=hrel
  have HX:=aa hx
  clear hx
  by_cases h:j<8
  ·have h3:=wE x h6
   have h2:=fZ x
   have h4:=aa h2
   have h5:=aa h3
   clear h3 h2
   go_wp2_with fail
   refine⟨⟨j+1,fu x,by omega,by go_num,?_,by rw[HX.out,vO],h4.out⟩,by simp[intOf];omega⟩
   have h0:((x:Int)*2 % 4294967296)=((2*x % 4294967296:Nat):Int):=by omega
   have h1:((x:Int) / 2147483648*79764919)=((x / 2147483648*79764919 % 4294967296:Nat):Int):=by omega
   rw[h0,h1,u32_xor_nat _ _ (by omega) (by omega),h5.out]
  ·obtain rfl:j=8:=by omega
   go_wp2_with fail
   go_ret
   rw[← HX.out]
   exact⟨rfl,rfl⟩
def kH(n:Nat):Array Value:=(Array.range 256).map fun i=>.int .u32 (if i<n then(jB i:Int)else 0)
theorem tL(n:Nat):(kH n).size=256:=by simp[kH]
theorem Dg:kH 0=Array.replicate 256 (.int .u32 0):=by
 apply Array.ext
 ·simp[kH]
 ·intro i h1 h2
  simp[kH]
theorem GF:(∀ w,(zeroValue 149).run Tryz.prog w=.ok (.agg (kH 0)) w)∧(Tryz.prog.info? 149).map (·.size)=some 256:=by
 rw[Dg]
 exact zero_of_info (by kernel_rfl)
theorem Dh(n:Nat):(kH n).setIfInBounds n (.int .u32 (jB n))=kH (n+1):=by
 apply Array.ext
 ·simp[kH]
 ·intro i h1 h2
  rw[Array.getElem_setIfInBounds (by simpa [kH]using h2)]
  by_cases e:n=i
  ·subst e
   simp[kH]
  ·rw[if_neg e]
   have e2:i<n↔i<n+1:=by omega
   simp[kH,e2]
theorem xw(n:Nat):(kH n).all (·.oneCell')=true:=by
 rw[Array.all_eq_true]
 intro i h
 simp[kH,Value.oneCell']
theorem Ge(i:Nat)(h:i<256):(kH 256)[i]? =some (.int .u32 (jB i:Nat)):=by
 simp[kH,h]
theorem zU(w:World):Calls Tryz.prog 106 #[] w fun e w'=>e=.returned (.agg (kH 256))∧Below w.heap.size w w':=by
 obtain⟨hz,hi⟩:=GF
 have HS:=aa tL
 have HN:=aa Dh
 have HO:=aa xw
 generalize kH=T at*
 have HI:=aa hi
 clear hi
 go_enter Tryz.func106,Tryz.ntmps106
 go_wp2
 go_loopg [3] 256 (fun g s3 wx=>∃i:Nat,i+g=256∧s3=.int .i64 i∧wx=(w.alloc (.cells (T 0) 149)).alloc (.cells (T i) 149))
 case atStart=>exact⟨0,by omega,rfl,rfl⟩
 case round=>
  obtain⟨i,ha,rfl,rfl⟩:=hrel
  clear hz
  cases gk with
  | zero=>
    obtain rfl:i=256:=by omega
    have h6:=run_loadCellsFrom_new (P:=Tryz.prog) (w.alloc (.cells (T 0) 149)) 149 (T 256) 256 (HS.out 256)
    have h3:(w.alloc (.cells (T 0) 149)).heap.size=w.heap.size+1:=by simp
    rw[h3]at h6
    clear h3
    go_wp2
    trace_state
    have h2:((w.alloc (.cells (T 0) 149)).alloc (.cells (T 256) 149)).heap[w.heap.size+1]? =some (.cells (T 256) 149 (0,0)):=by
     have:=heap_alloc_last (w.alloc (.cells (T 0) 149)) (.cells (T 256) 149)
     simpa using this
    have h1:((w.alloc (.cells (T 0) 149)).alloc (.cells (T 256) 149)).heap[w.heap.size]? =some (.cells (T 0) 149 (0,0)):=by
     rw[bn _ _ _ (by simp)]
     exact heap_alloc_last w _
    have h0:(Tryz.prog.info? 149).map (·.size)=some (T 256).size:=by rw[HS.out];exact HI.out
    refine jc rfl rfl h2 Tryz.underlying149 h0 ?_
    have hb:=bV (P:=Tryz.prog) h1 h0 (by rw[HS.out,HS.out]) (HO.out _)
    have h7:=HS.out 256
    have h5:=aa h0
    have h4:=aa h1
    clear h0 h1 h2
    go_wp2
    refine bodyPost_ret (v:=.agg (T 256)) (il rfl rfl (setRow_heap _ _ _ _ _ _ h4.out) Tryz.underlying149 h5.out) rfl ⟨rfl,?_⟩
    exact below_setRow (((Below.refl _ w).alloc (ah _) _).alloc (by simp) _) (ah _) _
  | succ g=>
    have h9:i<256:=by omega
    have h7:(T i).size=256:=HS.out i
    have h8:(T i)[i]? =some (T i)[i]:=Array.getElem?_eq_getElem _
    have HC:=aa (yl ((w.alloc (.cells (T 0) 149)).alloc (.cells (T i) 149)) (i*16777216) (by omega))
    go_wp2_with (refine HC.out.mono ?_)
    rintro e w1 ⟨rfl,rfl⟩
    go_wp2
    go_roundg g
    case measure=>omega
    case rel=>exact⟨i+1,by omega,by first | rfl | simp,by rw[← HN.out i];rfl⟩
theorem Bj(w:World)(g c b:Nat)(hg:∀i,i<256→w.cell? ⟨g,i,none⟩=some (.int .u32 (jB i)))(hc:c<4294967296)(hb:b<256):
 Calls Tryz.prog 107 #[.pointer (some ⟨g,0,none⟩),.int .u32 c,.int .u8 b] w fun e w'=>e=.returned (.int .u32 (jk c b))∧w=w':=by
 have h1:c / 16777216<256:=by omega
 have h2:(c / 16777216) ^^^ b<256:=Nat.xor_lt_two_pow (n:=8) h1 hb
 have hx:bits .xor .u8 ((c:Int) / 16777216) (b:Int)=(((c / 16777216) ^^^ b:Nat):Int):=by
  rw[show ((c:Int) / 16777216)=((c / 16777216:Nat):Int) by omega,u8_xor_nat _ _ h1 hb]
 have g1:=hg _ h2
 have h3:=Dj ((c / 16777216) ^^^ b)
 have ht:=wv c b hc hb
 generalize jB ((c / 16777216) ^^^ b)=y at*
 generalize (c / 16777216) ^^^ b=k at*
 have HT:=aa ht
 have H3:=aa h3
 clear ht h3 hg
 go_enter Tryz.func107,Tryz.ntmps107
 go_wp2
 go_ret
 refine⟨?_,rfl⟩
 rw[HT.out,show((c:Int)*256 % 4294967296)=((c % 16777216*256:Nat):Int) by omega,u32_xor_nat _ _ (by omega) H3.out]
 rfl
theorem Cy(c:Nat)(s:ByteArray)(j:Nat)(h:j<s.size):fU c (s.data.toList.take (j+1))=jk (fU c (s.data.toList.take j)) (s[j]).toNat:=by
 have h0:j<s.data.toList.length:=by simpa using h
 rw[List.take_succ_eq_append_getElem h0,ry]
 rfl
theorem DF(w:World)(c:Nat)(s:ByteArray)(hc:c<4294967296)(hs:s.size≤9223372036854775807):
 Calls Tryz.prog 45 #[.int .u32 c,.string s] w fun e w'=>e=.returned (.int .u32 (fU c s.data.toList))∧Below w.heap.size w w':=by
 have HS:=aa tL
 have HG:=aa Ge
 have HO:=aa xw
 have HE:=aa zU
 obtain⟨hz,hi⟩:=GF
 generalize kH=T at*
 have HI:=aa hi
 clear hi
 go_enter Tryz.func45,Tryz.ntmps45
 go_wp2_with fail
 refine(HE.out w).mono ?_
 rintro e w1 ⟨rfl,h2⟩
 have h8:=run_storeCells_new (P:=Tryz.prog) w1 149 (T 0) (T 256) (by rw[HS.out];exact HI.out) (by rw[HS.out,HS.out]) (HO.out _)
 have ha:=HS.out 256
 have h0:∀i,i<256→(w1.alloc (.cells (T 256) 149)).cell? ⟨w1.heap.size,i,none⟩=some (.int .u32 (jB i)):=by
  intro i h
  rw[World.cell?_alloc_new]
  exact HG.out i h
 have HC:=aa h0
 have h4:Below w.heap.size w (w1.alloc (.cells (T 256) 149)):=h2.alloc h2.size _
 have HB:=aa h4
 clear h0 h2 h4
 go_wp2_with fail
 clear h8
 generalize w1.alloc (.cells (T 256) 149)=w2 at*
 generalize w1.heap.size=g at*
 generalize T 256=T2 at*
 go_loop [0,10] (fun v i=>∃j x:Nat,j≤s.size∧i=.int .i64 j∧v=.int .u32 x∧x=fU c (s.data.toList.take j)∧x<4294967296) (fun _ i=>s.size - (intOf i).toNat)
 case atStart=>exact⟨0,c,by omega,rfl,rfl,rfl,hc⟩
 case round=>
  obtain⟨j,x,hj,rfl,rfl,hx,h9⟩:=hrel
  by_cases h:j<s.size
  ·have h3:=Cy c s j h
   rw[← hx]at h3
   have h5:=mz x (s[j]).toNat
   have hb:=UInt8.toNat_lt (s[j])
   have HR:=aa (Bj w2 g x (s[j]).toNat HC.out h9 hb)
   have h7:=aa h3
   have h6:=aa h5
   have HX:=aa hx
   clear h3 h5 hx
   go_wp2_with (refine HR.out.mono ?_)
   exact⟨⟨j+1,_,by omega,by go_num,rfl,h7.out.symm,h6.out⟩,by simp[intOf];omega⟩
  ·obtain rfl:j=s.size:=by omega
   have h1:s.data.toList.take s.size=s.data.toList:=List.take_of_length_le (Nat.le_of_eq rfl)
   rw[h1]at hx
   clear h1
   have HX:=aa hx
   clear hx
   go_wp2_with fail
   go_ret
   rw[← HX.out]
   exact⟨rfl,HB.out⟩
theorem GX(x:Nat)(hx:x<4294967296):4294967295 ^^^ x=4294967295 - x:=by
 apply Nat.eq_of_testBit_eq
 intro i
 have h1:=Nat.testBit_two_pow_sub_succ (n:=32) hx i
 have h2:=Nat.testBit_two_pow_sub_one 32 i
 rw[show (4294967295 - x:Nat)=2 ^ 32 - (x+1) by omega,h1,Nat.testBit_xor,show(4294967295:Nat)=2 ^ 32 - 1 by rfl,h2]
 by_cases h:i<32
 ·simp[h]
 ·have h3:x.testBit i=false:=Nat.testBit_lt_two_pow (Nat.lt_of_lt_of_le hx (Nat.pow_le_pow_right (n:=2) (by omega) (by omega:32≤i)))
  simp[h,h3]
theorem I0(x:Nat)(hx:x<4294967296):bits .xor .u32 IntKind.u32.max (x:Int)=((4294967295 - x:Nat):Int):=by
 rw[← GX x hx,←u32_xor_nat _ _ (by omega) hx]
 rfl
theorem vv:(IntKind.u32.signed=true)=False:=by decide
theorem tF(w:World)(s:ByteArray)(hs:s.size≤9223372036854775807):
 Calls Tryz.prog 14 #[.string s] w fun e w'=>e=.returned (.int .u32 (4294967295 - fU 4294967295 s.data.toList:Nat))∧Below w.heap.size w w':=by
 go_enter Tryz.func14,Tryz.ntmps14
 go_wp2_with fail
 refine(DF w 4294967295 s (by decide) hs).mono ?_
 rintro e w1 ⟨rfl,hb⟩
 have h0:=rx s.data.toList 4294967295 (by decide)
 generalize hX:fU 4294967295 s.data.toList=x at*
 have HX:=aa hX
 clear hX
 have h1:=I0 x h0
 have h2:=vv
 go_wp2_with fail
 go_ret
 rw[HX.out]
 exact⟨rfl,hb⟩
end Go.Proofs.YthakcjehhlpjnaaGreat.S02
