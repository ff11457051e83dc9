import Derived.Test.YthakcjehhlpjnaaGreatB24
import Derived.Test.YthakcjehhlpjnaaGreatB08
import Derived.Deep.RegionWith
import Derived.Laws.IdiomCopy
import Derived.Lib.BytesEntry
import Derived.Lib.AtoiErrMem
set_option maxHeartbeats 1600000
set_option maxRecDepth 100000
namespace Go.Proofs.YthakcjehhlpjnaaGreat.S06
def nR(P:Nat→Bool)(f:Nat→Nat):Prop:=∀i,i<16→f i<65536∧∀k,k<16→(f i).testBit (15 - k)=P (16*i+k)
def orF(f:Nat→Nat)(b:Nat):Nat→Nat:=fun i=>if i=b / 16 then f (b / 16) ||| 2 ^ (15 - b % 16)else f i
theorem GR:nR (fun _=>false) (fun _=>0):=fun _ _=>⟨Nat.zero_lt_succ _,fun _ _=>Nat.zero_testBit _⟩
theorem Jq{f:Nat→Nat}(hf:∀i,i<16→f i<65536)(b:Nat):∀i,i<16→orF f b i<65536:=by
 intro i hi
 unfold orF
 split
 ·refine Nat.or_lt_two_pow (n:=16) (hf _ (by omega)) ?_
  exact Nat.pow_lt_pow_right (by decide) (by omega)
 ·exact hf i hi
theorem JK{P:Nat→Bool}{f:Nat→Nat}(h:nR P f)(b:Nat):nR (fun x=>P x || x==b) (orF f b):=by
 intro i hi
 refine⟨Jq (fun j hj=>(h j hj).1) b i hi,fun k hk=> ?_⟩
 unfold orF
 by_cases e:i=b / 16
 ·rw[if_pos e,Nat.testBit_or,Nat.testBit_two_pow,←e,(h i hi).2 k hk]
  congr 1
  by_cases e2:16*i+k=b
  ·have e3:15 - b % 16=15 - k:=by omega
   rw[e3,e2]
   simp
  ·have e3:¬15 - b % 16=15 - k:=by omega
   simp[e2,e3]
 ·rw[if_neg e,(h i hi).2 k hk]
  have e2:¬16*i+k=b:=by omega
  simp[e2]
theorem pt(x n:Nat):(x &&& 2 ^ n≠0)=(x.testBit n=true):=by
 rw[Nat.testBit_eq_decide_div_mod_eq,decide_eq_true_eq]
 apply propext
 constructor
 ·intro h
  have:=Nat.testBit_two_pow_self (n:=n)
  by_cases e:x / 2 ^ n % 2=1
  ·exact e
  ·exfalso
   refine h (Nat.eq_of_testBit_eq fun i=> ?_)
   rw[Nat.testBit_and,Nat.testBit_two_pow,Nat.zero_testBit]
   by_cases e2:n=i
   ·subst e2
    rw[Nat.testBit_eq_decide_div_mod_eq]
    simp[e]
   ·simp[e2]
 ·intro h h0
  have h1:(x &&& 2 ^ n).testBit n=false:=by rw[h0,Nat.zero_testBit]
  rw[Nat.testBit_and,Nat.testBit_two_pow_self,Nat.testBit_eq_decide_div_mod_eq,h]at h1
  simp at h1
theorem D8(x:Nat)(h:x<65536):x=0↔∀k,k<16→x.testBit (15 - k)=false:=by
 constructor
 ·intro e k _
  rw[e,Nat.zero_testBit]
 ·intro hk
  refine Nat.eq_of_testBit_eq fun i=> ?_
  rw[Nat.zero_testBit]
  by_cases hi:i<16
  ·have:=hk (15 - i) (by omega)
   rw[show 15 - (15 - i)=i by omega]at this
   exact this
  ·exact Nat.testBit_lt_two_pow (Nat.lt_of_lt_of_le h (by
    have:2 ^ 16≤2 ^ i:=Nat.pow_le_pow_right (by decide) (by omega)
    exact this))
theorem Ho(x:Nat)(g:Nat→Nat)(h:∀k,k<16→g k=if x.testBit (15 - k)then 1 else 0):ai x 16=(List.range 16).map g:=by
 apply List.ext_getElem?
 intro i
 by_cases hi:i<16
 ·rw[lY 16 x i hi,List.getElem?_map,List.getElem?_range hi,Option.map_some,h i hi,show 16 - 1 - i=15 - i by omega,Nat.testBit_eq_decide_div_mod_eq]
  have:=Nat.mod_two_eq_zero_or_one (x / 2 ^ (15 - i))
  rcases this with e | e <;>simp[e]
 ·rw[List.getElem?_eq_none (by rw[af];omega),List.getElem?_eq_none (by simp;omega)]
def ld(x i:Nat):List UInt8:=((List.range 16).filter fun k=>x.testBit (15 - k)).map fun k=>UInt8.ofNat (16*i+k)
def ns(f:Nat→Nat):List UInt8:=(List.range 16).flatMap fun i=>ld (f i) i
def fc(f:Nat→Nat)(q:Nat):List UInt8:=((List.range q).filter fun b=>(f (b / 16)).testBit (15 - b % 16)).map UInt8.ofNat
theorem tX(f:Nat→Nat)(q:Nat):fc f (q+1)=if(f (q / 16)).testBit (15 - q % 16)then fc f q++ [UInt8.ofNat q]else fc f q:=by
 unfold fc
 rw[List.range_succ,List.filter_append,List.map_append]
 by_cases e:(f (q / 16)).testBit (15 - q % 16)=true
 ·simp[e]
 ·simp[e]
theorem x5(f:Nat→Nat)(n:Nat):∀m,m≤16→fc f (16*n+m)=fc f (16*n)++((List.range m).filter fun k=>(f n).testBit (15 - k)).map fun k=>UInt8.ofNat (16*n+k)
 | 0,_=>by simp
 | m+1,h=>by
   rw[← Nat.add_assoc,tX,x5 f n m (by omega),List.range_succ,List.filter_append,List.map_append,show(16*n+m) / 16=n by omega,show(16*n+m) % 16=m by omega]
   by_cases e:(f n).testBit (15 - m)=true
   ·simp[e]
   ·simp[e]
theorem uz(f:Nat→Nat):∀n,fc f (16*n)=(List.range n).flatMap fun i=>ld (f i) i
 | 0=>rfl
 | n+1=>by
   rw[Nat.mul_succ,x5 f n 16 (ah _),uz f n,List.range_succ (n:=n),List.flatMap_append]
   simp[ld]
theorem xX(f:Nat→Nat):fc f 256=ns f:=uz f 16
theorem yj(f:Nat→Nat)(q:Nat):(fc f q).length≤q:=by
 unfold fc
 rw[List.length_map]
 exact Nat.le_trans (List.length_filter_le ..) (Nat.le_of_eq List.length_range)
theorem Eo(s:List UInt8)(f:Nat→Nat)(h:nR (fun b=>decide (UInt8.ofNat b∈s)) f):ns f=ofL s:=by
 rw[← xX]
 unfold fc ofL yg
 rw[List.filter_map]
 congr 1
 refine List.filter_congr fun b hb=> ?_
 have hb:=List.mem_range.1 hb
 rw[(h (b / 16) (by omega)).2 (b % 16) (by omega),show 16*(b / 16)+b % 16=b by omega]
 rfl
theorem E5(s:List UInt8)(q:Nat)(hq:q<s.length)(f:Nat→Nat)(h:nR (fun b=>decide (UInt8.ofNat b∈s.take q)) f):
 nR (fun b=>decide (UInt8.ofNat b∈s.take (q+1))) (orF f (s.getD q 0).toNat):=by
 have h1:=JK h (s.getD q 0).toNat
 intro i hi
 refine⟨(h1 i hi).1,fun k hk=> ?_⟩
 rw[(h1 i hi).2 k hk]
 have e:s.getD q 0=s[q]:=by rw[List.getD_eq_getElem?_getD,List.getElem?_eq_getElem hq];rfl
 have hb:=UInt8.toNat_lt s[q]
 have e2:(16*i+k==s[q].toNat)=decide (UInt8.ofNat (16*i+k)=s[q]):=by
  rw[Bool.beq_eq_decide_eq]
  refine decide_eq_decide.2 ⟨fun h=>by rw[h,UInt8.ofNat_toNat],fun h=> ?_⟩
  rw[← h,UInt8.toNat_ofNat',Nat.mod_eq_of_lt (by omega)]
 rw[List.take_succ_eq_append_getElem hq,e]
 show(decide (UInt8.ofNat (16*i+k)∈s.take q) || (16*i+k==s[q].toNat))=decide (UInt8.ofNat (16*i+k)∈s.take q++ [s[q]])
 rw[e2,←Bool.decide_or]
 refine decide_eq_decide.2 ?_
 rw[List.mem_append,List.mem_singleton]
def vc(f:Nat→Nat)(q u:Nat):Prop:=u<65536∧∀k,k<16→u.testBit (15 - k)=(decide (k<q)&&decide (f k≠0))
theorem FF(f:Nat→Nat):vc f 0 0:=⟨by decide,fun k _=>by simp⟩
theorem IP{f:Nat→Nat}{q u:Nat}(h:vc f q u)(hq:q<16)(h0:f q≠0):vc f (q+1) (u ||| 2 ^ (15 - q)):=by
 refine⟨Nat.or_lt_two_pow (n:=16) h.1 (Nat.pow_lt_pow_right (by decide) (by omega)),fun k hk=> ?_⟩
 rw[Nat.testBit_or,Nat.testBit_two_pow,h.2 k hk]
 by_cases e:k=q
 ·subst e
  simp[h0]
 ·have e3:¬15 - q=15 - k:=by omega
  have e4:(decide (k<q+1))=decide (k<q):=decide_eq_decide.2 (by omega)
  rw[e4]
  simp[e3]
theorem Jh{f:Nat→Nat}{q u:Nat}(h:vc f q u)(h0:f q=0):vc f (q+1) u:=by
 refine⟨h.1,fun k hk=> ?_⟩
 rw[h.2 k hk]
 by_cases e:k=q
 ·subst e
  simp[h0]
 ·have e4:(decide (k<q+1))=decide (k<q):=decide_eq_decide.2 (by omega)
  rw[e4]
theorem m7{a:List UInt8}{f:Nat→Nat}(h:nR (fun b=>decide (UInt8.ofNat b∈a)) f){i:Nat}(hi:i<16):f i=0↔jF a i=0:=by
 rw[D8 (f i) (h i hi).1]
 unfold jF
 constructor
 ·intro hk
  rw[if_neg]
  rw[List.any_eq_true]
  rintro⟨x,hx,h0⟩
  have hb:=UInt8.toNat_lt x
  have hd:x.toNat / 16=i:=by simpa using h0
  have h3:=(h i hi).2 (x.toNat % 16) (by omega)
  rw[hk (x.toNat % 16) (by omega),show 16*i+x.toNat % 16=x.toNat by omega]at h3
  replace h3:false=decide (UInt8.ofNat x.toNat∈a):=h3
  rw[UInt8.ofNat_toNat]at h3
  simp[hx]at h3
 ·intro hr k hk
  rw[(h i hi).2 k hk,decide_eq_false_iff_not]
  intro hm
  rw[if_pos]at hr
  ·simp at hr
  ·rw[List.any_eq_true]
   refine⟨_,hm,?_⟩
   rw[UInt8.toNat_ofNat',Nat.mod_eq_of_lt (by omega),show(16*i+k) / 16=i by omega]
   simp
theorem FS{a:List UInt8}{f:Nat→Nat}(h:nR (fun b=>decide (UInt8.ofNat b∈a)) f){u:Nat}(hu:vc f 16 u):ai u 16=(List.range 16).map (jF a):=by
 refine Ho u _ fun k hk=> ?_
 rw[hu.2 k hk]
 by_cases e:f k=0
 ·rw[(m7 h hk).1 e]
  simp[e]
 ·have:¬jF a k=0:=fun h2=>e ((m7 h hk).2 h2)
  have e1:jF a k=1:=by rcases kb a k with h2 | h2 <;>omega
  rw[e1]
  simp[hk,e]
theorem Fg{a:List UInt8}{f:Nat→Nat}(h:nR (fun b=>decide (UInt8.ofNat b∈a)) f){i:Nat}(hi:i<16)(h0:f i≠0):ai (f i) 16=a8 a i:=by
 have e1:jF a i=1:=by
  have:¬jF a i=0:=fun h2=>h0 ((m7 h hi).2 h2)
  rcases kb a i with h2 | h2 <;>omega
 unfold a8
 rw[if_pos e1]
 refine Ho _ _ fun k hk=> ?_
 rw[(h i hi).2 k hk]
 unfold uW
 simp only[decide_eq_true_eq]
theorem sZ{a:List UInt8}{f:Nat→Nat}(h:nR (fun b=>decide (UInt8.ofNat b∈a)) f){i:Nat}(hi:i<16)(h0:f i=0):a8 a i= []:=by
 unfold a8
 rw[if_neg]
 rw[(m7 h hi).1 h0]
 decide
theorem qw(l:List Nat)(p k:Nat)(hb:an l)(hp:p+16≤l.length)(hk:k<16):(val ((l.drop p).take 16)).testBit (15 - k)=(l.getD (p+k) 0==1):=by
 have h0:((l.drop p).take 16).length=16:=by rw[List.length_take,List.length_drop];omega
 have h1:=eQ ((l.drop p).take 16) ((hb.drop p).take 16)
 rw[h0]at h1
 have h2:=lY 16 (val ((l.drop p).take 16)) k hk
 rw[h1,List.getElem?_take_of_lt hk,List.getElem?_drop,List.getElem?_eq_getElem (by omega),Option.some.injEq,show 16 - 1 - k=15 - k by omega]at h2
 rw[Nat.testBit_eq_decide_div_mod_eq,←h2,List.getD_eq_getElem?_getD,List.getElem?_eq_getElem (by omega)]
 rfl
theorem Hj(l:List Nat)(p:Nat)(hb:an l)(hp:p+16≤l.length):val ((l.drop p).take 16)<65536:=by
 have h0:((l.drop p).take 16).length=16:=by rw[List.length_take,List.length_drop];omega
 have:=eD ((l.drop p).take 16) ((hb.drop p).take 16)
 rw[h0]at this
 exact this
theorem E1(l:List Nat)(p i:Nat)(hb:an l)(hp:p+16≤l.length):ld (val ((l.drop p).take 16)) i=eh l p i:=by
 unfold ld eh
 congr 1
 refine List.filter_congr fun k hk=> ?_
 exact qw l p k hb hp (List.mem_range.1 hk)
def rr(f:Nat→Nat)(q:Nat)(out:List UInt8):Prop:=(∀ i,f i<65536)∧(∀ i,q≤i→f i=0)∧out=(List.range q).flatMap fun i=>ld (f i) i
theorem zE(i:Nat):ld 0 i= []:=by
 unfold ld
 rw[List.filter_eq_nil_iff.2 (fun k _=>by simp)]
 rfl
theorem Cd:rr (fun _=>0) 0 []:=⟨fun _=>Nat.zero_lt_succ _,fun _ _=>rfl,rfl⟩
theorem If{f:Nat→Nat}{q:Nat}{out:List UInt8}(h:rr f q out):rr f (q+1) out:=by
 refine⟨h.1,fun i hi=>h.2.1 i (by omega),?_⟩
 rw[List.range_succ,List.flatMap_append,←h.2.2]
 simp[h.2.1 q (ah _),zE]
theorem GS{f:Nat→Nat}{q x:Nat}{out:List UInt8}(h:rr f q out)(hx:x<65536):rr (fun i=>if i=q then x else f i) (q+1) (out++ld x q):=by
 refine⟨fun i=> ?_,fun i hi=> ?_,?_⟩
 ·show(if i=q then x else f i)<65536
  split
  ·exact hx
  ·exact h.1 i
 ·show(if i=q then x else f i)=0
  rw[if_neg (by omega)]
  exact h.2.1 i (by omega)
 ·rw[List.range_succ,List.flatMap_append,h.2.2]
  have e:((List.range q).flatMap fun i=>ld (if i=q then x else f i) i)=(List.range q).flatMap fun i=>ld (f i) i:=by
   rw[List.flatMap_def,List.flatMap_def]
   congr 1
   refine List.map_congr_left fun i hi=> ?_
   have:=List.mem_range.1 hi
   rw[if_neg (by omega)]
  rw[e]
  simp
theorem Fw{f:Nat→Nat}{out:List UInt8}(h:rr f 16 out):ns f=out:=h.2.2.symm
open Go.RowKit
def gE(f:Nat→Nat):Array Value:=(Array.range 16).map fun i=>.int .u64 (f i)
theorem jO(f:Nat→Nat):(gE f).size=16:=by simp[gE]
theorem C4:gE (fun _=>0)=Array.replicate 16 (.int .u64 0):=by
 apply Array.ext
 ·simp[gE]
 ·intro i h1 h2
  simp[gE]
theorem ro:(∀ w,(zeroValue 95).run Tryz.prog w=.ok (.agg (gE fun _=>0)) w)∧(Tryz.prog.info? 95).map (·.size)=some 16:=by
 rw[C4]
 exact zero_of_info (by kernel_rfl)
theorem wg(f:Nat→Nat)(b x:Nat):(gE f).setIfInBounds b (.int .u64 x)=gE fun i=>if i=b then x else f i:=by
 apply Array.ext
 ·simp[gE]
 ·intro i h1 h2
  rw[Array.getElem_setIfInBounds (by simpa [gE]using h2)]
  by_cases e:b=i
  ·subst e
   simp[gE]
  ·rw[if_neg e]
   have e2:¬i=b:=fun h=>e h.symm
   simp[gE,e2]
theorem lE(f:Nat→Nat):(gE f).all (·.oneCell')=true:=by
 rw[Array.all_eq_true]
 intro i h
 simp[gE,Value.oneCell']
theorem lN(f:Nat→Nat)(i:Nat)(h:i<16):(gE f)[i]? =some (.int .u64 (f i:Nat)):=by
 simp[gE,h]
theorem fs{P:Program}{ops:Array Oper}{rest:List Oper}{o:Oper}{a:Act}{w:World}{Q:Exit→Act→World→Prop}{ty t:TypeId}{p:Operand}{g n:Nat}{e:TypeId}{cs:Array Value}{fr:Nat×Nat}
 (hw:Region.wanted o (yielded ops a.tmps)=true) (h0:o.op=.load ty p) (hp:a.eval p=.pointer (some ⟨g,0,none⟩)) (hg:w.heap[g]? =some (.cells cs t fr)) (hu:P.underlying ty=some (.array n e)) (hi:(P.info? ty).map (·.size)=some cs.size)
 (hn:wpList P ops Q rest (a.put o.dst (.agg cs)) w):wpList P ops Q (o :: rest) a w:=by
 unfold wpList
 rw[if_pos hw]
 exact .inl (jc h0 hp hg hu hi hn)
theorem gu{P:Program}{ops:Array Oper}{rest:List Oper}{o:Oper}{a:Act}{w:World}{Q:Exit→Act→World→Prop}{x:Operand}
 (hw:Region.wanted o (yielded ops a.tmps)=true) (h0:o.op=.move x) (hn:wpList P ops Q rest (a.put o.dst (a.eval x)) w):wpList P ops Q (o :: rest) a w:=by
 unfold wpList
 rw[if_pos hw]
 left
 unfold Oper.wp
 simp[execOp,h0]
 exact hn
theorem lk:∃i,Tryz.prog.info? 93=some i∧i.size=1:=by
 have hs:(Tryz.prog.info? 93).map (·.size)=some 1:=by kernel_rfl
 cases hq:Tryz.prog.info? 93 with
 | none=>simp[hq]at hs
 | some i=>exact⟨i,rfl,by simpa [hq]using hs⟩
theorem qQ(w:World)(cs:Array Value)(q c:Nat)(h:q<16)(hc:cs[q]? =some (.int .u64 c)):(Instr.index 95 (.agg cs) (.int .i64 q)).run Tryz.prog w=.ok (.int .u64 c) w:=by
 obtain⟨i3,h3,h0⟩:=lk
 have h1:(0:Int)≤(q:Int):=by omega
 have h4:¬16≤q:=by omega
 unfold Instr.index
 simp[run_underlying Tryz.underlying95,go_sem,h1,sizeOf,typeInfo,h3,h0,part,hc,h4]
theorem qC(w:World)(k:Nat)(hk:k<16):Calls Tryz.prog 109 #[.int .i64 k] w fun e w'=>e=.returned (.int .u64 ((2 ^ (15 - k):Nat):Int))∧w=w':=by
 have hi:∃i:Nat,i<16∧k=i:=⟨k,hk,rfl⟩
 have h0:k=0∨k=1∨k=2∨k=3∨k=4∨k=5∨k=6∨k=7∨k=8∨k=9∨k=10∨k=11∨k=12∨k=13∨k=14∨k=15:=by omega
 clear hi
 rcases h0 with rfl | rfl | rfl | rfl | rfl | rfl | rfl | rfl | rfl | rfl | rfl | rfl | rfl | rfl | rfl | rfl <;>(go_enter Tryz.func109,Tryz.ntmps109;go_wp2_with fail;go_ret;exact⟨rfl,rfl⟩)
theorem aI{w:World}{g k:Nat}{t:TypeId}{cs:Array Value}(h:Blk w g t cs)(h0:g≠k)(i:Nat)(u:Value):Blk (w.setCell ⟨k,i,none⟩ u) g t cs:=by
 show(w.setCell ⟨k,i,none⟩ u).heap[g]? =_
 rw[Below.heap_setCell w ⟨k,i,none⟩ u g h0]
 exact h
theorem In(w:World)(a b:Array Value)(t:TypeId):Blk ((w.alloc (.cells a t)).alloc (.cells b t)) w.heap.size t a∧Blk ((w.alloc (.cells a t)).alloc (.cells b t)) (w.heap.size+1) t b:=by
 have e1:(w.alloc (.cells a t)).heap.size=w.heap.size+1:=by simp
 refine⟨?_,?_⟩
 ·show(World.alloc _ _).heap[_]? =_
  rw[bn _ _ _ (by simp)]
  exact ag w t a
 ·rw[← e1]
  exact ag _ t b
def uR(w:World)(s:List UInt8)(e:Ending)(w':World):Prop:=∃f,e=.returned (.agg (gE f))∧nR (fun b=>decide (UInt8.ofNat b∈s)) f∧Below w.heap.size w w'
theorem uo(w:World)(s:ByteArray)(hs:s.size≤1000000):Calls Tryz.prog 49 #[.string s] w (uR w s.data.toList):=by
 obtain⟨hz,hi⟩:=ro
 obtain⟨i50,hj,hl⟩:=lk
 have HP:Hid (∀ f w',nR (fun b=>decide (UInt8.ofNat b∈s.data.toList)) f→Below w.heap.size w w'→uR w s.data.toList (.returned (.agg (gE f))) w'):=aa fun f w' h1 h2=>⟨f,rfl,h1,h2⟩
 have HI:=aa hi
 have HS:=aa jO
 have he:=aa wg
 have HO:=aa lE
 have HG:=aa lN
 have ha:=aa qC
 have ht:nR (fun b=>decide (UInt8.ofNat b∈s.data.toList.take 0)) (fun _=>0):=by simpa using GR
 have hC:=aa ht
 have hv:s.data.toList.length=s.size:=rfl
 have ho:=aa hv
 have hD:=aa (E5 s.data.toList)
 generalize uR w s.data.toList=PO at*
 generalize gE=T at*
 clear hi ht hv
 go_enter Tryz.func49,Tryz.ntmps49
 go_wp2
 go_loopw [8] (fun i wx=>∃(q:Nat) (f:Nat→Nat),q≤s.size∧i=.int .i64 q∧Hid (nR (fun b=>decide (UInt8.ofNat b∈s.data.toList.take q)) f)∧Blk wx w.heap.size 95 (T fun _=>0)∧Blk wx (w.heap.size+1) 95 (T f)∧Below w.heap.size w wx) (fun i _=>s.size - (intOf i).toNat)
 case atStart=>
  obtain⟨h1,h2⟩:=In w (T fun _=>0) (T fun _=>0) 95
  exact⟨0,_,Nat.zero_le _,rfl,hC,h1,h2,((Below.refl _ w).alloc (ah _) _).alloc (by simp) _⟩
 case round=>
  obtain⟨q,f,hq,rfl,h3,hg,h4,hb⟩:=hrel
  have H0:=aa hg
  have H1:=aa h4
  have HB:=aa hb
  have hP:=hb.size
  by_cases e:q<s.size
  ·have h6:=UInt8.toNat_lt s[q]
   have hp:=dY s q e
   obtain⟨b,h8⟩:∃b,b=s[q].toNat:=⟨_,rfl⟩
   rw[← h8]at h6
   obtain⟨d,hd⟩:∃d,d=b / 16:=⟨_,rfl⟩
   obtain⟨m,hm⟩:∃m,m=b % 16:=⟨_,rfl⟩
   have h7:d<16:=by omega
   have hk:m<16:=by omega
   have hJ:(0:Int)≤(d:Int):=by omega
   have hK:(d:Int)<16:=by omega
   have hO:IntKind.i64.wrap (d:Int)=(d:Int):=by rw[IntKind.wrap_i64];omega
   have hL:(b:Int) / 16=(d:Int):=by omega
   have hF:(b:Int) % 16=(m:Int):=by omega
   have hE:(b:Int).tmod 16=(m:Int):=by rw[Int.tmod_eq_emod_of_nonneg (by omega)];exact hF
   have hc:=ac h4 d
   have hf:=ae h4 d
   rw[HG.out _ d h7]at hc
   have hu:=h3.out d h7
   obtain⟨c,h9⟩:∃c,c=f d:=⟨_,rfl⟩
   rw[← h9]at hc
   have hI:c<65536:=by rw[h9];exact hu.1
   have hG:2 ^ (15 - m)<65536:=Nat.pow_lt_pow_right (by decide) (show 15 - m<16 by omega)
   have hr:=u64_or_nat c (2 ^ (15 - m)) (by omega) (by omega)
   obtain⟨y,hy⟩:∃y,y=c ||| 2 ^ (15 - m):=⟨_,rfl⟩
   rw[← hy]at hr
   have h0:=fun w1:World=>ha.out w1 m hk
   obtain⟨x,hx⟩:∃x,x=2 ^ (15 - m):=⟨_,rfl⟩
   rw[← hx]at hr
   replace h0:∀w1:World,Calls Tryz.prog 109 #[.int .i64 m] w1 fun e w'=>e=.returned (.int .u64 (x:Int))∧w1=w':=by
    intro w1
    rw[hx]
    exact h0 w1
   have hM:s[q].toNat=b:=h8.symm
   have hH:=HS.out f
   have hB:=aa h9
   have hA:=aa hp
   have hw:=aa h8
   have HD:=aa hd
   have HM:=aa hm
   have HY:=aa hy
   have HX:=aa hx
   have h5:=aa h0
   have HF:=aa hf
   have HC:=aa hc
   clear hg h4 hb hp h8 hz hd hm h9 hy hx hu h0 hG
   go_upto_region 6 with fail
   go_region_with (first | (go_at_call 109;(try rw[hE]);refine(h5.out _).mono ?_;rintro e w' ⟨rfl,rfl⟩))
   all_goals (go_wp2_with fail;go_roundw)
   case' rel=>skip
   all_goals first
    | (refine⟨q+1,orF f b,by omega,by go_num,?_,aI H0.out (by omega) _ _,?_,(HB.out.setCell (p:=⟨w.heap.size+1,d,none⟩) (by show _≤w.heap.size+1;omega) _).drew⟩
       ·have h1:=hD.out q (by rw[ho.out];omega) f h3.out
        rw[hA.out,←hw.out]at h1
        exact h1
       ·have h1:=au H1.out d (.int .u64 (y:Nat))
        rw[he.out]at h1
        have e2:(fun i=>if i=d then y else f i)=orF f b:=by
         funext i
         unfold orF
         rw[HY.out,hB.out,HD.out,HM.out]
        rw[e2]at h1
        exact h1)
    | (simp [intOf];omega)
  ·obtain rfl:q=s.size:=by omega
   have hT:s.data.toList.take s.size=s.data.toList:=List.take_of_length_le (Nat.le_of_eq ho.out)
   rw[hT]at h3
   have hh:(Tryz.prog.info? 95).map (·.size)=some (T f).size:=by rw[HS.out];exact HI.out
   have H1:=aa h4
   have hn:=aa hh
   have hN:=bV (P:=Tryz.prog) H0.out hh (by rw[HS.out,HS.out]) (HO.out _)
   have hH:=HS.out f
   clear hg h4 hb hT hh hz hj hl
   go_upto_region 8 with fail
   refine wp_region_lit (fs rfl rfl rfl H1.out Tryz.underlying95 hn.out ?_)
   go_wp2_with fail
   refine bodyPost_ret (v:=.agg (T f)) (il rfl rfl (setRow_heap _ _ _ _ _ _ H0.out) Tryz.underlying95 hn.out) rfl (HP.out f _ h3.out ?_)
   exact below_setRow HB.out (ah _) _
theorem nO{y:Nat}(h:y≠0):((y:Int)==0)=false:=by
 rw[beq_eq_false_iff_ne]
 omega
theorem BJ(w:World)(a:Array Value)(t:TypeId):Blk (w.alloc (.cells a t)) w.heap.size t a:=ag w t a
theorem iY(w:World)(f:Nat→Nat)(hf:∀i,i<16→f i<65536):Calls Tryz.prog 50 #[.agg (gE f)] w fun e w'=>e=.returned (.string (cN (ns f)))∧Below w.heap.size w w':=by
 obtain⟨i50,hN,hZ⟩:=lk
 obtain⟨i5,h5,hV,hW,hY⟩:=info_parts Tryz.info5
 have hj:=aa qC
 have HF:=aa hf
 have HG:=aa (lN f)
 have H8:=jO f
 have hS:=lE f
 rw[← xX]
 have HN:=aa (tX f)
 have hJ:=aa (yj f)
 have h0:fc f 0= []:=rfl
 have hC:=aa h0
 generalize gE f=T at*
 generalize hgr:fc f=R at*
 clear hgr hf h0
 go_enter Tryz.func50,Tryz.ntmps50
 go_wp2_with fail
 go_loopw [3,5] (fun out i wx=>∃(q:Nat),q≤256∧i=.int .i64 q∧wx.ownsRow w.heap.size 5 1 out (R q).length ((R q).map bv)∧Blk wx w.heap.size 95 T∧Below w.heap.size w wx) (fun _ i _=>256 - (intOf i).toNat)
 case atStart=>
  refine⟨0,Nat.zero_le _,rfl,?_,BJ _ _ _,(Below.refl _ w).alloc (ah _) _⟩
  rw[hC.out]
  exact World.ownsRow_nil _ _ _ _
 case round=>
  obtain⟨q,hq,rfl,h2,hh,hb⟩:=hrel
  have H0:=aa hh
  have HB:=aa hb
  have H1:=hb.size
  have hO:=hJ.out q
  obtain⟨A0,c0,rfl,hR,hP,hL⟩:=aj h2
  clear hL
  unfold maxLen at hP
  by_cases e:q<256
  ·obtain⟨d,hd⟩:∃d,d=q / 16:=⟨_,rfl⟩
   obtain⟨m,hm⟩:∃m,m=q % 16:=⟨_,rfl⟩
   have ha:d<16:=by omega
   have ho:m<16:=by omega
   have H2:(0:Int)≤(d:Int):=by omega
   have H3:(d:Int)<16:=by omega
   have HA:IntKind.i64.wrap (d:Int)=(d:Int):=by rw[IntKind.wrap_i64];omega
   have H4:(q:Int) / 16=(d:Int):=by omega
   have hQ:(q:Int) % 16=(m:Int):=by omega
   have hB:(q:Int).tmod 16=(m:Int):=by rw[Int.tmod_eq_emod_of_nonneg (by omega)];exact hQ
   have hc:=ac hh d
   rw[HG.out d ha]at hc
   have hi:=HN.out q
   rw[← hd,←hm]at hi
   have hM:f d<65536:=HF.out d ha
   obtain⟨c,hz⟩:∃c,c=f d:=⟨_,rfl⟩
   rw[← hz]at hc hM hi
   have hT:2 ^ (15 - m)<65536:=Nat.pow_lt_pow_right (by decide) (show 15 - m<16 by omega)
   have h9:=u64_and_nat c (2 ^ (15 - m)) (by omega) (by omega)
   obtain⟨y,hy⟩:∃y,y=c &&& 2 ^ (15 - m):=⟨_,rfl⟩
   have h7:=pt c (15 - m)
   rw[← hy]at h9 h7
   have h3:=fun w1:World=>hj.out w1 m ho
   obtain⟨x,hx⟩:∃x,x=2 ^ (15 - m):=⟨_,rfl⟩
   rw[← hx]at h9
   replace h3:∀w1:World,Calls Tryz.prog 109 #[.int .i64 m] w1 fun e w'=>e=.returned (.int .u64 (x:Int))∧w1=w':=by
    intro w1
    rw[hx]
    exact h3 w1
   have h4:=aa h3
   have HO:=aa h2
   have hr:=aa hi
   have h8:=aa h7
   clear hh hb hd hm hz hy hx h3 hT h2 hi h7
   by_cases hp:y=0
   ·subst hp
    have hg:¬c.testBit (15 - m)=true:=by
     rw[← h8.out]
     exact fun h=>h rfl
    have he:R (q+1)=R q:=by rw[hr.out,if_neg hg]
    have hl:=aa he
    clear he hg
    go_upto_region 5 with fail
    go_region_with (first | (go_at_call 109;(try rw[hB]);refine(h4.out _).mono ?_;rintro e w' ⟨rfl,rfl⟩))
    all_goals (go_wp2_with fail;go_roundw)
    all_goals first
     | (refine⟨q+1,by omega,by go_num,by rw[hl.out];exact HO.out,H0.out,HB.out.drew⟩)
     | (simp [intOf];omega)
   ·have hg:c.testBit (15 - m)=true:=by
     rw[← h8.out]
     exact hp
    have H5:=nO hp
    have he:R (q+1)=R q++ [UInt8.ofNat q]:=by rw[hr.out,if_pos hg]
    have hl:=aa he
    have hw:(UInt8.ofNat q).toNat=q:=by rw[UInt8.toNat_ofNat',Nat.mod_eq_of_lt e]
    have hH:=aa hw
    clear he hg hw
    obtain⟨k,hk⟩:∃k,k=(R q).length:=⟨_,rfl⟩
    obtain⟨X,hX⟩:∃X,X=(R q).map bv:=⟨_,rfl⟩
    rw[← hk]at hR hO
    have HK:=aa hk
    have HX:=aa hX
    have hn:Hid (wr.drew.ownsRow w.heap.size 5 1 (.slice A0 k c0) k X):=aa (by rw[hX,hk];exact HO.out)
    rw[← hk]
    clear hk hX HO
    have HC:IntKind.u8.wrap (q:Int)=(q:Int):=by rw[IntKind.wrap_u8'];omega
    have ht:Blk wr.drew w.heap.size 95 T:=H0.out
    have hE:=aa ht
    have hI:=aa HB.out.drew
    clear ht
    go_upto_region 5 with fail
    go_region_with (first | (go_at_call 109;(try rw[hB]);refine(h4.out _).mono ?_;rintro e w' ⟨rfl,rfl⟩))
    all_goals (
     go_wp2_with (at_builtin;refine wpList_append_own _ rfl _ _ 43 rfl w.heap.size 5 i5 (.int .u8 0) 1 1 Tryz.underlying43 h5 hV hW hY rfl (by decide) _ _ _ rfl (hn.out.alloc _) ⟨wr.heap.size,0,none⟩ 1 1 [.int .u8 q] rfl rfl ?c1 ?c2 ?c3 ?c4 ?c5 ?_)
     case c1=>exact bi _ _ _
     case c2=>intro u hu;simp at hu;subst hu;rfl
     case c3=>unfold maxLen;omega
     case c4=>omega
     case c5=>simp;omega
     intro v4 w4 h6 h1 _
     have hv:Below w.heap.size w w4:=(hI.out.alloc H1 _).grown h1 (by simp;omega) (fun k hk=>(hn.out.lt k hk).1)
     have hs:Blk w4 w.heap.size 95 T:=og hE.out hn.out (by decide) h1
     have hK:=aa h6
     have hG:=aa hv
     have hD:=aa hs
     clear h6 h1 hv hs
     go_wp2_with fail
     go_roundw
     case rel=>
      refine⟨q+1,by omega,by go_num,?_,hD.out,hG.out⟩
      rw[hl.out,List.length_append,←HK.out,List.map_append,←HX.out]
      have:=hK.out
      rw[show [Value.int .u8 q]= [UInt8.ofNat q].map bv by simp[bv,hH.out]]at this
      exact this
     case measure=>simp[intOf];omega)
  ·obtain rfl:q=256:=by omega
   have hA:=oo h2
   have hF:=aa hb
   clear h2 hb hh H0 HB
   go_wp2_with fail
   go_ret
   exact⟨rfl,hF.out⟩
def vk(w:World)(f:Nat→Nat)(e:Ending)(w':World):Prop:=∃u:Nat,vc f 16 u∧e=.returned (.int .u64 u)∧Below w.heap.size w w'
theorem Cz(w:World)(f:Nat→Nat)(hf:∀i,i<16→f i<65536):Calls Tryz.prog 62 #[.agg (gE f)] w (vk w f):=by
 obtain⟨i50,hg,hj⟩:=lk
 have HP:Hid (∀ (u:Nat) (w':World),vc f 16 u→Below w.heap.size w w'→vk w f (.returned (.int .u64 u)) w'):=aa fun u w' h1 h2=>⟨u,h1,rfl,h2⟩
 have h6:=aa qC
 have HF:=aa hf
 have HG:=aa (lN f)
 have hn:=jO f
 have hh:=lE f
 generalize vk w f=PO at*
 generalize gE f=T at*
 clear hf
 go_enter Tryz.func62,Tryz.ntmps62
 go_wp2_with fail
 go_loopw [3,5] (fun v i wx=>∃(q u:Nat),q≤16∧i=.int .i64 q∧v=.int .u64 u∧Hid (vc f q u)∧Blk wx w.heap.size 95 T∧Below w.heap.size w wx) (fun _ i _=>16 - (intOf i).toNat)
 case atStart=>exact⟨0,0,Nat.zero_le _,rfl,rfl,FF f,BJ _ _ _,(Below.refl _ w).alloc (ah _) _⟩
 case round=>
  obtain⟨q,u,hq,rfl,rfl,hu,h5,hb⟩:=hrel
  have H0:=aa h5
  have HB:=aa hb
  have hp:=hb.size
  by_cases e:q<16
  ·have hl:(0:Int)≤(q:Int):=by omega
   have hm:(q:Int)<16:=by omega
   have hc:=ac h5 q
   rw[HG.out q e]at hc
   obtain⟨c,h8⟩:∃c,c=f q:=⟨_,rfl⟩
   rw[← h8]at hc
   have h9:=aa h8
   clear h5 hb h8
   by_cases h7:c=0
   ·subst h7
    have h3:=Jh hu.out (show f q=0 from h9.out.symm)
    have HU:=aa h3
    clear h3
    go_wp2_with fail
    go_roundw
    case rel=>exact⟨q+1,u,by omega,by go_num,rfl,HU,H0.out,HB.out⟩
    case measure=>simp[intOf];omega
   ·have hk:=nO h7
    have h3:=IP hu.out e (show f q≠0 by rw[← h9.out];exact h7)
    have ho:=hu.out.1
    have hi:2 ^ (15 - q)<65536:=Nat.pow_lt_pow_right (by decide) (show 15 - q<16 by omega)
    have ha:=u64_or_nat u (2 ^ (15 - q)) (by omega) (by omega)
    obtain⟨y,hy⟩:∃y,y=u ||| 2 ^ (15 - q):=⟨_,rfl⟩
    rw[← hy]at ha h3
    have h0:=fun w1:World=>h6.out w1 q e
    obtain⟨x,hx⟩:∃x,x=2 ^ (15 - q):=⟨_,rfl⟩
    rw[← hx]at ha
    replace h0:∀w1:World,Calls Tryz.prog 109 #[.int .i64 q] w1 fun e w'=>e=.returned (.int .u64 (x:Int))∧w1=w':=by
     intro w1
     rw[hx]
     exact h0 w1
    have h4:=aa h0
    have HU:=aa h3
    clear h3 h0 hy hx hi
    go_wp2_with (first | (go_at_call 109;refine(h4.out _).mono ?_;rintro e w' ⟨rfl,rfl⟩))
    go_roundw
    case rel=>exact⟨q+1,y,by omega,by go_num,rfl,HU,H0.out,HB.out⟩
    case measure=>simp[intOf];omega
  ·obtain rfl:q=16:=by omega
   have he:=aa hb
   clear hb h5 H0 HB
   go_wp2_with fail
   exact HP.out u _ hu.out he.out
theorem Bq(w:World)(s:ByteArray)(hs:s.size≤1000000):Calls Tryz.prog 17 #[.string s] w fun e w'=>e=.returned (.string (cN (ofL s.data.toList)))∧Below w.heap.size w w':=by
 have h2:=aa (uo w s hs)
 have h9:=aa iY
 have h8:=aa (Eo s.data.toList)
 go_enter Tryz.func17,Tryz.ntmps17
 go_wp2_with fail
 refine h2.out.mono ?_
 rintro e w1 ⟨f,rfl,h0,h3⟩
 have h4:=h9.out w1 f fun i hi=>(h0 i hi).1
 rw[h8.out f h0]at h4
 have h1:=aa h4
 have h6:=aa h3
 have ha:=h3.size
 clear h4 h0 h3
 generalize gE f=T at*
 go_wp2_with fail
 refine h1.out.mono ?_
 rintro e w2 ⟨rfl,h5⟩
 have h7:=aa (h6.out.trans (h5.mono ha))
 clear h5
 go_wp2_with fail
 go_ret
 exact⟨rfl,h7.out⟩
theorem cK(w:World)(s:ByteArray)(hs:s.size≤1000000):Calls Tryz.prog 51 #[.string s] w fun e w'=>e=.returned (.bool (decide (eY s.data.toList)))∧Below w.heap.size w w':=by
 by_cases h0:s.size=0
 ·have hd:s=⟨#[]⟩:=by
   apply ByteArray.ext
   exact Array.eq_empty_of_size_eq_zero h0
  subst hd
  have e:decide (eY (⟨#[]⟩:ByteArray).data.toList)=false:=decide_eq_false (fun h=>h.1 rfl)
  rw[e]
  go_enter Tryz.func51,Tryz.ntmps51
  go_wp2_with fail
  go_ret
  exact⟨rfl,Below.refl _ _⟩
 ·have h5:=jL s (by omega)
  have h1:s.data.toList≠ []:=fun h=>by
   have h3:s.data.toList.length=s.size:=rfl
   rw[h]at h3
   simp at h3
   omega
  have HA:=aa (Bq w s hs)
  have h4:(s.toList==(cN (ofL s.data.toList)).toList)=decide (eY s.data.toList):=by
   rw[ByteArray.toList_eq,ByteArray.toList_eq]
   show(s.data.toList==ofL s.data.toList)=_
   by_cases h:ofL s.data.toList=s.data.toList
   ·rw[decide_eq_true ⟨h1,h⟩,h]
    simp
   ·rw[decide_eq_false (fun h2=>h h2.2)]
    simpa using fun h2=>h h2.symm
  clear h1
  generalize decide (eY s.data.toList)=d at*
  go_enter Tryz.func51,Tryz.ntmps51
  go_wp2_with fail
  refine HA.out.mono ?_
  rintro e w1 ⟨rfl,hb⟩
  have HB:=aa hb
  clear hb
  go_wp2_with fail
  go_ret
  exact⟨rfl,HB.out⟩
theorem uA(w:World)(s:ByteArray)(p:Int)(hs:s.size≤2000000)(h:p<0∨8*(s.size:Int)<p):Calls Tryz.prog 85 #[.string s,.int .i64 p] w (iZ w ([],0,2)):=by
 have HN:=aa (j8 w s p (by omega) h)
 clear h
 go_enter Tryz.func85,Tryz.ntmps85
 go_wp2_with fail
 refine HN.out.mono ?_
 rintro e w1 ⟨rfl,rfl⟩
 go_wp2_with fail
 go_ret3
 exact⟨rfl,Below.refl _ _⟩
theorem yL(w:World)(s:ByteArray)(p:Nat)(hs:s.size≤2000000)(h:p≤8*s.size)(h2:8*s.size<p+16):Calls Tryz.prog 85 #[.string s,.int .i64 p] w (iZ w ([],0,10)):=by
 have HN:=aa (fR w s p (by omega) (by omega) (by omega))
 have HR:=aa (kp w w.heap.size (ah _) s p)
 have HT:=aa fun w1 (hR:IsR w.heap.size w1 w.heap.size s p)=>eF w.heap.size w1 w.heap.size s p 16 hR (by omega) (by omega) h h2
 have HB:=aa ((Below.refl w.heap.size w).alloc (ah _) (.cells #[.bool true,.string s,.int .i64 p] 126))
 clear h h2
 go_enter Tryz.func85,Tryz.ntmps85
 go_wp2_with fail
 refine HN.out.mono ?_
 rintro e w1 ⟨rfl,h0⟩
 have h5:=aa (show IsR w.heap.size w1 w.heap.size s p by rw[h0];exact HR.out)
 have h3:=aa (show Below w.heap.size w w1 by rw[h0];exact HB.out)
 clear h0 HR HB
 have h6:=aa (HT.out w1 h5.out)
 clear HT
 go_wp2_with fail
 refine h6.out.mono ?_
 rintro e w2 ⟨rfl,h7,h1⟩
 have h4:=aa (h3.out.trans h1.below)
 clear h7 h1
 go_wp2_with fail
 go_ret3
 exact⟨rfl,h4.out⟩
theorem oO(w:World)(s:ByteArray)(p:Nat)(hs:s.size≤2000000)(h2:p+16≤8*s.size):Calls Tryz.prog 85 #[.string s,.int .i64 p] w (iZ w (dE (al s.data.toList) p)):=by
 obtain⟨hz,hi⟩:=ro
 obtain⟨i50,hY,H3⟩:=lk
 obtain⟨l,hl⟩:∃l,l=al s.data.toList:=⟨_,rfl⟩
 have HV:l.length=8*s.size:=by rw[hl,aA];rfl
 have hA:an l:=by rw[hl];exact aM _
 obtain⟨fl,hJ⟩:∃fl:Nat→Nat,fl=fun i=>l.getD (p+i) 0:=⟨_,rfl⟩
 obtain⟨G,hG⟩:∃G,G=goT l fl (List.range 16) (p+16) []:=⟨_,rfl⟩
 have h5:dE l p=JG G:=by rw[hG,hJ,uv l p (by omega)]
 obtain⟨u,hu⟩:∃u,u=val ((l.drop p).take 16):=⟨_,rfl⟩
 have hm:∀i,i<16→u.testBit (15 - i)=(fl i==1):=fun i hi=>by
  rw[hu,hJ]
  exact qw l p i hA (by omega) hi
 have q1:u<65536:=by rw[hu];exact Hj l p hA (by omega)
 have hj:∀i,i<16→fl i=0∨fl i=1:=fun i hi=>by
  have:fl i<2:=by
   rw[hJ]
   show l.getD (p+i) 0<2
   rw[List.getD_eq_getElem?_getD,List.getElem?_eq_getElem (by omega)]
   exact hA _ (List.getElem_mem _)
  omega
 have HN:=aa (fR w s p (by omega) (by omega) (by omega))
 have HR:=aa (kp w w.heap.size (ah _) s p)
 have HT:=aa fun w1 (hR:IsR w.heap.size w1 w.heap.size s p)=>gz w.heap.size w1 w.heap.size s p 16 hR (by omega) (by omega) h2
 rw[← hl,←hu]at HT
 have HJ:=aa fun(w1:World) (P:Nat) (hR:IsR w.heap.size w1 w.heap.size s P) (hP:P+16≤8*s.size)=>gz w.heap.size w1 w.heap.size s P 16 hR (by omega) (by omega) hP
 rw[← hl]at HJ
 have pf:=aa fun(w1:World) (P:Nat) (hR:IsR w.heap.size w1 w.heap.size s P) (hP:P≤8*s.size) (pj:8*s.size<P+16)=>eF w.heap.size w1 w.heap.size s P 16 hR (by omega) (by omega) hP pj
 have HB:=aa ((Below.refl w.heap.size w).alloc (ah _) (.cells #[.bool true,.string s,.int .i64 p] 126))
 have hD:=aa HV
 have HD:=aa hA
 have p2:=aa hG
 have h7:=aa h5
 have pg:=aa hm
 have p1:=aa hj
 have HI:=aa hi
 have HS:=aa jO
 have HO:=aa lE
 have hO:=aa wg
 have hM:=aa lN
 have hL:=aa qC
 have hN:=aa iY
 have HP:Hid (∀ (ans:List UInt8×Nat×Nat) w',dE l p=ans→Below w.heap.size w w'→iZ w (dE l p) (.returned (.tuple #[.string (cN ans.1),.int .i64 ans.2.1,.int .i64 ans.2.2])) w'):=aa fun ans w' h1 h2=>⟨by rw[h1],h2⟩
 rw[← hl]
 clear hl HV hA hJ hG h5 hu hm hj hi
 generalize iZ w (dE l p)=PO at*
 generalize dE l p=ans at*
 generalize gE=T at*
 go_enter Tryz.func85,Tryz.ntmps85
 go_wp2_with fail
 refine HN.out.mono ?_
 rintro e w1 ⟨rfl,H2⟩
 have HE:=aa (show IsR w.heap.size w1 w.heap.size s p by rw[H2];exact HR.out)
 have HA:=aa (show Below w.heap.size w w1 by rw[H2];exact HB.out)
 clear H2 HR HB
 have HH:=aa (HT.out w1 HE.out)
 clear HT
 go_wp2_with fail
 refine HH.out.mono ?_
 rintro e w2 ⟨rfl,hT,HK⟩
 have hH:=HA.out.trans HK.below
 have q2:=hH.size
 have pk:=ay hT.blk
 have HL:=hH.alloc hH.size (.cells (T fun _=>0) 95)
 have p0:=aa HL
 have p5:=aa (hT.alloc (.cells (T fun _=>0) 95))
 have H5:=aa (ag w2 95 (T fun _=>0))
 obtain⟨g,hg⟩:∃g,g=w2.heap.size:=⟨_,rfl⟩
 have pv:w.heap.size<g:=by omega
 rw[← hg]at H5
 have p3:=aa hg
 clear hH HK hT HL HH HE HA hg
 go_wp2_with fail
 rw[← p3.out]
 go_loopw [9,26] (fun ev i wx=>∃(q P:Nat) (f:Nat→Nat) (out:List UInt8),q≤16∧i=.int .i64 q∧ev=.int .i64 0∧P≤8*s.size∧Hid (rr f q out)∧Hid (G=goT l fl ((List.range 16).drop q) P out)∧IsR w.heap.size wx w.heap.size s P∧Blk wx g 95 (T f)∧Below w.heap.size w wx) (fun _ i _=>16 - (intOf i).toNat)
 case atStart=>exact⟨0,p+16,_, [],Nat.zero_le _,rfl,rfl,h2,Cd,p2.out,p5.out,H5.out,p0.out⟩
 case round=>
  obtain⟨q,P,f,out,hq,rfl,rfl,hP,hB,HU,hR,hW,hb⟩:=hrel
  have hE:=aa hR
  have H4:=aa hW
  have HB:=aa hb
  by_cases e:q<16
  ·have HM:(List.range 16).drop q=q :: (List.range 16).drop (q+1):=by
    rw[List.drop_eq_getElem_cons (by simpa using e),List.getElem_range]
   have h4:=HU.out
   rw[HM,goT]at h4
   have hC:=pg.out q e
   have h8:=pt u (15 - q)
   have pn:2 ^ (15 - q)<65536:=Nat.pow_lt_pow_right (by decide) (show 15 - q<16 by omega)
   have hw:=u64_and_nat u (2 ^ (15 - q)) (by omega) (by omega)
   obtain⟨y,hy⟩:∃y,y=u &&& 2 ^ (15 - q):=⟨_,rfl⟩
   rw[← hy]at hw h8
   have hc:=fun w1:World=>hL.out w1 q e
   obtain⟨x,hx⟩:∃x,x=2 ^ (15 - q):=⟨_,rfl⟩
   rw[← hx]at hw
   replace hc:∀w1:World,Calls Tryz.prog 109 #[.int .i64 q] w1 fun e w'=>e=.returned (.int .u64 (x:Int))∧w1=w':=by
    intro w1
    rw[hx]
    exact hc w1
   have h9:=aa hc
   clear hc hy hx pn HM hR hW hb
   rcases p1.out q e with h0 | h0
   ·have ho:y=0:=by
     by_cases ho:y=0
     ·exact ho
     ·have:u.testBit (15 - q)=true:=by rw[← h8];exact ho
      rw[hC,h0]at this
      simp at this
    rw[if_pos h0]at h4
    subst ho
    have hf:=aa h4
    clear h4 hC h8 h0
    go_wp2_with (first | (go_at_call 109;refine(h9.out _).mono ?_;rintro e w' ⟨rfl,rfl⟩))
    go_roundw
    case rel=>exact⟨q+1,P,f,out,by omega,by go_num,rfl,hP,If hB.out,hf,hE.out,H4.out,HB.out⟩
    case measure=>simp[intOf];omega
   ·have ho:y≠0:=by
     have:(y≠0)=(u.testBit (15 - q)=true):=h8
     rw[this,hC,h0]
     rfl
    have pl:=nO ho
    have hX:f q=0:=hB.out.2.1 q (ah _)
    have h6:=ac H4.out q
    have he:=ae H4.out q
    rw[hM.out f q e,hX]at h6
    have po:=HS.out f
    have pM:(0:Int)≤(q:Int):=by omega
    have q0:(q:Int)<16:=by omega
    rw[if_neg (by omega)]at h4
    by_cases H1:P+16≤8*s.size
    ·rw[if_neg (by rw[hD.out];omega),←E1 l P q HD.out (by rw[hD.out];exact H1)]at h4
     have HX:=Hj l P HD.out (by rw[hD.out];exact H1)
     have ht:=aa (HJ.out wr P hE.out H1)
     obtain⟨v,hv⟩:∃v,v=val ((l.drop P).take 16):=⟨_,rfl⟩
     rw[← hv]at h4 HX ht
     have hf:=aa h4
     have pb:=aa (GS hB.out HX)
     clear h4 hC h8 h0 hv hX h6 he
     go_wp2_with (first | (go_at_call 109;refine(h9.out _).mono ?_;rintro e w' ⟨rfl,rfl⟩))
     refine ht.out.mono ?_
     rintro e w5 ⟨rfl,hF,hn⟩
     have hh:=hn.blk H4.out (by simp;omega) (by decide)
     have h6:=ac hh q
     have he:=ae hh q
     rw[hM.out f q e]at h6
     have HY:=aa hh
     have hK:=aa (HB.out.trans hn.below)
     have HF:=aa hF
     clear hh hF hn
     go_wp2_with fail
     go_roundw
     case rel=>
      refine⟨q+1,P+16,_,_,by omega,by go_num,rfl,by omega,pb,hf,⟨HF.out.lo,?_⟩,?_,hK.out.setCell (p:=⟨g,q,none⟩) (by show _≤g;omega) _⟩
      ·exact aI HF.out.blk (by omega) _ _
      ·have:=au HY.out q (.int .u64 (v:Nat))
       rw[hO.out]at this
       exact this
     case measure=>simp[intOf];omega
    ·rw[if_pos (by rw[hD.out];omega)]at h4
     have h5:ans=([],0,10):=by rw[h7.out,h4];rfl
     have hQ:=aa (pf.out wr P hE.out hP (by omega))
     have H8:=aa h5
     clear h4 hC h8 h0 hX h6 he h5
     go_wp2_with (first | (go_at_call 109;refine(h9.out _).mono ?_;rintro e w' ⟨rfl,rfl⟩))
     refine hQ.out.mono ?_
     rintro e w5 ⟨rfl,hF,hn⟩
     have hh:=hn.blk H4.out (by simp;omega) (by decide)
     have h6:=ac hh q
     have he:=ae hh q
     rw[hM.out f q e]at h6
     have hK:=aa (HB.out.trans hn.below)
     have hp:=aa (HP.out _ (w5.setCell ⟨g,q,none⟩ (.int .u64 0)) H8.out (hK.out.setCell (p:=⟨g,q,none⟩) (by show _≤g;omega) _))
     clear hh hF hn HP H8 h7
     go_wp2_with fail
     go_ret3
     exact hp.out
  ·obtain rfl:q=16:=by omega
   have h4:G=some (out,P):=HU.out
   have hk:ns f=out:=Fw hB.out
   have HQ:∀i,i<16→f i<65536:=fun i _=>hB.out.1 i
   have H0:=fun w9=>hN.out w9 f HQ
   rw[hk]at H0
   have HG:=aa H0
   have p4:=aa (show(Tryz.prog.info? 95).map (·.size)=some (T f).size by rw[HS.out];exact HI.out)
   have c0:=ac hR.blk 0
   have c2:=ac hR.blk 2
   simp at c0 c2
   have ps:=hb.size
   obtain⟨S,hS⟩:∃S:ByteArray,S=cN out:=⟨_,rfl⟩
   rw[← hS]at HG
   have hr:=aa hS
   have po:=HS.out f
   have hf:=aa h4
   clear h4 hk HQ H0 hR hW hb hS hY H3 hz
   generalize T f=Tf at*
   go_upto_region 16 with fail
   refine wp_region_lit (fs rfl rfl rfl H4.out Tryz.underlying95 p4.out ?_)
   go_wp2_with fail
   refine(HG.out wr).mono ?_
   rintro e w6 ⟨rfl,hI⟩
   have HC:=aa (HB.out.trans (hI.mono ps))
   by_cases h0:S.size=0
   ·have hd:S=⟨#[]⟩:=by
     apply ByteArray.ext
     exact Array.eq_empty_of_size_eq_zero h0
    have ha:out= []:=by
     have h1:=hr.out
     rw[hd]at h1
     have h3:(⟨#[]⟩:ByteArray).data.toList=(cN out).data.toList:=by rw[h1]
     exact h3.symm
    have h5:ans=([],0,60):=by rw[h7.out,hf.out,ha];rfl
    have hp:=aa (HP.out _ w6 h5 HC.out)
    clear HP h7 hf hr ha h5 hI h0
    subst hd
    go_wp2_with fail
    go_ret3
    exact hp.out
   ·have pl:=jL S (by omega)
    have ha:¬out= []:=by
     intro h1
     have h3:=hr.out
     rw[h1]at h3
     rw[h3]at h0
     exact h0 rfl
    have h5:ans=(out,P,0):=by
     rw[h7.out,hf.out]
     show(if out= []then(([]:List UInt8),0,60)else(out,P,0))=_
     rw[if_neg ha]
    have HW:=am hI
    have hV:=hE.out.step HW aq aq
    have c0:=ac hV.blk 0
    have c2:=ac hV.blk 2
    simp at c0 c2
    have HZ:=aa (lT w6 w.heap.size P c0 c2)
    have hZ:=HP.out _ w6 h5 HC.out
    rw[← hr.out]at hZ
    have hp:=aa hZ
    clear HP h7 hf hr ha h5 hI h0 HW hV c0 c2 hZ
    go_wp2_with fail
    refine HZ.out.mono ?_
    rintro e w8 ⟨rfl,rfl⟩
    go_wp2_with fail
    go_ret3
    exact hp.out
theorem EJ(w:World)(s:ByteArray)(p:Int)(hs:s.size≤2000000):Calls Tryz.prog 85 #[.string s,.int .i64 p] w (iZ w (ax (al s.data.toList) p)):=by
 have h0:(al s.data.toList).length=8*s.size:=by rw[aA];rfl
 by_cases h1:p<0
 ·rw[show ax (al s.data.toList) p=([],0,2)from if_pos h1]
  exact uA w s p hs (.inl h1)
 ·obtain⟨q,rfl⟩:∃q:Nat,p=q:=⟨p.toNat,by omega⟩
  have e:ax (al s.data.toList) (q:Int)=dE (al s.data.toList) q:=by
   unfold ax
   rw[if_neg h1,Int.toNat_natCast]
  rw[e]
  by_cases h2:8*s.size<q
  ·have:dE (al s.data.toList) q=([],0,2):=by
    unfold dE
    rw[if_pos (by omega)]
   rw[this]
   exact uA w s q hs (.inr (by omega))
  ·by_cases h3:8*s.size<q+16
   ·have:dE (al s.data.toList) q=([],0,10):=by
     unfold dE
     rw[if_neg (by omega),if_pos (by omega)]
    rw[this]
    exact yL w s q hs (by omega) h3
   ·exact oO w s q hs (by omega)
def LIn(w:World)(g:Nat)(l:List UInt8):Prop:=∀i,i<l.length→w.cell? ⟨g,i,none⟩=some (bv (l.getD i 0))∧w.frozen? ⟨g,i,none⟩=false
theorem LIn.below{w w':World}{B g:Nat}{l:List UInt8}(h:LIn w g l)(hb:Below B w w')(hg:g<B):LIn w' g l:=by
 intro i hi
 refine⟨(hb.cell (p:=⟨g,i,none⟩) hg).trans (h i hi).1,?_⟩
 have:=(h i hi).2
 unfold World.frozen? at this ⊢
 rw[show w'.heap[(⟨g,i,none⟩:Addr).block]? =w.heap[g]? from hb.block g hg]
 exact this
theorem rL(l:List UInt8)(p:Nat):(cE l p).getD 0 0=l.getD p 0:=rfl
theorem C0(l:List UInt8)(p i:Nat)(h:i<p)(hp:p<l.length):(cE l p).getD (i+1) 0=l.getD i 0:=by
 unfold cE
 rw[List.getD_cons_succ,List.getD_eq_getElem?_getD,List.getElem?_append_left (by rw[List.length_take];omega),List.getElem?_take,if_pos h,←List.getD_eq_getElem?_getD]
theorem zy(l:List UInt8)(p i:Nat)(h:p≤i)(hi:i+1<l.length):(cE l p).getD (i+1) 0=l.getD (i+1) 0:=by
 have hl:(l.take p).length=p:=by rw[List.length_take];omega
 unfold cE
 rw[List.getD_cons_succ,List.getD_eq_getElem?_getD,List.getElem?_append_right (by omega),List.getElem?_drop,hl,show p+1+(i - p)=i+1 by omega,←List.getD_eq_getElem?_getD]
theorem mq{B g:Nat}(hB:B≤g){w:World}:∀(vs:List Value) (o:Nat) (w':World),ak B [g] [] w w'→ak B [g] [] w (w'.setCells g o vs)
 | [],_,_,h=>h
 | v :: r,o,w',h=>by
   rw[World.setCells]
   exact mq hB r (o+1) _ (h.set (p:=⟨g,o,none⟩) hB (List.mem_singleton.2 rfl) v)
theorem Gc(w:World)(g i:Nat)(j:Nat):w.cell? ((⟨g,i,none⟩:Addr).add j)=w.cell? ⟨g,i+j,none⟩:=by
 congr 1
 unfold Addr.add
 split <;>simp_all
theorem qd{P:Program}{w w':World}{ops:Array Oper}{rest:List Oper}{o:Oper}{a:Act}{Q:Exit→Act→World→Prop}(h1:o.guard=none)(d s:Operand)(dT sT:TypeId)
 (ho:o.op=.call { callee:=.builtin .copy,args:=#[d,s],argTypes:=#[dT,sT] }) (dv sv:Value) (k:Nat) (hd:a.eval d=dv) (hs:a.eval s=sv) (h0:(Builtin.copy_ #[dT,sT] o.type #[dv,sv]).run P w=.ok (goInt k) w')
 (h:wpList P ops Q rest (a.put o.dst (goInt k)) w'):wpList P ops Q (o :: rest) a w:=by
 refine wpList_plain h1 fun K hK=> ?_
 unfold Oper.wp
 simp[execOp,ho,resolve,invoke,builtin,hd,hs,h0,Result.andThen]
 exact hK _ _ h
def ve(B:Nat)(w:World)(g:Nat)(l:List UInt8)(p:Nat)(e:Ending)(w':World):Prop:=e=.returned (.tuple #[])∧LIn w' g (cE l p)∧ak B [g] [] w w'
theorem Bx(B:Nat)(w:World)(g n c:Nat)(l:List UInt8)(p:Nat)(hB:B≤g)(hL:LIn w g l)(hn:l.length=n)(hr:n≤c)(hp:p<n)(hl:n≤1000000):
 Calls Tryz.prog 53 #[.slice (some ⟨g,0,none⟩) n c,.int .i64 p] w (ve B w g l p):=by
 obtain⟨i5,h5,hw,hk,hx⟩:=info_parts Tryz.info5
 have h2:((l.take p).map bv).length=p:=by rw[List.length_map,List.length_take];omega
 have h8:∀j v,((l.take p).map bv)[j]? =some v→w.drew.cell? ((⟨g,0,none⟩:Addr).add j)=some v:=by
  intro j v hv
  have hj:j<p:=by have:=(List.getElem?_eq_some_iff.1 hv).1;omega
  rw[Gc,Nat.zero_add]
  show w.cell? _=_
  rw[(hL j (by omega)).1,←hv,List.getElem?_map,List.getElem?_take,if_pos hj,List.getElem?_eq_getElem (by omega),List.getD_eq_getElem?_getD,List.getElem?_eq_getElem (by omega)]
  rfl
 have h9:∀v∈(l.take p).map bv,v.oneCell'=true:=by
  intro v hv
  obtain⟨x,_,rfl⟩:=List.mem_map.1 hv
  rfl
 have h4:∀ty,(Builtin.copy_ #[43,43] ty #[.slice (if c=1 then some ⟨g,0,none⟩else some ⟨g,1,none⟩) (n - 1) (c - 1),.slice (some ⟨g,0,none⟩) p c]).run Tryz.prog w.drew=.ok (goInt p) (w.drew.setCells g 1 ((l.take p).map bv)):=by
  intro ty
  have h1:(Tryz.prog.info? 5).map (·.size)=some 1:=by rw[h5];exact congrArg some hk
  by_cases h0:p=0
  ·subst h0
   have:=fun d=>run_copy_none (P:=Tryz.prog) w.drew 43 43 ty 5 d (some ⟨g,0,none⟩) (n - 1) (c - 1) 0 c Tryz.underlying43 h1 (Nat.zero_min _)
   exact this _
  ·rw[if_neg (by omega)]
   have:=run_copy_cells (P:=Tryz.prog) w.drew 43 43 ty 5 g 1 (n - 1) (c - 1) ⟨g,0,none⟩ p c ((l.take p).map bv) Tryz.underlying43 h1 (by rw[h2];exact(Nat.min_eq_left (by omega)).symm) h8
    (fun j hj=>by
      rw[h2]at hj
      show(w.cell? _).isSome=true
      rw[(hL (1+j) (by omega)).1]
      rfl) (fun j hj=>by rw[h2]at hj;exact(hL (1+j) (by omega)).2) h9
   rw[h2]at this
   exact this
 have hh:=(hL p (by omega)).1
 obtain⟨b,hb⟩:∃b,b=(l.getD p 0).toNat:=⟨_,rfl⟩
 have he:bv (l.getD p 0)=.int .u8 b:=by rw[hb];rfl
 rw[he]at hh
 have hs:(0:Int)≤(p:Int):=by omega
 have ht:(p:Int)<(n:Int):=by omega
 have hu:(p:Int)≤(c:Int):=by omega
 have hm:(1:Int)≤(n:Int):=by omega
 have ho:(0:Int)<(n:Int):=by omega
 have hq:(n:Int)≤(c:Int):=by omega
 obtain⟨w2,h6⟩:∃w2,w2=w.drew.setCells g 1 ((l.take p).map bv):=⟨_,rfl⟩
 have hS:ak B [g] [] w w2:=by
  rw[h6]
  exact mq hB _ _ _ (ak.refl B [g] [] w).drew
 have hg:∀j,j<p→w2.cell? ⟨g,1+j,none⟩=some (bv (l.getD j 0)):=by
  intro j hj
  rw[h6,World.cell?_setCells_in g ((l.take p).map bv) 1 w.drew (fun i hi=>by
   rw[h2]at hi
   show(w.cell? _).isSome=true
   rw[(hL (1+i) (by omega)).1]
   rfl) j (by rw[h2];exact hj)]
  rw[List.getElem_map,List.getElem_take,List.getD_eq_getElem?_getD,List.getElem?_eq_getElem (by omega)]
  rfl
 have h3:∀j,(j=0∨p<j)→w2.cell? ⟨g,j,none⟩=w.cell? ⟨g,j,none⟩:=by
  intro j hj
  rw[h6,World.cell?_setCells_out g _ 1 w.drew ⟨g,j,none⟩ (fun _ _=>by rw[h2];show j<1∨1+p≤j;omega)]
  rfl
 have hf:∀x,w2.frozen? x=w.frozen? x:=by
  intro x
  rw[h6,World.frozen?_setCells]
  rfl
 rw[← h6]at h4
 have h0:w2.cell? ⟨g,0,none⟩=some (bv (l.getD 0 0)):=by rw[h3 0 (.inl rfl),(hL 0 (by omega)).1]
 have f0:w2.frozen? ⟨g,0,none⟩=false:=by rw[hf];exact(hL 0 (by omega)).2
 have h7:ve B w g l p (.returned (.tuple #[])) (w2.setCell ⟨g,0,none⟩ (.int .u8 b)):=by
  refine⟨rfl,?_,hS.set (p:=⟨g,0,none⟩) hB (List.mem_singleton.2 rfl) _⟩
  intro i hi
  rw[da l p (by omega)]at hi
  refine⟨?_,by rw[World.frozen?_setCell,hf];exact(hL i hi).2⟩
  match i,hi with
  | 0,_=>rw[rL,World.cell?_setCell_same _ _ _ h0,he]
  | i+1,hi=>
    rw[World.cell?_setCell_other _ _ _ _ (by simp)]
    by_cases e:i<p
    ·rw[C0 l p i e (by omega),Nat.add_comm]
     exact hg i e
    ·rw[zy l p i (by omega) hi,h3 (i+1) (.inr (by omega))]
     exact(hL (i+1) hi).1
 have ha:=aa h7
 have hc:=aa h4
 clear h7 h4 h6 hg h3 hf h8 h9 he hb h2 hS hL
 generalize ve B w g l p=PO at*
 go_enter Tryz.func53,Tryz.ntmps53
 go_upto_region 1 with fail
 go_still_tail 5,(by kernel_rfl)
 change wpList _ _ _ _ _ w.drew
 generalize (if c=1 then some (⟨g,0,none⟩:Addr)else some ⟨g,1,none⟩)=dA at*
 refine qd rfl _ _ 43 43 rfl _ _ p rfl rfl (hc.out _) ?_
 go_wp2_with fail
 (try simp only[Exit.inBlock,Exit.then])
 refine bodyPost_ret (results_none rfl _ _ _) rfl ?_
 exact ha.out
theorem El(l:List UInt8)(b:UInt8):Lib.indexByte l b=if b∈l then((l.idxOf b:Nat):Int)else -1:=by
 induction l with
 | nil=>simp[Lib.indexByte]
 | cons x l ih=>
   unfold Lib.indexByte
   rw[List.idxOf_cons]
   by_cases e:x=b
   ·subst e
    simp
   ·have e1:(x==b)=false:=by simpa using e
    have e2:¬b=x:=fun h=>e h.symm
    rw[e1,ih]
    simp only[Bool.false_eq_true,if_false,cond_false,List.mem_cons,e2,false_or]
    by_cases hm:b∈l
    ·rw[if_pos hm,if_pos hm]
     have:(((l.idxOf b:Nat):Int)== -1)=false:=by
      rw[beq_eq_false_iff_ne]
      omega
     rw[this]
     simp
    ·rw[if_neg hm,if_neg hm]
     simp
theorem Fb(l:List UInt8):Lib.bytesOf (l.map fun b=>(b.toNat:Int))=l:=by
 unfold Lib.bytesOf
 rw[List.map_map]
 conv=>rhs;rw[← List.map_id l]
 refine List.map_congr_left fun b _=> ?_
 show UInt8.ofNat ((b.toNat:Int).toNat)=b
 rw[Int.toNat_natCast,UInt8.ofNat_toNat]
theorem xU(w:World)(g n c:Nat)(l:List UInt8)(b:UInt8)(hL:LIn w g l)(hn:l.length=n):
 Calls Tryz.prog 52 #[.slice (some ⟨g,0,none⟩) n c,.int .u8 b.toNat] w fun e w'=>e=.returned (.int .i64 (if b∈l then((l.idxOf b:Nat):Int)else -1))∧w'=w:=by
 have h0:=Lib.run_indexByteSlice (P:=Tryz.prog) w g 0 n c (l.map fun b=>(b.toNat:Int)) (by rw[List.length_map,hn]) (fun i hi=>by
  rw[Nat.zero_add,(hL i (by omega)).1,List.getD_eq_getElem?_getD,List.getD_eq_getElem?_getD,List.getElem?_map,List.getElem?_eq_getElem (by omega)]
  rfl) b.toNat
 rw[Fb,Int.toNat_natCast,show b.toNat.toUInt8=b from UInt8.ofNat_toNat,El]at h0
 have HR:=aa h0
 clear h0 hL hn
 generalize (if b∈l then((l.idxOf b:Nat):Int)else -1)=y at*
 go_enter Tryz.func52,Tryz.ntmps52
 go_wp2_with fail
 rw[run_callFunc_extern Tryz.func110 (by kernel_rfl) (by kernel_rfl) (by kernel_rfl) (e:=Extern.BytealgIndexByte.indexByte) (by kernel_rfl),HR.out]
 simp only[Result.andThen]
 rw[Oper.upon_value]
 go_wp2_with fail
 go_ret
 exact⟨rfl,rfl⟩
theorem xf(w:World)(s:ByteArray):∃c w2,(convert 9 43 (.string s)).run Tryz.prog w=.ok (.slice (some ⟨w.heap.size,0,none⟩) s.size c) w2∧s.size≤c∧LIn w2 w.heap.size s.data.toList∧Below w.heap.size w w2∧w2.heap.size=w.heap.size+1:=by
 refine⟨_,_,Lib.run_convert_string_bytes (P:=Tryz.prog) w 9 43 5 s Tryz.underlying9 Tryz.underlying43 Tryz.underlying5,?_,?_,Lib.bytesWorld_below w 5 s,Lib.bytesWorld_size w 5 s⟩
 ·exact grownCap_ge _ _ _ _
 ·intro i hi
  have h0:i<s.size:=hi
  refine⟨Lib.bytesWorld_cell w 5 s i h0,?_⟩
  have h2:s.size≤(Lib.bytesCells w 5 s).size:=by
   simp[Lib.bytesCells]
  simp[World.frozen?,Lib.bytesWorld_at_new]
  intro h1
  exfalso
  omega
end Go.Proofs.YthakcjehhlpjnaaGreat.S06
