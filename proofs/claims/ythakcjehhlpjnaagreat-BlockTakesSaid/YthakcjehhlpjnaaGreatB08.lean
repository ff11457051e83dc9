import Derived.Test.YthakcjehhlpjnaaGreatB07
set_option maxHeartbeats 800000
set_option maxRecDepth 100000
namespace Go.Proofs.YthakcjehhlpjnaaGreat
open Go.RowKit
theorem mw(w:World)(p:Nat)(h0:w.cell? ⟨p,0,none⟩=some (.bool true)):Calls Tryz.prog 119 #[.pointer (some ⟨p,0,none⟩)] w fun e w'=>e=.returned (.bool true)∧w=w':=by
 go_enter Tryz.func119,Tryz.ntmps119
 go_wp2
 go_ret
 exact⟨rfl,rfl⟩
theorem gf(w:World)(p:Nat)(h0:w.cell? ⟨p,0,none⟩=some (.bool true)):Calls Tryz.prog 88 #[.pointer (some ⟨p,0,none⟩)] w fun e w'=>e=.returned (.bool true)∧w=w':=by
 go_enter Tryz.func88,Tryz.ntmps88
 go_wp2
 go_ret
 exact⟨rfl,rfl⟩
theorem jR(w:World)(p:Nat)(n:Int)(h0:w.cell? ⟨p,0,none⟩=some (.bool true))(h2:w.cell? ⟨p,2,none⟩=some (.int .i64 n)):
 Calls Tryz.prog 64 #[.pointer (some ⟨p,0,none⟩)] w fun e w'=>e=.returned (.int .i64 n)∧w=w':=by
 go_enter Tryz.func64,Tryz.ntmps64
 go_wp2_with (go_at_call 119;refine(mw _ _ h0).mono ?_;rintro e w' ⟨rfl,rfl⟩)
 go_ret
 exact⟨rfl,rfl⟩
theorem lT(w:World)(p:Nat)(n:Int)(h0:w.cell? ⟨p,0,none⟩=some (.bool true))(h2:w.cell? ⟨p,2,none⟩=some (.int .i64 n)):
 Calls Tryz.prog 33 #[.pointer (some ⟨p,0,none⟩)] w fun e w'=>e=.returned (.int .i64 n)∧w=w':=by
 go_enter Tryz.func33,Tryz.ntmps33
 go_wp2_with (go_at_call 88;refine(gf _ _ h0).mono ?_;rintro e w' ⟨rfl,rfl⟩)
 go_ret
 exact⟨rfl,rfl⟩
theorem Ca(w:World):Calls Tryz.prog 60 #[] w fun e w'=>e=.returned (.pointer (some ⟨w.heap.size,0,none⟩))∧w'=w.alloc (.cells #[.bool true,.slice none 0 0,.int .i64 0] 168):=by
 go_enter Tryz.func60,Tryz.ntmps60
 go_wp2
 go_ret
 exact⟨rfl,rfl⟩
theorem j8(w:World)(s:ByteArray)(at':Int)(hs:s.size≤281474976710656)(h:at'<0∨8*(s.size:Int)<at'):Calls Tryz.prog 28 #[.string s,.int .i64 at'] w fun e w'=>e=.returned (.pointer none)∧w=w':=by
 rcases h with h | h
 ·go_enter Tryz.func28,Tryz.ntmps28
  go_wp2
  go_ret
  exact⟨rfl,rfl⟩
 ·have h':0≤at':=by omega
  go_enter Tryz.func28,Tryz.ntmps28
  go_wp2
  go_ret
  exact⟨rfl,rfl⟩
theorem fR(w:World)(s:ByteArray)(at':Int)(hs:s.size≤281474976710656)(h:0≤at')(h':at'≤8*(s.size:Int)):Calls Tryz.prog 28 #[.string s,.int .i64 at'] w fun e w'=>e=.returned (.pointer (some ⟨w.heap.size,0,none⟩))∧w'=w.alloc (.cells #[.bool true,.string s,.int .i64 at'] 126):=by
 go_enter Tryz.func28,Tryz.ntmps28
 go_wp2
 go_ret
 exact⟨rfl,rfl⟩
abbrev tU (ba bt:Nat):Value:=.func (.func 189) #[] #[.pointer (some ⟨ba,0,none⟩),.pointer (some ⟨bt,0,none⟩)]
def Ds(w:World)(s:ByteArray)(n:Nat)(e:Ending)(w':World):Prop:=
 ∃ba bt,e=.returned (tU ba bt)∧Blk w' ba 3 #[.int .i64 n]∧Blk w' bt 9 #[.string s]∧w.heap.size≤ba∧w.heap.size≤bt∧ak w.heap.size [] [] w w'
theorem jV(w:World)(p:Nat)(s:ByteArray)(n:Nat)(hb:Blk w p 126 #[.bool true,.string s,.int .i64 n]):
 Calls Tryz.prog 143 #[.pointer (some ⟨p,0,none⟩)] w (Ds w s n):=by
 have c1:=ac hb 1
 have c2:=ac hb 2
 have h0:=ay hb
 simp at c1 c2
 go_enter Tryz.func143,Tryz.ntmps143
 go_wp2
 go_region
 all_goals (go_wp2;go_ret)
 ·refine⟨w.heap.size+1,w.heap.size,rfl,?_,?_,by omega,by omega,?_⟩
  ·exact(by simpa using ag (w.alloc (.cells #[.string s] 9)) 3 #[.int .i64 n]:Blk ((w.alloc (.cells #[.string s] 9)).alloc (.cells #[.int .i64 n] 3)) (w.heap.size+1) 3 #[.int .i64 n])
  ·exact(Below.heap_alloc (w.alloc (.cells #[.string s] 9)) (.cells #[.int .i64 n] 3) w.heap.size (by simp)).trans (ag w 9 #[.string s])
  ·exact(((ak.refl _ _ _ w).alloc (ah _) _).alloc (by simp) _).drew
 ·refine⟨w.heap.size,w.heap.size+1,rfl,?_,?_,by omega,by omega,?_⟩
  ·exact(Below.heap_alloc (w.alloc (.cells #[.int .i64 n] 3)) (.cells #[.string s] 9) w.heap.size (by simp)).trans (ag w 3 #[.int .i64 n])
  ·exact(by simpa using ag (w.alloc (.cells #[.int .i64 n] 3)) 9 #[.string s]:Blk ((w.alloc (.cells #[.int .i64 n] 3)).alloc (.cells #[.string s] 9)) (w.heap.size+1) 9 #[.string s])
  ·exact(((ak.refl _ _ _ w).alloc (ah _) _).alloc (by simp) _).drew
theorem BV(w:World)(ba bt:Nat)(s:ByteArray)(n:Nat)(ha:Blk w ba 3 #[.int .i64 n])(ht:Blk w bt 9 #[.string s])(hs:s.size≤281474976710656)(hn:n=8*s.size):
 Calls Tryz.prog 189 #[.pointer (some ⟨ba,0,none⟩),.pointer (some ⟨bt,0,none⟩)] w fun e w'=>e=.returned (.tuple #[.int .u64 0,.bool false])∧w=w':=by
 have c1:=ac ha 0
 have c2:=ac ht 0
 simp at c1 c2
 have hd:((n:Int)==8*(s.size:Int))=true:=by rw[beq_iff_eq];omega
 have HN:=aa hn;clear hn
 go_enter Tryz.func189,Tryz.ntmps189
 go_wp2
 go_ret2
 exact⟨rfl,rfl⟩
def DU(w:World)(ba n b:Nat)(e:Ending)(w':World):Prop:=
 e=.returned (.tuple #[.int .u64 b,.bool true])∧Blk w' ba 3 #[.int .i64 (n+1:Nat)]∧ak ba [ba] [] w w'
theorem Ip(s:ByteArray)(n:Nat)(hn:n<8*s.size)(h:n / 8<s.size):
 IntKind.u64.wrap (bits BinOp.and IntKind.u8 ((s[n / 8].toNat:Int) / 2 ^ (7 - n % 8)) 1)=(((al s.data.toList).getD n 0:Nat):Int):=by
 have h1:((s[n / 8].toNat:Int) / 2 ^ (7 - n % 8))=((s[n / 8].toNat / 2 ^ (7 - n % 8):Nat):Int):=by rw[Int.natCast_ediv,Int.natCast_pow];rfl
 have h0:s[n / 8].toNat / 2 ^ (7 - n % 8)<256:=Nat.lt_of_le_of_lt (Nat.div_le_self _ _) (s[n / 8].toNat_lt)
 have h2:=u8_and_nat _ 1 h0 (by omega)
 rw[nat_mask1]at h2
 rw[h1]
 rw[show ((1:Nat):Int)=1 from rfl]at h2
 rw[h2,List.getD_eq_getElem?_getD,Es _ _ (by simpa using hn)]
 have h3:s.data.toList.getD (n / 8) 0=s[n / 8]:=by
  rw[List.getD_eq_getElem?_getD,List.getElem?_eq_getElem (by simpa using h)]
  rfl
 rw[h3]
 simp[IntKind.wrap,IntKind.bits,IntKind.signed]
 omega
theorem lg(w:World)(ba bt:Nat)(s:ByteArray)(n:Nat)(ha:Blk w ba 3 #[.int .i64 n])(ht:Blk w bt 9 #[.string s])(hs:s.size≤281474976710656)(hn:n<8*s.size):
 Calls Tryz.prog 189 #[.pointer (some ⟨ba,0,none⟩),.pointer (some ⟨bt,0,none⟩)] w (DU w ba n ((al s.data.toList).getD n 0)):=by
 have c1:=ac ha 0
 have c2:=ac ht 0
 have f1:=ae ha 0
 simp at c1 c2
 have hd:((n:Int)==8*(s.size:Int))=false:=by rw[beq_eq_false_iff_ne];omega
 have h0:n / 8<s.size:=by omega
 have h1:0≤(n:Int) / 8:=by omega
 have h2:(n:Int) / 8<s.size:=by omega
 go_enter Tryz.func189,Tryz.ntmps189
 go_wp2
 go_region
 go_wp2
 go_ret2
 refine⟨?_,au ha 0 _,((ak.refl ba [ba] [] w).set (p:=⟨ba,0,none⟩) (ah _) (List.mem_singleton.2 rfl) _).drew⟩
 show Ending.returned (Value.tuple #[.int .u64 _,.bool true])=_
 rw[Ip s n hn h0]
theorem FD(x b:Nat)(hx:x<9223372036854775808)(hb:b<2):bits BinOp.or IntKind.u64 ((x:Int)*2) (b:Int)=((2*x+b:Nat):Int):=by
 have h:=u64_or_nat (2*x) b (by omega) (by omega)
 rw[nat_join 1 (2*x) b (by omega) (by omega)]at h
 rw[← h,Int.natCast_mul,Int.mul_comm]
 rfl
theorem lu(l:List Nat)(n j:Nat)(h:n+j<l.length):val ((l.drop n).take (j+1))=2*val ((l.drop n).take j)+l.getD (n+j) 0:=by
 have h1:j<(l.drop n).length:=by rw[List.length_drop];omega
 rw[List.take_succ_eq_append_getElem h1,i9,List.getElem_drop,List.getD_eq_getElem?_getD,List.getElem?_eq_getElem h]
 rfl
theorem fH(l:List Nat)(n j k:Nat)(hb:an l)(hj:j≤k):val ((l.drop n).take j)<2 ^ k:=by
 refine Nat.lt_of_lt_of_le (eD _ ((hb.drop n).take j)) (Nat.pow_le_pow_right (by omega) ?_)
 rw[List.length_take]
 omega
theorem BG(l:List Nat)(i:Nat)(hb:an l):l.getD i 0<2:=by
 rw[List.getD_eq_getElem?_getD]
 rcases h:l[i]? with _ | b
 ·simp
 ·exact hb b (List.mem_of_getElem? h)
def i7(B:Nat)(w:World)(p:Nat)(s:ByteArray)(n k:Nat)(x r:Nat)(e:Ending)(w':World):Prop:=
 e=.returned (.tuple #[.int .u64 x,.int .i64 r])∧IsR B w' p s (n+k)∧ak B [p] [] w w'
theorem gz(B:Nat)(w:World)(p:Nat)(s:ByteArray)(n k:Nat)(hR:IsR B w p s n)(hs:s.size≤281474976710656)(hk:k≤64)(hc:n+k≤8*s.size):
 Calls Tryz.prog 84 #[.pointer (some ⟨p,0,none⟩),.int .i64 k] w (i7 B w p s n k (val (((al s.data.toList).drop n).take k)) 0):=by
 have c0:=ac hR.blk 0
 simp at c0
 go_enter Tryz.func84,Tryz.ntmps84
 go_wp2_with (first | (go_at_call 88;refine(gf _ _ c0).mono ?_;rintro e w' ⟨rfl,rfl⟩) | (go_at_call 143;refine(jV _ _ s n hR.blk).mono ?_;rintro e w1 ⟨ba,bt,he,ha,ht,h5,h9,h3⟩;unfold tU at he;subst he))
 have hg:=h3.size
 go_loopw [7,22] (fun v i wr=>∃j x:Nat,j≤k∧i=.int .i64 j∧v=.int .u64 x∧x=val (((al s.data.toList).drop n).take j)∧Blk wr ba 3 #[.int .i64 (n+j:Nat)]∧Blk wr bt 9 #[.string s]∧ak w.heap.size [] [] w wr) (fun _ i _=>k - (intOf i).toNat)
 case atStart=>exact⟨0,0,Nat.zero_le _,rfl,rfl,by simp[val],ha,ht,h3⟩
 case round=>
  obtain⟨j,x,hj,rfl,rfl,hx,h1,h0,hS⟩:=hrel
  have HX:=aa hx;clear hx
  by_cases h:j<k
  ·have h8:x<9223372036854775808:=by
    rw[HX.out]
    exact Nat.lt_of_lt_of_eq (fH _ n j 63 (aM _) (by omega)) (by decide)
   obtain⟨b,hb⟩:∃b,b=(al s.data.toList).getD (n+j) 0:=⟨_,rfl⟩
   have h7:b<2:=by rw[hb];exact BG _ _ (aM _)
   have hn:=lg wr ba bt s (n+j) h1 h0 hs (by omega)
   rw[← hb]at hn
   have HB:=aa hb;clear hb
   have HN:=aa hn;clear hn
   go_wp2_with (go_at_call 189;refine HN.out.mono ?_;rintro e w2 ⟨rfl,h6,h4⟩)
   go_roundw
   case rel=>
    refine⟨j+1,2*x+b,h,rfl,by rw[FD x b h8 h7],?_,h6,h4.blk h0 ?_ (by simp),hS.after h4 h5 (fun i hi=>by simp at hi;subst hi;exact .inr h5) (by simp)⟩
    ·rw[HX.out,HB.out,lu]
     rw[aA];simpa using by omega
    ·intro hm
     simp at hm
     subst hm
     unfold Blk at h1 h0
     rw[h1]at h0
     simp at h0
   case measure=>simp[intOf];omega
  ·obtain rfl:j=k:=by omega
   have h2:=hS.blk hR.blk (by simp) (by simp)
   have c0:=ac h2 0
   have c2:=ac h2 2
   have f2:=ae h2 2
   simp at c0 c2
   have hf:=hR.lo
   go_wp2
   go_ret2
   refine⟨?_,⟨hR.lo,?_⟩,?_⟩
   ·show Ending.returned (Value.tuple #[.int .u64 x,.int .i64 0])=_
    rw[HX.out]
    rfl
   ·exact au h2 2 _
   ·exact((hS.mono (Nat.le_trans hR.lo (Nat.le_of_lt (ay hR.blk))) (by simp) (by simp)).set (p:=⟨p,2,none⟩) hR.lo (List.mem_singleton.2 rfl) _)
theorem eF(B:Nat)(w:World)(p:Nat)(s:ByteArray)(n k:Nat)(hR:IsR B w p s n)(hs:s.size≤281474976710656)(hk:k≤64)(hn:n≤8*s.size)(hc:8*s.size<n+k):
 Calls Tryz.prog 84 #[.pointer (some ⟨p,0,none⟩),.int .i64 k] w (i7 B w p s n 0 0 10):=by
 have c0:=ac hR.blk 0
 simp at c0
 go_enter Tryz.func84,Tryz.ntmps84
 go_wp2_with (first | (go_at_call 88;refine(gf _ _ c0).mono ?_;rintro e w' ⟨rfl,rfl⟩) | (go_at_call 143;refine(jV _ _ s n hR.blk).mono ?_;rintro e w1 ⟨ba,bt,he,ha,ht,h4,h9,h2⟩;unfold tU at he;subst he))
 have hf:=h2.size
 go_loopw [7,22] (fun v i wr=>∃j x:Nat,n+j≤8*s.size∧i=.int .i64 j∧v=.int .u64 x∧x=val (((al s.data.toList).drop n).take j)∧Blk wr ba 3 #[.int .i64 (n+j:Nat)]∧Blk wr bt 9 #[.string s]∧ak w.heap.size [] [] w wr) (fun _ i _=>k - (intOf i).toNat)
 case atStart=>exact⟨0,0,hn,rfl,rfl,by simp[val],ha,ht,h2⟩
 case round=>
  obtain⟨j,x,hj,rfl,rfl,hx,h1,h0,hS⟩:=hrel
  have HX:=aa hx;clear hx
  have h:j<k:=by omega
  by_cases h7:n+j<8*s.size
  ·have h8:x<9223372036854775808:=by
    rw[HX.out]
    exact Nat.lt_of_lt_of_eq (fH _ n j 63 (aM _) (by omega)) (by decide)
   obtain⟨b,hb⟩:∃b,b=(al s.data.toList).getD (n+j) 0:=⟨_,rfl⟩
   have h6:b<2:=by rw[hb];exact BG _ _ (aM _)
   have hn:=lg wr ba bt s (n+j) h1 h0 hs (by omega)
   rw[← hb]at hn
   have HB:=aa hb;clear hb
   have HN:=aa hn;clear hn
   go_wp2_with (go_at_call 189;refine HN.out.mono ?_;rintro e w2 ⟨rfl,h5,h3⟩)
   go_roundw
   case rel=>
    refine⟨j+1,2*x+b,h7,rfl,by rw[FD x b h8 h6],?_,h5,h3.blk h0 ?_ (by simp),hS.after h3 h4 (fun i hi=>by simp at hi;subst hi;exact .inr h4) (by simp)⟩
    ·rw[HX.out,HB.out,lu]
     rw[aA];simpa using by omega
    ·intro hm
     simp at hm
     subst hm
     unfold Blk at h1 h0
     rw[h1]at h0
     simp at h0
   case measure=>simp[intOf];omega
  ·have hn:=BV wr ba bt s (n+j) h1 h0 hs (by omega)
   have HN:=aa hn;clear hn
   go_wp2_with (go_at_call 189;refine HN.out.mono ?_;rintro e w2 ⟨rfl,rfl⟩)
   go_ret2
   exact⟨rfl,⟨hR.lo,hS.blk hR.blk (by simp) (by simp)⟩,hS.mono (Nat.le_trans hR.lo (Nat.le_of_lt (ay hR.blk))) (by simp) (by simp)⟩
theorem oo{w:World}{B:Nat}{v:Value}{l:List UInt8}(h:w.ownsRow B 5 1 v l.length (l.map bv)):(convert 43 9 v).run Tryz.prog w=.ok (.string ⟨l.toArray⟩) w:=by
 rcases h.2 with⟨rfl,h0⟩ | ⟨g,cap,cur,rfl,_⟩
 ·have:l= []:=List.eq_nil_of_length_eq_zero h0
  subst this
  exact run_convert_bytes_nil w 43 5 Tryz.underlying43 Tryz.underlying5 0 0 9 Tryz.underlying9
 ·have hn:∀j (hj:j<l.length),w.cell? ((⟨g,0,none⟩:Addr).add j)=some (.int .u8 (l[j].toNat:Int)):=by
   intro j hj
   have h1:=h.cells (g:=g) rfl j (.int .u8 (l[j].toNat:Int))
   exact h1 (by rw[List.getElem?_map,List.getElem?_eq_getElem hj];rfl)
  exact run_convert_bytes_back w 43 9 5 ⟨g,0,none⟩ cap l Tryz.underlying43 Tryz.underlying5 Tryz.underlying9 hn
theorem iz(B:Nat)(w:World)(p:Nat)(v:Value)(L:List Nat)(hW:IsW B w p v L):
 Calls Tryz.prog 63 #[.pointer (some ⟨p,0,none⟩)] w fun e w'=>e=.returned (.string ⟨(aK L).toArray⟩)∧w=w':=by
 have c0:=ac hW.blk 0
 have c1:=ac hW.blk 1
 simp at c0 c1
 have hc:=oo hW.row
 go_enter Tryz.func63,Tryz.ntmps63
 go_wp2_with (go_at_call 119;refine(mw _ _ c0).mono ?_;rintro e w' ⟨rfl,rfl⟩)
 go_ret
 exact⟨rfl,rfl⟩
theorem qP{w:World}{B n:Nat}{v:Value}{xs:List Value}(h:w.ownsRow B 5 1 v (n+1) xs):∃g cap,v=.slice (some ⟨g,0,none⟩) (n+1) cap∧B≤g:=by
 rcases h.2 with⟨_,h⟩ | ⟨g,cap,cur,hv,hb,_⟩
 ·omega
 ·exact⟨g,cap,hv,hb⟩
def Mid(B:Nat)(w wx:World)(p len t:Nat)(pre:List UInt8)(c:UInt8):Prop:=
 ∃g cap,Blk wx p 168 #[.bool true,.slice (some ⟨g,0,none⟩) (t+1) cap,.int .i64 len]∧wx.ownsRow B 5 1 (.slice (some ⟨g,0,none⟩) (t+1) cap) (t+1) ((pre++ [c]).map bv)∧B≤g∧ak B [p] [5] w wx
theorem GC{B p len t:Nat}{w wx:World}{v:Value}{l pre:List UInt8}{c:UInt8}(hl:l=pre++ [c])(ht:pre.length=t)(hb:Blk wx p 168 #[.bool true,v,.int .i64 len])(hr:wx.ownsRow B 5 1 v l.length (l.map bv))(hs:ak B [p] [5] w wx):Mid B w wx p len t pre c:=by
 subst hl
 subst ht
 rw[List.length_append,List.length_singleton]at hr
 obtain⟨g,cap,rfl,hg⟩:=qP hr
 exact⟨g,cap,hb,hr,hg,hs⟩
theorem Iw{B p len t:Nat}{w wx wy:World}{v v1:Value}{l:List UInt8}(ht:l.length=t)(hb:Blk wx p 168 #[.bool true,v,.int .i64 len])(hB:B≤p)(hr:wx.ownsRow B 5 1 v l.length (l.map bv))(hs:ak B [p] [5] w wx)
 (hn:wy.ownsRow B 5 1 v1 (l.length+1) (l.map bv++ [.int .u8 0])) (hg:(wx.alloc (.cells #[.int .u8 0] 5)).grownBy wy v.ownBlock):Mid B w (wy.setCell ⟨p,1,none⟩ v1) p len t l 0:=by
 subst ht
 obtain⟨g,cap,rfl,h4⟩:=qP hn
 have h2:B≤wx.heap.size:=Nat.le_trans hB (Nat.le_of_lt (ay hb))
 have h5:ak B [p] [5] w (wx.alloc (.cells #[.int .u8 0] 5)):=hs.alloc h2 _
 have h6:ak B [p] [5] w wy:=h5.grown hg (by simp;omega) (va (hr.alloc _))
 have h0:Blk (wx.alloc (.cells #[.int .u8 0] 5)) p 168 #[.bool true,v,.int .i64 len]:=(Below.heap_alloc wx _ p (ay hb)).trans hb
 have h1:Blk wy p 168 #[.bool true,v,.int .i64 len]:=(hg.block p (ay h0) (fun e=>cI (hr.alloc _) h0 (by decide) p e.symm rfl)).trans h0
 have h3:=au h1 1 (.slice (some ⟨g,0,none⟩) (l.length+1) cap)
 refine⟨g,cap,h3,?_,h4,h6.set hB (by simp) _⟩
 have hx:ak B [p] [] wy (wy.setCell ⟨p,1,none⟩ (.slice (some ⟨g,0,none⟩) (l.length+1) cap)):=(ak.refl B [p] [] wy).set hB (by simp) _
 have:=hx.row hn (fun k hk=>by
  have:=cI hn h1 (by decide) k hk
  simpa using this) (by simp)
 simpa [bv]using this
theorem og{B p n:Nat}{e t:TypeId}{wx wy:World}{v:Value}{xs:List Value}{cs:Array Value}{o:Obj}(hb:Blk wx p t cs)(hr:wx.ownsRow B e 1 v n xs)(h1:e≠t)(hg:(wx.alloc o).grownBy wy v.ownBlock):Blk wy p t cs:=by
 have h0:Blk (wx.alloc o) p t cs:=(Below.heap_alloc wx _ p (ay hb)).trans hb
 exact(hg.block p (ay h0) (fun e=>cI (hr.alloc _) h0 h1 p e.symm rfl)).trans h0
theorem Db(L:List Nat)(h:L.length % 8=0):aK (L.take (8*(L.length / 8)))=aK L∧UInt8.ofNat (val (L.drop (8*(L.length / 8)))*2 ^ (8 - L.length % 8))=0:=by
 have e:8*(L.length / 8)=L.length:=by omega
 rw[e,List.take_length,List.drop_length]
 exact⟨rfl,by simp[val]⟩
theorem Eg(L:List Nat)(h:¬L.length % 8=0):aK L=aK (L.take (8*(L.length / 8)))++ [UInt8.ofNat (val (L.drop (8*(L.length / 8)))*2 ^ (8 - L.length % 8))]:=by
 conv=>lhs;rw[AR L]
 rw[mG (L.drop (8*(L.length / 8))) (by simp;omega) (by simp;omega)]
 rw[List.length_drop,show L.length - 8*(L.length / 8)=L.length % 8 by omega]
theorem Fj(z k s r:Nat)(h:r+k+s=8)(hz:r=0∨z<2 ^ k):z % 256*2 ^ s % 256=z % 2 ^ k*2 ^ s:=by
 rcases hz with hr | hz
 ·subst hr
  have e:256=2 ^ k*2 ^ s:=by rw[← Nat.pow_add,show k+s=8 by omega]
  conv=>lhs;rhs;rw[e]
  rw[Nat.mul_mod_mul_right,Nat.mod_mod_of_dvd _ ⟨2 ^ s,e⟩]
 ·have e:2 ^ (k+s)≤2 ^ 8:=Nat.pow_le_pow_right (by omega) (by omega)
  have h1:z*2 ^ s<2 ^ (k+s):=by rw[Nat.pow_add];exact Nat.mul_lt_mul_of_pos_right hz (Nat.two_pow_pos _)
  have h2:z≤z*2 ^ s:=Nat.le_mul_of_pos_right _ (Nat.two_pow_pos _)
  rw[Nat.mod_eq_of_lt (show z<256 by omega),Nat.mod_eq_of_lt hz,Nat.mod_eq_of_lt (by omega)]
theorem Bn(R z r k s:Nat)(h:r+k+s=8)(hz:r=0∨z<2 ^ k):
 bits .or .u8 ((R:Int)*2 ^ (8 - r) % 256) ((z:Int) % 256*2 ^ s % 256)=((R*2 ^ (8 - r) % 256 ||| z % 2 ^ k*2 ^ s:Nat):Int):=by
 have e1:((R:Int)*2 ^ (8 - r) % 256)=((R*2 ^ (8 - r) % 256:Nat):Int):=by rw[Int.natCast_emod,Int.natCast_mul,Int.natCast_pow];rfl
 have e2:((z:Int) % 256*2 ^ s % 256)=((z % 256*2 ^ s % 256:Nat):Int):=by rw[Int.natCast_emod,Int.natCast_mul,Int.natCast_pow,Int.natCast_emod];rfl
 rw[e1,e2,u8_or_nat _ _ (Nat.mod_lt _ (by omega)) (Nat.mod_lt _ (by omega)),Fj z k s r h hz]
theorem tD{B p g cap t len k m m1 n x:Nat}{w wc:World}{L:List Nat}{y:Int}
 (h0:len=(L++ai (x / 2 ^ m) (n - m)).length) (ht:(aK ((L++ai (x / 2 ^ m) (n - m)).take (8*(len / 8)))).length=t)
 (hb:Blk wc p 168 #[.bool true,.slice (some ⟨g,0,none⟩) (t+1) cap,.int .i64 len])
 (hr:wc.ownsRow B 5 1 (.slice (some ⟨g,0,none⟩) (t+1) cap) (t+1) ((aK ((L++ai (x / 2 ^ m) (n - m)).take (8*(len / 8)))++ [UInt8.ofNat (val ((L++ai (x / 2 ^ m) (n - m)).drop (8*(len / 8)))*2 ^ (8 - len % 8))]).map bv))
 (h8:B≤p) (he:B≤g) (hS:ak B [p] [5] w wc) (h6:an L) (hk:0<k) (hq:k≤8 - len % 8) (hm:m=m1+k) (hs:m≤n) (h9:m1=0∨k=8 - len % 8) (hc:g≠p)
 (hy:y=((val ((L++ai (x / 2 ^ m) (n - m)).drop (8*(len / 8)))*2 ^ (8 - len % 8) % 256 ||| (x / 2 ^ m1) % 2 ^ k*2 ^ (8 - len % 8 - k):Nat):Int)):
 let W:=((wc.setCell ⟨g,t,none⟩ (.int .u8 y)).setCell ⟨p,2,none⟩ (.int .i64 (len+k))).drew
 (∃ v',IsW B W p v' (L++ai (x / 2 ^ m1) (n - m1)))∧ak B [p] [5] w W∧(m1=0∨(L.length+(n - m1)) % 8=0∨x / 2 ^ m1=0):=by
 intro W
 have h7:ai (x / 2 ^ m1) (n - m1)=ai (x / 2 ^ m) (n - m)++ai (x / 2 ^ m1) k:=by
  rw[show n - m1=(n - m)+k by omega,ix,Nat.div_div_eq_div_mul,←Nat.pow_add,←hm]
 have h5:=EP (L++ai (x / 2 ^ m) (n - m)) (ai (x / 2 ^ m1) k) (by rw[af];exact hk) (by rw[← h0,af];omega) (aE _ _)
 rw[List.append_assoc,←h7,←h0,cV,af]at h5
 have hR:val ((L++ai (x / 2 ^ m) (n - m)).drop (8*(len / 8)))*2 ^ (8 - len % 8)<256:=by
  have h1:=eD _ ((h6.append (aE (n - m) (x / 2 ^ m))).drop (8*(len / 8)))
  rw[List.length_drop,←h0,show len - 8*(len / 8)=len % 8 by omega]at h1
  have h2:(256:Nat)=2 ^ (len % 8)*2 ^ (8 - len % 8):=by rw[← Nat.pow_add,show len % 8+(8 - len % 8)=8 by omega]
  rw[h2]
  exact Nat.mul_lt_mul_of_pos_right h1 (Nat.two_pow_pos _)
 rw[Nat.mod_eq_of_lt hR]at hy
 generalize val ((L++ai (x / 2 ^ m) (n - m)).drop (8*(len / 8)))*2 ^ (8 - len % 8)=R at*
 generalize hpre:aK ((L++ai (x / 2 ^ m) (n - m)).take (8*(len / 8)))=pre at*
 generalize hM:(x / 2 ^ m1) % 2 ^ k*2 ^ (8 - len % 8 - k)=M at*
 have hf:M<256:=by
  have h1:(x / 2 ^ m1) % 2 ^ k<2 ^ k:=Nat.mod_lt _ (Nat.two_pow_pos _)
  have h2:M<2 ^ k*2 ^ (8 - len % 8 - k):=by rw[← hM];exact Nat.mul_lt_mul_of_pos_right h1 (Nat.two_pow_pos _)
  rw[← Nat.pow_add]at h2
  have h3:2 ^ (k+(8 - len % 8 - k))≤2 ^ 8:=Nat.pow_le_pow_right (by omega) (by omega)
  omega
 have h4:(L++ai (x / 2 ^ m1) (n - m1)).length=len+k:=by
  rw[h0,List.length_append,List.length_append,af,af];omega
 obtain⟨hn,hp⟩:=hr.stored t (.int .u8 y)
 have hi:Blk (wc.setCell ⟨g,t,none⟩ (.int .u8 y)) p 168 #[.bool true,.slice (some ⟨g,0,none⟩) (t+1) cap,.int .i64 len]:=
  (Below.heap_setCell wc ⟨g,t,none⟩ _ p (fun e=>hc e.symm)).trans hb
 have hl:=au hi 2 (.int .i64 ((len:Int)+k))
 have hg:ak B [p] [5] w (wc.setCell ⟨g,t,none⟩ (.int .u8 y)):=by
  obtain⟨_,cs,t',fr,hh,ho⟩:=va hr g rfl
  exact hS.setT he hh ho _
 refine⟨⟨.slice (some ⟨g,0,none⟩) (t+1) cap,h8,?_,?_,h6.append (aE _ _)⟩,(hg.set h8 (by simp) _).drew,?_⟩
 ·show Blk (((wc.setCell ⟨g,t,none⟩ (.int .u8 y)).setCell ⟨p,2,none⟩ (.int .i64 (len+k))).drew) p 168 _
  rw[h4]
  have:(((len+k:Nat):Int))=(len:Int)+k:=by omega
  rw[this]
  exact hl
 ·have hx:ak B [p] [] (wc.setCell ⟨g,t,none⟩ (.int .u8 y)) (((wc.setCell ⟨g,t,none⟩ (.int .u8 y)).setCell ⟨p,2,none⟩ (.int .i64 (len+k))).drew):=((ak.refl B [p] [] _).set h8 (by simp) _).drew
  have h3:=hx.row hn (fun j hj=>by simp[Value.ownBlock]at hj;subst hj;simpa using hc) (by simp)
  rw[h5,List.length_append,List.length_singleton,ht]
  have ha:((pre++ [UInt8.ofNat R]).map bv).set t (.int .u8 y)=(pre++ [UInt8.ofNat (R ||| M)]).map bv:=by
   rw[List.map_append,List.map_append,List.set_append,if_neg (by simp[ht]),List.length_map,ht,Nat.sub_self]
   simp[bv,hy,Nat.mod_eq_of_lt hR,Nat.mod_eq_of_lt hf]
  rw[ha]at h3
  exact h3
 ·rcases h9 with h | h
  ·exact .inl h
  ·right;left
   rw[h0,List.length_append,af]at h
   omega
theorem xP{L:List Nat}{x n m m1 k len:Nat}(hz:m=0∨(L.length+(n - m)) % 8=0∨x / 2 ^ m=0)(h0:0<m)(hm:m=m1+k)(h1:len=(L++ai (x / 2 ^ m) (n - m)).length):len % 8=0∨x / 2 ^ m1<2 ^ k:=by
 rcases hz with h9 | h9 | h9
 ·omega
 ·left;rw[h1,List.length_append,af];exact h9
 ·right
  rw[hm,Nat.pow_add,←Nat.div_div_eq_div_mul]at h9
  exact(Nat.div_eq_zero_iff_lt (Nat.two_pow_pos k)).1 h9
theorem Jj(R x len m:Nat)(hk:m≤8 - len % 8)(hz:len % 8=0∨x / 2 ^ 0<2 ^ m):
 bits .or .u8 ((R:Int)*2 ^ (8 - len % 8) % 256) ((x:Int) % 256*2 ^ (8 - len % 8 - m) % 256)=((R*2 ^ (8 - len % 8) % 256 ||| (x / 2 ^ 0) % 2 ^ m*2 ^ (8 - len % 8 - m):Nat):Int):=by
 rw[Nat.pow_zero,Nat.div_one]at*
 exact Bn R x (len % 8) m _ (by omega) hz
theorem Jf(R x len m1:Nat)(hz:len % 8=0∨x / 2 ^ m1<2 ^ (8 - len % 8)):
 bits .or .u8 ((R:Int)*2 ^ (8 - len % 8) % 256) ((x:Int) / 2 ^ m1 % 256)=((R*2 ^ (8 - len % 8) % 256 ||| (x / 2 ^ m1) % 2 ^ (8 - len % 8)*2 ^ (8 - len % 8 - (8 - len % 8)):Nat):Int):=by
 have h:=Bn R (x / 2 ^ m1) (len % 8) (8 - len % 8) (8 - len % 8 - (8 - len % 8)) (by omega) hz
 rw[← h,Nat.sub_self]
 simp
theorem fC(B:Nat)(w:World)(p:Nat)(v:Value)(L:List Nat)(x n:Nat)(hW:IsW B w p v L)(hL:L.length≤1000000000000)(hn:n≤64)(hx:x<2 ^ n):
 Calls Tryz.prog 61 #[.pointer (some ⟨p,0,none⟩),.int .u64 x,.int .i64 n] w fun e w'=>e=.returned (.int .i64 0)∧∃v',IsW B w' p v' (L++ai x n)∧ak B [p] [5] w w':=by
 have hd:((x:Int) / 2 ^ n != 0)=false:=by
  have h2:((x / 2 ^ n:Nat):Int)=(x:Int) / 2 ^ n:=by simp
  rw[← h2,Nat.div_eq_of_lt hx];rfl
 have h0:=ac hW.blk 0
 simp at h0
 go_enter Tryz.func61,Tryz.ntmps61
 go_wp2_with (go_at_call 119;refine(mw _ _ h0).mono ?_;rintro e w' ⟨rfl,rfl⟩)
 go_loopw [2] (fun i wr=>∃(m:Nat) (v':Value),m≤n∧i=.int .i64 m∧IsW B wr p v' (L++ai (x / 2 ^ m) (n - m))∧ak B [p] [5] w wr∧(m=0∨(L.length+(n - m)) % 8=0∨x / 2 ^ m=0)) (fun i _=>(intOf i).toNat)
 case atStart=>
  refine⟨n,v,Nat.le_refl _,rfl,?_,ak.refl _ _ _ _,.inr (.inr (Nat.div_eq_of_lt hx))⟩
  rw[Nat.sub_self,show ai (x / 2 ^ n) 0= []from rfl,List.append_nil]
  exact hW
 case round=>
  clear h0 hd
  obtain⟨m,v',hm,rfl,h4,hS,hz⟩:=hrel
  have HZ:=aa hz;clear hz
  obtain⟨len,h6⟩:∃len,len=(L++ai (x / 2 ^ m) (n - m)).length:=⟨_,rfl⟩
  have hl:len≤L.length+64:=by rw[h6,List.length_append,af];omega
  have c1:=ac h4.blk 1
  have c2:=ac h4.blk 2
  have f1:=ae h4.blk 1
  have f2:=ae h4.blk 2
  rw[← h6]at c2
  simp at c1 c2
  have h7:Blk wr p 168 #[.bool true,v',.int .i64 len]:=by rw[h6];exact h4.blk
  have HL:=aa h6;clear h6
  obtain⟨t,ht⟩:∃t,(aK ((L++ai (x / 2 ^ m) (n - m)).take (8*(len / 8)))).length=t:=⟨_,rfl⟩
  have HT:=aa ht;clear ht
  have htl:8*t≤len:=by
   rw[← HT.out,eB,List.length_take,←HL.out];omega
  by_cases h:0<m
  ·go_upto_if 33 with fail
   go_cut []from 24 to 80 (fun wx=>Mid B w wx p len t (aK ((L++ai (x / 2 ^ m) (n - m)).take (8*(len / 8)))) (UInt8.ofNat (val ((L++ai (x / 2 ^ m) (n - m)).drop (8*(len / 8)))*2 ^ (8 - len % 8))))
   case first=>
    obtain⟨i5,hi,hv,hw,hy⟩:=info_parts Tryz.info5
    by_cases h8:len % 8=0
    ·have hq:((8 - (len:Int) % 8)==8)=true:=by rw[beq_iff_eq];omega
     have H8:=aa h8;clear h8
     go_wp2_with (at_builtin;refine wpList_append_own _ rfl _ _ 43 rfl B 5 i5 (.int .u8 0) 1 1 Tryz.underlying43 hi hv hw hy rfl (by decide) _ _ _ rfl (h4.row.alloc _) ⟨wr.heap.size,0,none⟩ 1 1 [.int .u8 0] rfl rfl ?c1 ?c2 ?c3 ?c4 ?c5 ?_)
     case c1=>exact cell_one_new _ _ _
     case c2=>intro u hu;simp at hu;subst hu;rfl
     case c3=>rw[eB,←HL.out];unfold maxLen;omega
     case c4=>rw[eB,←HL.out];omega
     case c5=>have:=ay h4.blk;have:=h4.lo;simp;omega
     intro v1 w1 h9 h5 _
     have hc:=Db _ (by rw[← HL.out];exact H8.out:(L++ai (x / 2 ^ m) (n - m)).length % 8=0)
     rw[← HL.out]at hc
     have ho:=Iw (t:=t) (by rw[← hc.1];exact HT.out) h7 h4.lo h4.row hS h9 h5
     have HM:Hid (_∧_):=aa hc
     clear hc
     have hj:=og h7 h4.row (by decide) h5
     have d1:=ac hj 1
     have e1:=ae hj 1
     simp at d1
     obtain⟨g1,cap1,hf,hB⟩:=qP h9
     rw[hf]at ho ⊢
     have hA:=aa hf;clear hf
     go_wp2
     go_meet
     case rel=>rw[HM.out.1,HM.out.2];exact ho
    ·have hq:((8 - (len:Int) % 8)==8)=false:=by rw[beq_eq_false_iff_ne];omega
     have H8:=aa h8;clear h8
     go_wp2
     go_meet
     case rel=>exact GC (by have:=Eg _ (by rw[← HL.out];exact H8.out);rw[← HL.out]at this;exact this) HT.out h7 h4.row hS
   case rest=>
    obtain⟨g,cap,hb,hr,hg,hh⟩:=hcut
    clear c1 c2 f1 f2 h7 h4
    have c0:=ac hb 0
    have c1:=ac hb 1
    have c2:=ac hb 2
    have f1:=ae hb 1
    have f2:=ae hb 2
    simp at c0 c1 c2
    have r1:=hr.cellAt t (by omega)
    have r2:=hr.frozenAt t
    rw[List.map_append,List.getElem?_append_right (by rw[List.length_map,HT.out];exact Nat.le_refl _)]at r1
    rw[List.length_map,HT.out,Nat.sub_self]at r1
    simp[bv]at r1
    have he:g≠p:=cI hr hb (by decide) g rfl
    have hs:p≠g:=fun e=>he e.symm
    by_cases ha:m≤8 - len % 8
    ·go_upto_region 10 with fail
     go_region
     go_wp2
     go_roundw
     case rel=>
      obtain⟨⟨v2,h1⟩,h2,h3⟩:=tD (m1:=0) (k:=m) HL.out HT.out hb hr hW.lo hg hh hW.bit h (by omega) (by omega) hm (.inl rfl) he (Jj _ x len m ha (xP HZ.out h (by omega) HL.out))
      exact⟨0,v2,Nat.zero_le _,rfl,h1,h2,h3⟩
     case measure=>simp[intOf];omega
    ·have hp:8 - len % 8<m:=by omega
     clear ha
     go_upto_region 10 with fail
     go_region
     go_wp2
     go_roundw
     case rel=>
      obtain⟨⟨v2,h1⟩,h2,h3⟩:=tD (m1:=m - (8 - len % 8)) (k:=8 - len % 8) HL.out HT.out hb hr hW.lo hg hh hW.bit (by omega) (by omega) (by omega) hm (.inr rfl) he (Jf _ x len _ (xP HZ.out h (by omega) HL.out))
      have hk:(((8 - len % 8:Nat):Int))=8 - (len:Int) % 8:=by omega
      rw[hk]at h1 h2
      exact⟨m - (8 - len % 8),v2,by omega,by congr 1;omega,h1,h2,h3⟩
     case measure=>simp[intOf];omega
  ·obtain rfl:m=0:=by omega
   rw[Nat.pow_zero,Nat.div_one,Nat.sub_zero]at h4
   go_wp2
   go_ret
   exact⟨rfl,⟨v',h4⟩,hS⟩
def oi(B:Nat)(w:World)(p:Nat)(s:ByteArray)(n k:Nat)(x r:Nat)(e:Ending)(w':World):Prop:=
 e=.returned (.tuple #[.int .i64 x,.int .i64 r])∧IsR B w' p s (n+k)∧ak B [p] [] w w'
theorem sc{l r:List Nat}{n c j:Nat}(h:l.drop n=List.replicate c 1++r)(hj:j<c):l.getD (n+j) 0=1:=by
 have h1:l[n+j]? =(l.drop n)[j]? :=by rw[List.getElem?_drop]
 rw[List.getD_eq_getElem?_getD,h1,h,List.getElem?_append_left (by simpa using hj),List.getElem?_replicate,if_pos hj]
 rfl
theorem yF{l r:List Nat}{n c:Nat}(h:l.drop n=List.replicate c 1++0 :: r):l.getD (n+c) 0=0∧n+c<l.length:=by
 have h1:l[n+c]? =(l.drop n)[c]? :=by rw[List.getElem?_drop]
 have h2:=congrArg List.length h
 simp at h2
 refine⟨?_,by omega⟩
 rw[List.getD_eq_getElem?_getD,h1,h,List.getElem?_append_right (by simp)]
 simp
theorem Hh(B:Nat)(w:World)(p:Nat)(s:ByteArray)(n c most:Nat)(r:List Nat)(hR:IsR B w p s n)(hs:s.size≤281474976710656)(hm:(most:Int)≤9223372036854775807)(hc:c≤most)(h0:(al s.data.toList).drop n=List.replicate c 1++0 :: r):
 Calls Tryz.prog 190 #[.pointer (some ⟨p,0,none⟩),.int .i64 most] w (oi B w p s n (c+1) c 0):=by
 have c0:=ac hR.blk 0
 simp at c0
 have hz:=yF h0
 rw[aA]at hz
 have hb:n+c<8*s.size:=by have:=hz.2;simpa using this
 have HZ:=aa hz.1;clear hz
 have h9:=aa h0;clear h0
 go_enter Tryz.func190,Tryz.ntmps190
 go_wp2_with (first | (go_at_call 88;refine(gf _ _ c0).mono ?_;rintro e w' ⟨rfl,rfl⟩) | (go_at_call 143;refine(jV _ _ s n hR.blk).mono ?_;rintro e w1 ⟨ba,bt,he,ha,ht,h4,hf,h7⟩;unfold tU at he;subst he))
 have hh:=h7.size
 go_loopw [7] (fun i wr=>∃j:Nat,j≤c∧i=.int .i64 j∧Blk wr ba 3 #[.int .i64 (n+j:Nat)]∧Blk wr bt 9 #[.string s]∧ak w.heap.size [] [] w wr) (fun i _=>c - (intOf i).toNat)
 case atStart=>exact⟨0,Nat.zero_le _,rfl,ha,ht,h7⟩
 case round=>
  obtain⟨j,hj,rfl,h2,h1,hS⟩:=hrel
  have hn:=lg wr ba bt s (n+j) h2 h1 hs (by omega)
  by_cases h:j<c
  ·rw[sc h9.out h]at hn
   have HN:=aa hn;clear hn
   have hg:((j:Int)==(most:Int))=false:=by rw[beq_eq_false_iff_ne];omega
   go_wp2_with (go_at_call 189;refine HN.out.mono ?_;rintro e w2 ⟨rfl,h8,h3⟩)
   go_roundw
   case rel=>
    refine⟨j+1,h,rfl,h8,h3.blk h1 ?_ (by simp),hS.after h3 h4 (fun i hi=>by simp at hi;subst hi;exact .inr h4) (by simp)⟩
    intro hm
    simp at hm
    subst hm
    unfold Blk at h2 h1
    rw[h2]at h1
    simp at h1
   case measure=>simp[intOf];omega
  ·obtain rfl:j=c:=by omega
   rw[HZ.out]at hn
   have HN:=aa hn;clear hn
   have h6:p∉ [ba]:=by have:=ay hR.blk;simp;omega
   go_wp2_with (go_at_call 189;refine HN.out.mono ?_;rintro e w2 ⟨rfl,h8,h3⟩;have h5:=h3.blk (hS.blk hR.blk (by simp) (by simp)) h6 (by simp);have c2:=ac h5 2;have f2:=ae h5 2;simp at c2)
   go_ret2
   refine⟨rfl,⟨hR.lo,?_⟩,?_⟩
   ·exact au h5 2 _
   ·exact(((hS.after h3 h4 (fun i hi=>by simp at hi;subst hi;exact .inr h4) (by simp)).mono (Nat.le_trans hR.lo (Nat.le_of_lt (ay hR.blk))) (by simp) (by simp)).set (p:=⟨p,2,none⟩) hR.lo (List.mem_singleton.2 rfl) _)
theorem xK(B:Nat)(w:World)(p:Nat)(s:ByteArray)(n c most:Nat)(hR:IsR B w p s n)(hf:n≤8*s.size)(hs:s.size≤281474976710656)(hm:(most:Int)≤9223372036854775807)(hc:c≤most)(h1:(al s.data.toList).drop n=List.replicate c 1):
 Calls Tryz.prog 190 #[.pointer (some ⟨p,0,none⟩),.int .i64 most] w (oi B w p s n 0 0 10):=by
 have c0:=ac hR.blk 0
 simp at c0
 have h3:n+c=8*s.size:=by
  have:=congrArg List.length h1
  rw[List.length_drop,aA,List.length_replicate]at this
  simp at this
  omega
 have HL:=aa h3;clear h3
 have h7:=aa h1;clear h1
 go_enter Tryz.func190,Tryz.ntmps190
 go_wp2_with (first | (go_at_call 88;refine(gf _ _ c0).mono ?_;rintro e w' ⟨rfl,rfl⟩) | (go_at_call 143;refine(jV _ _ s n hR.blk).mono ?_;rintro e w1 ⟨ba,bt,he,ha,ht,h6,h9,h4⟩;unfold tU at he;subst he))
 have hg:=h4.size
 go_loopw [7] (fun i wr=>∃j:Nat,j≤c∧i=.int .i64 j∧Blk wr ba 3 #[.int .i64 (n+j:Nat)]∧Blk wr bt 9 #[.string s]∧ak w.heap.size [] [] w wr) (fun i _=>c - (intOf i).toNat)
 case atStart=>exact⟨0,Nat.zero_le _,rfl,ha,ht,h4⟩
 case round=>
  obtain⟨j,hj,rfl,h2,h0,hS⟩:=hrel
  by_cases h:j<c
  ·have hn:=lg wr ba bt s (n+j) h2 h0 hs (by have:=HL.out;omega)
   rw[sc (r:= []) (by rw[List.append_nil];exact h7.out) h]at hn
   have HN:=aa hn;clear hn
   have hb:((j:Int)==(most:Int))=false:=by rw[beq_eq_false_iff_ne];omega
   go_wp2_with (go_at_call 189;refine HN.out.mono ?_;rintro e w2 ⟨rfl,h8,h5⟩)
   go_roundw
   case rel=>
    refine⟨j+1,h,rfl,h8,h5.blk h0 ?_ (by simp),hS.after h5 h6 (fun i hi=>by simp at hi;subst hi;exact .inr h6) (by simp)⟩
    intro hm
    simp at hm
    subst hm
    unfold Blk at h2 h0
    rw[h2]at h0
    simp at h0
   case measure=>simp[intOf];omega
  ·have hn:=BV wr ba bt s (n+j) h2 h0 hs (by have:=HL.out;omega)
   have HN:=aa hn;clear hn
   go_wp2_with (go_at_call 189;refine HN.out.mono ?_;rintro e w2 ⟨rfl,rfl⟩)
   go_ret2
   exact⟨rfl,⟨hR.lo,hS.blk hR.blk (by simp) (by simp)⟩,hS.mono (Nat.le_trans hR.lo (Nat.le_of_lt (ay hR.blk))) (by simp) (by simp)⟩
theorem Dm(B:Nat)(w:World)(p:Nat)(s:ByteArray)(n most:Nat)(r:List Nat)(hR:IsR B w p s n)(hs:s.size≤281474976710656)(hm:(most:Int)≤9223372036854775807)(h0:(al s.data.toList).drop n=List.replicate (most+1) 1++r):
 Calls Tryz.prog 190 #[.pointer (some ⟨p,0,none⟩),.int .i64 most] w (oi B w p s n 0 0 3):=by
 have c0:=ac hR.blk 0
 simp at c0
 have h9:n+most<8*s.size:=by
  have:=congrArg List.length h0
  rw[List.length_drop,aA,List.length_append,List.length_replicate]at this
  simp at this
  omega
 have h8:=aa h0;clear h0
 go_enter Tryz.func190,Tryz.ntmps190
 go_wp2_with (first | (go_at_call 88;refine(gf _ _ c0).mono ?_;rintro e w' ⟨rfl,rfl⟩) | (go_at_call 143;refine(jV _ _ s n hR.blk).mono ?_;rintro e w1 ⟨ba,bt,he,ha,ht,h4,hc,h5⟩;unfold tU at he;subst he))
 have hg:=h5.size
 go_loopw [7] (fun i wr=>∃j:Nat,j≤most∧i=.int .i64 j∧Blk wr ba 3 #[.int .i64 (n+j:Nat)]∧Blk wr bt 9 #[.string s]∧ak w.heap.size [] [] w wr) (fun i _=>most - (intOf i).toNat)
 case atStart=>exact⟨0,Nat.zero_le _,rfl,ha,ht,h5⟩
 case round=>
  obtain⟨j,hj,rfl,h2,h1,hS⟩:=hrel
  have hn:=lg wr ba bt s (n+j) h2 h1 hs (by omega)
  rw[sc h8.out (by omega)]at hn
  have HN:=aa hn;clear hn
  by_cases h:j<most
  ·have hf:((j:Int)==(most:Int))=false:=by rw[beq_eq_false_iff_ne];omega
   go_wp2_with (go_at_call 189;refine HN.out.mono ?_;rintro e w2 ⟨rfl,h7,h3⟩)
   go_roundw
   case rel=>
    refine⟨j+1,h,rfl,h7,h3.blk h1 ?_ (by simp),hS.after h3 h4 (fun i hi=>by simp at hi;subst hi;exact .inr h4) (by simp)⟩
    intro hm
    simp at hm
    subst hm
    unfold Blk at h2 h1
    rw[h2]at h1
    simp at h1
   case measure=>simp[intOf];omega
  ·obtain rfl:j=most:=by omega
   have hb:p∉ [ba]:=by have:=ay hR.blk;simp;omega
   go_wp2_with (go_at_call 189;refine HN.out.mono ?_;rintro e w2 ⟨rfl,h7,h3⟩)
   go_ret2
   have h6:=hS.after h3 h4 (fun i hi=>by simp at hi;subst hi;exact .inr h4) (by simp)
   exact⟨rfl,⟨hR.lo,h6.blk hR.blk (by simp) (by simp)⟩,h6.mono (Nat.le_trans hR.lo (Nat.le_of_lt (ay hR.blk))) (by simp) (by simp)⟩
theorem xE(most:Nat):∀l:List Nat,an l→(∃ c r,c≤most∧l=List.replicate c 1++0 :: r)∨(∃ c,c≤most∧l=List.replicate c 1)∨(∃ r,l=List.replicate (most+1) 1++r):=by
 induction most with
 | zero=>
   intro l hb
   match l with
   | []=>exact .inr (.inl ⟨0,Nat.le_refl _,rfl⟩)
   | b :: l=>
     have:=hb b (by simp)
     by_cases h:b=0
     ·subst h;exact .inl ⟨0,l,Nat.le_refl _,rfl⟩
     ·obtain rfl:b=1:=by omega
      exact .inr (.inr ⟨l,rfl⟩)
 | succ most ih=>
   intro l hb
   match l with
   | []=>exact .inr (.inl ⟨0,Nat.zero_le _,rfl⟩)
   | b :: l=>
     have:=hb b (by simp)
     by_cases h:b=0
     ·subst h;exact .inl ⟨0,l,Nat.zero_le _,rfl⟩
     ·obtain rfl:b=1:=by omega
      rcases ih l (fun x hx=>hb x (by simp[hx]))with⟨c,r,hc,rfl⟩ | ⟨c,hc,rfl⟩ | ⟨r,rfl⟩
      ·exact .inl ⟨c+1,r,by omega,by simp[List.replicate_succ]⟩
      ·exact .inr (.inl ⟨c+1,by omega,by simp[List.replicate_succ]⟩)
      ·exact .inr (.inr ⟨r,by rw[List.replicate_succ (n:=most+1)];rfl⟩)
theorem IsW.c0{B:Nat}{w:World}{p:Nat}{v:Value}{L:List Nat}(h:IsW B w p v L):w.cell? ⟨p,0,none⟩=some (.bool true):=ac h.blk 0
theorem IsW.c2{B:Nat}{w:World}{p:Nat}{v:Value}{L:List Nat}(h:IsW B w p v L):w.cell? ⟨p,2,none⟩=some (.int .i64 L.length):=ac h.blk 2
theorem JX{B:Nat}{w:World}{p:Nat}{v:Value}{L:List Nat}(h:IsW B w p v L):Calls Tryz.prog 64 #[.pointer (some ⟨p,0,none⟩)] w fun e w'=>e=.returned (.int .i64 L.length)∧w=w':=
 jR w p _ h.c0 h.c2
theorem IsW.drew{B:Nat}{w:World}{p:Nat}{v:Value}{L:List Nat}(h:IsW B w p v L):IsW B w.drew p v L:=⟨h.lo,h.blk,h.row,h.bit⟩
def Ic(w:World)(B:Nat)(A:Option Addr)(n:Nat)(X Y:Nat→Value):Prop:=
 0<n→∃b off,A=some ⟨b,off,none⟩∧b<B∧∀i,i<n→w.cell? ⟨b,off+i*2,none⟩=some (X i)∧w.cell? ⟨b,off+i*2+1,none⟩=some (Y i)
def nb(s:ByteArray)(n:Int):Bool:=
 decide (0≤n∧n≤8*(s.size:Int)∧8*(s.size:Int)<n+8)&&((al s.data.toList).drop n.toNat).all (· ==0)
theorem lX{s:ByteArray}{k:Nat}:nb s k=true↔(k≤8*s.size∧8*s.size<k+8∧((al s.data.toList).drop k).all (· ==0)=true):=by
 unfold nb
 rw[Bool.and_eq_true,decide_eq_true_iff,Int.toNat_natCast]
 constructor
 ·rintro⟨⟨_,h1,h2⟩,h3⟩
  exact⟨by omega,by omega,h3⟩
 ·rintro⟨h1,h2,h3⟩
  exact⟨⟨by omega,by omega,by omega⟩,h3⟩
theorem I2{s:ByteArray}{n:Int}(h:nb s n=true):∃k:Nat,n=k∧k≤8*s.size:=by
 unfold nb at h
 rw[Bool.and_eq_true,decide_eq_true_iff]at h
 exact⟨n.toNat,by omega,by omega⟩
theorem IT(s:ByteArray)(n:Int)(h:n<0):nb s n=false:=by
 unfold nb
 have:decide (0≤n∧n≤8*(s.size:Int)∧8*(s.size:Int)<n+8)=false:=by rw[decide_eq_false_iff_not];omega
 rw[this,Bool.false_and]
theorem D9(s:ByteArray)(k:Nat)(h:k % 8=0):nb s k=decide (s.size=k / 8):=by
 rw[Bool.eq_iff_iff,lX,decide_eq_true_iff]
 constructor
 ·rintro⟨h1,h2,_⟩
  omega
 ·intro h1
  refine⟨by omega,by omega,?_⟩
  have hl:(al s.data.toList).length=8*s.size:=by rw[aA];rfl
  rw[List.drop_of_length_le (by rw[hl];omega)]
  rfl
theorem vU(s:ByteArray)(k:Nat)(h:k % 8≠0)(h1:s.size≠k / 8+1):nb s k=false:=by
 rw[Bool.eq_false_iff]
 intro h2
 have:=lX.1 h2
 omega
theorem CR(v m:Nat):(ai v m).all (· ==0)=true↔v % 2 ^ m=0:=by
 constructor
 ·intro h
  have h1:ai v m=List.replicate m 0:=by
   rw[List.eq_replicate_iff]
   refine⟨af m v,fun b hb=> ?_⟩
   have:=List.all_eq_true.1 h b hb
   simpa using this
  rw[← cV,h1,←r4,cV,Nat.zero_mod]
 ·intro h
  have h1:=eQ (ai v m) (aE m v)
  rw[af,cV,h,r4]at h1
  rw[← h1]
  simp
theorem IG(c r:Nat)(hr:r≤8):c*2 ^ r % 256=0↔c % 2 ^ (8 - r)=0:=by
 have e:256=2 ^ (8 - r)*2 ^ r:=by rw[← Nat.pow_add,show 8 - r+r=8 by omega]
 conv=>lhs;lhs;rhs;rw[e]
 rw[Nat.mul_mod_mul_right]
 constructor
 ·intro h
  rcases Nat.mul_eq_zero.1 h with h | h
  ·exact h
  ·have:=Nat.two_pow_pos r;omega
 ·intro h
  rw[h,Nat.zero_mul]
theorem Ff(s:ByteArray)(k:Nat)(h:k % 8≠0)(h1:s.size=k / 8+1)(h5:k / 8<s.size):nb s k=decide (s[k / 8].toNat*2 ^ (k % 8) % 256=0):=by
 rw[Bool.eq_iff_iff,lX,decide_eq_true_iff,IG _ _ (by omega),←CR]
 have hd:(al s.data.toList).drop k=ai s[k / 8].toNat (8 - k % 8):=by
  have hl:s.data.toList.length=k / 8+1:=by rw[← h1];rfl
  have h4:k / 8<s.data.toList.length:=by omega
  have e:s.data.toList=s.data.toList.take (k / 8)++ [s[k / 8]]:=by
   have e1:=List.take_succ_eq_append_getElem h4
   rw[List.take_of_length_le (by omega)]at e1
   exact e1
  have h0:(al (s.data.toList.take (k / 8))).length=8*(k / 8):=by rw[aA,List.length_take];omega
  have h2:ai s[k / 8].toNat 8=ai (s[k / 8].toNat / 2 ^ (8 - k % 8)) (k % 8)++ai s[k / 8].toNat (8 - k % 8):=by
   rw[← ix,show k % 8+(8 - k % 8)=8 by omega]
  conv=>lhs;rw[e]
  rw[kC,eC,pa,List.append_nil]
  conv=>lhs;lhs;rw[show k=8*(k / 8)+k % 8 by omega]
  rw[← List.drop_drop,List.drop_left' h0,h2,List.drop_left' (af _ _)]
 rw[hd]
 constructor
 ·rintro⟨_,_,h3⟩
  exact h3
 ·intro h3
  exact⟨by omega,by omega,h3⟩
def gQ(T:Nat→ByteArray)(K:Nat→Int):Nat→List Nat
 | 0=> []
 | i+1=>gQ T K i++(al (T i).data.toList).take (K i).toNat
def tz(T:Nat→ByteArray):Nat→Nat
 | 0=>0
 | i+1=>tz T i+(T i).size
theorem vN(T:Nat→ByteArray)(K:Nat→Int)(i:Nat):(gQ T K i).length≤8*tz T i:=by
 induction i with
 | zero=>simp[gQ]
 | succ i ih=>
   have hl:(al (T i).data.toList).length=8*(T i).size:=by rw[aA];rfl
   rw[gQ,tz,List.length_append,List.length_take]
   omega
theorem Ej(T:Nat→ByteArray){i j:Nat}(h:i≤j):tz T i≤tz T j:=by
 induction h with
 | refl=>exact Nat.le_refl _
 | step _ ih=>exact Nat.le_trans ih (by rw[tz];omega)
theorem uf(l:List Nat)(a i k:Nat):(l.drop a).take (i+k)=(l.drop a).take i++(l.drop (a+i)).take k:=by
 rw[List.take_add,List.drop_drop]
theorem qU(l:List Nat)(a k:Nat)(hb:an l)(h:a+k≤l.length):ai (val ((l.drop a).take k)) k=(l.drop a).take k:=by
 have h1:=eQ ((l.drop a).take k) ((hb.drop a).take k)
 rwa [List.length_take,List.length_drop,Nat.min_eq_left (by omega)]at h1
def DG(B:Nat)(w:World)(p q:Nat)(L:List Nat)(s:ByteArray)(a m:Nat)(e:Ending)(w':World):Prop:=
 e=.returned (.tuple #[])∧(∃ v',IsW B w' p v' (L++((al s.data.toList).drop a).take m))∧IsR B w' q s (a+m)∧ak B [p,q] [5] w w'
theorem E9(B:Nat)(w:World)(p q:Nat)(v:Value)(L:List Nat)(s:ByteArray)(a m:Nat)(hW:IsW B w p v L)(hR:IsR B w q s a)(hs:s.size≤281474976710656)(hh:a+m≤8*s.size)(hL:L.length+m≤1000000000000):
 Calls Tryz.prog 72 #[.pointer (some ⟨p,0,none⟩),.pointer (some ⟨q,0,none⟩),.int .i64 m] w (DG B w p q L s a m):=by
 have hf:(al s.data.toList).length=8*s.size:=by rw[aA];rfl
 have he:=aa hf
 clear hf
 go_enter Tryz.func72,Tryz.ntmps72
 go_wp2
 go_loopw [2] (fun i wr=>∃(r:Nat) (v':Value),r≤m∧i=.int .i64 r∧IsW B wr p v' (L++((al s.data.toList).drop a).take (m - r))∧IsR B wr q s (a+(m - r))∧ak B [p,q] [5] w wr) (fun i _=>(intOf i).toNat)
 case atStart=>exact⟨m,v,Nat.le_refl _,rfl,by simpa using hW,by simpa using hR,ak.refl _ _ _ _⟩
 case round=>
  obtain⟨r,v',hr,rfl,h8,h0,hS⟩:=hrel
  have h7:(L++((al s.data.toList).drop a).take (m - r)).length≤1000000000000:=by
   rw[List.length_append,List.length_take];omega
  by_cases h:0<r
  ·by_cases h9:r≤64
   ·have hT:=gz B wr q s (a+(m - r)) r h0 hs h9 (by omega)
    have hx:val (((al s.data.toList).drop (a+(m - r))).take r)<2 ^ r:=fH _ _ _ _ (aM _) (ah _)
    have h6:=qU (al s.data.toList) (a+(m - r)) r (aM _) (by rw[he.out];omega)
    generalize val (((al s.data.toList).drop (a+(m - r))).take r)=x at*
    have HT:=aa hT
    have HB:=aa h6
    clear hT h6
    go_wp2_with fail
    refine HT.out.mono ?_
    rintro e w2 ⟨rfl,ha,h2⟩
    have h4:=h8.take h0 h2
    go_wp2_with fail
    refine(fC _ _ _ _ _ _ _ h4 h7 h9 hx).mono ?_
    rintro e w3 ⟨rfl,v3,h5,h3⟩
    have h1:=ha.put h4 h3
    have hb:=(hS.trans (h2.mono (ah _) (by simp) (by simp))).trans (h3.mono (ah _) (by simp) (by simp))
    rw[HB.out,List.append_assoc,←uf,show m - r+r=m - 0 by omega]at h5
    rw[Nat.add_assoc,show m - r+r=m - 0 by omega]at h1
    go_wp2_with fail
    go_roundw
    case rel=>exact⟨0,v3,Nat.zero_le _,rfl,h5,h1,hb⟩
    case measure=>simp[intOf];omega
   ·have hg:64<r:=by omega
    have hT:=gz B wr q s (a+(m - r)) 64 h0 hs (ah _) (by omega)
    have hx:val (((al s.data.toList).drop (a+(m - r))).take 64)<2 ^ 64:=fH _ _ _ _ (aM _) (ah _)
    have h6:=qU (al s.data.toList) (a+(m - r)) 64 (aM _) (by rw[he.out];omega)
    generalize val (((al s.data.toList).drop (a+(m - r))).take 64)=x at*
    have HT:Hid (Calls Tryz.prog 84 #[.pointer (some ⟨q,0,none⟩),.int .i64 64] wr (i7 B wr q s (a+(m - r)) 64 x 0)):=aa hT
    have HB:=aa h6
    clear hT h6 h9
    go_wp2_with fail
    refine HT.out.mono ?_
    rintro e w2 ⟨rfl,ha,h2⟩
    have h4:=h8.take h0 h2
    have hP:Calls Tryz.prog 61 #[.pointer (some ⟨p,0,none⟩),.int .u64 x,.int .i64 64] w2 _:=fC _ _ _ _ _ _ 64 h4 h7 (ah _) hx
    have HP:=aa hP
    clear hP
    go_wp2_with fail
    refine HP.out.mono ?_
    rintro e w3 ⟨rfl,v3,h5,h3⟩
    have h1:=ha.put h4 h3
    have hb:=(hS.trans (h2.mono (ah _) (by simp) (by simp))).trans (h3.mono (ah _) (by simp) (by simp))
    rw[HB.out,List.append_assoc,←uf,show m - r+64=m - (r - 64) by omega]at h5
    rw[Nat.add_assoc,show m - r+64=m - (r - 64) by omega]at h1
    go_wp2_with fail
    go_roundw
    case rel=>
     have hc:((r - 64:Nat):Int)=(r:Int) - 64:=by omega
     exact⟨r - 64,v3,by omega,by rw[hc],h5,h1,hb⟩
    case measure=>simp[intOf];omega
  ·obtain rfl:r=0:=by omega
   rw[Nat.sub_zero]at h8 h0
   go_wp2
   go_end0
   exact⟨rfl,⟨v',h8⟩,h0,hS⟩
def ow(w:World)(t:List UInt8)(n r:Nat)(e:Ending)(w':World):Prop:=
 e=.returned (.tuple #[.agg #[.string ⟨t.toArray⟩,.int .i64 n],.int .i64 r])∧Below w.heap.size w w'
def Iv(w:World)(b:Bool)(e:Ending)(w':World):Prop:=e=.returned (.bool b)∧Below w.heap.size w w'
theorem GG(w:World)(s:ByteArray)(n:Int)(hs:s.size≤100000000)(hn: -9223372036854775808≤n∧n≤9223372036854775807):
 Calls Tryz.prog 71 #[.agg #[.string s,.int .i64 n]] w (Iv w (nb s n)):=by
 have h0:Below w.heap.size w (w.alloc (.cells #[.string s,.int .i64 n] 24)):=(Below.refl _ _).alloc (ah _) _
 by_cases h2:n<0
 ·rw[IT s n h2]
  go_enter Tryz.func71,Tryz.ntmps71
  go_wp2
  go_ret
  exact⟨rfl,h0⟩
 obtain⟨k,rfl⟩:=Int.eq_ofNat_of_zero_le (show 0≤n by omega)
 by_cases h8:k % 8=0
 ·have hb:((s.size:Int)==(k:Int) / 8)=nb s k:=by
   rw[D9 s k h8,Bool.eq_iff_iff,beq_iff_eq,decide_eq_true_iff];omega
  have hd:((k:Int) % 8==0)=true:=by rw[beq_iff_eq];omega
  rw[← hb]
  have HB:=aa hb
  have H8:=aa h8
  clear hb h8
  go_enter Tryz.func71,Tryz.ntmps71
  go_wp2
  go_region
  go_wp2
  go_ret
  exact⟨rfl,by first | exact h0 | exact h0.drew⟩
 have hd:((k:Int) % 8==0)=false:=by rw[beq_eq_false_iff_ne];omega
 by_cases h1:s.size=k / 8+1
 ·have h3:k / 8<s.size:=by omega
  have hb:((s[k / 8].toNat:Int)*2 ^ (k % 8) % 256==0)=nb s k:=by
   rw[Ff s k h8 h1 h3,Bool.eq_iff_iff,beq_iff_eq,decide_eq_true_iff]
   have e:((s[k / 8].toNat:Int)*2 ^ (k % 8) % 256)=((s[k / 8].toNat*2 ^ (k % 8) % 256:Nat):Int):=by rw[Int.natCast_emod,Int.natCast_mul,Int.natCast_pow];rfl
   rw[e]
   omega
  have hq:((s.size:Int)==(k:Int) / 8+1)=true:=by rw[beq_iff_eq];omega
  have h4:0≤(k:Int) / 8:=by omega
  have h5:(k:Int) / 8<s.size:=by omega
  rw[← hb]
  have HB:=aa hb
  have H8:=aa h8
  have H1:=aa h1
  clear hb h8 h1
  go_enter Tryz.func71,Tryz.ntmps71
  go_wp2
  go_region
  go_wp2
  go_ret
  exact⟨rfl,by first | exact h0 | exact h0.drew⟩
 ·have hq:((s.size:Int)==(k:Int) / 8+1)=false:=by rw[beq_eq_false_iff_ne];omega
  rw[vU s k h8 h1]
  have H8:=aa h8
  have H1:=aa h1
  clear h8 h1
  go_enter Tryz.func71,Tryz.ntmps71
  go_wp2
  go_region
  go_wp2
  go_ret
  exact⟨rfl,by first | exact h0 | exact h0.drew⟩
theorem IJ(w:World)(A:Option Addr)(n c:Nat)(T:Nat→ByteArray)(K:Nat→Int)(hp:Ic w w.heap.size A n (fun i=>.string (T i)) (fun i=>.int .i64 (K i)))(hn:n≤maxLen)
 (hH:tz T n≤1000000000) (hl:∀i,i<n→(T i).size≤100000000) (hK:∀i,i<n→ -9223372036854775808≤K i∧K i≤9223372036854775807) (h4:∀i,i<n→nb (T i) (K i)=true):
 Calls Tryz.prog 24 #[.slice A n c] w (ow w (aK (gQ T K n)) (gQ T K n).length 0):=by
 unfold maxLen at hn
 go_enter Tryz.func24,Tryz.ntmps24
 go_wp2_with fail
 refine(Ca _).mono ?_
 rintro e w1 ⟨rfl,h8⟩
 have hq:(World.alloc w (.cells #[.string ⟨#[]⟩,.int .i64 0] 24)).heap.size=w.heap.size+1:=by simp
 rw[hq]
 have hy:IsW w.heap.size w1 (w.heap.size+1) (.slice none 0 0) []:=by
  have:=l7 (w.alloc (.cells #[.string ⟨#[]⟩,.int .i64 0] 24)) w.heap.size (by simp)
  rw[hq]at this
  rw[h8]
  exact this
 have hE:Blk w1 w.heap.size 24 #[.string ⟨#[]⟩,.int .i64 0]:=by
  rw[h8]
  exact(Below.heap_alloc _ _ _ (by simp)).trans (ag w 24 _)
 have hD:Below w.heap.size w w1:=by
  rw[h8]
  exact((Below.refl _ _).alloc (ah _) _).alloc (by simp) _
 have hJ:=aa h8
 clear h8 hq
 go_wp2_with fail
 go_loopw [10] (fun i wr=>∃(j:Nat) (v:Value),j≤n∧i=.int .i64 j∧IsW w.heap.size wr (w.heap.size+1) v (gQ T K j)∧Blk wr w.heap.size 24 #[.string ⟨#[]⟩,.int .i64 0]∧Below w.heap.size w wr) (fun i _=>n - (intOf i).toNat)
 case atStart=>exact⟨0,_,Nat.zero_le _,rfl,hy,hE,hD⟩
 case round=>
  obtain⟨j,v,hj,rfl,hW,hk,hb⟩:=hrel
  have hN:=vN T K j
  have hO:=Ej T hj
  have hz:=hb.size
  by_cases h:j<n
  ·obtain⟨b,off,rfl,ht,hc⟩:=hp (by omega)
   obtain⟨k,h9,hP⟩:=I2 (h4 j h)
   have hM:=hl j h
   have h0:=GG (wr.alloc (.cells #[.string (T j),.int .i64 k] 24)) (T j) (K j) (by omega) (hK j h)
   rw[h4 j h,h9]at h0
   have g1:wr.cell? ⟨b,off+j*2,none⟩=some (.string (T j)):=(hb.cell (p:=⟨b,off+j*2,none⟩) ht).trans (hc j h).1
   have g2:wr.cell? ⟨b,off+j*2+1,none⟩=some (.int .i64 k):=by rw[← h9];exact(hb.cell (p:=⟨b,off+j*2+1,none⟩) ht).trans (hc j h).2
   have HM:=aa h0
   have hw:=aa h9
   clear h0 h9 hc
   have hC:=hW.alloc (.cells #[.string (T j),.int .i64 k] 24)
   go_wp2_with fail
   refine HM.out.mono ?_
   rintro e w2 ⟨rfl,hs⟩
   have ho:=am hs
   have hA:IsW w.heap.size w2.drew (w.heap.size+1) v (gQ T K j):=(hC.step ho (by simp) (by simp) (by simp) (by simp)).drew
   have hh:Blk w2.drew w.heap.size 24 #[.string ⟨#[]⟩,.int .i64 0]:=ho.blk ((Below.heap_alloc _ _ _ (ay hk)).trans hk) (by simp) (by simp)
   have h7:Blk w2.drew wr.heap.size 24 #[.string (T j),.int .i64 k]:=ho.blk (ag wr 24 _) (by simp) (by simp)
   have h5:Below w.heap.size w w2.drew:=((hb.alloc hz _).trans (hs.mono (by simp;omega))).drew
   have e1:w2.cell? ⟨wr.heap.size,0,none⟩=some (.string (T j)):=ac h7 0
   have e2:w2.cell? ⟨wr.heap.size,1,none⟩=some (.int .i64 k):=ac h7 1
   have hv:=h5.size
   have hi:wr.heap.size∉ [w.heap.size+1,w2.drew.heap.size]:=by
    have h1:=ay hW.blk
    have h2:=ay h7
    simp only[List.mem_cons,aq,or_false]
    omega
   have h6:w.heap.size∉ [w.heap.size+1,w2.drew.heap.size]:=by
    have h2:=ay hh
    simp only[List.mem_cons,aq,or_false]
    omega
   go_upto_region 7 with fail
   go_region_held3 (fun w'=>w'.cell? ⟨wr.heap.size,0,none⟩=some (.string (T j))∧w'.cell? ⟨wr.heap.size,1,none⟩=some (.int .i64 k)) (first | exact⟨e1,e2⟩ | exact⟨ac hu 0,ac hu 1⟩ | exact⟨ac hm 0,ac hm 1⟩ | go_keep)
    (first | (go_at_call 28;refine(fR _ _ 0 (by omega) (by omega) (by omega)).mono ?_;rintro e w3 ⟨rfl,h3⟩;have hB:IsW w.heap.size w3 (w.heap.size+1) v (gQ T K j):=(by rw[h3];exact hA.alloc _);have hx:IsR w.heap.size w3 w2.drew.heap.size (T j) 0:=(by rw[h3];exact kp w2.drew _ hv (T j) 0);have hm:Blk w3 wr.heap.size 24 #[.string (T j),.int .i64 k]:=(by rw[h3];exact(Below.heap_alloc _ _ _ (ay h7)).trans h7);have hF:Blk w3 w.heap.size 24 #[.string ⟨#[]⟩,.int .i64 0]:=(by rw[h3];exact(Below.heap_alloc _ _ _ (ay hh)).trans hh);have he:Below w.heap.size w w3:=(by rw[h3];exact h5.alloc hv _);clear h3) | (go_at_call 72;refine(E9 _ _ _ _ _ _ _ 0 k hB hx (by omega) (by omega) (by omega)).mono ?_;rintro e w4 ⟨rfl,⟨v4,hr⟩,hL,ha⟩;have hu:=ha.blk hm hi (by simp)))
   have hG:=ha.blk hF h6 (by simp)
   have hg:gQ T K j++((al (T j).data.toList).drop 0).take k=gQ T K (j+1):=by
    rw[gQ,hw.out,Int.toNat_natCast,List.drop_zero]
   rw[hg]at hr
   have hI:=aa hg
   clear hg
   have hf:=he.trans ha.below
   go_wp2_with fail
   go_roundw
   case rel=>exact⟨j+1,v4,h,by go_num,hr,hG,hf⟩
   case measure=>simp[intOf];omega
  ·obtain rfl:j=n:=by omega
   have q0:wr.cell? ⟨w.heap.size,0,none⟩=some (.string ⟨#[]⟩):=ac hk 0
   have q1:wr.cell? ⟨w.heap.size,1,none⟩=some (.int .i64 0):=ac hk 1
   have f0:=ae hk 0
   have f1:=ae hk 1
   go_wp2_with (first | (go_at_call 63;refine(iz _ _ _ _ _ hW).mono ?_;rintro e w' ⟨rfl,rfl⟩) | (go_at_call 64;refine(JX hW).mono ?_;rintro e w' ⟨rfl,rfl⟩))
   refine bodyPost_ret (v:=.tuple #[.agg #[.string ⟨(aK (gQ T K j)).toArray⟩,.int .i64 (gQ T K j).length],.int .i64 0]) ?_ rfl ⟨rfl,?_⟩
   ·simp[results,Tryz.results24,go_sem,q0,q1]
   ·exact(hb.setCell (p:=⟨w.heap.size,0,none⟩) (ah _) _).setCell (p:=⟨w.heap.size,1,none⟩) (ah _) _
end Go.Proofs.YthakcjehhlpjnaaGreat
