import Derived.Test.YtepokmggbfoakaaGreatDoorT05
set_option maxHeartbeats 800000
set_option maxRecDepth 100000
namespace Go.Proofs.YtepokmggbfoakaaGreatDoor
open _root_.Go.Proofs.Tryz
open Go.RowKit
theorem oi(w:World)(p:Nat)(h0:w.cell? ⟨p,0,none⟩=some (.bool true)):Calls prog 110 #[.pointer (some ⟨p,0,none⟩)] w fun e w'=>e=.returned (.bool true)/\w=w':=by go_enter func110,ntmps110;go_wp2;go_ret;exact⟨rfl,rfl⟩
theorem ii(w:World)(p:Nat)(h0:w.cell? ⟨p,0,none⟩=some (.bool true)):Calls prog 74 #[.pointer (some ⟨p,0,none⟩)] w fun e w'=>e=.returned (.bool true)/\w=w':=by go_enter func74,ntmps74;go_wp2;go_ret;exact⟨rfl,rfl⟩
theorem jM(w:World)(p:Nat)(n:Int)(h0:w.cell? ⟨p,0,none⟩=some (.bool true))(h2:w.cell? ⟨p,2,none⟩=some (.int .i64 n)):
 Calls prog 59 #[.pointer (some ⟨p,0,none⟩)] w fun e w'=>e=.returned (.int .i64 n)/\w=w':=by go_enter func59,ntmps59;(go_wp2_with (go_at_call 110;refine(oi _ _ h0).mono ?_;rintro e w' ⟨rfl,rfl⟩));go_ret;exact⟨rfl,rfl⟩
theorem j7(w:World)(p:Nat)(n:Int)(h0:w.cell? ⟨p,0,none⟩=some (.bool true))(h2:w.cell? ⟨p,2,none⟩=some (.int .i64 n)):
 Calls prog 37 #[.pointer (some ⟨p,0,none⟩)] w fun e w'=>e=.returned (.int .i64 n)/\w=w':=by go_enter func37,ntmps37;(go_wp2_with (go_at_call 74;refine(ii _ _ h0).mono ?_;rintro e w' ⟨rfl,rfl⟩));go_ret;exact⟨rfl,rfl⟩
theorem C7(w:World):Calls prog 55 #[] w fun e w'=>e=.returned (.pointer (some ⟨w.heap.size,0,none⟩))/\w'=w.alloc (.cells #[.bool true,.slice none 0 0,.int .i64 0] 155):=by go_enter func55,ntmps55;go_wp2;go_ret;exact⟨rfl,rfl⟩
theorem kY(w:World)(s:ByteArray)(at':Int)(hs:s.size<=281474976710656)(h:at'<0\/8*(s.size:Int)<at'):Calls prog 35 #[.string s,.int .i64 at'] w fun e w'=>e=.returned (.pointer none)/\w=w':=by
 rcases h with h|h;·go_enter func35,ntmps35;go_wp2;go_ret;exact⟨rfl,rfl⟩
 ·have h':0<=at':=(by omega);go_enter func35,ntmps35;go_wp2;go_ret;exact⟨rfl,rfl⟩
theorem fh(w:World)(s:ByteArray)(at':Int)(hs:s.size<=281474976710656)(h:0<=at')(h':at'<=8*(s.size:Int)):Calls prog 35 #[.string s,.int .i64 at'] w fun e w'=>e=.returned (.pointer (some ⟨w.heap.size,0,none⟩))/\w'=w.alloc (.cells #[.bool true,.string s,.int .i64 at'] 120):=by go_enter func35,ntmps35;go_wp2;go_ret;exact⟨rfl,rfl⟩
abbrev wN (ba bt:Nat):Value:=.func (.func 133) #[] #[.pointer (some ⟨ba,0,none⟩),.pointer (some ⟨bt,0,none⟩)]
def ER(w:World)(s:ByteArray)(n:Nat)(e:Ending)(w':World):Prop:=
 ∃ba bt,e=.returned (wN ba bt)/\Blk w' ba 3 #[.int .i64 n]/\Blk w' bt 9 #[.string s]/\w.heap.size<=ba/\w.heap.size<=bt/\al w.heap.size [] [] w w'
theorem kL(w:World)(p:Nat)(s:ByteArray)(n:Nat)(hb:Blk w p 120 #[.bool true,.string s,.int .i64 n]):
 Calls prog 75 #[.pointer (some ⟨p,0,none⟩)] w (ER w s n):=by
 have c1:=ac hb 1;have c2:=ac hb 2;have h0:=az hb;simp at c1 c2;go_enter func75,ntmps75;go_wp2;go_region;all_goals (go_wp2;go_ret)
 ·refine⟨w.heap.size+1,w.heap.size,rfl,?_,?_,by omega,by omega,?_⟩;·exact(by simpa using aj (w.alloc (.cells #[.string s] 9)) 3 #[.int .i64 n]:Blk ((w.alloc (.cells #[.string s] 9)).alloc (.cells #[.int .i64 n] 3)) (w.heap.size+1) 3 #[.int .i64 n])
  ·exact(Ps (w.alloc (.cells #[.string s] 9)) (.cells #[.int .i64 n] 3) w.heap.size (by simp)).trans (aj w 9 #[.string s])
  ·exact(((al.refl _ _ _ w).alloc (ah _) _).alloc (by simp) _).drew
 ·refine⟨w.heap.size,w.heap.size+1,rfl,?_,?_,by omega,by omega,?_⟩;·exact(Ps (w.alloc (.cells #[.int .i64 n] 3)) (.cells #[.string s] 9) w.heap.size (by simp)).trans (aj w 3 #[.int .i64 n])
  ·exact(by simpa using aj (w.alloc (.cells #[.int .i64 n] 3)) 9 #[.string s]:Blk ((w.alloc (.cells #[.int .i64 n] 3)).alloc (.cells #[.string s] 9)) (w.heap.size+1) 9 #[.string s])
  ·exact(((al.refl _ _ _ w).alloc (ah _) _).alloc (by simp) _).drew
theorem Eu(w:World)(ba bt:Nat)(s:ByteArray)(n:Nat)(ha:Blk w ba 3 #[.int .i64 n])(ht:Blk w bt 9 #[.string s])(hs:s.size<=281474976710656)(hn:n=8*s.size):
 Calls prog 133 #[.pointer (some ⟨ba,0,none⟩),.pointer (some ⟨bt,0,none⟩)] w fun e w'=>e=.returned (.tuple #[.int .u64 0,.bool false])/\w=w':=by have c1:=ac ha 0;have c2:=ac ht 0;simp at c1 c2;have hd:((n:Int)==8*(s.size:Int))=true:=(by rw[O0];omega);have HN:=aa hn;clear hn;go_enter func133,ntmps133;go_wp2;go_ret2;exact⟨rfl,rfl⟩
def EV(w:World)(ba n b:Nat)(e:Ending)(w':World):Prop:=
 e=.returned (.tuple #[.int .u64 b,.bool true])/\Blk w' ba 3 #[.int .i64 (n+1:Nat)]/\al ba [ba] [] w w'
theorem Le(s:ByteArray)(n:Nat)(hn:n<8*s.size)(h:n/8<s.size):
 IntKind.u64.wrap (bits BinOp.and IntKind.u8 ((s[n/8].toNat:Int)/2^(7-n%8)) 1)=(((ai s.data.toList).getD n 0:Nat):Int):=by have h1:((s[n/8].toNat:Int)/2^(7-n%8))=((s[n/8].toNat/2^(7-n%8):Nat):Int):=(by rw[Int.natCast_ediv,QK];rfl);have h0:s[n/8].toNat/2^(7-n%8)<256:=R4 (RP _ _) (s[n/8].toNat_lt);have h2:=u8_and_nat _ 1 h0 (by omega);rw[nat_mask1]at h2;rw[h1];rw[show ((1:Nat):Int)=1 from rfl]at h2;rw[h2,Nb,Fh _ _ (by simpa using hn)];have h3:s.data.toList.getD (n/8) 0=s[n/8]:=(by rw[Nb,Nd (by simpa using h)];rfl);rw[h3];simp[IntKind.wrap,IntKind.bits,IntKind.signed];omega
theorem mH(w:World)(ba bt:Nat)(s:ByteArray)(n:Nat)(ha:Blk w ba 3 #[.int .i64 n])(ht:Blk w bt 9 #[.string s])(hs:s.size<=281474976710656)(hn:n<8*s.size):
 Calls prog 133 #[.pointer (some ⟨ba,0,none⟩),.pointer (some ⟨bt,0,none⟩)] w (EV w ba n ((ai s.data.toList).getD n 0)):=by have c1:=ac ha 0;have c2:=ac ht 0;have f1:=ae ha 0;simp at c1 c2;have hd:((n:Int)==8*(s.size:Int))=false:=(by rw[NA];omega);have h0:n/8<s.size:=(by omega);have h1:0<=(n:Int)/8:=(by omega);have h2:(n:Int)/8<s.size:=(by omega);go_enter func133,ntmps133;go_wp2;go_region;go_wp2;go_ret2;refine⟨?_,au ha 0 _,((al.refl ba [ba] [] w).set (p:=⟨ba,0,none⟩) (ah _) (List.mem_singleton.2 rfl) _).drew⟩;show Ending.returned (Value.tuple #[.int .u64 _,.bool true])=_;rw[Le s n hn h0]
theorem JT(x b:Nat)(hx:x<9223372036854775808)(hb:b<2):bits BinOp.or IntKind.u64 ((x:Int)*2) (b:Int)=((2*x+b:Nat):Int):=by have h:=u64_or_nat (2*x) b (by omega) (by omega);rw[nat_join 1 (2*x) b (by omega) (by omega)]at h;rw[<- h,Rf,Int.mul_comm];rfl
theorem mW(l:List Nat)(n j:Nat)(h:n+j<l.length):val ((l.drop n).take (j+1))=2*val ((l.drop n).take j)+l.getD (n+j) 0:=by have h1:j<(l.drop n).length:=(by rw[Nq];omega);rw[NI h1,jL,Rt,Nb,Nd h];rfl
theorem ga(l:List Nat)(n j k:Nat)(hb:am l)(hj:j<=k):val ((l.drop n).take j)<2^k:=by refine OM (fu _ ((hb.drop n).take j)) (Oj (by omega) ?_);rw[Nz];omega
theorem EN(l:List Nat)(i:Nat)(hb:am l):l.getD i 0<2:=by
 rw[Nb];rcases h:l[i]? with _|b;·simp
 ·exact hb b (P5 h)
def jn(B:Nat)(w:World)(p:Nat)(s:ByteArray)(n k:Nat)(x r:Nat)(e:Ending)(w':World):Prop:=
 e=.returned (.tuple #[.int .u64 x,.int .i64 r])/\IsR B w' p s (n+k)/\al B [p] [] w w'
theorem fS(B:Nat)(w:World)(p:Nat)(s:ByteArray)(n k:Nat)(hR:IsR B w p s n)(hs:s.size<=281474976710656)(hk:k<=64)(hc:n+k<=8*s.size):
 Calls prog 36 #[.pointer (some ⟨p,0,none⟩),.int .i64 k] w (jn B w p s n k (val (((ai s.data.toList).drop n).take k)) 0):=by
 have c0:=ac hR.blk 0;simp at c0;go_enter func36,ntmps36;go_wp2_with (first|(go_at_call 74;refine(ii _ _ c0).mono ?_;rintro e w' ⟨rfl,rfl⟩)|(go_at_call 75;refine(kL _ _ s n hR.blk).mono ?_;rintro e w1 ⟨ba,bt,he,ha,ht,h4,h9,h5⟩;unfold wN at he;subst he))
 go_loopw [7,22] (fun v i wr=>∃j x:Nat,j<=k/\i=.int .i64 j/\v=.int .u64 x/\x=val (((ai s.data.toList).drop n).take j)/\Blk wr ba 3 #[.int .i64 (n+j:Nat)]/\Blk wr bt 9 #[.string s]/\al w.heap.size [] [] w wr) (fun _ i _=>k-(intOf i).toNat)
 case atStart=>exact⟨0,0,Nh _,rfl,rfl,by simp[val],ha,ht,h5⟩
 case round=>
  obtain⟨j,x,hj,rfl,rfl,hx,h1,h0,hS⟩:=hrel;have HX:=aa hx;clear hx;by_cases h:j<k
  ·have h8:x<9223372036854775808:=(by rw[HX.out];exact Nat.lt_of_lt_of_eq (ga _ n j 63 (aG _) (by omega)) (by decide));obtain⟨b,hb⟩:∃b,b=(ai s.data.toList).getD (n+j) 0:=⟨_,rfl⟩;have h7:b<2:=(by rw[hb];exact EN _ _ (aG _));have hn:=mH wr ba bt s (n+j) h1 h0 hs (by omega);rw[<- hb]at hn;have HB:=aa hb;clear hb;have HN:=aa hn;clear hn;(go_wp2_with (go_at_call 133;refine HN.out.mono ?_;rintro e w2 ⟨rfl,h6,h3⟩));go_roundw;case rel=>
    refine⟨j+1,2*x+b,h,rfl,by rw[JT x b h8 h7],?_,h6,h3.blk h0 ?_ (by simp),hS.after h3 h4 (fun i hi=>by simp at hi;subst hi;exact .inr h4) (by simp)⟩;·rw[HX.out,HB.out,mW];rw[aq];simpa using by omega
    ·intro hm;simp at hm;subst hm;unfold Blk at h1 h0;rw[h1]at h0;simp at h0
   case measure=>simp[intOf];omega
  ·obtain rfl:j=k:=(by omega);have h2:=hS.blk hR.blk (by simp) (by simp);have c0:=ac h2 0;have c2:=ac h2 2;have f2:=ae h2 2;simp at c0 c2;go_wp2;go_ret2;refine⟨?_,⟨hR.lo,?_⟩,?_⟩;·show Ending.returned (Value.tuple #[.int .u64 x,.int .i64 0])=_;rw[HX.out];rfl
   ·exact au h2 2 _
   ·exact((hS.mono (NH hR.lo (NV (az hR.blk))) (by simp) (by simp)).set (p:=⟨p,2,none⟩) hR.lo (List.mem_singleton.2 rfl) _)
theorem dX(B:Nat)(w:World)(p:Nat)(s:ByteArray)(n k:Nat)(hR:IsR B w p s n)(hs:s.size<=281474976710656)(hk:k<=64)(hn:n<=8*s.size)(hc:8*s.size<n+k):
 Calls prog 36 #[.pointer (some ⟨p,0,none⟩),.int .i64 k] w (jn B w p s n 0 0 10):=by
 have c0:=ac hR.blk 0;simp at c0;go_enter func36,ntmps36;go_wp2_with (first|(go_at_call 74;refine(ii _ _ c0).mono ?_;rintro e w' ⟨rfl,rfl⟩)|(go_at_call 75;refine(kL _ _ s n hR.blk).mono ?_;rintro e w1 ⟨ba,bt,he,ha,ht,h3,h9,h4⟩;unfold wN at he;subst he))
 go_loopw [7,22] (fun v i wr=>∃j x:Nat,n+j<=8*s.size/\i=.int .i64 j/\v=.int .u64 x/\x=val (((ai s.data.toList).drop n).take j)/\Blk wr ba 3 #[.int .i64 (n+j:Nat)]/\Blk wr bt 9 #[.string s]/\al w.heap.size [] [] w wr) (fun _ i _=>k-(intOf i).toNat)
 case atStart=>exact⟨0,0,hn,rfl,rfl,by simp[val],ha,ht,h4⟩
 case round=>
  obtain⟨j,x,hj,rfl,rfl,hx,h1,h0,hS⟩:=hrel;have HX:=aa hx;clear hx;have h:j<k:=by omega
  by_cases h7:n+j<8*s.size
  ·have h8:x<9223372036854775808:=(by rw[HX.out];exact Nat.lt_of_lt_of_eq (ga _ n j 63 (aG _) (by omega)) (by decide));obtain⟨b,hb⟩:∃b,b=(ai s.data.toList).getD (n+j) 0:=⟨_,rfl⟩;have h6:b<2:=(by rw[hb];exact EN _ _ (aG _));have hn:=mH wr ba bt s (n+j) h1 h0 hs (by omega);rw[<- hb]at hn;have HB:=aa hb;clear hb;have HN:=aa hn;clear hn;(go_wp2_with (go_at_call 133;refine HN.out.mono ?_;rintro e w2 ⟨rfl,h5,h2⟩));go_roundw;case rel=>
    refine⟨j+1,2*x+b,h7,rfl,by rw[JT x b h8 h6],?_,h5,h2.blk h0 ?_ (by simp),hS.after h2 h3 (fun i hi=>by simp at hi;subst hi;exact .inr h3) (by simp)⟩;·rw[HX.out,HB.out,mW];rw[aq];simpa using by omega
    ·intro hm;simp at hm;subst hm;unfold Blk at h1 h0;rw[h1]at h0;simp at h0
   case measure=>simp[intOf];omega
  ·have hn:=Eu wr ba bt s (n+j) h1 h0 hs (by omega);have HN:=aa hn;clear hn;(go_wp2_with (go_at_call 133;refine HN.out.mono ?_;rintro e w2 ⟨rfl,rfl⟩));go_ret2;exact⟨rfl,⟨hR.lo,hS.blk hR.blk (by simp) (by simp)⟩,hS.mono (NH hR.lo (NV (az hR.blk))) (by simp) (by simp)⟩
theorem lg{w:World}{B:Nat}{v:Value}{l:List UInt8}(h:w.ownsRow B 5 1 v l.length (l.map bv)):(convert 39 9 v).run prog w=.ok (.string ⟨l.toArray⟩) w:=by
 rcases h.2 with⟨rfl,h0⟩|⟨g,cap,cur,rfl,_⟩;·have:l= []:=Nw h0;subst this;exact Qs w 39 5 underlying39 underlying5 0 0 9 underlying9
 ·have hn:∀j (hj:j<l.length),w.cell? ((⟨g,0,none⟩:Addr).add j)=some (.int .u8 (l[j].toNat:Int)):=(by intro j hj;have h1:=h.cells (g:=g) rfl j (.int .u8 (l[j].toNat:Int));exact h1 (by rw[Np,Nd hj];rfl));exact Qe w 39 9 5 ⟨g,0,none⟩ cap l underlying39 underlying5 underlying9 hn
theorem im(B:Nat)(w:World)(p:Nat)(v:Value)(L:List Nat)(hW:IsW B w p v L):
 Calls prog 58 #[.pointer (some ⟨p,0,none⟩)] w fun e w'=>e=.returned (.string ⟨(aF L).toArray⟩)/\w=w':=by have c0:=ac hW.blk 0;have c1:=ac hW.blk 1;simp at c0 c1;have hc:=lg hW.row;go_enter func58,ntmps58;(go_wp2_with (go_at_call 110;refine(oi _ _ c0).mono ?_;rintro e w' ⟨rfl,rfl⟩));go_ret;exact⟨rfl,rfl⟩
theorem uJ{w:World}{B n:Nat}{v:Value}{xs:List Value}(h:w.ownsRow B 5 1 v (n+1) xs):∃g cap,v=.slice (some ⟨g,0,none⟩) (n+1) cap/\B<=g:=by
 rcases h.2 with⟨_,h⟩|⟨g,cap,cur,hv,hb,_⟩;·omega
 ·exact⟨g,cap,hv,hb⟩
def Mid(B:Nat)(w wx:World)(p len t:Nat)(pre:List UInt8)(c:UInt8):Prop:=
 ∃g cap,Blk wx p 155 #[.bool true,.slice (some ⟨g,0,none⟩) (t+1) cap,.int .i64 len]/\wx.ownsRow B 5 1 (.slice (some ⟨g,0,none⟩) (t+1) cap) (t+1) ((pre++ [c]).map bv)/\B<=g/\al B [p] [5] w wx
theorem JN{B p len t:Nat}{w wx:World}{v:Value}{l pre:List UInt8}{c:UInt8}(hl:l=pre++ [c])(ht:pre.length=t)(hb:Blk wx p 155 #[.bool true,v,.int .i64 len])(hr:wx.ownsRow B 5 1 v l.length (l.map bv))(hs:al B [p] [5] w wx):Mid B w wx p len t pre c:=by subst hl;subst ht;rw[Nc,NM]at hr;obtain⟨g,cap,rfl,hg⟩:=uJ hr;exact⟨g,cap,hb,hr,hg,hs⟩
theorem LF{B p len t:Nat}{w wx wy:World}{v v1:Value}{l:List UInt8}(ht:l.length=t)(hb:Blk wx p 155 #[.bool true,v,.int .i64 len])(hB:B<=p)(hr:wx.ownsRow B 5 1 v l.length (l.map bv))(hs:al B [p] [5] w wx)
 (hn:wy.ownsRow B 5 1 v1 (l.length+1) (l.map bv++ [.int .u8 0])) (hg:(wx.alloc (.cells #[.int .u8 0] 5)).grownBy wy v.ownBlock):Mid B w (wy.setCell ⟨p,1,none⟩ v1) p len t l 0:=by
 subst ht;obtain⟨g,cap,rfl,h4⟩:=uJ hn;have h2:B<=wx.heap.size:=NH hB (NV (az hb));have h5:al B [p] [5] w (wx.alloc (.cells #[.int .u8 0] 5)):=hs.alloc h2 _;have h6:al B [p] [5] w wy:=h5.grown hg (by simp;omega) (yr (hr.alloc _));have h0:Blk (wx.alloc (.cells #[.int .u8 0] 5)) p 155 #[.bool true,v,.int .i64 len]:=(Ps wx _ p (az hb)).trans hb;have h1:Blk wy p 155 #[.bool true,v,.int .i64 len]:=(hg.block p (az h0) (fun e=>dJ (hr.alloc _) h0 (by decide) p e.symm rfl)).trans h0;have h3:=au h1 1 (.slice (some ⟨g,0,none⟩) (l.length+1) cap);refine⟨g,cap,h3,?_,h4,h6.set hB (by simp) _⟩;have hx:al B [p] [] wy (wy.setCell ⟨p,1,none⟩ (.slice (some ⟨g,0,none⟩) (l.length+1) cap)):=(al.refl B [p] [] wy).set hB (by simp) _
 have:=hx.row hn (fun k hk=>by
  have:=dJ hn h1 (by decide) k hk
  simpa using this) (by simp)
 simpa [bv]using this
theorem pX{B p n:Nat}{e t:TypeId}{wx wy:World}{v:Value}{xs:List Value}{cs:Array Value}{o:Obj}(hb:Blk wx p t cs)(hr:wx.ownsRow B e 1 v n xs)(h1:e≠t)(hg:(wx.alloc o).grownBy wy v.ownBlock):Blk wy p t cs:=by have h0:Blk (wx.alloc o) p t cs:=(Ps wx _ p (az hb)).trans hb;exact(hg.block p (az h0) (fun e=>dJ (hr.alloc _) h0 h1 p e.symm rfl)).trans h0
theorem GF(L:List Nat)(h:L.length%8=0):aF (L.take (8*(L.length/8)))=aF L/\UInt8.ofNat (val (L.drop (8*(L.length/8)))*2^(8-L.length%8))=0:=by have e:8*(L.length/8)=L.length:=(by omega);rw[e,Qm,List.drop_length];exact⟨rfl,by simp[val]⟩
theorem GG(L:List Nat)(h:¬L.length%8=0):aF L=aF (L.take (8*(L.length/8)))++ [UInt8.ofNat (val (L.drop (8*(L.length/8)))*2^(8-L.length%8))]:=by (conv=>lhs;rw[Dc L]);rw[nZ (L.drop (8*(L.length/8))) (by simp;omega) (by simp;omega)];rw[Nq,show L.length-8*(L.length/8)=L.length%8 by omega]
theorem Iy(z k s r:Nat)(h:r+k+s=8)(hz:r=0\/z<2^k):z%256*2^s%256=z%2^k*2^s:=by
 rcases hz with hr|hz;·subst hr;have e:256=2^k*2^s:=(by rw[<- PA,show k+s=8 by omega]);(conv=>lhs;rhs;rw[e]);rw[Nat.mul_mod_mul_right,Nat.mod_mod_of_dvd _ ⟨2^s,e⟩]
 ·have e:2^(k+s)<=2^8:=Oj (by omega) (by omega);have h1:z*2^s<2^(k+s):=(by rw[PA];exact O3 hz (OT _));have h2:z<=z*2^s:=Nat.le_mul_of_pos_right _ (OT _);rw[NJ (show z<256 by omega),NJ hz,NJ (by omega)]
theorem Ex(R z r k s:Nat)(h:r+k+s=8)(hz:r=0\/z<2^k):
 bits .or .u8 ((R:Int)*2^(8-r)%256) ((z:Int)%256*2^s%256)=((R*2^(8-r)%256 ||| z%2^k*2^s:Nat):Int):=by have e1:((R:Int)*2^(8-r)%256)=((R*2^(8-r)%256:Nat):Int):=(by rw[Q5,Rf,QK];rfl);have e2:((z:Int)%256*2^s%256)=((z%256*2^s%256:Nat):Int):=(by rw[Q5,Rf,QK,Q5];rfl);rw[e1,e2,u8_or_nat _ _ (PV _ (by omega)) (PV _ (by omega)),Iy z k s r h hz]
theorem wQ{B p g cap t len k m m1 n x:Nat}{w wc:World}{L:List Nat}{y:Int}
 (h0:len=(L++ag (x/2^m) (n-m)).length) (ht:(aF ((L++ag (x/2^m) (n-m)).take (8*(len/8)))).length=t)
 (hb:Blk wc p 155 #[.bool true,.slice (some ⟨g,0,none⟩) (t+1) cap,.int .i64 len])
 (hr:wc.ownsRow B 5 1 (.slice (some ⟨g,0,none⟩) (t+1) cap) (t+1) ((aF ((L++ag (x/2^m) (n-m)).take (8*(len/8)))++ [UInt8.ofNat (val ((L++ag (x/2^m) (n-m)).drop (8*(len/8)))*2^(8-len%8))]).map bv))
 (h8:B<=p) (he:B<=g) (hS:al B [p] [5] w wc) (h6:am L) (hk:0<k) (hq:k<=8-len%8) (hm:m=m1+k) (hs:m<=n) (h9:m1=0\/k=8-len%8) (hc:g≠p)
 (hy:y=((val ((L++ag (x/2^m) (n-m)).drop (8*(len/8)))*2^(8-len%8)%256 ||| (x/2^m1)%2^k*2^(8-len%8-k):Nat):Int)):
 let W:=((wc.setCell ⟨g,t,none⟩ (.int .u8 y)).setCell ⟨p,2,none⟩ (.int .i64 (len+k))).drew
 (∃ v',IsW B W p v' (L++ag (x/2^m1) (n-m1)))/\al B [p] [5] w W/\(m1=0\/(L.length+(n-m1))%8=0\/x/2^m1=0):=by
 intro W
 have h7:ag (x/2^m1) (n-m1)=ag (x/2^m) (n-m)++ag (x/2^m1) k:=by
  rw[show n-m1=(n-m)+k by omega,ja,PG,<-PA,<-hm]
 have h5:=GH (L++ag (x/2^m) (n-m)) (ag (x/2^m1) k) (by rw[af];exact hk) (by rw[<- h0,af];omega) (aB _ _)
 rw[Ni,<-h7,<-h0,dm,af]at h5
 have hR:val ((L++ag (x/2^m) (n-m)).drop (8*(len/8)))*2^(8-len%8)<256:=by
  have h1:=fu _ ((h6.append (aB (n-m) (x/2^m))).drop (8*(len/8)))
  rw[Nq,<-h0,show len-8*(len/8)=len%8 by omega]at h1
  have h2:(256:Nat)=2^(len%8)*2^(8-len%8):=by rw[<- PA,show len%8+(8-len%8)=8 by omega]
  rw[h2]
  exact O3 h1 (OT _)
 rw[NJ hR]at hy
 generalize val ((L++ag (x/2^m) (n-m)).drop (8*(len/8)))*2^(8-len%8)=R at*
 generalize hpre:aF ((L++ag (x/2^m) (n-m)).take (8*(len/8)))=pre at*
 generalize hM:(x/2^m1)%2^k*2^(8-len%8-k)=M at*
 have hf:M<256:=by
  have h1:(x/2^m1)%2^k<2^k:=PV _ (OT _)
  have h2:M<2^k*2^(8-len%8-k):=by rw[<- hM];exact O3 h1 (OT _)
  rw[<- PA]at h2
  have h3:2^(k+(8-len%8-k))<=2^8:=Oj (by omega) (by omega)
  omega
 have h4:(L++ag (x/2^m1) (n-m1)).length=len+k:=by
  rw[h0,Nc,Nc,af,af];omega
 obtain⟨hn,hp⟩:=hr.stored t (.int .u8 y)
 have hi:Blk (wc.setCell ⟨g,t,none⟩ (.int .u8 y)) p 155 #[.bool true,.slice (some ⟨g,0,none⟩) (t+1) cap,.int .i64 len]:=
  (OZ wc ⟨g,t,none⟩ _ p (fun e=>hc e.symm)).trans hb
 have hl:=au hi 2 (.int .i64 ((len:Int)+k))
 have hg:al B [p] [5] w (wc.setCell ⟨g,t,none⟩ (.int .u8 y)):=by
  obtain⟨_,cs,t',fr,hh,ho⟩:=yr hr g rfl
  exact hS.setT he hh ho _
 refine⟨⟨.slice (some ⟨g,0,none⟩) (t+1) cap,h8,?_,?_,h6.append (aB _ _)⟩,(hg.set h8 (by simp) _).drew,?_⟩
 ·show Blk (((wc.setCell ⟨g,t,none⟩ (.int .u8 y)).setCell ⟨p,2,none⟩ (.int .i64 (len+k))).drew) p 155 _
  rw[h4]
  have:(((len+k:Nat):Int))=(len:Int)+k:=by omega
  rw[this]
  exact hl
 ·have hx:al B [p] [] (wc.setCell ⟨g,t,none⟩ (.int .u8 y)) (((wc.setCell ⟨g,t,none⟩ (.int .u8 y)).setCell ⟨p,2,none⟩ (.int .i64 (len+k))).drew):=((al.refl B [p] [] _).set h8 (by simp) _).drew
  have h3:=hx.row hn (fun j hj=>by simp[Value.ownBlock]at hj;subst hj;simpa using hc) (by simp)
  rw[h5,Nc,NM,ht]
  have ha:((pre++ [UInt8.ofNat R]).map bv).set t (.int .u8 y)=(pre++ [UInt8.ofNat (R ||| M)]).map bv:=by
   rw[NF,NF,List.set_append,Nf (by simp[ht]),NC,ht,Ow]
   simp[bv,hy,NJ hR,NJ hf]
  rw[ha]at h3
  exact h3
 ·rcases h9 with h|h
  ·exact .inl h
  ·right;left
   rw[h0,Nc,af]at h
   omega
theorem Au{L:List Nat}{x n m m1 k len:Nat}(hz:m=0\/(L.length+(n-m))%8=0\/x/2^m=0)(h0:0<m)(hm:m=m1+k)(h1:len=(L++ag (x/2^m) (n-m)).length):len%8=0\/x/2^m1<2^k:=by
 rcases hz with h9|h9|h9;·omega
 ·left;rw[h1,Nc,af];exact h9
 ·right;rw[hm,PA,<-PG]at h9;exact(Nat.div_eq_zero_iff_lt (OT k)).1 h9
theorem MR(R x len m:Nat)(hk:m<=8-len%8)(hz:len%8=0\/x/2^0<2^m):
 bits .or .u8 ((R:Int)*2^(8-len%8)%256) ((x:Int)%256*2^(8-len%8-m)%256)=((R*2^(8-len%8)%256 ||| (x/2^0)%2^m*2^(8-len%8-m):Nat):Int):=by rw[Q6,RN]at*;exact Ex R x (len%8) m _ (by omega) hz
theorem MQ(R x len m1:Nat)(hz:len%8=0\/x/2^m1<2^(8-len%8)):
 bits .or .u8 ((R:Int)*2^(8-len%8)%256) ((x:Int)/2^m1%256)=((R*2^(8-len%8)%256 ||| (x/2^m1)%2^(8-len%8)*2^(8-len%8-(8-len%8)):Nat):Int):=by have h:=Ex R (x/2^m1) (len%8) (8-len%8) (8-len%8-(8-len%8)) (by omega) hz;rw[<- h,Ow];simp
theorem fo(B:Nat)(w:World)(p:Nat)(v:Value)(L:List Nat)(x n:Nat)(hW:IsW B w p v L)(hL:L.length<=1000000000000)(hn:n<=64)(hx:x<2^n):
 Calls prog 60 #[.pointer (some ⟨p,0,none⟩),.int .u64 x,.int .i64 n] w fun e w'=>e=.returned (.int .i64 0)/\∃v',IsW B w' p v' (L++ag x n)/\al B [p] [5] w w':=by
 have hd:((x:Int)/2^n != 0)=false:=by have h2:((x/2^n:Nat):Int)=(x:Int)/2^n:=(by simp);rw[<- h2,RD hx];rfl
 have h0:=ac hW.blk 0;simp at h0;go_enter func60,ntmps60;go_wp2_with (go_at_call 110;refine(oi _ _ h0).mono ?_;rintro e w' ⟨rfl,rfl⟩)
 go_loopw [2] (fun i wr=>∃(m:Nat) (v':Value),m<=n/\i=.int .i64 m/\IsW B wr p v' (L++ag (x/2^m) (n-m))/\al B [p] [5] w wr/\(m=0\/(L.length+(n-m))%8=0\/x/2^m=0)) (fun i _=>(intOf i).toNat)
 case atStart=>refine⟨n,v,Nm _,rfl,?_,al.refl _ _ _ _,.inr (.inr (RD hx))⟩;rw[Ow,show ag (x/2^n) 0= []from rfl,NR];exact hW
 case round=>
  clear h0 hd;obtain⟨m,v',hm,rfl,h4,hS,hz⟩:=hrel;have HZ:=aa hz;clear hz;obtain⟨len,h6⟩:∃len,len=(L++ag (x/2^m) (n-m)).length:=⟨_,rfl⟩;have hl:len<=L.length+64:=by rw[h6,Nc,af];omega
  have c1:=ac h4.blk 1;have c2:=ac h4.blk 2;have f2:=ae h4.blk 2;rw[<- h6]at c2;simp at c1 c2;have h7:Blk wr p 155 #[.bool true,v',.int .i64 len]:=by rw[h6];exact h4.blk
  have HL:=aa h6;clear h6;obtain⟨t,ht⟩:∃t,(aF ((L++ag (x/2^m) (n-m)).take (8*(len/8)))).length=t:=⟨_,rfl⟩;have HT:=aa ht;clear ht;have htl:8*t<=len:=by rw[<- HT.out,db,Nz,<-HL.out];omega
  by_cases h:0<m
  ·(go_upto_if 33 with fail);(go_cut []from 24 to 80 (fun wx=>Mid B w wx p len t (aF ((L++ag (x/2^m) (n-m)).take (8*(len/8)))) (UInt8.ofNat (val ((L++ag (x/2^m) (n-m)).drop (8*(len/8)))*2^(8-len%8)))));case first=>
    obtain⟨i5,hi,hv,hw,hy⟩:=NY Tryz.info5;by_cases h8:len%8=0
    ·have hq:((8-(len:Int)%8)==8)=true:=(by rw[O0];omega);have H8:=aa h8;clear h8;(go_wp2_with (at_builtin;refine Ob _ rfl _ _ 39 rfl B 5 i5 (.int .u8 0) 1 1 underlying39 hi hv hw hy rfl (by decide) _ _ _ rfl (h4.row.alloc _) ⟨wr.heap.size,0,none⟩ 1 1 [.int .u8 0] rfl rfl ?c1 ?c2 ?c3 ?c4 ?c5 ?_));case c1=>exact Q7 _ _ _
     case c2=>intro u hu;simp at hu;subst hu;rfl
     case c3=>rw[db,<-HL.out];unfold maxLen;omega
     case c4=>rw[db,<-HL.out];omega
     case c5=>have:=az h4.blk;have:=h4.lo;simp;omega
     intro v1 w1 h9 h5 _;have hc:=GF _ (by rw[<- HL.out];exact H8.out:(L++ag (x/2^m) (n-m)).length%8=0);rw[<- HL.out]at hc;have ho:=LF (t:=t) (by rw[<- hc.1];exact HT.out) h7 h4.lo h4.row hS h9 h5;have HM:Hid (_/\_):=aa hc;clear hc;have hj:=pX h7 h4.row (by decide) h5;have d1:=ac hj 1;have e1:=ae hj 1;simp at d1;obtain⟨g1,cap1,hf,hB⟩:=uJ h9;rw[hf]at ho |-;have hA:=aa hf;clear hf;go_wp2;go_meet;case rel=>rw[HM.out.1,HM.out.2];exact ho
    ·have hq:((8-(len:Int)%8)==8)=false:=(by rw[NA];omega);have H8:=aa h8;clear h8;go_wp2;go_meet;case rel=>exact JN (by have:=GG _ (by rw[<- HL.out];exact H8.out);rw[<- HL.out]at this;exact this) HT.out h7 h4.row hS
   case rest=>
    obtain⟨g,cap,hb,hr,hg,hh⟩:=hcut;clear c1 c2 f2 h7 h4;have c0:=ac hb 0;have c1:=ac hb 1;have c2:=ac hb 2;have f2:=ae hb 2;simp at c0 c1 c2;have r1:=hr.cellAt t (by omega);have r2:=hr.frozenAt t;rw[NF,NU (by rw[NC,HT.out];exact Nm _)]at r1;rw[NC,HT.out,Ow]at r1;simp[bv]at r1;have he:g≠p:=dJ hr hb (by decide) g rfl;have hs:p≠g:=fun e=>he e.symm;by_cases ha:m<=8-len%8
    ·go_upto_region 10 with fail;go_region;go_wp2;go_roundw;case rel=>obtain⟨⟨v2,h1⟩,h2,h3⟩:=wQ (m1:=0) (k:=m) HL.out HT.out hb hr hW.lo hg hh hW.bit h (by omega) (by omega) hm (.inl rfl) he (MR _ x len m ha (Au HZ.out h (by omega) HL.out));exact⟨0,v2,Nh _,rfl,h1,h2,h3⟩
     case measure=>simp[intOf];omega
    ·have hp:8-len%8<m:=(by omega);clear ha;go_upto_region 10 with fail;go_region;go_wp2;go_roundw;case rel=>obtain⟨⟨v2,h1⟩,h2,h3⟩:=wQ (m1:=m-(8-len%8)) (k:=8-len%8) HL.out HT.out hb hr hW.lo hg hh hW.bit (by omega) (by omega) (by omega) hm (.inr rfl) he (MQ _ x len _ (Au HZ.out h (by omega) HL.out));have hk:(((8-len%8:Nat):Int))=8-(len:Int)%8:=(by omega);rw[hk]at h1 h2;exact⟨m-(8-len%8),v2,by omega,by congr 1;omega,h1,h2,h3⟩
     case measure=>simp[intOf];omega
  ·obtain rfl:m=0:=(by omega);rw[Q6,RN,Qf]at h4;go_wp2;go_ret;exact⟨rfl,⟨v',h4⟩,hS⟩
def pN(B:Nat)(w:World)(p:Nat)(s:ByteArray)(n k:Nat)(x r:Nat)(e:Ending)(w':World):Prop:=
 e=.returned (.tuple #[.int .i64 x,.int .i64 r])/\IsR B w' p s (n+k)/\al B [p] [] w w'
theorem un{l r:List Nat}{n c j:Nat}(h:l.drop n=List.replicate c 1++r)(hj:j<c):l.getD (n+j) 0=1:=by have h1:l[n+j]? =(l.drop n)[j]? :=(by rw[Pa]);rw[Nb,h1,h,NT (by simpa using hj),Pm,Ng hj];rfl
theorem BF{l r:List Nat}{n c:Nat}(h:l.drop n=List.replicate c 1++0::r):l.getD (n+c) 0=0/\n+c<l.length:=by have h1:l[n+c]? =(l.drop n)[c]? :=(by rw[Pa]);have h2:=congrArg List.length h;simp at h2;refine⟨?_,by omega⟩;rw[Nb,h1,h,NU (by simp)];simp
theorem KL(B:Nat)(w:World)(p:Nat)(s:ByteArray)(n c most:Nat)(r:List Nat)(hR:IsR B w p s n)(hs:s.size<=281474976710656)(hm:(most:Int)<=9223372036854775807)(hc:c<=most)(h0:(ai s.data.toList).drop n=List.replicate c 1++0::r):
 Calls prog 244 #[.pointer (some ⟨p,0,none⟩),.int .i64 most] w (pN B w p s n (c+1) c 0):=by
 have c0:=ac hR.blk 0;simp at c0;have hz:=BF h0;rw[aq]at hz;have hb:n+c<8*s.size:=by have:=hz.2;simpa using this
 have HZ:=aa hz.1;clear hz;have h8:=aa h0;clear h0;go_enter func244,ntmps244;go_wp2_with (first|(go_at_call 74;refine(ii _ _ c0).mono ?_;rintro e w' ⟨rfl,rfl⟩)|(go_at_call 75;refine(kL _ _ s n hR.blk).mono ?_;rintro e w1 ⟨ba,bt,he,ha,ht,h4,hf,h9⟩;unfold wN at he;subst he))
 go_loopw [7] (fun i wr=>∃j:Nat,j<=c/\i=.int .i64 j/\Blk wr ba 3 #[.int .i64 (n+j:Nat)]/\Blk wr bt 9 #[.string s]/\al w.heap.size [] [] w wr) (fun i _=>c-(intOf i).toNat)
 case atStart=>exact⟨0,Nh _,rfl,ha,ht,h9⟩
 case round=>
  obtain⟨j,hj,rfl,h2,h1,hS⟩:=hrel;have hn:=mH wr ba bt s (n+j) h2 h1 hs (by omega);by_cases h:j<c
  ·rw[un h8.out h]at hn;have HN:=aa hn;clear hn;have hg:((j:Int)==(most:Int))=false:=(by rw[NA];omega);(go_wp2_with (go_at_call 133;refine HN.out.mono ?_;rintro e w2 ⟨rfl,h7,h3⟩));go_roundw;case rel=>refine⟨j+1,h,rfl,h7,h3.blk h1 ?_ (by simp),hS.after h3 h4 (fun i hi=>by simp at hi;subst hi;exact .inr h4) (by simp)⟩;intro hm;simp at hm;subst hm;unfold Blk at h2 h1;rw[h2]at h1;simp at h1
   case measure=>simp[intOf];omega
  ·obtain rfl:j=c:=(by omega);rw[HZ.out]at hn;have HN:=aa hn;clear hn;have h6:p∉ [ba]:=(by have:=az hR.blk;simp;omega);(go_wp2_with (go_at_call 133;refine HN.out.mono ?_;rintro e w2 ⟨rfl,h7,h3⟩;have h5:=h3.blk (hS.blk hR.blk (by simp) (by simp)) h6 (by simp);have c2:=ac h5 2;have f2:=ae h5 2;simp at c2));go_ret2;refine⟨rfl,⟨hR.lo,?_⟩,?_⟩;·exact au h5 2 _
   ·exact(((hS.after h3 h4 (fun i hi=>by simp at hi;subst hi;exact .inr h4) (by simp)).mono (NH hR.lo (NV (az hR.blk))) (by simp) (by simp)).set (p:=⟨p,2,none⟩) hR.lo (List.mem_singleton.2 rfl) _)
theorem Bz(B:Nat)(w:World)(p:Nat)(s:ByteArray)(n c most:Nat)(hR:IsR B w p s n)(hf:n<=8*s.size)(hs:s.size<=281474976710656)(hm:(most:Int)<=9223372036854775807)(hc:c<=most)(h1:(ai s.data.toList).drop n=List.replicate c 1):
 Calls prog 244 #[.pointer (some ⟨p,0,none⟩),.int .i64 most] w (pN B w p s n 0 0 10):=by
 have c0:=ac hR.blk 0;simp at c0;have h3:n+c=8*s.size:=by have:=congrArg List.length h1;rw[Nq,aq,NE]at this;simp at this;omega
 have HL:=aa h3;clear h3;have h6:=aa h1;clear h1;go_enter func244,ntmps244;go_wp2_with (first|(go_at_call 74;refine(ii _ _ c0).mono ?_;rintro e w' ⟨rfl,rfl⟩)|(go_at_call 75;refine(kL _ _ s n hR.blk).mono ?_;rintro e w1 ⟨ba,bt,he,ha,ht,h5,h9,h7⟩;unfold wN at he;subst he))
 go_loopw [7] (fun i wr=>∃j:Nat,j<=c/\i=.int .i64 j/\Blk wr ba 3 #[.int .i64 (n+j:Nat)]/\Blk wr bt 9 #[.string s]/\al w.heap.size [] [] w wr) (fun i _=>c-(intOf i).toNat)
 case atStart=>exact⟨0,Nh _,rfl,ha,ht,h7⟩
 case round=>
  obtain⟨j,hj,rfl,h2,h0,hS⟩:=hrel;by_cases h:j<c
  ·have hn:=mH wr ba bt s (n+j) h2 h0 hs (by have:=HL.out;omega);rw[un (r:= []) (by rw[NR];exact h6.out) h]at hn;have HN:=aa hn;clear hn;have hb:((j:Int)==(most:Int))=false:=(by rw[NA];omega);(go_wp2_with (go_at_call 133;refine HN.out.mono ?_;rintro e w2 ⟨rfl,h8,h4⟩));go_roundw;case rel=>refine⟨j+1,h,rfl,h8,h4.blk h0 ?_ (by simp),hS.after h4 h5 (fun i hi=>by simp at hi;subst hi;exact .inr h5) (by simp)⟩;intro hm;simp at hm;subst hm;unfold Blk at h2 h0;rw[h2]at h0;simp at h0
   case measure=>simp[intOf];omega
  ·have hn:=Eu wr ba bt s (n+j) h2 h0 hs (by have:=HL.out;omega);have HN:=aa hn;clear hn;(go_wp2_with (go_at_call 133;refine HN.out.mono ?_;rintro e w2 ⟨rfl,rfl⟩));go_ret2;exact⟨rfl,⟨hR.lo,hS.blk hR.blk (by simp) (by simp)⟩,hS.mono (NH hR.lo (NV (az hR.blk))) (by simp) (by simp)⟩
theorem Ie(B:Nat)(w:World)(p:Nat)(s:ByteArray)(n most:Nat)(r:List Nat)(hR:IsR B w p s n)(hs:s.size<=281474976710656)(hm:(most:Int)<=9223372036854775807)(h0:(ai s.data.toList).drop n=List.replicate (most+1) 1++r):
 Calls prog 244 #[.pointer (some ⟨p,0,none⟩),.int .i64 most] w (pN B w p s n 0 0 3):=by
 have c0:=ac hR.blk 0;simp at c0;have h9:n+most<8*s.size:=by have:=congrArg List.length h0;rw[Nq,aq,Nc,NE]at this;simp at this;omega
 have h7:=aa h0;clear h0;go_enter func244,ntmps244;go_wp2_with (first|(go_at_call 74;refine(ii _ _ c0).mono ?_;rintro e w' ⟨rfl,rfl⟩)|(go_at_call 75;refine(kL _ _ s n hR.blk).mono ?_;rintro e w1 ⟨ba,bt,he,ha,ht,h4,hc,h8⟩;unfold wN at he;subst he))
 go_loopw [7] (fun i wr=>∃j:Nat,j<=most/\i=.int .i64 j/\Blk wr ba 3 #[.int .i64 (n+j:Nat)]/\Blk wr bt 9 #[.string s]/\al w.heap.size [] [] w wr) (fun i _=>most-(intOf i).toNat)
 case atStart=>exact⟨0,Nh _,rfl,ha,ht,h8⟩
 case round=>
  obtain⟨j,hj,rfl,h2,h1,hS⟩:=hrel;have hn:=mH wr ba bt s (n+j) h2 h1 hs (by omega);rw[un h7.out (by omega)]at hn;have HN:=aa hn;clear hn;by_cases h:j<most
  ·have hf:((j:Int)==(most:Int))=false:=(by rw[NA];omega);(go_wp2_with (go_at_call 133;refine HN.out.mono ?_;rintro e w2 ⟨rfl,h6,h3⟩));go_roundw;case rel=>refine⟨j+1,h,rfl,h6,h3.blk h1 ?_ (by simp),hS.after h3 h4 (fun i hi=>by simp at hi;subst hi;exact .inr h4) (by simp)⟩;intro hm;simp at hm;subst hm;unfold Blk at h2 h1;rw[h2]at h1;simp at h1
   case measure=>simp[intOf];omega
  ·obtain rfl:j=most:=(by omega);have hb:p∉ [ba]:=(by have:=az hR.blk;simp;omega);(go_wp2_with (go_at_call 133;refine HN.out.mono ?_;rintro e w2 ⟨rfl,h6,h3⟩));go_ret2;have h5:=hS.after h3 h4 (fun i hi=>by simp at hi;subst hi;exact .inr h4) (by simp);exact⟨rfl,⟨hR.lo,h5.blk hR.blk (by simp) (by simp)⟩,h5.mono (NH hR.lo (NV (az hR.blk))) (by simp) (by simp)⟩
theorem BA(most:Nat):∀l:List Nat,am l->(∃ c r,c<=most/\l=List.replicate c 1++0::r)\/(∃ c,c<=most/\l=List.replicate c 1)\/(∃ r,l=List.replicate (most+1) 1++r):=by
 induction most with
 | zero=>
  intro l hb
  match l with
  | []=>exact .inr (.inl ⟨0,Nm _,rfl⟩)
  | b::l=>
   have:=hb b (by simp);by_cases h:b=0;·subst h;exact .inl ⟨0,l,Nm _,rfl⟩
   ·obtain rfl:b=1:=(by omega);exact .inr (.inr ⟨l,rfl⟩)
 | succ most ih=>
  intro l hb
  match l with
  | []=>exact .inr (.inl ⟨0,Nh _,rfl⟩)
  | b::l=>
   have:=hb b (by simp);by_cases h:b=0;·subst h;exact .inl ⟨0,l,Nh _,rfl⟩
   ·obtain rfl:b=1:=(by omega);rcases ih l (fun x hx=>hb x (by simp[hx]))with⟨c,r,hc,rfl⟩|⟨c,hc,rfl⟩|⟨r,rfl⟩;·exact .inl ⟨c+1,r,by omega,by simp[Pg]⟩
    ·exact .inr (.inl ⟨c+1,by omega,by simp[Pg]⟩)
    ·exact .inr (.inr ⟨r,by rw[Pg (n:=most+1)];rfl⟩)
theorem IsW.c0{B:Nat}{w:World}{p:Nat}{v:Value}{L:List Nat}(h:IsW B w p v L):w.cell? ⟨p,0,none⟩=some (.bool true):=ac h.blk 0
theorem IsW.c2{B:Nat}{w:World}{p:Nat}{v:Value}{L:List Nat}(h:IsW B w p v L):w.cell? ⟨p,2,none⟩=some (.int .i64 L.length):=ac h.blk 2
theorem M9{B:Nat}{w:World}{p:Nat}{v:Value}{L:List Nat}(h:IsW B w p v L):Calls prog 59 #[.pointer (some ⟨p,0,none⟩)] w fun e w'=>e=.returned (.int .i64 L.length)/\w=w':=
 jM w p _ h.c0 h.c2
theorem IsW.drew{B:Nat}{w:World}{p:Nat}{v:Value}{L:List Nat}(h:IsW B w p v L):IsW B w.drew p v L:=⟨h.lo,h.blk,h.row,h.bit⟩
def K8(w:World)(B:Nat)(A:Option Addr)(n:Nat)(X Y:Nat->Value):Prop:=
 0<n->∃b off,A=some ⟨b,off,none⟩/\b<B/\∀i,i<n->w.cell? ⟨b,off+i*2,none⟩=some (X i)/\w.cell? ⟨b,off+i*2+1,none⟩=some (Y i)
def oZ(s:ByteArray)(n:Int):Bool:=
 decide (0<=n/\n<=8*(s.size:Int)/\8*(s.size:Int)<n+8)&&((ai s.data.toList).drop n.toNat).all (· ==0)
theorem nb{s:ByteArray}{k:Nat}:oZ s k=true↔(k<=8*s.size/\8*s.size<k+8/\((ai s.data.toList).drop k).all (· ==0)=true):=by
 unfold oZ;rw[Bool.and_eq_true,OU,Nn];constructor;·rintro⟨⟨_,h1,h2⟩,h3⟩;exact⟨by omega,by omega,h3⟩
 ·rintro⟨h1,h2,h3⟩;exact⟨⟨by omega,by omega,by omega⟩,h3⟩
theorem LD{s:ByteArray}{n:Int}(h:oZ s n=true):∃k:Nat,n=k/\k<=8*s.size:=by unfold oZ at h;rw[Bool.and_eq_true,OU]at h;exact⟨n.toNat,by omega,by omega⟩
theorem LE(s:ByteArray)(n:Int)(h:n<0):oZ s n=false:=by unfold oZ;have:decide (0<=n/\n<=8*(s.size:Int)/\8*(s.size:Int)<n+8)=false:=(by rw[QG];omega);rw[this,Bool.false_and]
theorem Gw(s:ByteArray)(k:Nat)(h:k%8=0):oZ s k=decide (s.size=k/8):=by
 rw[Rg,nb,OU];constructor;·rintro⟨h1,h2,_⟩;omega
 ·intro h1;refine⟨by omega,by omega,?_⟩;have hl:(ai s.data.toList).length=8*s.size:=(by rw[aq];rfl);rw[NW (by rw[hl];omega)];rfl
theorem Ax(s:ByteArray)(k:Nat)(h:k%8≠0)(h1:s.size≠k/8+1):oZ s k=false:=by rw[Bool.eq_false_iff];intro h2;have:=nb.1 h2;omega
theorem Ii(v m:Nat):(ag v m).all (· ==0)=true↔v%2^m=0:=by
 constructor;·intro h;have h1:ag v m=List.replicate m 0:=(by rw[List.eq_replicate_iff];refine⟨af m v,fun b hb=> ?_⟩;have:=List.all_eq_true.1 h b hb;simpa using this);rw[<- dm,h1,<-sR,dm,Nat.zero_mod]
 ·intro h;have h1:=fy (ag v m) (aB m v);rw[af,dm,h,sR]at h1;rw[<- h1];simp
theorem LA(c r:Nat)(hr:r<=8):c*2^r%256=0↔c%2^(8-r)=0:=by
 have e:256=2^(8-r)*2^r:=by rw[<- PA,show 8-r+r=8 by omega]
 conv=>lhs;lhs;rhs;rw[e]
 rw[Nat.mul_mod_mul_right];constructor
 ·intro h;rcases Nat.mul_eq_zero.1 h with h|h;·exact h
  ·have:=OT r;omega
 ·intro h;rw[h,Nat.zero_mul]
theorem JK(s:ByteArray)(k:Nat)(h:k%8≠0)(h1:s.size=k/8+1)(h5:k/8<s.size):oZ s k=decide (s[k/8].toNat*2^(k%8)%256=0):=by
 rw[Rg,nb,OU,LA _ _ (by omega),<-Ii];have hd:(ai s.data.toList).drop k=ag s[k/8].toNat (8-k%8):=by have hl:s.data.toList.length=k/8+1:=(by rw[<- h1];rfl);have h4:k/8<s.data.toList.length:=(by omega);have e:s.data.toList=s.data.toList.take (k/8)++ [s[k/8]]:=(by have e1:=NI h4;rw[Nt (by omega)]at e1;exact e1);have h0:(ai (s.data.toList.take (k/8))).length=8*(k/8):=(by rw[aq,Nz];omega);have h2:ag s[k/8].toNat 8=ag (s[k/8].toNat/2^(8-k%8)) (k%8)++ag s[k/8].toNat (8-k%8):=(by rw[<- ja,show k%8+(8-k%8)=8 by omega]);(conv=>lhs;rw[e]);rw[fw,eC,pV,NR];(conv=>lhs;lhs;rw[show k=8*(k/8)+k%8 by omega]);rw[<- P7,Rh h0,h2,Rh (af _ _)]
 rw[hd];constructor;·rintro⟨_,_,h3⟩;exact h3
 ·intro h3;exact⟨by omega,by omega,h3⟩
def iD(T:Nat->ByteArray)(K:Nat->Int):Nat->List Nat
 | 0=> []
 | i+1=>iD T K i++(ai (T i).data.toList).take (K i).toNat
def vD(T:Nat->ByteArray):Nat->Nat
 | 0=>0
 | i+1=>vD T i+(T i).size
theorem x6(T:Nat->ByteArray)(K:Nat->Int)(i:Nat):(iD T K i).length<=8*vD T i:=by
 induction i with
 | zero=>simp[iD]
 | succ i ih=>have hl:(ai (T i).data.toList).length=8*(T i).size:=(by rw[aq];rfl);rw[iD,vD,Nc,Nz];omega
theorem H7(T:Nat->ByteArray){i j:Nat}(h:i<=j):vD T i<=vD T j:=by
 induction h with
 | refl=>exact Nm _
 | step _ ih=>exact NH ih (by rw[vD];omega)
theorem xj(l:List Nat)(a i k:Nat):(l.drop a).take (i+k)=(l.drop a).take i++(l.drop (a+i)).take k:=by rw[List.take_add,P7]
theorem sQ(l:List Nat)(a k:Nat)(hb:am l)(h:a+k<=l.length):ag (val ((l.drop a).take k)) k=(l.drop a).take k:=by have h1:=fy ((l.drop a).take k) ((hb.drop a).take k);rwa [Nz,Nq,Oh (by omega)]at h1
def ES(B:Nat)(w:World)(p q:Nat)(L:List Nat)(s:ByteArray)(a m:Nat)(e:Ending)(w':World):Prop:=
 e=.returned (.tuple #[])/\(∃ v',IsW B w' p v' (L++((ai s.data.toList).drop a).take m))/\IsR B w' q s (a+m)/\al B [p,q] [5] w w'
theorem IB(B:Nat)(w:World)(p q:Nat)(v:Value)(L:List Nat)(s:ByteArray)(a m:Nat)(hW:IsW B w p v L)(hR:IsR B w q s a)(hs:s.size<=281474976710656)(hh:a+m<=8*s.size)(hL:L.length+m<=1000000000000):
 Calls prog 57 #[.pointer (some ⟨p,0,none⟩),.pointer (some ⟨q,0,none⟩),.int .i64 m] w (ES B w p q L s a m):=by
 have hf:(ai s.data.toList).length=8*s.size:=by rw[aq];rfl
 have he:=aa hf;clear hf;go_enter func57,ntmps57;go_wp2;go_loopw [2] (fun i wr=>∃(r:Nat) (v':Value),r<=m/\i=.int .i64 r/\IsW B wr p v' (L++((ai s.data.toList).drop a).take (m-r))/\IsR B wr q s (a+(m-r))/\al B [p,q] [5] w wr) (fun i _=>(intOf i).toNat)
 case atStart=>exact⟨m,v,Nm _,rfl,by simpa using hW,by simpa using hR,al.refl _ _ _ _⟩
 case round=>
  obtain⟨r,v',hr,rfl,h8,h0,hS⟩:=hrel;have h7:(L++((ai s.data.toList).drop a).take (m-r)).length<=1000000000000:=by rw[Nc,Nz];omega
  by_cases h:0<r
  ·by_cases h9:r<=64
   ·have hT:=fS B wr q s (a+(m-r)) r h0 hs h9 (by omega);have hx:val (((ai s.data.toList).drop (a+(m-r))).take r)<2^r:=ga _ _ _ _ (aG _) (ah _);have h6:=sQ (ai s.data.toList) (a+(m-r)) r (aG _) (by rw[he.out];omega);generalize val (((ai s.data.toList).drop (a+(m-r))).take r)=x at*;have HT:=aa hT;have HB:=aa h6;clear hT h6;go_wp2_with fail;refine HT.out.mono ?_;rintro e w2 ⟨rfl,ha,h2⟩;have h4:=h8.take h0 h2;go_wp2_with fail;refine(fo _ _ _ _ _ _ _ h4 h7 h9 hx).mono ?_;rintro e w3 ⟨rfl,v3,h5,h3⟩;have h1:=ha.put h4 h3;have hb:=(hS.trans (h2.mono (ah _) (by simp) (by simp))).trans (h3.mono (ah _) (by simp) (by simp));rw[HB.out,Ni,<-xj,show m-r+r=m-0 by omega]at h5;rw[OL,show m-r+r=m-0 by omega]at h1;go_wp2_with fail;go_roundw;case rel=>exact⟨0,v3,Nh _,rfl,h5,h1,hb⟩
    case measure=>simp[intOf];omega
   ·have hg:64<r:=(by omega);have hT:=fS B wr q s (a+(m-r)) 64 h0 hs (ah _) (by omega);have hx:val (((ai s.data.toList).drop (a+(m-r))).take 64)<2^64:=ga _ _ _ _ (aG _) (ah _);have h6:=sQ (ai s.data.toList) (a+(m-r)) 64 (aG _) (by rw[he.out];omega);generalize val (((ai s.data.toList).drop (a+(m-r))).take 64)=x at*;have HT:Hid (Calls prog 36 #[.pointer (some ⟨q,0,none⟩),.int .i64 64] wr (jn B wr q s (a+(m-r)) 64 x 0)):=aa hT;have HB:=aa h6;clear hT h6 h9;go_wp2_with fail;refine HT.out.mono ?_;rintro e w2 ⟨rfl,ha,h2⟩;have h4:=h8.take h0 h2;have hP:Calls prog 60 #[.pointer (some ⟨p,0,none⟩),.int .u64 x,.int .i64 64] w2 _:=fo _ _ _ _ _ _ 64 h4 h7 (ah _) hx;have HP:=aa hP;clear hP;go_wp2_with fail;refine HP.out.mono ?_;rintro e w3 ⟨rfl,v3,h5,h3⟩;have h1:=ha.put h4 h3;have hb:=(hS.trans (h2.mono (ah _) (by simp) (by simp))).trans (h3.mono (ah _) (by simp) (by simp));rw[HB.out,Ni,<-xj,show m-r+64=m-(r-64) by omega]at h5;rw[OL,show m-r+64=m-(r-64) by omega]at h1;go_wp2_with fail;go_roundw;case rel=>have hc:((r-64:Nat):Int)=(r:Int)-64:=(by omega);exact⟨r-64,v3,by omega,by rw[hc],h5,h1,hb⟩
    case measure=>simp[intOf];omega
  ·obtain rfl:r=0:=(by omega);rw[Qf]at h8 h0;go_wp2;(go_end0);exact⟨rfl,⟨v',h8⟩,h0,hS⟩
def mY(w:World)(t:List UInt8)(n r:Nat)(e:Ending)(w':World):Prop:=
 e=.returned (.tuple #[.agg #[.string ⟨t.toArray⟩,.int .i64 n],.int .i64 r])/\Below w.heap.size w w'
def K6(w:World)(b:Bool)(e:Ending)(w':World):Prop:=e=.returned (.bool b)/\Below w.heap.size w w'
theorem JL(w:World)(s:ByteArray)(n:Int)(hs:s.size<=100000000)(hn: -9223372036854775808<=n/\n<=9223372036854775807):
 Calls prog 56 #[.agg #[.string s,.int .i64 n]] w (K6 w (oZ s n)):=by
 have h0:Below w.heap.size w (w.alloc (.cells #[.string s,.int .i64 n] 43)):=(Nj _ _).alloc (ah _) _;by_cases h2:n<0;·rw[LE s n h2];go_enter func56,ntmps56;go_wp2;go_ret;exact⟨rfl,h0⟩
 obtain⟨k,rfl⟩:=QH (show 0<=n by omega);by_cases h8:k%8=0;·have hb:((s.size:Int)==(k:Int)/8)=oZ s k:=(by rw[Gw s k h8,Rg,O0,OU];omega);have hd:((k:Int)%8==0)=true:=(by rw[O0];omega);rw[<- hb];clear hb h8;go_enter func56,ntmps56;go_wp2;go_region;go_wp2;go_ret;exact⟨rfl,by first|exact h0|exact h0.drew⟩
 have hd:((k:Int)%8==0)=false:=by rw[NA];omega
 by_cases h1:s.size=k/8+1;·have h3:k/8<s.size:=(by omega);have hb:((s[k/8].toNat:Int)*2^(k%8)%256==0)=oZ s k:=(by rw[JK s k h8 h1 h3,Rg,O0,OU];have e:((s[k/8].toNat:Int)*2^(k%8)%256)=((s[k/8].toNat*2^(k%8)%256:Nat):Int):=(by rw[Q5,Rf,QK];rfl);rw[e];omega);have hq:((s.size:Int)==(k:Int)/8+1)=true:=(by rw[O0];omega);have h4:0<=(k:Int)/8:=(by omega);have h5:(k:Int)/8<s.size:=(by omega);rw[<- hb];clear hb h8 h1;go_enter func56,ntmps56;go_wp2;go_region;go_wp2;go_ret;exact⟨rfl,by first|exact h0|exact h0.drew⟩
 ·have hq:((s.size:Int)==(k:Int)/8+1)=false:=(by rw[NA];omega);rw[Ax s k h8 h1];clear h8 h1;go_enter func56,ntmps56;go_wp2;go_region;go_wp2;go_ret;exact⟨rfl,by first|exact h0|exact h0.drew⟩
theorem Ly(w:World)(A:Option Addr)(n c:Nat)(T:Nat->ByteArray)(K:Nat->Int)(hp:K8 w w.heap.size A n (fun i=>.string (T i)) (fun i=>.int .i64 (K i)))(hn:n<=maxLen)
 (hH:vD T n<=1000000000) (hi:∀i,i<n->(T i).size<=100000000) (hK:∀i,i<n-> -9223372036854775808<=K i/\K i<=9223372036854775807) (h4:∀i,i<n->oZ (T i) (K i)=true):
 Calls prog 22 #[.slice A n c] w (mY w (aF (iD T K n)) (iD T K n).length 0):=by
 unfold maxLen at hn;go_enter func22,ntmps22;go_wp2_with fail;refine(C7 _).mono ?_;rintro e w1 ⟨rfl,h9⟩;have ho:(World.alloc w (.cells #[.string ⟨#[]⟩,.int .i64 0] 43)).heap.size=w.heap.size+1:=by simp
 rw[ho];have hy:IsW w.heap.size w1 (w.heap.size+1) (.slice none 0 0) []:=by have:=lB (w.alloc (.cells #[.string ⟨#[]⟩,.int .i64 0] 43)) w.heap.size (by simp);rw[ho]at this;rw[h9];exact this
 have hE:Blk w1 w.heap.size 43 #[.string ⟨#[]⟩,.int .i64 0]:=by rw[h9];exact(Ps _ _ _ (by simp)).trans (aj w 43 _)
 have hD:Below w.heap.size w w1:=by rw[h9];exact((Nj _ _).alloc (ah _) _).alloc (by simp) _
 clear h9 ho;go_wp2_with fail;go_loopw [10] (fun i wr=>∃(j:Nat) (v:Value),j<=n/\i=.int .i64 j/\IsW w.heap.size wr (w.heap.size+1) v (iD T K j)/\Blk wr w.heap.size 43 #[.string ⟨#[]⟩,.int .i64 0]/\Below w.heap.size w wr) (fun i _=>n-(intOf i).toNat)
 case atStart=>exact⟨0,_,Nh _,rfl,hy,hE,hD⟩
 case round=>
  obtain⟨j,v,hj,rfl,hW,hk,hb⟩:=hrel;have hL:=x6 T K j;have hM:=H7 T hj;have hz:=hb.size;by_cases h:j<n
  ·obtain⟨b,off,rfl,hs,hc⟩:=hp (by omega);obtain⟨k,h8,hN⟩:=LD (h4 j h);have hJ:=hi j h;have h0:=JL (wr.alloc (.cells #[.string (T j),.int .i64 k] 43)) (T j) (K j) (by omega) (hK j h);rw[h4 j h,h8]at h0;have g1:wr.cell? ⟨b,off+j*2,none⟩=some (.string (T j)):=(hb.cell (p:=⟨b,off+j*2,none⟩) hs).trans (hc j h).1;have g2:wr.cell? ⟨b,off+j*2+1,none⟩=some (.int .i64 k):=(by rw[<- h8];exact(hb.cell (p:=⟨b,off+j*2+1,none⟩) hs).trans (hc j h).2);have HM:=aa h0;have hw:=aa h8;clear h0 h8 hc;have hC:=hW.alloc (.cells #[.string (T j),.int .i64 k] 43);go_wp2_with fail;refine HM.out.mono ?_;rintro e w2 ⟨rfl,hr⟩;have hm:=an hr;have hA:IsW w.heap.size w2.drew (w.heap.size+1) v (iD T K j):=(hC.step hm (by simp) (by simp) (by simp) (by simp)).drew;have hg:Blk w2.drew w.heap.size 43 #[.string ⟨#[]⟩,.int .i64 0]:=hm.blk ((Ps _ _ _ (az hk)).trans hk) (by simp) (by simp);have h7:Blk w2.drew wr.heap.size 43 #[.string (T j),.int .i64 k]:=hm.blk (aj wr 43 _) (by simp) (by simp);have h5:Below w.heap.size w w2.drew:=((hb.alloc hz _).trans (hr.mono (by simp;omega))).drew;have e1:w2.cell? ⟨wr.heap.size,0,none⟩=some (.string (T j)):=ac h7 0;have e2:w2.cell? ⟨wr.heap.size,1,none⟩=some (.int .i64 k):=ac h7 1;have hv:=h5.size;have hh:wr.heap.size∉ [w.heap.size+1,w2.drew.heap.size]:=(by have h1:=az hW.blk;have h2:=az h7;simp only[PF,ar,or_false];omega);have h6:w.heap.size∉ [w.heap.size+1,w2.drew.heap.size]:=(by have h2:=az hg;simp only[PF,ar,or_false];omega);go_upto_region 7 with fail
   go_region_held3 (fun w'=>w'.cell? ⟨wr.heap.size,0,none⟩=some (.string (T j))/\w'.cell? ⟨wr.heap.size,1,none⟩=some (.int .i64 k)) (first|exact⟨e1,e2⟩|exact⟨ac hu 0,ac hu 1⟩|exact⟨ac hl 0,ac hl 1⟩|go_keep)
    (first|(go_at_call 35;refine(fh _ _ 0 (by omega) (by omega) (by omega)).mono ?_;rintro e w3 ⟨rfl,h3⟩;have hB:IsW w.heap.size w3 (w.heap.size+1) v (iD T K j):=(by rw[h3];exact hA.alloc _);have hx:IsR w.heap.size w3 w2.drew.heap.size (T j) 0:=(by rw[h3];exact iY w2.drew _ hv (T j) 0);have hl:Blk w3 wr.heap.size 43 #[.string (T j),.int .i64 k]:=(by rw[h3];exact(Ps _ _ _ (az h7)).trans h7);have hF:Blk w3 w.heap.size 43 #[.string ⟨#[]⟩,.int .i64 0]:=(by rw[h3];exact(Ps _ _ _ (az hg)).trans hg);have he:Below w.heap.size w w3:=(by rw[h3];exact h5.alloc hv _);clear h3)|(go_at_call 57;refine(IB _ _ _ _ _ _ _ 0 k hB hx (by omega) (by omega) (by omega)).mono ?_;rintro e w4 ⟨rfl,⟨v4,hq⟩,hI,ha⟩;have hu:=ha.blk hl hh (by simp)))
   have hG:=ha.blk hF h6 (by simp);have ht:iD T K j++((ai (T j).data.toList).drop 0).take k=iD T K (j+1):=(by rw[iD,hw.out,Nn,Q2]);rw[ht]at hq;clear ht;have hf:=he.trans ha.below;go_wp2_with fail;go_roundw;case rel=>exact⟨j+1,v4,h,by go_num,hq,hG,hf⟩
   case measure=>simp[intOf];omega
  ·obtain rfl:j=n:=(by omega);have q0:wr.cell? ⟨w.heap.size,0,none⟩=some (.string ⟨#[]⟩):=ac hk 0;have q1:wr.cell? ⟨w.heap.size,1,none⟩=some (.int .i64 0):=ac hk 1;have f0:=ae hk 0;have f1:=ae hk 1;(go_wp2_with (first|(go_at_call 58;refine(im _ _ _ _ _ hW).mono ?_;rintro e w' ⟨rfl,rfl⟩)|(go_at_call 59;refine(M9 hW).mono ?_;rintro e w' ⟨rfl,rfl⟩)));refine ND (v:=.tuple #[.agg #[.string ⟨(aF (iD T K j)).toArray⟩,.int .i64 (iD T K j).length],.int .i64 0]) ?_ rfl ⟨rfl,?_⟩;·simp[results,results22,go_sem,q0,q1]
   ·exact(hb.setCell (p:=⟨w.heap.size,0,none⟩) (ah _) _).setCell (p:=⟨w.heap.size,1,none⟩) (ah _) _
