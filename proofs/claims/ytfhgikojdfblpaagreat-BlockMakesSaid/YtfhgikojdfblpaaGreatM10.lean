import Derived.Test.YtfhgikojdfblpaaGreatM09
set_option maxRecDepth 100000
namespace Go.Proofs.YtfhgikojdfblpaaGreat
open _root_.Go.Proofs.Tryz
open Go.RowKit
theorem oZ(w:World)(p:Nat)(h0:w.cell? ⟨p,0,none⟩=some (.bool true)):Calls prog 91 #[.pointer (some ⟨p,0,none⟩)] w fun e w'=>e=.returned (.bool true)/\w=w':=by go_enter func91,ntmps91;go_wp2;go_ret;exact⟨rfl,rfl⟩
theorem it(w:World)(p:Nat)(h0:w.cell? ⟨p,0,none⟩=some (.bool true)):Calls prog 75 #[.pointer (some ⟨p,0,none⟩)] w fun e w'=>e=.returned (.bool true)/\w=w':=by go_enter func75,ntmps75;go_wp2;go_ret;exact⟨rfl,rfl⟩
theorem lF(w:World)(p:Nat)(n:Int)(h0:w.cell? ⟨p,0,none⟩=some (.bool true))(h2:w.cell? ⟨p,2,none⟩=some (.int .i64 n)):
 Calls prog 48 #[.pointer (some ⟨p,0,none⟩)] w fun e w'=>e=.returned (.int .i64 n)/\w=w':=by go_enter func48,ntmps48;(go_wp2_with (go_at_call 91;refine(oZ _ _ h0).mono ?_;rintro e w' ⟨rfl,rfl⟩));go_ret;exact⟨rfl,rfl⟩
theorem nS(w:World)(p:Nat)(n:Int)(h0:w.cell? ⟨p,0,none⟩=some (.bool true))(h2:w.cell? ⟨p,2,none⟩=some (.int .i64 n)):
 Calls prog 27 #[.pointer (some ⟨p,0,none⟩)] w fun e w'=>e=.returned (.int .i64 n)/\w=w':=by go_enter func27,ntmps27;(go_wp2_with (go_at_call 75;refine(it _ _ h0).mono ?_;rintro e w' ⟨rfl,rfl⟩));go_ret;exact⟨rfl,rfl⟩
theorem Gw(w:World):Calls prog 44 #[] w fun e w'=>e=.returned (.pointer (some ⟨w.heap.size,0,none⟩))/\w'=w.alloc (.cells #[.bool true,.slice none 0 0,.int .i64 0] 134):=by go_enter func44,ntmps44;go_wp2;go_ret;exact⟨rfl,rfl⟩
theorem lx(w:World)(s:ByteArray)(at':Int)(hs:s.size<=281474976710656)(h:at'<0\/8*(s.size:Int)<at'):Calls prog 22 #[.string s,.int .i64 at'] w fun e w'=>e=.returned (.pointer none)/\w=w':=by
 rcases h with h|h;·go_enter func22,ntmps22;go_wp2;go_ret;exact⟨rfl,rfl⟩
 ·have h':0<=at':=(by omega);go_enter func22,ntmps22;go_wp2;go_ret;exact⟨rfl,rfl⟩
theorem gv(w:World)(s:ByteArray)(at':Int)(hs:s.size<=281474976710656)(h:0<=at')(h':at'<=8*(s.size:Int)):Calls prog 22 #[.string s,.int .i64 at'] w fun e w'=>e=.returned (.pointer (some ⟨w.heap.size,0,none⟩))/\w'=w.alloc (.cells #[.bool true,.string s,.int .i64 at'] 107):=by go_enter func22,ntmps22;go_wp2;go_ret;exact⟨rfl,rfl⟩
abbrev wX (ba bt:Nat):Value:=.func (.func 166) #[] #[.pointer (some ⟨ba,0,none⟩),.pointer (some ⟨bt,0,none⟩)]
def ET(w:World)(s:ByteArray)(n:Nat)(e:Ending)(w':World):Prop:=
 ∃ba bt,e=.returned (wX ba bt)/\Blk w' ba 3 #[.int .i64 n]/\Blk w' bt 9 #[.string s]/\w.heap.size<=ba/\w.heap.size<=bt/\ak w.heap.size [] [] w w'
theorem lf(w:World)(p:Nat)(s:ByteArray)(n:Nat)(hb:Blk w p 107 #[.bool true,.string s,.int .i64 n]):
 Calls prog 122 #[.pointer (some ⟨p,0,none⟩)] w (ET w s n):=by
 have c1:=ac hb 1;have c2:=ac hb 2;have h0:=aA hb;simp at c1 c2;go_enter func122,ntmps122;go_wp2;go_region;all_goals (go_wp2;go_ret)
 ·refine⟨w.heap.size+1,w.heap.size,rfl,?_,?_,by omega,by omega,?_⟩;·exact(by simpa using aj (w.alloc (.cells #[.string s] 9)) 3 #[.int .i64 n]:Blk ((w.alloc (.cells #[.string s] 9)).alloc (.cells #[.int .i64 n] 3)) (w.heap.size+1) 3 #[.int .i64 n])
  ·exact(O8 (w.alloc (.cells #[.string s] 9)) (.cells #[.int .i64 n] 3) w.heap.size (by simp)).trans (aj w 9 #[.string s])
  ·exact(((ak.refl _ _ _ w).alloc (ag _) _).alloc (by simp) _).drew
 ·refine⟨w.heap.size,w.heap.size+1,rfl,?_,?_,by omega,by omega,?_⟩;·exact(O8 (w.alloc (.cells #[.int .i64 n] 3)) (.cells #[.string s] 9) w.heap.size (by simp)).trans (aj w 3 #[.int .i64 n])
  ·exact(by simpa using aj (w.alloc (.cells #[.int .i64 n] 3)) 9 #[.string s]:Blk ((w.alloc (.cells #[.int .i64 n] 3)).alloc (.cells #[.string s] 9)) (w.heap.size+1) 9 #[.string s])
  ·exact(((ak.refl _ _ _ w).alloc (ag _) _).alloc (by simp) _).drew
theorem EB(w:World)(ba bt:Nat)(s:ByteArray)(n:Nat)(ha:Blk w ba 3 #[.int .i64 n])(ht:Blk w bt 9 #[.string s])(hs:s.size<=281474976710656)(hn:n=8*s.size):
 Calls prog 166 #[.pointer (some ⟨ba,0,none⟩),.pointer (some ⟨bt,0,none⟩)] w fun e w'=>e=.returned (.tuple #[.int .u64 0,.bool false])/\w=w':=by have c1:=ac ha 0;have c2:=ac ht 0;simp at c1 c2;have hd:((n:Int)==8*(s.size:Int))=true:=(by rw[Pn];omega);have HN:=aa hn;clear hn;go_enter func166,ntmps166;go_wp2;go_ret2;exact⟨rfl,rfl⟩
def EX(w:World)(ba n b:Nat)(e:Ending)(w':World):Prop:=
 e=.returned (.tuple #[.int .u64 b,.bool true])/\Blk w' ba 3 #[.int .i64 (n+1:Nat)]/\ak ba [ba] [] w w'
theorem Lk(s:ByteArray)(n:Nat)(hn:n<8*s.size)(h:n/8<s.size):
 IntKind.u64.wrap (bits BinOp.and IntKind.u8 ((s[n/8].toNat:Int)/2^(7-n%8)) 1)=(((ao s.data.toList).getD n 0:Nat):Int):=by have h1:((s[n/8].toNat:Int)/2^(7-n%8))=((s[n/8].toNat/2^(7-n%8):Nat):Int):=(by rw[Int.natCast_ediv,QJ];rfl);have h0:s[n/8].toNat/2^(7-n%8)<256:=RQ (QK _ _) (s[n/8].toNat_lt);have h2:=u8_and_nat _ 1 h0 (by omega);rw[nat_mask1]at h2;rw[h1];rw[show ((1:Nat):Int)=1 from rfl]at h2;rw[h2,Na,Fj _ _ (by simpa using hn)];have h3:s.data.toList.getD (n/8) 0=s[n/8]:=(by rw[Na,Nc (by simpa using h)];rfl);rw[h3];simp[IntKind.wrap,IntKind.bits,IntKind.signed];omega
theorem nd(w:World)(ba bt:Nat)(s:ByteArray)(n:Nat)(ha:Blk w ba 3 #[.int .i64 n])(ht:Blk w bt 9 #[.string s])(hs:s.size<=281474976710656)(hn:n<8*s.size):
 Calls prog 166 #[.pointer (some ⟨ba,0,none⟩),.pointer (some ⟨bt,0,none⟩)] w (EX w ba n ((ao s.data.toList).getD n 0)):=by have c1:=ac ha 0;have c2:=ac ht 0;have f1:=ae ha 0;simp at c1 c2;have hd:((n:Int)==8*(s.size:Int))=false:=(by rw[NC];omega);have h0:n/8<s.size:=(by omega);have h1:0<=(n:Int)/8:=(by omega);have h2:(n:Int)/8<s.size:=(by omega);go_enter func166,ntmps166;go_wp2;go_region;go_wp2;go_ret2;refine⟨?_,ay ha 0 _,((ak.refl ba [ba] [] w).set (p:=⟨ba,0,none⟩) (ag _) (List.mem_singleton.2 rfl) _).drew⟩;show Ending.returned (Value.tuple #[.int .u64 _,.bool true])=_;rw[Lk s n hn h0]
theorem JX(x b:Nat)(hx:x<9223372036854775808)(hb:b<2):bits BinOp.or IntKind.u64 ((x:Int)*2) (b:Int)=((2*x+b:Nat):Int):=by have h:=u64_or_nat (2*x) b (by omega) (by omega);rw[nat_join 1 (2*x) b (by omega) (by omega)]at h;rw[<- h,Re,Int.mul_comm];rfl
theorem nz(l:List Nat)(n j:Nat)(h:n+j<l.length):val ((l.drop n).take (j+1))=2*val ((l.drop n).take j)+l.getD (n+j) 0:=by have h1:j<(l.drop n).length:=(by rw[Ny];omega);rw[NF h1,iR,Rp,Na,Nc h];rfl
theorem fY(l:List Nat)(n j k:Nat)(hb:au l)(hj:j<=k):val ((l.drop n).take j)<2^k:=by refine OA (gH _ ((hb.drop n).take j)) (Od (by omega) ?_);rw[NB];omega
theorem EP(l:List Nat)(i:Nat)(hb:au l):l.getD i 0<2:=by
 rw[Na];rcases h:l[i]? with _|b;·simp
 ·exact hb b (PV h)
def jE(B:Nat)(w:World)(p:Nat)(s:ByteArray)(n k:Nat)(x r:Nat)(e:Ending)(w':World):Prop:=
 e=.returned (.tuple #[.int .u64 x,.int .i64 r])/\IsR B w' p s (n+k)/\ak B [p] [] w w'
theorem iF(B:Nat)(w:World)(p:Nat)(s:ByteArray)(n k:Nat)(hR:IsR B w p s n)(hs:s.size<=281474976710656)(hk:k<=64)(hc:n+k<=8*s.size):
 Calls prog 71 #[.pointer (some ⟨p,0,none⟩),.int .i64 k] w (jE B w p s n k (val (((ao s.data.toList).drop n).take k)) 0):=by
 have c0:=ac hR.blk 0;simp at c0;go_enter func71,ntmps71;go_wp2_with (first|(go_at_call 75;refine(it _ _ c0).mono ?_;rintro e w' ⟨rfl,rfl⟩)|(go_at_call 122;refine(lf _ _ s n hR.blk).mono ?_;rintro e w1 ⟨ba,bt,he,ha,ht,h4,h9,h5⟩;unfold wX at he;subst he))
 go_loopw [7,22] (fun v i wr=>∃j x:Nat,j<=k/\i=.int .i64 j/\v=.int .u64 x/\x=val (((ao s.data.toList).drop n).take j)/\Blk wr ba 3 #[.int .i64 (n+j:Nat)]/\Blk wr bt 9 #[.string s]/\ak w.heap.size [] [] w wr) (fun _ i _=>k-(intOf i).toNat)
 case atStart=>exact⟨0,0,Ng _,rfl,rfl,by simp[val],ha,ht,h5⟩
 case round=>
  obtain⟨j,x,hj,rfl,rfl,hx,h1,h0,hS⟩:=hrel;have HX:=aa hx;clear hx;by_cases h:j<k
  ·have h8:x<9223372036854775808:=(by rw[HX.out];exact Nat.lt_of_lt_of_eq (fY _ n j 63 (bh _) (by omega)) (by decide));obtain⟨b,hb⟩:∃b,b=(ao s.data.toList).getD (n+j) 0:=⟨_,rfl⟩;have h7:b<2:=(by rw[hb];exact EP _ _ (bh _));have hn:=nd wr ba bt s (n+j) h1 h0 hs (by omega);rw[<- hb]at hn;have HB:=aa hb;clear hb;have HN:=aa hn;clear hn;(go_wp2_with (go_at_call 166;refine HN.out.mono ?_;rintro e w2 ⟨rfl,h6,h3⟩));go_roundw;case rel=>
    refine⟨j+1,2*x+b,h,rfl,by rw[JX x b h8 h7],?_,h6,h3.blk h0 ?_ (by simp),hS.after h3 h4 (fun i hi=>by simp at hi;subst hi;exact .inr h4) (by simp)⟩;·rw[HX.out,HB.out,nz];rw[aC];simpa using by omega
    ·intro hm;simp at hm;subst hm;unfold Blk at h1 h0;rw[h1]at h0;simp at h0
   case measure=>simp[intOf];omega
  ·obtain rfl:j=k:=(by omega);have h2:=hS.blk hR.blk (by simp) (by simp);have c0:=ac h2 0;have c2:=ac h2 2;have f2:=ae h2 2;simp at c0 c2;go_wp2;go_ret2;refine⟨?_,⟨hR.lo,?_⟩,?_⟩;·show Ending.returned (Value.tuple #[.int .u64 x,.int .i64 0])=_;rw[HX.out];rfl
   ·exact ay h2 2 _
   ·exact((hS.mono (ND hR.lo (NT (aA hR.blk))) (by simp) (by simp)).set (p:=⟨p,2,none⟩) hR.lo (List.mem_singleton.2 rfl) _)
theorem fo(B:Nat)(w:World)(p:Nat)(s:ByteArray)(n k:Nat)(hR:IsR B w p s n)(hs:s.size<=281474976710656)(hk:k<=64)(hn:n<=8*s.size)(hc:8*s.size<n+k):
 Calls prog 71 #[.pointer (some ⟨p,0,none⟩),.int .i64 k] w (jE B w p s n 0 0 10):=by
 have c0:=ac hR.blk 0;simp at c0;go_enter func71,ntmps71;go_wp2_with (first|(go_at_call 75;refine(it _ _ c0).mono ?_;rintro e w' ⟨rfl,rfl⟩)|(go_at_call 122;refine(lf _ _ s n hR.blk).mono ?_;rintro e w1 ⟨ba,bt,he,ha,ht,h3,h9,h4⟩;unfold wX at he;subst he))
 go_loopw [7,22] (fun v i wr=>∃j x:Nat,n+j<=8*s.size/\i=.int .i64 j/\v=.int .u64 x/\x=val (((ao s.data.toList).drop n).take j)/\Blk wr ba 3 #[.int .i64 (n+j:Nat)]/\Blk wr bt 9 #[.string s]/\ak w.heap.size [] [] w wr) (fun _ i _=>k-(intOf i).toNat)
 case atStart=>exact⟨0,0,hn,rfl,rfl,by simp[val],ha,ht,h4⟩
 case round=>
  obtain⟨j,x,hj,rfl,rfl,hx,h1,h0,hS⟩:=hrel;have HX:=aa hx;clear hx;have h:j<k:=by omega
  by_cases h7:n+j<8*s.size
  ·have h8:x<9223372036854775808:=(by rw[HX.out];exact Nat.lt_of_lt_of_eq (fY _ n j 63 (bh _) (by omega)) (by decide));obtain⟨b,hb⟩:∃b,b=(ao s.data.toList).getD (n+j) 0:=⟨_,rfl⟩;have h6:b<2:=(by rw[hb];exact EP _ _ (bh _));have hn:=nd wr ba bt s (n+j) h1 h0 hs (by omega);rw[<- hb]at hn;have HB:=aa hb;clear hb;have HN:=aa hn;clear hn;(go_wp2_with (go_at_call 166;refine HN.out.mono ?_;rintro e w2 ⟨rfl,h5,h2⟩));go_roundw;case rel=>
    refine⟨j+1,2*x+b,h7,rfl,by rw[JX x b h8 h6],?_,h5,h2.blk h0 ?_ (by simp),hS.after h2 h3 (fun i hi=>by simp at hi;subst hi;exact .inr h3) (by simp)⟩;·rw[HX.out,HB.out,nz];rw[aC];simpa using by omega
    ·intro hm;simp at hm;subst hm;unfold Blk at h1 h0;rw[h1]at h0;simp at h0
   case measure=>simp[intOf];omega
  ·have hn:=EB wr ba bt s (n+j) h1 h0 hs (by omega);have HN:=aa hn;clear hn;(go_wp2_with (go_at_call 166;refine HN.out.mono ?_;rintro e w2 ⟨rfl,rfl⟩));go_ret2;exact⟨rfl,⟨hR.lo,hS.blk hR.blk (by simp) (by simp)⟩,hS.mono (ND hR.lo (NT (aA hR.blk))) (by simp) (by simp)⟩
theorem rx{w:World}{B:Nat}{v:Value}{l:List UInt8}(h:w.ownsRow B 5 1 v l.length (l.map bv)):(convert 69 9 v).run prog w=.ok (.string ⟨l.toArray⟩) w:=by
 rcases h.2 with⟨rfl,h0⟩|⟨g,cap,cur,rfl,_⟩;·have:l= []:=Nq h0;subst this;exact Qk w 69 5 underlying69 underlying5 0 0 9 underlying9
 ·have hn:∀j (hj:j<l.length),w.cell? ((⟨g,0,none⟩:Addr).add j)=some (.int .u8 (l[j].toNat:Int)):=(by intro j hj;have h1:=h.cells (g:=g) rfl j (.int .u8 (l[j].toNat:Int));exact h1 (by rw[Np,Nc hj];rfl));exact Qa w 69 9 5 ⟨g,0,none⟩ cap l underlying69 underlying5 underlying9 hn
theorem jC(B:Nat)(w:World)(p:Nat)(v:Value)(L:List Nat)(hW:IsW B w p v L):
 Calls prog 47 #[.pointer (some ⟨p,0,none⟩)] w fun e w'=>e=.returned (.string ⟨(aK L).toArray⟩)/\w=w':=by have c0:=ac hW.blk 0;have c1:=ac hW.blk 1;simp at c0 c1;have hc:=rx hW.row;go_enter func47,ntmps47;(go_wp2_with (go_at_call 91;refine(oZ _ _ c0).mono ?_;rintro e w' ⟨rfl,rfl⟩));go_ret;exact⟨rfl,rfl⟩
theorem uU{w:World}{B n:Nat}{v:Value}{xs:List Value}(h:w.ownsRow B 5 1 v (n+1) xs):∃g cap,v=.slice (some ⟨g,0,none⟩) (n+1) cap/\B<=g:=by
 rcases h.2 with⟨_,h⟩|⟨g,cap,cur,hv,hb,_⟩;·omega
 ·exact⟨g,cap,hv,hb⟩
def Mid(B:Nat)(w wx:World)(p len t:Nat)(pre:List UInt8)(c:UInt8):Prop:=
 ∃g cap,Blk wx p 134 #[.bool true,.slice (some ⟨g,0,none⟩) (t+1) cap,.int .i64 len]/\wx.ownsRow B 5 1 (.slice (some ⟨g,0,none⟩) (t+1) cap) (t+1) ((pre++ [c]).map bv)/\B<=g/\ak B [p] [5] w wx
theorem JO{B p len t:Nat}{w wx:World}{v:Value}{l pre:List UInt8}{c:UInt8}(hl:l=pre++ [c])(ht:pre.length=t)(hb:Blk wx p 134 #[.bool true,v,.int .i64 len])(hr:wx.ownsRow B 5 1 v l.length (l.map bv))(hs:ak B [p] [5] w wx):Mid B w wx p len t pre c:=by subst hl;subst ht;rw[Nb,NP]at hr;obtain⟨g,cap,rfl,hg⟩:=uU hr;exact⟨g,cap,hb,hr,hg,hs⟩
theorem LF{B p len t:Nat}{w wx wy:World}{v v1:Value}{l:List UInt8}(ht:l.length=t)(hb:Blk wx p 134 #[.bool true,v,.int .i64 len])(hB:B<=p)(hr:wx.ownsRow B 5 1 v l.length (l.map bv))(hs:ak B [p] [5] w wx)
 (hn:wy.ownsRow B 5 1 v1 (l.length+1) (l.map bv++ [.int .u8 0])) (hg:(wx.alloc (.cells #[.int .u8 0] 5)).grownBy wy v.ownBlock):Mid B w (wy.setCell ⟨p,1,none⟩ v1) p len t l 0:=by
 subst ht;obtain⟨g,cap,rfl,h4⟩:=uU hn;have h2:B<=wx.heap.size:=ND hB (NT (aA hb));have h5:ak B [p] [5] w (wx.alloc (.cells #[.int .u8 0] 5)):=hs.alloc h2 _;have h6:ak B [p] [5] w wy:=h5.grown hg (by simp;omega) (kK (hr.alloc _));have h0:Blk (wx.alloc (.cells #[.int .u8 0] 5)) p 134 #[.bool true,v,.int .i64 len]:=(O8 wx _ p (aA hb)).trans hb;have h1:Blk wy p 134 #[.bool true,v,.int .i64 len]:=(hg.block p (aA h0) (fun e=>dV (hr.alloc _) h0 (by decide) p e.symm rfl)).trans h0;have h3:=ay h1 1 (.slice (some ⟨g,0,none⟩) (l.length+1) cap);refine⟨g,cap,h3,?_,h4,h6.set hB (by simp) _⟩;have hx:ak B [p] [] wy (wy.setCell ⟨p,1,none⟩ (.slice (some ⟨g,0,none⟩) (l.length+1) cap)):=(ak.refl B [p] [] wy).set hB (by simp) _
 have:=hx.row hn (fun k hk=>by
  have:=dV hn h1 (by decide) k hk
  simpa using this) (by simp)
 simpa [bv]using this
theorem qM{B p n:Nat}{e t:TypeId}{wx wy:World}{v:Value}{xs:List Value}{cs:Array Value}{o:Obj}(hb:Blk wx p t cs)(hr:wx.ownsRow B e 1 v n xs)(h1:e≠t)(hg:(wx.alloc o).grownBy wy v.ownBlock):Blk wy p t cs:=by have h0:Blk (wx.alloc o) p t cs:=(O8 wx _ p (aA hb)).trans hb;exact(hg.block p (aA h0) (fun e=>dV (hr.alloc _) h0 h1 p e.symm rfl)).trans h0
theorem GG(L:List Nat)(h:L.length%8=0):aK (L.take (8*(L.length/8)))=aK L/\UInt8.ofNat (val (L.drop (8*(L.length/8)))*2^(8-L.length%8))=0:=by have e:8*(L.length/8)=L.length:=(by omega);rw[e,Q0,List.drop_length];exact⟨rfl,by simp[val]⟩
theorem GH(L:List Nat)(h:¬L.length%8=0):aK L=aK (L.take (8*(L.length/8)))++ [UInt8.ofNat (val (L.drop (8*(L.length/8)))*2^(8-L.length%8))]:=by (conv=>lhs;rw[Dr L]);rw[me (L.drop (8*(L.length/8))) (by simp;omega) (by simp;omega)];rw[Ny,show L.length-8*(L.length/8)=L.length%8 by omega]
theorem IG(z k s r:Nat)(h:r+k+s=8)(hz:r=0\/z<2^k):z%256*2^s%256=z%2^k*2^s:=by
 rcases hz with hr|hz;·subst hr;have e:256=2^k*2^s:=(by rw[<- Pw,show k+s=8 by omega]);(conv=>lhs;rhs;rw[e]);rw[Nat.mul_mod_mul_right,Nat.mod_mod_of_dvd _ ⟨2^s,e⟩]
 ·have e:2^(k+s)<=2^8:=Od (by omega) (by omega);have h1:z*2^s<2^(k+s):=(by rw[Pw];exact OV hz (OE _));have h2:z<=z*2^s:=Nat.le_mul_of_pos_right _ (OE _);rw[NL (show z<256 by omega),NL hz,NL (by omega)]
theorem ED(R z r k s:Nat)(h:r+k+s=8)(hz:r=0\/z<2^k):
 bits .or .u8 ((R:Int)*2^(8-r)%256) ((z:Int)%256*2^s%256)=((R*2^(8-r)%256 ||| z%2^k*2^s:Nat):Int):=by have e1:((R:Int)*2^(8-r)%256)=((R*2^(8-r)%256:Nat):Int):=(by rw[Qx,Re,QJ];rfl);have e2:((z:Int)%256*2^s%256)=((z%256*2^s%256:Nat):Int):=(by rw[Qx,Re,QJ,Qx];rfl);rw[e1,e2,u8_or_nat _ _ (Po _ (by omega)) (Po _ (by omega)),IG z k s r h hz]
theorem xf{B p g cap t len k m m1 n x:Nat}{w wc:World}{L:List Nat}{y:Int}
 (h0:len=(L++ah (x/2^m) (n-m)).length) (ht:(aK ((L++ah (x/2^m) (n-m)).take (8*(len/8)))).length=t)
 (hb:Blk wc p 134 #[.bool true,.slice (some ⟨g,0,none⟩) (t+1) cap,.int .i64 len])
 (hr:wc.ownsRow B 5 1 (.slice (some ⟨g,0,none⟩) (t+1) cap) (t+1) ((aK ((L++ah (x/2^m) (n-m)).take (8*(len/8)))++ [UInt8.ofNat (val ((L++ah (x/2^m) (n-m)).drop (8*(len/8)))*2^(8-len%8))]).map bv))
 (h8:B<=p) (he:B<=g) (hS:ak B [p] [5] w wc) (h6:au L) (hk:0<k) (hq:k<=8-len%8) (hm:m=m1+k) (hs:m<=n) (h9:m1=0\/k=8-len%8) (hc:g≠p)
 (hy:y=((val ((L++ah (x/2^m) (n-m)).drop (8*(len/8)))*2^(8-len%8)%256 ||| (x/2^m1)%2^k*2^(8-len%8-k):Nat):Int)):
 let W:=((wc.setCell ⟨g,t,none⟩ (.int .u8 y)).setCell ⟨p,2,none⟩ (.int .i64 (len+k))).drew
 (∃ v',IsW B W p v' (L++ah (x/2^m1) (n-m1)))/\ak B [p] [5] w W/\(m1=0\/(L.length+(n-m1))%8=0\/x/2^m1=0):=by
 intro W
 have h7:ah (x/2^m1) (n-m1)=ah (x/2^m) (n-m)++ah (x/2^m1) k:=by
  rw[show n-m1=(n-m)+k by omega,jr,O0,<-Pw,<-hm]
 have h5:=GI (L++ah (x/2^m) (n-m)) (ah (x/2^m1) k) (by rw[af];exact hk) (by rw[<- h0,af];omega) (aQ _ _)
 rw[Ni,<-h7,<-h0,eG,af]at h5
 have hR:val ((L++ah (x/2^m) (n-m)).drop (8*(len/8)))*2^(8-len%8)<256:=by
  have h1:=gH _ ((h6.append (aQ (n-m) (x/2^m))).drop (8*(len/8)))
  rw[Ny,<-h0,show len-8*(len/8)=len%8 by omega]at h1
  have h2:(256:Nat)=2^(len%8)*2^(8-len%8):=by rw[<- Pw,show len%8+(8-len%8)=8 by omega]
  rw[h2]
  exact OV h1 (OE _)
 rw[NL hR]at hy
 generalize val ((L++ah (x/2^m) (n-m)).drop (8*(len/8)))*2^(8-len%8)=R at*
 generalize hpre:aK ((L++ah (x/2^m) (n-m)).take (8*(len/8)))=pre at*
 generalize hM:(x/2^m1)%2^k*2^(8-len%8-k)=M at*
 have hf:M<256:=by
  have h1:(x/2^m1)%2^k<2^k:=Po _ (OE _)
  have h2:M<2^k*2^(8-len%8-k):=by rw[<- hM];exact OV h1 (OE _)
  rw[<- Pw]at h2
  have h3:2^(k+(8-len%8-k))<=2^8:=Od (by omega) (by omega)
  omega
 have h4:(L++ah (x/2^m1) (n-m1)).length=len+k:=by
  rw[h0,Nb,Nb,af,af];omega
 obtain⟨hn,hp⟩:=hr.stored t (.int .u8 y)
 have hi:Blk (wc.setCell ⟨g,t,none⟩ (.int .u8 y)) p 134 #[.bool true,.slice (some ⟨g,0,none⟩) (t+1) cap,.int .i64 len]:=
  (OK wc ⟨g,t,none⟩ _ p (fun e=>hc e.symm)).trans hb
 have hl:=ay hi 2 (.int .i64 ((len:Int)+k))
 have hg:ak B [p] [5] w (wc.setCell ⟨g,t,none⟩ (.int .u8 y)):=by
  obtain⟨_,cs,t',fr,hh,ho⟩:=kK hr g rfl
  exact hS.setT he hh ho _
 refine⟨⟨.slice (some ⟨g,0,none⟩) (t+1) cap,h8,?_,?_,h6.append (aQ _ _)⟩,(hg.set h8 (by simp) _).drew,?_⟩
 ·show Blk (((wc.setCell ⟨g,t,none⟩ (.int .u8 y)).setCell ⟨p,2,none⟩ (.int .i64 (len+k))).drew) p 134 _
  rw[h4]
  have:(((len+k:Nat):Int))=(len:Int)+k:=by omega
  rw[this]
  exact hl
 ·have hx:ak B [p] [] (wc.setCell ⟨g,t,none⟩ (.int .u8 y)) (((wc.setCell ⟨g,t,none⟩ (.int .u8 y)).setCell ⟨p,2,none⟩ (.int .i64 (len+k))).drew):=((ak.refl B [p] [] _).set h8 (by simp) _).drew
  have h3:=hx.row hn (fun j hj=>by simp[Value.ownBlock]at hj;subst hj;simpa using hc) (by simp)
  rw[h5,Nb,NP,ht]
  have ha:((pre++ [UInt8.ofNat R]).map bv).set t (.int .u8 y)=(pre++ [UInt8.ofNat (R ||| M)]).map bv:=by
   rw[Nz,Nz,List.set_append,Nd (by simp[ht]),Nu,ht,Oz]
   simp[bv,hy,NL hR,NL hf]
  rw[ha]at h3
  exact h3
 ·rcases h9 with h|h
  ·exact .inl h
  ·right;left
   rw[h0,Nb,af]at h
   omega
theorem AM{L:List Nat}{x n m m1 k len:Nat}(hz:m=0\/(L.length+(n-m))%8=0\/x/2^m=0)(h0:0<m)(hm:m=m1+k)(h1:len=(L++ah (x/2^m) (n-m)).length):len%8=0\/x/2^m1<2^k:=by
 rcases hz with h9|h9|h9;·omega
 ·left;rw[h1,Nb,af];exact h9
 ·right;rw[hm,Pw,<-O0]at h9;exact(Nat.div_eq_zero_iff_lt (OE k)).1 h9
theorem MO(R x len m:Nat)(hk:m<=8-len%8)(hz:len%8=0\/x/2^0<2^m):
 bits .or .u8 ((R:Int)*2^(8-len%8)%256) ((x:Int)%256*2^(8-len%8-m)%256)=((R*2^(8-len%8)%256 ||| (x/2^0)%2^m*2^(8-len%8-m):Nat):Int):=by rw[Q1,RC]at*;exact ED R x (len%8) m _ (by omega) hz
theorem MN(R x len m1:Nat)(hz:len%8=0\/x/2^m1<2^(8-len%8)):
 bits .or .u8 ((R:Int)*2^(8-len%8)%256) ((x:Int)/2^m1%256)=((R*2^(8-len%8)%256 ||| (x/2^m1)%2^(8-len%8)*2^(8-len%8-(8-len%8)):Nat):Int):=by have h:=ED R (x/2^m1) (len%8) (8-len%8) (8-len%8-(8-len%8)) (by omega) hz;rw[<- h,Oz];simp
theorem fU(B:Nat)(w:World)(p:Nat)(v:Value)(L:List Nat)(x n:Nat)(hW:IsW B w p v L)(hL:L.length<=1000000000000)(hn:n<=64)(hx:x<2^n):
 Calls prog 45 #[.pointer (some ⟨p,0,none⟩),.int .u64 x,.int .i64 n] w fun e w'=>e=.returned (.int .i64 0)/\∃v',IsW B w' p v' (L++ah x n)/\ak B [p] [5] w w':=by
 have hd:((x:Int)/2^n != 0)=false:=by have h2:((x/2^n:Nat):Int)=(x:Int)/2^n:=(by simp);rw[<- h2,Ry hx];rfl
 have h0:=ac hW.blk 0;simp at h0;go_enter func45,ntmps45;go_wp2_with (go_at_call 91;refine(oZ _ _ h0).mono ?_;rintro e w' ⟨rfl,rfl⟩)
 go_loopw [2] (fun i wr=>∃(m:Nat) (v':Value),m<=n/\i=.int .i64 m/\IsW B wr p v' (L++ah (x/2^m) (n-m))/\ak B [p] [5] w wr/\(m=0\/(L.length+(n-m))%8=0\/x/2^m=0)) (fun i _=>(intOf i).toNat)
 case atStart=>refine⟨n,v,Nk _,rfl,?_,ak.refl _ _ _ _,.inr (.inr (Ry hx))⟩;rw[Oz,show ah (x/2^n) 0= []from rfl,NU];exact hW
 case round=>
  clear h0 hd;obtain⟨m,v',hm,rfl,h4,hS,hz⟩:=hrel;have HZ:=aa hz;clear hz;obtain⟨len,h6⟩:∃len,len=(L++ah (x/2^m) (n-m)).length:=⟨_,rfl⟩;have hl:len<=L.length+64:=by rw[h6,Nb,af];omega
  have c1:=ac h4.blk 1;have c2:=ac h4.blk 2;have f2:=ae h4.blk 2;rw[<- h6]at c2;simp at c1 c2;have h7:Blk wr p 134 #[.bool true,v',.int .i64 len]:=by rw[h6];exact h4.blk
  have HL:=aa h6;clear h6;obtain⟨t,ht⟩:∃t,(aK ((L++ah (x/2^m) (n-m)).take (8*(len/8)))).length=t:=⟨_,rfl⟩;have HT:=aa ht;clear ht;have htl:8*t<=len:=by rw[<- HT.out,ee,NB,<-HL.out];omega
  by_cases h:0<m
  ·(go_upto_if 33 with fail);(go_cut []from 24 to 80 (fun wx=>Mid B w wx p len t (aK ((L++ah (x/2^m) (n-m)).take (8*(len/8)))) (UInt8.ofNat (val ((L++ah (x/2^m) (n-m)).drop (8*(len/8)))*2^(8-len%8)))));case first=>
    obtain⟨i5,hi,hv,hw,hy⟩:=N4 Tryz.info5;by_cases h8:len%8=0
    ·have hq:((8-(len:Int)%8)==8)=true:=(by rw[Pn];omega);have H8:=aa h8;clear h8;(go_wp2_with (at_builtin;refine N5 _ rfl _ _ 69 rfl B 5 i5 (.int .u8 0) 1 1 underlying69 hi hv hw hy rfl (by decide) _ _ _ rfl (h4.row.alloc _) ⟨wr.heap.size,0,none⟩ 1 1 [.int .u8 0] rfl rfl ?c1 ?c2 ?c3 ?c4 ?c5 ?_));case c1=>exact Q2 _ _ _
     case c2=>intro u hu;simp at hu;subst hu;rfl
     case c3=>rw[ee,<-HL.out];unfold maxLen;omega
     case c4=>rw[ee,<-HL.out];omega
     case c5=>have:=aA h4.blk;have:=h4.lo;simp;omega
     intro v1 w1 h9 h5 _;have hc:=GG _ (by rw[<- HL.out];exact H8.out:(L++ah (x/2^m) (n-m)).length%8=0);rw[<- HL.out]at hc;have ho:=LF (t:=t) (by rw[<- hc.1];exact HT.out) h7 h4.lo h4.row hS h9 h5;have HM:Hid (_/\_):=aa hc;clear hc;have hj:=qM h7 h4.row (by decide) h5;have d1:=ac hj 1;have e1:=ae hj 1;simp at d1;obtain⟨g1,cap1,hf,hB⟩:=uU h9;rw[hf]at ho |-;have hA:=aa hf;clear hf;go_wp2;go_meet;case rel=>rw[HM.out.1,HM.out.2];exact ho
    ·have hq:((8-(len:Int)%8)==8)=false:=(by rw[NC];omega);have H8:=aa h8;clear h8;go_wp2;go_meet;case rel=>exact JO (by have:=GH _ (by rw[<- HL.out];exact H8.out);rw[<- HL.out]at this;exact this) HT.out h7 h4.row hS
   case rest=>
    obtain⟨g,cap,hb,hr,hg,hh⟩:=hcut;clear c1 c2 f2 h7 h4;have c0:=ac hb 0;have c1:=ac hb 1;have c2:=ac hb 2;have f2:=ae hb 2;simp at c0 c1 c2;have r1:=hr.cellAt t (by omega);have r2:=hr.frozenAt t;rw[Nz,NO (by rw[Nu,HT.out];exact Nk _)]at r1;rw[Nu,HT.out,Oz]at r1;simp[bv]at r1;have he:g≠p:=dV hr hb (by decide) g rfl;have hs:p≠g:=fun e=>he e.symm;by_cases ha:m<=8-len%8
    ·go_upto_region 10 with fail;go_region;go_wp2;go_roundw;case rel=>obtain⟨⟨v2,h1⟩,h2,h3⟩:=xf (m1:=0) (k:=m) HL.out HT.out hb hr hW.lo hg hh hW.bit h (by omega) (by omega) hm (.inl rfl) he (MO _ x len m ha (AM HZ.out h (by omega) HL.out));exact⟨0,v2,Ng _,rfl,h1,h2,h3⟩
     case measure=>simp[intOf];omega
    ·have hp:8-len%8<m:=(by omega);clear ha;go_upto_region 10 with fail;go_region;go_wp2;go_roundw;case rel=>obtain⟨⟨v2,h1⟩,h2,h3⟩:=xf (m1:=m-(8-len%8)) (k:=8-len%8) HL.out HT.out hb hr hW.lo hg hh hW.bit (by omega) (by omega) (by omega) hm (.inr rfl) he (MN _ x len _ (AM HZ.out h (by omega) HL.out));have hk:(((8-len%8:Nat):Int))=8-(len:Int)%8:=(by omega);rw[hk]at h1 h2;exact⟨m-(8-len%8),v2,by omega,by congr 1;omega,h1,h2,h3⟩
     case measure=>simp[intOf];omega
  ·obtain rfl:m=0:=(by omega);rw[Q1,RC,QF]at h4;go_wp2;go_ret;exact⟨rfl,⟨v',h4⟩,hS⟩
def qF(B:Nat)(w:World)(p:Nat)(s:ByteArray)(n k:Nat)(x r:Nat)(e:Ending)(w':World):Prop:=
 e=.returned (.tuple #[.int .i64 x,.int .i64 r])/\IsR B w' p s (n+k)/\ak B [p] [] w w'
theorem uC{l r:List Nat}{n c j:Nat}(h:l.drop n=List.replicate c 1++r)(hj:j<c):l.getD (n+j) 0=1:=by have h1:l[n+j]? =(l.drop n)[j]? :=(by rw[O3]);rw[Na,h1,h,NW (by simpa using hj),OP,Nf hj];rfl
theorem BZ{l r:List Nat}{n c:Nat}(h:l.drop n=List.replicate c 1++0::r):l.getD (n+c) 0=0/\n+c<l.length:=by have h1:l[n+c]? =(l.drop n)[c]? :=(by rw[O3]);have h2:=congrArg List.length h;simp at h2;refine⟨?_,by omega⟩;rw[Na,h1,h,NO (by simp)];simp
theorem KR(B:Nat)(w:World)(p:Nat)(s:ByteArray)(n c most:Nat)(r:List Nat)(hR:IsR B w p s n)(hs:s.size<=281474976710656)(hm:(most:Int)<=9223372036854775807)(hc:c<=most)(h0:(ao s.data.toList).drop n=List.replicate c 1++0::r):
 Calls prog 167 #[.pointer (some ⟨p,0,none⟩),.int .i64 most] w (qF B w p s n (c+1) c 0):=by
 have c0:=ac hR.blk 0;simp at c0;have hz:=BZ h0;rw[aC]at hz;have hb:n+c<8*s.size:=by have:=hz.2;simpa using this
 have HZ:=aa hz.1;clear hz;have h8:=aa h0;clear h0;go_enter func167,ntmps167;go_wp2_with (first|(go_at_call 75;refine(it _ _ c0).mono ?_;rintro e w' ⟨rfl,rfl⟩)|(go_at_call 122;refine(lf _ _ s n hR.blk).mono ?_;rintro e w1 ⟨ba,bt,he,ha,ht,h4,hf,h9⟩;unfold wX at he;subst he))
 go_loopw [7] (fun i wr=>∃j:Nat,j<=c/\i=.int .i64 j/\Blk wr ba 3 #[.int .i64 (n+j:Nat)]/\Blk wr bt 9 #[.string s]/\ak w.heap.size [] [] w wr) (fun i _=>c-(intOf i).toNat)
 case atStart=>exact⟨0,Ng _,rfl,ha,ht,h9⟩
 case round=>
  obtain⟨j,hj,rfl,h2,h1,hS⟩:=hrel;have hn:=nd wr ba bt s (n+j) h2 h1 hs (by omega);by_cases h:j<c
  ·rw[uC h8.out h]at hn;have HN:=aa hn;clear hn;have hg:((j:Int)==(most:Int))=false:=(by rw[NC];omega);(go_wp2_with (go_at_call 166;refine HN.out.mono ?_;rintro e w2 ⟨rfl,h7,h3⟩));go_roundw;case rel=>refine⟨j+1,h,rfl,h7,h3.blk h1 ?_ (by simp),hS.after h3 h4 (fun i hi=>by simp at hi;subst hi;exact .inr h4) (by simp)⟩;intro hm;simp at hm;subst hm;unfold Blk at h2 h1;rw[h2]at h1;simp at h1
   case measure=>simp[intOf];omega
  ·obtain rfl:j=c:=(by omega);rw[HZ.out]at hn;have HN:=aa hn;clear hn;have h6:p∉ [ba]:=(by have:=aA hR.blk;simp;omega);(go_wp2_with (go_at_call 166;refine HN.out.mono ?_;rintro e w2 ⟨rfl,h7,h3⟩;have h5:=h3.blk (hS.blk hR.blk (by simp) (by simp)) h6 (by simp);have c2:=ac h5 2;have f2:=ae h5 2;simp at c2));go_ret2;refine⟨rfl,⟨hR.lo,?_⟩,?_⟩;·exact ay h5 2 _
   ·exact(((hS.after h3 h4 (fun i hi=>by simp at hi;subst hi;exact .inr h4) (by simp)).mono (ND hR.lo (NT (aA hR.blk))) (by simp) (by simp)).set (p:=⟨p,2,none⟩) hR.lo (List.mem_singleton.2 rfl) _)
theorem BU(B:Nat)(w:World)(p:Nat)(s:ByteArray)(n c most:Nat)(hR:IsR B w p s n)(hf:n<=8*s.size)(hs:s.size<=281474976710656)(hm:(most:Int)<=9223372036854775807)(hc:c<=most)(h1:(ao s.data.toList).drop n=List.replicate c 1):
 Calls prog 167 #[.pointer (some ⟨p,0,none⟩),.int .i64 most] w (qF B w p s n 0 0 10):=by
 have c0:=ac hR.blk 0;simp at c0;have h3:n+c=8*s.size:=by have:=congrArg List.length h1;rw[Ny,aC,NA]at this;simp at this;omega
 have HL:=aa h3;clear h3;have h6:=aa h1;clear h1;go_enter func167,ntmps167;go_wp2_with (first|(go_at_call 75;refine(it _ _ c0).mono ?_;rintro e w' ⟨rfl,rfl⟩)|(go_at_call 122;refine(lf _ _ s n hR.blk).mono ?_;rintro e w1 ⟨ba,bt,he,ha,ht,h5,h9,h7⟩;unfold wX at he;subst he))
 go_loopw [7] (fun i wr=>∃j:Nat,j<=c/\i=.int .i64 j/\Blk wr ba 3 #[.int .i64 (n+j:Nat)]/\Blk wr bt 9 #[.string s]/\ak w.heap.size [] [] w wr) (fun i _=>c-(intOf i).toNat)
 case atStart=>exact⟨0,Ng _,rfl,ha,ht,h7⟩
 case round=>
  obtain⟨j,hj,rfl,h2,h0,hS⟩:=hrel;by_cases h:j<c
  ·have hn:=nd wr ba bt s (n+j) h2 h0 hs (by have:=HL.out;omega);rw[uC (r:= []) (by rw[NU];exact h6.out) h]at hn;have HN:=aa hn;clear hn;have hb:((j:Int)==(most:Int))=false:=(by rw[NC];omega);(go_wp2_with (go_at_call 166;refine HN.out.mono ?_;rintro e w2 ⟨rfl,h8,h4⟩));go_roundw;case rel=>refine⟨j+1,h,rfl,h8,h4.blk h0 ?_ (by simp),hS.after h4 h5 (fun i hi=>by simp at hi;subst hi;exact .inr h5) (by simp)⟩;intro hm;simp at hm;subst hm;unfold Blk at h2 h0;rw[h2]at h0;simp at h0
   case measure=>simp[intOf];omega
  ·have hn:=EB wr ba bt s (n+j) h2 h0 hs (by have:=HL.out;omega);have HN:=aa hn;clear hn;(go_wp2_with (go_at_call 166;refine HN.out.mono ?_;rintro e w2 ⟨rfl,rfl⟩));go_ret2;exact⟨rfl,⟨hR.lo,hS.blk hR.blk (by simp) (by simp)⟩,hS.mono (ND hR.lo (NT (aA hR.blk))) (by simp) (by simp)⟩
theorem Ij(B:Nat)(w:World)(p:Nat)(s:ByteArray)(n most:Nat)(r:List Nat)(hR:IsR B w p s n)(hs:s.size<=281474976710656)(hm:(most:Int)<=9223372036854775807)(h0:(ao s.data.toList).drop n=List.replicate (most+1) 1++r):
 Calls prog 167 #[.pointer (some ⟨p,0,none⟩),.int .i64 most] w (qF B w p s n 0 0 3):=by
 have c0:=ac hR.blk 0;simp at c0;have h9:n+most<8*s.size:=by have:=congrArg List.length h0;rw[Ny,aC,Nb,NA]at this;simp at this;omega
 have h7:=aa h0;clear h0;go_enter func167,ntmps167;go_wp2_with (first|(go_at_call 75;refine(it _ _ c0).mono ?_;rintro e w' ⟨rfl,rfl⟩)|(go_at_call 122;refine(lf _ _ s n hR.blk).mono ?_;rintro e w1 ⟨ba,bt,he,ha,ht,h4,hc,h8⟩;unfold wX at he;subst he))
 go_loopw [7] (fun i wr=>∃j:Nat,j<=most/\i=.int .i64 j/\Blk wr ba 3 #[.int .i64 (n+j:Nat)]/\Blk wr bt 9 #[.string s]/\ak w.heap.size [] [] w wr) (fun i _=>most-(intOf i).toNat)
 case atStart=>exact⟨0,Ng _,rfl,ha,ht,h8⟩
 case round=>
  obtain⟨j,hj,rfl,h2,h1,hS⟩:=hrel;have hn:=nd wr ba bt s (n+j) h2 h1 hs (by omega);rw[uC h7.out (by omega)]at hn;have HN:=aa hn;clear hn;by_cases h:j<most
  ·have hf:((j:Int)==(most:Int))=false:=(by rw[NC];omega);(go_wp2_with (go_at_call 166;refine HN.out.mono ?_;rintro e w2 ⟨rfl,h6,h3⟩));go_roundw;case rel=>refine⟨j+1,h,rfl,h6,h3.blk h1 ?_ (by simp),hS.after h3 h4 (fun i hi=>by simp at hi;subst hi;exact .inr h4) (by simp)⟩;intro hm;simp at hm;subst hm;unfold Blk at h2 h1;rw[h2]at h1;simp at h1
   case measure=>simp[intOf];omega
  ·obtain rfl:j=most:=(by omega);have hb:p∉ [ba]:=(by have:=aA hR.blk;simp;omega);(go_wp2_with (go_at_call 166;refine HN.out.mono ?_;rintro e w2 ⟨rfl,h6,h3⟩));go_ret2;have h5:=hS.after h3 h4 (fun i hi=>by simp at hi;subst hi;exact .inr h4) (by simp);exact⟨rfl,⟨hR.lo,h5.blk hR.blk (by simp) (by simp)⟩,h5.mono (ND hR.lo (NT (aA hR.blk))) (by simp) (by simp)⟩
theorem BV(most:Nat):∀l:List Nat,au l->(∃ c r,c<=most/\l=List.replicate c 1++0::r)\/(∃ c,c<=most/\l=List.replicate c 1)\/(∃ r,l=List.replicate (most+1) 1++r):=by
 induction most with
 | zero=>
  intro l hb
  match l with
  | []=>exact .inr (.inl ⟨0,Nk _,rfl⟩)
  | b::l=>
   have:=hb b (by simp);by_cases h:b=0;·subst h;exact .inl ⟨0,l,Nk _,rfl⟩
   ·obtain rfl:b=1:=(by omega);exact .inr (.inr ⟨l,rfl⟩)
 | succ most ih=>
  intro l hb
  match l with
  | []=>exact .inr (.inl ⟨0,Ng _,rfl⟩)
  | b::l=>
   have:=hb b (by simp);by_cases h:b=0;·subst h;exact .inl ⟨0,l,Ng _,rfl⟩
   ·obtain rfl:b=1:=(by omega);rcases ih l (fun x hx=>hb x (by simp[hx]))with⟨c,r,hc,rfl⟩|⟨c,hc,rfl⟩|⟨r,rfl⟩;·exact .inl ⟨c+1,r,by omega,by simp[Pb]⟩
    ·exact .inr (.inl ⟨c+1,by omega,by simp[Pb]⟩)
    ·exact .inr (.inr ⟨r,by rw[Pb (n:=most+1)];rfl⟩)
