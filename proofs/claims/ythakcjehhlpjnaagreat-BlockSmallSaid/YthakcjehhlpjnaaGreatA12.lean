import Derived.Test.YthakcjehhlpjnaaGreatA11
set_option maxHeartbeats 800000
set_option maxRecDepth 100000
namespace Go.Proofs.YthakcjehhlpjnaaGreat
open Go.RowKit
theorem IsW.c0{B:Nat}{w:World}{p:Nat}{v:Value}{L:List Nat}(h:IsW B w p v L):w.cell? ⟨p,0,none⟩=some (.bool true):=ac h.blk 0
theorem IsW.c2{B:Nat}{w:World}{p:Nat}{v:Value}{L:List Nat}(h:IsW B w p v L):w.cell? ⟨p,2,none⟩=some (.int .i64 L.length):=ac h.blk 2
theorem IW{B:Nat}{w:World}{p:Nat}{v:Value}{L:List Nat}(h:IsW B w p v L):Calls Tryz.prog 64 #[.pointer (some ⟨p,0,none⟩)] w fun e w'=>e=.returned (.int .i64 L.length)∧w=w':=
 jQ w p _ h.c0 h.c2
theorem IsW.drew{B:Nat}{w:World}{p:Nat}{v:Value}{L:List Nat}(h:IsW B w p v L):IsW B w.drew p v L:=⟨h.lo,h.blk,h.row,h.bit⟩
def Ho(w:World)(B:Nat)(A:Option Addr)(n:Nat)(X Y:Nat→Value):Prop:=
 0<n→∃b off,A=some ⟨b,off,none⟩∧b<B∧∀i,i<n→w.cell? ⟨b,off+i*2,none⟩=some (X i)∧w.cell? ⟨b,off+i*2+1,none⟩=some (Y i)
def nj(s:ByteArray)(n:Int):Bool:=
 decide (0≤n∧n≤8*(s.size:Int)∧8*(s.size:Int)<n+8)&&((ak s.data.toList).drop n.toNat).all (· ==0)
theorem lU{s:ByteArray}{k:Nat}:nj s k=true↔(k≤8*s.size∧8*s.size<k+8∧((ak s.data.toList).drop k).all (· ==0)=true):=by
 unfold nj
 rw[Bool.and_eq_true,decide_eq_true_iff,Int.toNat_natCast]
 constructor
 ·rintro⟨⟨_,h1,h2⟩,h3⟩
  exact⟨by omega,by omega,h3⟩
 ·rintro⟨h1,h2,h3⟩
  exact⟨⟨by omega,by omega,by omega⟩,h3⟩
theorem GH{s:ByteArray}{n:Int}(h:nj s n=true):∃k:Nat,n=k∧k≤8*s.size:=by
 unfold nj at h
 rw[Bool.and_eq_true,decide_eq_true_iff]at h
 exact⟨n.toNat,by omega,by omega⟩
theorem GY(s:ByteArray)(n:Int)(h:n<0):nj s n=false:=by
 unfold nj
 have:decide (0≤n∧n≤8*(s.size:Int)∧8*(s.size:Int)<n+8)=false:=by rw[decide_eq_false_iff_not];omega
 rw[this,Bool.false_and]
theorem BM(s:ByteArray)(k:Nat)(h:k % 8=0):nj s k=decide (s.size=k / 8):=by
 rw[Bool.eq_iff_iff,lU,decide_eq_true_iff]
 constructor
 ·rintro⟨h1,h2,_⟩
  omega
 ·intro h1
  refine⟨by omega,by omega,?_⟩
  have hl:(ak s.data.toList).length=8*s.size:=by rw[ax];rfl
  rw[List.drop_of_length_le (by rw[hl];omega)]
  rfl
theorem xZ(s:ByteArray)(k:Nat)(h:k % 8≠0)(h1:s.size≠k / 8+1):nj s k=false:=by
 rw[Bool.eq_false_iff]
 intro h2
 have:=lU.1 h2
 omega
theorem Cb(v m:Nat):(aj v m).all (· ==0)=true↔v % 2 ^ m=0:=by
 constructor
 ·intro h
  have h1:aj v m=List.replicate m 0:=by
   rw[List.eq_replicate_iff]
   refine⟨af m v,fun b hb=> ?_⟩
   have:=List.all_eq_true.1 h b hb
   simpa using this
  rw[← dD,h1,←rB,dD,Nat.zero_mod]
 ·intro h
  have h1:=fP (aj v m) (aJ m v)
  rw[af,dD,h,rB]at h1
  rw[← h1]
  simp
theorem G4(c r:Nat)(hr:r≤8):c*2 ^ r % 256=0↔c % 2 ^ (8 - r)=0:=by
 have e:256=2 ^ (8 - r)*2 ^ r:=by rw[← Nat.pow_add,show 8 - r+r=8 by omega]
 conv=>lhs;lhs;rhs;rw[e]
 rw[Nat.mul_mod_mul_right]
 constructor
 ·intro h
  rcases Nat.mul_eq_zero.1 h with h | h
  ·exact h
  ·have:=Nat.two_pow_pos r;omega
 ·intro h
  rw[h,Nat.zero_mul]
theorem Fy(s:ByteArray)(k:Nat)(h:k % 8≠0)(h1:s.size=k / 8+1)(h5:k / 8<s.size):nj s k=decide (s[k / 8].toNat*2 ^ (k % 8) % 256=0):=by
 rw[Bool.eq_iff_iff,lU,decide_eq_true_iff,G4 _ _ (by omega),←Cb]
 have hd:(ak s.data.toList).drop k=aj s[k / 8].toNat (8 - k % 8):=by
  have hl:s.data.toList.length=k / 8+1:=by rw[← h1];rfl
  have h4:k / 8<s.data.toList.length:=by omega
  have e:s.data.toList=s.data.toList.take (k / 8)++ [s[k / 8]]:=by
   have e1:=List.take_succ_eq_append_getElem h4
   rw[List.take_of_length_le (by omega)]at e1
   exact e1
  have h0:(ak (s.data.toList.take (k / 8))).length=8*(k / 8):=by rw[ax,List.length_take];omega
  have h2:aj s[k / 8].toNat 8=aj (s[k / 8].toNat / 2 ^ (8 - k % 8)) (k % 8)++aj s[k / 8].toNat (8 - k % 8):=by
   rw[← ik,show k % 8+(8 - k % 8)=8 by omega]
  conv=>lhs;rw[e]
  rw[em,dS,tX,List.append_nil]
  conv=>lhs;lhs;rw[show k=8*(k / 8)+k % 8 by omega]
  rw[← List.drop_drop,List.drop_left' h0,h2,List.drop_left' (af _ _)]
 rw[hd]
 constructor
 ·rintro⟨_,_,h3⟩
  exact h3
 ·intro h3
  exact⟨by omega,by omega,h3⟩
def fZ(T:Nat→ByteArray)(K:Nat→Int):Nat→List Nat
 | 0=> []
 | i+1=>fZ T K i++(ak (T i).data.toList).take (K i).toNat
def sy(T:Nat→ByteArray):Nat→Nat
 | 0=>0
 | i+1=>sy T i+(T i).size
theorem uY(T:Nat→ByteArray)(K:Nat→Int)(i:Nat):(fZ T K i).length≤8*sy T i:=by
 induction i with
 | zero=>simp[fZ]
 | succ i ih=>
   have hl:(ak (T i).data.toList).length=8*(T i).size:=by rw[ax];rfl
   rw[fZ,sy,List.length_append,List.length_take]
   omega
theorem CL(T:Nat→ByteArray){i j:Nat}(h:i≤j):sy T i≤sy T j:=by
 induction h with
 | refl=>exact Nat.le_refl _
 | step _ ih=>exact Nat.le_trans ih (by rw[sy];omega)
theorem sP(l:List Nat)(a i k:Nat):(l.drop a).take (i+k)=(l.drop a).take i++(l.drop (a+i)).take k:=by
 rw[List.take_add,List.drop_drop]
theorem rm(l:List Nat)(a k:Nat)(hb:aw l)(h:a+k≤l.length):aj (val ((l.drop a).take k)) k=(l.drop a).take k:=by
 have h1:=fP ((l.drop a).take k) ((hb.drop a).take k)
 rwa [List.length_take,List.length_drop,Nat.min_eq_left (by omega)]at h1
def BE(B:Nat)(w:World)(p q:Nat)(L:List Nat)(s:ByteArray)(a m:Nat)(e:Ending)(w':World):Prop:=
 e=.returned (.tuple #[])∧(∃ v',IsW B w' p v' (L++((ak s.data.toList).drop a).take m))∧IsR B w' q s (a+m)∧ai B [p,q] [5] w w'
theorem EZ(B:Nat)(w:World)(p q:Nat)(v:Value)(L:List Nat)(s:ByteArray)(a m:Nat)(hW:IsW B w p v L)(hR:IsR B w q s a)(hs:s.size≤281474976710656)(hh:a+m≤8*s.size)(hL:L.length+m≤1000000000000):
 Calls Tryz.prog 72 #[.pointer (some ⟨p,0,none⟩),.pointer (some ⟨q,0,none⟩),.int .i64 m] w (BE B w p q L s a m):=by
 have hf:(ak s.data.toList).length=8*s.size:=by rw[ax];rfl
 have he:=aa hf
 clear hf
 go_enter Tryz.func72,Tryz.ntmps72
 go_wp2
 go_loopw [2] (fun i wr=>∃(r:Nat) (v':Value),r≤m∧i=.int .i64 r∧IsW B wr p v' (L++((ak s.data.toList).drop a).take (m - r))∧IsR B wr q s (a+(m - r))∧ai B [p,q] [5] w wr) (fun i _=>(intOf i).toNat)
 case atStart=>exact⟨m,v,Nat.le_refl _,rfl,by simpa using hW,by simpa using hR,ai.refl _ _ _ _⟩
 case round=>
  obtain⟨r,v',hr,rfl,h8,h0,hS⟩:=hrel
  have h7:(L++((ak s.data.toList).drop a).take (m - r)).length≤1000000000000:=by
   rw[List.length_append,List.length_take];omega
  by_cases h:0<r
  ·by_cases h9:r≤64
   ·have hT:=fV B wr q s (a+(m - r)) r h0 hs h9 (by omega)
    have hx:val (((ak s.data.toList).drop (a+(m - r))).take r)<2 ^ r:=eY _ _ _ _ (aS _) (ah _)
    have h6:=rm (ak s.data.toList) (a+(m - r)) r (aS _) (by rw[he.out];omega)
    generalize val (((ak s.data.toList).drop (a+(m - r))).take r)=x at*
    have HT:=aa hT
    have HB:=aa h6
    clear hT h6
    go_wp2_with fail
    refine HT.out.mono ?_
    rintro e w2 ⟨rfl,ha,h2⟩
    have h4:=h8.take h0 h2
    go_wp2_with fail
    refine(eS _ _ _ _ _ _ _ h4 h7 h9 hx).mono ?_
    rintro e w3 ⟨rfl,v3,h5,h3⟩
    have h1:=ha.put h4 h3
    have hb:=(hS.trans (h2.mono (ah _) (by simp) (by simp))).trans (h3.mono (ah _) (by simp) (by simp))
    rw[HB.out,List.append_assoc,←sP,show m - r+r=m - 0 by omega]at h5
    rw[Nat.add_assoc,show m - r+r=m - 0 by omega]at h1
    go_wp2_with fail
    go_roundw
    case rel=>exact⟨0,v3,Nat.zero_le _,rfl,h5,h1,hb⟩
    case measure=>simp[intOf];omega
   ·have hg:64<r:=by omega
    have hT:=fV B wr q s (a+(m - r)) 64 h0 hs (ah _) (by omega)
    have hx:val (((ak s.data.toList).drop (a+(m - r))).take 64)<2 ^ 64:=eY _ _ _ _ (aS _) (ah _)
    have h6:=rm (ak s.data.toList) (a+(m - r)) 64 (aS _) (by rw[he.out];omega)
    generalize val (((ak s.data.toList).drop (a+(m - r))).take 64)=x at*
    have HT:Hid (Calls Tryz.prog 84 #[.pointer (some ⟨q,0,none⟩),.int .i64 64] wr (iR B wr q s (a+(m - r)) 64 x 0)):=aa hT
    have HB:=aa h6
    clear hT h6 h9
    go_wp2_with fail
    refine HT.out.mono ?_
    rintro e w2 ⟨rfl,ha,h2⟩
    have h4:=h8.take h0 h2
    have hP:Calls Tryz.prog 61 #[.pointer (some ⟨p,0,none⟩),.int .u64 x,.int .i64 64] w2 _:=eS _ _ _ _ _ _ 64 h4 h7 (ah _) hx
    have HP:=aa hP
    clear hP
    go_wp2_with fail
    refine HP.out.mono ?_
    rintro e w3 ⟨rfl,v3,h5,h3⟩
    have h1:=ha.put h4 h3
    have hb:=(hS.trans (h2.mono (ah _) (by simp) (by simp))).trans (h3.mono (ah _) (by simp) (by simp))
    rw[HB.out,List.append_assoc,←sP,show m - r+64=m - (r - 64) by omega]at h5
    rw[Nat.add_assoc,show m - r+64=m - (r - 64) by omega]at h1
    go_wp2_with fail
    go_roundw
    case rel=>
     have hc:((r - 64:Nat):Int)=(r:Int) - 64:=by omega
     exact⟨r - 64,v3,by omega,by rw[hc],h5,h1,hb⟩
    case measure=>simp[intOf];omega
  ·obtain rfl:r=0:=by omega
   rw[Nat.sub_zero]at h8 h0
   go_wp2
   go_end0
   exact⟨rfl,⟨v',h8⟩,h0,hS⟩
def nG(w:World)(t:List UInt8)(n r:Nat)(e:Ending)(w':World):Prop:=
 e=.returned (.tuple #[.agg #[.string ⟨t.toArray⟩,.int .i64 n],.int .i64 r])∧Below w.heap.size w w'
def Hp(w:World)(b:Bool)(e:Ending)(w':World):Prop:=e=.returned (.bool b)∧Below w.heap.size w w'
theorem F6(w:World)(s:ByteArray)(n:Int)(hs:s.size≤100000000)(hn: -9223372036854775808≤n∧n≤9223372036854775807):
 Calls Tryz.prog 71 #[.agg #[.string s,.int .i64 n]] w (Hp w (nj s n)):=by
 have h0:Below w.heap.size w (w.alloc (.cells #[.string s,.int .i64 n] 24)):=(Below.refl _ _).alloc (ah _) _
 by_cases h2:n<0
 ·rw[GY s n h2]
  go_enter Tryz.func71,Tryz.ntmps71
  go_wp2
  go_ret
  exact⟨rfl,h0⟩
 obtain⟨k,rfl⟩:=Int.eq_ofNat_of_zero_le (show 0≤n by omega)
 by_cases h8:k % 8=0
 ·have hb:((s.size:Int)==(k:Int) / 8)=nj s k:=by
   rw[BM s k h8,Bool.eq_iff_iff,beq_iff_eq,decide_eq_true_iff];omega
  have hd:((k:Int) % 8==0)=true:=by rw[beq_iff_eq];omega
  rw[← hb]
  have HB:=aa hb
  have H8:=aa h8
  clear hb h8
  go_enter Tryz.func71,Tryz.ntmps71
  go_wp2
  go_region
  go_wp2
  go_ret
  exact⟨rfl,by first | exact h0 | exact h0.drew⟩
 have hd:((k:Int) % 8==0)=false:=by rw[beq_eq_false_iff_ne];omega
 by_cases h1:s.size=k / 8+1
 ·have h3:k / 8<s.size:=by omega
  have hb:((s[k / 8].toNat:Int)*2 ^ (k % 8) % 256==0)=nj s k:=by
   rw[Fy s k h8 h1 h3,Bool.eq_iff_iff,beq_iff_eq,decide_eq_true_iff]
   have e:((s[k / 8].toNat:Int)*2 ^ (k % 8) % 256)=((s[k / 8].toNat*2 ^ (k % 8) % 256:Nat):Int):=by rw[Int.natCast_emod,Int.natCast_mul,Int.natCast_pow];rfl
   rw[e]
   omega
  have hq:((s.size:Int)==(k:Int) / 8+1)=true:=by rw[beq_iff_eq];omega
  have h4:0≤(k:Int) / 8:=by omega
  have h5:(k:Int) / 8<s.size:=by omega
  rw[← hb]
  have HB:=aa hb
  have H8:=aa h8
  have H1:=aa h1
  clear hb h8 h1
  go_enter Tryz.func71,Tryz.ntmps71
  go_wp2
  go_region
  go_wp2
  go_ret
  exact⟨rfl,by first | exact h0 | exact h0.drew⟩
 ·have hq:((s.size:Int)==(k:Int) / 8+1)=false:=by rw[beq_eq_false_iff_ne];omega
  rw[xZ s k h8 h1]
  have H8:=aa h8
  have H1:=aa h1
  clear h8 h1
  go_enter Tryz.func71,Tryz.ntmps71
  go_wp2
  go_region
  go_wp2
  go_ret
  exact⟨rfl,by first | exact h0 | exact h0.drew⟩
theorem GG(w:World)(A:Option Addr)(n c:Nat)(T:Nat→ByteArray)(K:Nat→Int)(hp:Ho w w.heap.size A n (fun i=>.string (T i)) (fun i=>.int .i64 (K i)))(hn:n≤maxLen)
 (hH:sy T n≤1000000000) (hl:∀i,i<n→(T i).size≤100000000) (hK:∀i,i<n→ -9223372036854775808≤K i∧K i≤9223372036854775807) (h4:∀i,i<n→nj (T i) (K i)=true):
 Calls Tryz.prog 24 #[.slice A n c] w (nG w (aG (fZ T K n)) (fZ T K n).length 0):=by
 unfold maxLen at hn
 go_enter Tryz.func24,Tryz.ntmps24
 go_wp2_with fail
 refine(BW _).mono ?_
 rintro e w1 ⟨rfl,h8⟩
 have hq:(World.alloc w (.cells #[.string ⟨#[]⟩,.int .i64 0] 24)).heap.size=w.heap.size+1:=by simp
 rw[hq]
 have hy:IsW w.heap.size w1 (w.heap.size+1) (.slice none 0 0) []:=by
  have:=lC (w.alloc (.cells #[.string ⟨#[]⟩,.int .i64 0] 24)) w.heap.size (by simp)
  rw[hq]at this
  rw[h8]
  exact this
 have hE:Blk w1 w.heap.size 24 #[.string ⟨#[]⟩,.int .i64 0]:=by
  rw[h8]
  exact(Below.heap_alloc _ _ _ (by simp)).trans (ag w 24 _)
 have hD:Below w.heap.size w w1:=by
  rw[h8]
  exact((Below.refl _ _).alloc (ah _) _).alloc (by simp) _
 have hJ:=aa h8
 clear h8 hq
 go_wp2_with fail
 go_loopw [10] (fun i wr=>∃(j:Nat) (v:Value),j≤n∧i=.int .i64 j∧IsW w.heap.size wr (w.heap.size+1) v (fZ T K j)∧Blk wr w.heap.size 24 #[.string ⟨#[]⟩,.int .i64 0]∧Below w.heap.size w wr) (fun i _=>n - (intOf i).toNat)
 case atStart=>exact⟨0,_,Nat.zero_le _,rfl,hy,hE,hD⟩
 case round=>
  obtain⟨j,v,hj,rfl,hW,hk,hb⟩:=hrel
  have hN:=uY T K j
  have hO:=CL T hj
  have hz:=hb.size
  by_cases h:j<n
  ·obtain⟨b,off,rfl,ht,hc⟩:=hp (by omega)
   obtain⟨k,h9,hP⟩:=GH (h4 j h)
   have hM:=hl j h
   have h0:=F6 (wr.alloc (.cells #[.string (T j),.int .i64 k] 24)) (T j) (K j) (by omega) (hK j h)
   rw[h4 j h,h9]at h0
   have g1:wr.cell? ⟨b,off+j*2,none⟩=some (.string (T j)):=(hb.cell (p:=⟨b,off+j*2,none⟩) ht).trans (hc j h).1
   have g2:wr.cell? ⟨b,off+j*2+1,none⟩=some (.int .i64 k):=by rw[← h9];exact(hb.cell (p:=⟨b,off+j*2+1,none⟩) ht).trans (hc j h).2
   have HM:=aa h0
   have hw:=aa h9
   clear h0 h9 hc
   have hC:=hW.alloc (.cells #[.string (T j),.int .i64 k] 24)
   go_wp2_with fail
   refine HM.out.mono ?_
   rintro e w2 ⟨rfl,hs⟩
   have ho:=an hs
   have hA:IsW w.heap.size w2.drew (w.heap.size+1) v (fZ T K j):=(hC.step ho (by simp) (by simp) (by simp) (by simp)).drew
   have hh:Blk w2.drew w.heap.size 24 #[.string ⟨#[]⟩,.int .i64 0]:=ho.blk ((Below.heap_alloc _ _ _ (aA hk)).trans hk) (by simp) (by simp)
   have h7:Blk w2.drew wr.heap.size 24 #[.string (T j),.int .i64 k]:=ho.blk (ag wr 24 _) (by simp) (by simp)
   have h5:Below w.heap.size w w2.drew:=((hb.alloc hz _).trans (hs.mono (by simp;omega))).drew
   have e1:w2.cell? ⟨wr.heap.size,0,none⟩=some (.string (T j)):=ac h7 0
   have e2:w2.cell? ⟨wr.heap.size,1,none⟩=some (.int .i64 k):=ac h7 1
   have hv:=h5.size
   have hi:wr.heap.size∉ [w.heap.size+1,w2.drew.heap.size]:=by
    have h1:=aA hW.blk
    have h2:=aA h7
    simp only[List.mem_cons,az,or_false]
    omega
   have h6:w.heap.size∉ [w.heap.size+1,w2.drew.heap.size]:=by
    have h2:=aA hh
    simp only[List.mem_cons,az,or_false]
    omega
   go_upto_region 7 with fail
   go_region_held3 (fun w'=>w'.cell? ⟨wr.heap.size,0,none⟩=some (.string (T j))∧w'.cell? ⟨wr.heap.size,1,none⟩=some (.int .i64 k)) (first | exact⟨e1,e2⟩ | exact⟨ac hu 0,ac hu 1⟩ | exact⟨ac hm 0,ac hm 1⟩ | go_keep)
    (first | (go_at_call 28;refine(ft _ _ 0 (by omega) (by omega) (by omega)).mono ?_;rintro e w3 ⟨rfl,h3⟩;have hB:IsW w.heap.size w3 (w.heap.size+1) v (fZ T K j):=(by rw[h3];exact hA.alloc _);have hx:IsR w.heap.size w3 w2.drew.heap.size (T j) 0:=(by rw[h3];exact j5 w2.drew _ hv (T j) 0);have hm:Blk w3 wr.heap.size 24 #[.string (T j),.int .i64 k]:=(by rw[h3];exact(Below.heap_alloc _ _ _ (aA h7)).trans h7);have hF:Blk w3 w.heap.size 24 #[.string ⟨#[]⟩,.int .i64 0]:=(by rw[h3];exact(Below.heap_alloc _ _ _ (aA hh)).trans hh);have he:Below w.heap.size w w3:=(by rw[h3];exact h5.alloc hv _);clear h3) | (go_at_call 72;refine(EZ _ _ _ _ _ _ _ 0 k hB hx (by omega) (by omega) (by omega)).mono ?_;rintro e w4 ⟨rfl,⟨v4,hr⟩,hL,ha⟩;have hu:=ha.blk hm hi (by simp)))
   have hG:=ha.blk hF h6 (by simp)
   have hg:fZ T K j++((ak (T j).data.toList).drop 0).take k=fZ T K (j+1):=by
    rw[fZ,hw.out,Int.toNat_natCast,List.drop_zero]
   rw[hg]at hr
   have hI:=aa hg
   clear hg
   have hf:=he.trans ha.below
   go_wp2_with fail
   go_roundw
   case rel=>exact⟨j+1,v4,h,by go_num,hr,hG,hf⟩
   case measure=>simp[intOf];omega
  ·obtain rfl:j=n:=by omega
   have q0:wr.cell? ⟨w.heap.size,0,none⟩=some (.string ⟨#[]⟩):=ac hk 0
   have q1:wr.cell? ⟨w.heap.size,1,none⟩=some (.int .i64 0):=ac hk 1
   have f0:=ae hk 0
   have f1:=ae hk 1
   go_wp2_with (first | (go_at_call 63;refine(ig _ _ _ _ _ hW).mono ?_;rintro e w' ⟨rfl,rfl⟩) | (go_at_call 64;refine(IW hW).mono ?_;rintro e w' ⟨rfl,rfl⟩))
   refine bodyPost_ret (v:=.tuple #[.agg #[.string ⟨(aG (fZ T K j)).toArray⟩,.int .i64 (fZ T K j).length],.int .i64 0]) ?_ rfl ⟨rfl,?_⟩
   ·simp[results,Tryz.results24,go_sem,q0,q1]
   ·exact(hb.setCell (p:=⟨w.heap.size,0,none⟩) (ah _) _).setCell (p:=⟨w.heap.size,1,none⟩) (ah _) _
end Go.Proofs.YthakcjehhlpjnaaGreat
