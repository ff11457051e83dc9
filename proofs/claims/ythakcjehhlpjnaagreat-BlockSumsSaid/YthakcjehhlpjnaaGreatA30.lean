import Derived.Test.YthakcjehhlpjnaaGreatA29
import Derived.Lib.ConvBytes
import Derived.Lib.AtoiErrMem
import Derived.Laws.IdiomArrays
set_option maxHeartbeats 3200000
set_option maxRecDepth 100000
namespace Go.Proofs.YthakcjehhlpjnaaGreat
open Go.RowKit
theorem wE(s:ByteArray):S06.fm s.data.toList=s:=by
 apply ByteArray.ext
 show s.data.toList.toArray=s.data
 simp
theorem xO{s:ByteArray}(h:s.size=0):s=⟨#[]⟩:=by
 obtain⟨⟨l⟩⟩:=s
 have hl:l= []:=List.eq_nil_of_length_eq_zero (by
  have h1:(⟨⟨l⟩⟩:ByteArray).size=l.length:=rfl
  omega)
 rw[hl]
section
variable (R:cT 20000)
include R
theorem Dl(w:World)(s u:ByteArray)(most:Int)(hs:s.size≤9223372036854775807)(hu:u.size≤9223372036854775807)(h:2000<s.size∨1000<u.size):
 Calls Tryz.prog 5 #[.string s,.string u,.int .i64 most] w fun e w'=>e=.returned (.bool true)∧Below w.heap.size w w':=by
 have h3:=aa (e9 R)
 clear R
 by_cases h1:2000<s.size
 ·have d0:decide ((2000:Int)<(s.size:Int))=true:=aC (by omega)
  clear h
  go_enter Tryz.func5,Tryz.ntmps5
  go_wp2_with fail
  refine(h3.out _).mono ?_
  rintro e w7 ⟨rfl,h0⟩
  have h2:=aa h0
  clear h0
  go_wp2_with fail
  go_ret
  exact⟨rfl,h2.out⟩
 ·have d0:decide ((2000:Int)<(s.size:Int))=false:=au (by omega)
  have d1:decide ((1000:Int)<(u.size:Int))=true:=aC (by omega)
  clear h
  go_enter Tryz.func5,Tryz.ntmps5
  go_wp2_with fail
  refine(h3.out _).mono ?_
  rintro e w7 ⟨rfl,h0⟩
  have h2:=aa h0
  clear h0
  go_wp2_with fail
  go_ret
  exact⟨rfl,h2.out⟩
theorem Al(w:World)(u:ByteArray)(most:Int)(hu:u.size≤1000):
 Calls Tryz.prog 5 #[.string ⟨#[]⟩,.string u,.int .i64 most] w fun e w'=>e=.returned (.bool true)∧Below w.heap.size w w':=by
 have h4:=aa (e9 R)
 have HC:=R.make w ⟨#[]⟩ (by decide)
 have e0:bV (⟨#[]⟩:ByteArray).data.toList=([],2):=by
  unfold bV
  rw[if_pos (by rfl)]
 rw[e0]at HC
 have h7:Hid (Calls Tryz.prog 9 #[.string ⟨#[]⟩] w fun e w'=>e=.returned (.tuple #[.agg #[.string ⟨#[]⟩,.int .i64 0],.int .i64 2])∧Below w.heap.size w w'):=aa HC
 have h8:=EC ⟨#[]⟩ 0
 have hg:=Ix
 have d1:decide ((1000:Int)<(u.size:Int))=false:=au (by omega)
 clear R HC e0
 go_enter Tryz.func5,Tryz.ntmps5
 go_wp2_with fail
 refine h7.out.mono ?_
 rintro e w1 ⟨rfl,h2⟩
 have h0:Below w1.heap.size w1 (w1.alloc (.cells #[.string ⟨#[]⟩,.int .i64 0] 24)):=(Below.refl _ _).alloc (ah _) _
 have h1:=aa (ag w1 24 #[.string ⟨#[]⟩,.int .i64 0])
 have h5:=aa (ao h2 h0)
 clear h0 h2
 go_upto_region 4 with fail
 generalize w1.alloc (.cells #[.string ⟨#[]⟩,.int .i64 0] 24)=w2 at*
 generalize w1.heap.size=g at*
 have q0:w2.cell? ⟨g,0,none⟩=some (.string ⟨#[]⟩):=(ac h1.out 0).trans rfl
 have q1:w2.cell? ⟨g,1,none⟩=some (.int .i64 0):=(ac h1.out 1).trans rfl
 go_wp2_with fail
 refine(h4.out _).mono ?_
 rintro e w5 ⟨rfl,h3⟩
 have h6:=aa (ao h5.out h3)
 clear h3
 go_wp2_with fail
 go_ret
 exact⟨rfl,h6.out⟩
theorem CK(w:World)(s u:ByteArray)(most:Int)(h0:0<s.size)(hs:s.size≤2000)(hu:u.size≤1000)(h3: -9223372036854775808≤most)(h4:most≤9223372036854775807):
 Calls Tryz.prog 5 #[.string s,.string u,.int .i64 most] w fun e w'=>e=.returned (.bool true)∧Below w.heap.size w w':=by
 have he:=aa (e9 R)
 have hW:=S05.eW s h0
 have hg:s.data.toList.length=s.size:=rfl
 have hh:s.data.toList≠ []:=fun h=>by rw[h]at hg;simp at hg;omega
 have HC:=aa (R.make w s (by omega))
 have hr:=jZ w s.data.toList
 have hL:(bV s.data.toList).2=0:=pP hh (by omega)
 have hv:=lr (bV s.data.toList).1
 have h7:=qM w hh (by omega) u 262144 (by omega) (by omega)
 have h9:=fun h1 h2=>oV w hh (by omega) most h1 h2
 have hH:=S03.fO s.data.toList
 rw[if_pos (by omega)]at h7
 rw[hg]at hr hH
 generalize bV s.data.toList=ans at*
 obtain⟨bs,k⟩:=ans
 have hR:k=0:=hL
 subst hR
 have hk:Hid (Calls Tryz.prog 9 #[.string s] w fun e w'=>e=.returned (.tuple #[.agg #[.string ⟨(aG bs).toArray⟩,.int .i64 bs.length],.int .i64 0])∧Below w.heap.size w w'):=HC
 have hS:bs.length≤12*s.size+4000:=hr
 have h9:1≤most→most≤262144→gm (ak (⟨(aG bs).toArray⟩:ByteArray).data.toList) 0 most=if((S03.aR s.data.toList).length:Int)≤most then(s.data.toList,S02.cL s.data.toList,bs.length,0)else([],0,0,3):=h9
 dsimp only at hv h7
 obtain⟨q,hq⟩:∃q,q=bs.length:=⟨_,rfl⟩
 rw[← hq]at hk hS hv h7 h9
 generalize hT:(ByteArray.mk (aG bs).toArray)=T at*
 obtain⟨a8,hF⟩:∃a8,a8=8*u.size:=⟨_,rfl⟩
 have hQ:(8:Int)*(u.size:Int)=(a8:Int):=by omega
 have hP:a8≤8000:=by omega
 obtain⟨t,ht⟩:∃t,t=a8+q:=⟨_,rfl⟩
 have hY:(a8:Int)+(q:Int)=(t:Int):=by omega
 rw[← hF,←ht]at h7
 obtain⟨U,hU⟩:∃U,U=u++T:=⟨_,rfl⟩
 have hD:U.size≤40000:=by rw[hU,ByteArray.size_append];omega
 have hX:t≤100000:=by omega
 obtain⟨x,hx⟩:∃x,x=S02.cL s.data.toList:=⟨_,rfl⟩
 rw[← hx]at h7 h9
 have hN:Hid (∀ wx,Calls Tryz.prog 11 #[.string (u++T),.int .i64 a8,.int .i64 262144] wx fun e w'=>e=.returned (.tuple #[.string s,.int .u32 x,.int .i64 t,.int .i64 0])∧Below wx.heap.size wx w'):=aa fun wx=>by
  have h:=R.take wx U a8 262144 hD (by omega) (by omega) (by omega) (by omega)
  rw[hU,h7]at h
  unfold eu at h
  rw[wE]at h
  exact h
 have hM:Hid (∀ wx,Calls Tryz.prog 14 #[.string s] wx fun e w'=>e=.returned (.int .u32 x)∧Below wx.heap.size wx w'):=aa fun wx=>by
  rw[hx]
  exact R.sum wx s (by omega)
 obtain⟨E,hE⟩:∃E,E=S06.fm (S03.aR s.data.toList):=⟨_,rfl⟩
 have hC:E.size=(S03.aR s.data.toList).length:=by rw[hE];rfl
 have hz:Hid (∀ wx,Calls Tryz.prog 15 #[.string s] wx fun e w'=>e=.returned (.string E)∧Below wx.heap.size wx w'):=aa fun wx=>by
  rw[hE]
  exact R.enc wx s (by omega)
 have hO:T.size≤40000:=by omega
 have hn:Hid (∀ wx,1≤most→most≤262144→Calls Tryz.prog 11 #[.string T,.int .i64 0,.int .i64 most] wx (eu wx (if(E.size:Int)≤most then(s.data.toList,x,q,0)else([],0,0,3)))):=aa fun wx h1 h2=>by
  have h:=R.take wx T 0 most hO (by omega) (by omega) (by omega) (by omega)
  rw[h9 h1 h2,←hC]at h
  exact h
 have d0:decide ((2000:Int)<(s.size:Int))=false:=au (by omega)
 have d1:decide ((1000:Int)<(u.size:Int))=false:=au (by omega)
 have e1:((x:Int)==(x:Int))=true:=beq_self_eq_true _
 have e2:((t:Int)==(t:Int))=true:=beq_self_eq_true _
 have e3:((x:Int) != (x:Int))=false:=bne_self_eq_false _
 have e4:((t:Int) != (t:Int))=false:=bne_self_eq_false _
 have hV:E.size≤10000:=by omega
 clear R HC hr hg hh hL hv h7 h9 hH hq hT hF ht hU hD hx hE hC h0
 go_enter Tryz.func5,Tryz.ntmps5
 go_wp2_with fail
 refine hk.out.mono ?_
 rintro e w1 ⟨rfl,hG⟩
 have ha:Below w1.heap.size w1 (w1.alloc (.cells #[.string T,.int .i64 q] 24)):=(Below.refl _ _).alloc (ah _) _
 have hl:=aa (ag w1 24 #[.string T,.int .i64 q])
 have hw:=aa (ao hG ha)
 clear ha hG hk
 go_upto_region 4 with fail
 generalize w1.alloc (.cells #[.string T,.int .i64 q] 24)=w2 at*
 generalize w1.heap.size=g at*
 have q0:w2.cell? ⟨g,0,none⟩=some (.string T):=(ac hl.out 0).trans rfl
 go_wp2_with fail
 refine(hN.out w2).mono ?_
 rintro e w3 ⟨rfl,ho⟩
 have hA:=aa (aM ho hl.out)
 have hy:=aa (ao hw.out ho)
 clear ho hl hw q0
 go_wp2_with fail
 refine(hM.out w3).mono ?_
 rintro e w4 ⟨rfl,hp⟩
 have hB:=aa (aM hp hA.out)
 have hf:=aa (ao hy.out hp)
 have q0:w4.cell? ⟨g,0,none⟩=some (.string T):=(ac hB.out 0).trans rfl
 have q1:w4.cell? ⟨g,1,none⟩=some (.int .i64 q):=(ac hB.out 1).trans rfl
 clear hp hA hy
 by_cases hI:most<1
 ·have d3:decide (most<1)=true:=decide_eq_true hI
  go_wp2_with fail
  refine(he.out _).mono ?_
  rintro e w5 ⟨rfl,h5⟩
  have h6:=aa (ao hf.out h5)
  clear h5
  go_wp2_with fail
  go_ret
  exact⟨rfl,h6.out⟩
 have d3:decide (most<1)=false:=decide_eq_false hI
 by_cases hJ:262144<most
 ·have d4:decide (262144<most)=true:=decide_eq_true hJ
  go_wp2_with fail
  refine(he.out _).mono ?_
  rintro e w5 ⟨rfl,h5⟩
  have h6:=aa (ao hf.out h5)
  clear h5
  go_wp2_with fail
  go_ret
  exact⟨rfl,h6.out⟩
 have d4:decide (262144<most)=false:=decide_eq_false hJ
 have h8:=aa (hn.out w4 (by omega) (by omega))
 by_cases hK:most<(E.size:Int)
 ·have d5:decide (most<(E.size:Int))=true:=decide_eq_true hK
  rw[if_neg (by omega)]at h8
  have hm:Hid (Calls Tryz.prog 11 #[.string T,.int .i64 0,.int .i64 most] w4 fun e w'=>e=.returned (.tuple #[.string ⟨#[]⟩,.int .u32 0,.int .i64 0,.int .i64 3])∧Below w4.heap.size w4 w'):=h8
  clear h8 hn
  go_wp2_with fail
  refine hm.out.mono ?_
  rintro e w5 ⟨rfl,h5⟩
  have h6:=aa (ao hf.out h5)
  clear h5
  go_wp2_with fail
  refine(hz.out _).mono ?_
  rintro e w6 ⟨rfl,hb⟩
  have hi:=aa (ao h6.out hb)
  clear hb
  go_wp2_with fail
  refine(he.out _).mono ?_
  rintro e w7 ⟨rfl,hc⟩
  have hj:=aa (ao hi.out hc)
  clear hc
  go_wp2_with fail
  go_ret
  exact⟨rfl,hj.out⟩
 ·have d5:decide (most<(E.size:Int))=false:=decide_eq_false hK
  rw[if_pos (by omega)]at h8
  have hm:Hid (Calls Tryz.prog 11 #[.string T,.int .i64 0,.int .i64 most] w4 fun e w'=>e=.returned (.tuple #[.string s,.int .u32 x,.int .i64 q,.int .i64 0])∧Below w4.heap.size w4 w'):=aa (by
   have h:=h8.out
   unfold eu at h
   rw[wE]at h
   exact h)
  clear h8 hn
  go_wp2_with fail
  refine hm.out.mono ?_
  rintro e w5 ⟨rfl,h5⟩
  have h6:=aa (ao hf.out h5)
  clear h5
  go_wp2_with fail
  refine(hz.out _).mono ?_
  rintro e w6 ⟨rfl,hb⟩
  have hi:=aa (ao h6.out hb)
  clear hb
  go_wp2_with fail
  refine(he.out _).mono ?_
  rintro e w7 ⟨rfl,hc⟩
  have hj:=aa (ao hi.out hc)
  clear hc
  go_wp2_with fail
  go_ret
  exact⟨rfl,hj.out⟩
end
def fg(l:List UInt8)(b:Nat→Nat)(j i:Nat):Nat:=if 6≤i∧i<6+j then(l.getD i 0).toNat ^^^ b (i - 6)else(l.getD i 0).toNat
theorem yV(l:List UInt8)(b:Nat→Nat)(i:Nat):fg l b 0 i=(l.getD i 0).toNat:=by
 unfold fg
 rw[if_neg (by omega)]
theorem za(l:List UInt8)(b:Nat→Nat)(j:Nat):(fun i=>if i=6+j then(l.getD (6+j) 0).toNat ^^^ b j else fg l b j i)=fg l b (j+1):=by
 funext i
 unfold fg
 by_cases e:i=6+j
 ·subst e
  rw[if_pos rfl,if_pos (by omega),show 6+j - 6=j by omega]
 ·rw[if_neg e]
  by_cases h:6≤i∧i<6+j
  ·rw[if_pos h,if_pos (by omega)]
  ·rw[if_neg h,if_neg (by omega)]
theorem yk(l:List UInt8)(b:Nat→Nat)(j:Nat):fg l b j (6+j)=(l.getD (6+j) 0).toNat:=by
 unfold fg
 rw[if_neg (by omega)]
def js(l:List UInt8)(b:Nat→Nat):List UInt8:=(List.range l.length).map fun i=>UInt8.ofNat (fg l b 4 i)
theorem mK(l:List UInt8)(b:Nat→Nat):(js l b).length=l.length:=by simp[js]
theorem oT(l:List UInt8)(b:Nat→Nat)(h:10≤l.length):js l b=l.take 6++(((List.range 4).map fun i=>UInt8.ofNat ((l.getD (6+i) 0).toNat ^^^ b i))++l.drop 10):=by
 have h6:(l.take 6).length=6:=by rw[List.length_take];omega
 apply List.ext_getElem?
 intro i
 have hg:∀i,i<l.length→UInt8.ofNat (l.getD i 0).toNat=l.getD i 0:=fun i _=>UInt8.ofNat_toNat
 by_cases hi:i<l.length
 ·have e1:(js l b)[i]? =some (UInt8.ofNat (fg l b 4 i)):=by
   unfold js
   rw[List.getElem?_map,List.getElem?_range hi]
   rfl
  have e2:l[i]? =some (l.getD i 0):=by
   rw[List.getD_eq_getElem?_getD,List.getElem?_eq_getElem hi]
   rfl
  rw[e1]
  by_cases h1:i<6
  ·rw[List.getElem?_append_left (by omega),List.getElem?_take,if_pos h1,e2]
   unfold fg
   rw[if_neg (by omega),UInt8.ofNat_toNat]
  ·rw[List.getElem?_append_right (by omega),h6]
   by_cases h2:i<10
   ·rw[List.getElem?_append_left (by simp;omega),List.getElem?_map,List.getElem?_range (by omega)]
    unfold fg
    rw[if_pos (by omega)]
    show _=some (UInt8.ofNat ((l.getD (6+(i - 6)) 0).toNat ^^^ b (i - 6)))
    rw[show 6+(i - 6)=i by omega]
   ·rw[List.getElem?_append_right (by simp;omega),List.getElem?_drop]
    simp only[List.length_map,List.length_range]
    rw[show 10+(i - 6 - 4)=i by omega,e2]
    unfold fg
    rw[if_neg (by omega),UInt8.ofNat_toNat]
 ·rw[List.getElem?_eq_none (by rw[mK];omega),List.getElem?_eq_none (by simp only[List.length_append,List.length_map,List.length_range,List.length_drop,List.length_take];omega)]
theorem H9(l:List UInt8)(h:10≤l.length):l=l.take 6++(((List.range 4).map fun i=>l.getD (6+i) 0)++l.drop 10):=by
 have e:=oT l (fun _=>0) h
 have e1:js l (fun _=>0)=l:=by
  apply List.ext_getElem?
  intro i
  unfold js
  by_cases hi:i<l.length
  ·rw[List.getElem?_map,List.getElem?_range hi,List.getElem?_eq_getElem hi]
   show some (UInt8.ofNat (fg l (fun _=>0) 4 i))=_
   have:fg l (fun _=>0) 4 i=(l.getD i 0).toNat:=by
    unfold fg
    split <;>simp
   rw[this,UInt8.ofNat_toNat,List.getD_eq_getElem?_getD,List.getElem?_eq_getElem hi]
   rfl
  ·rw[List.getElem?_eq_none (by simp;omega),List.getElem?_eq_none (by omega)]
 rw[e1]at e
 refine e.trans ?_
 congr 2
 apply List.map_congr_left
 intro i _
 rw[Nat.xor_zero,UInt8.ofNat_toNat]
theorem sE{x:UInt8}{b:Nat}(hb:b<256)(h:UInt8.ofNat (x.toNat ^^^ b)=x):b=0:=by
 have h1:(UInt8.ofNat (x.toNat ^^^ b)).toNat=x.toNat:=by rw[h]
 have hx:x.toNat<2 ^ 8:=UInt8.toNat_lt x
 have h2:x.toNat ^^^ b<2 ^ 8:=Nat.xor_lt_two_pow hx (by omega)
 rw[UInt8.toNat_ofNat_of_lt' h2]at h1
 have h3:x.toNat ^^^ (x.toNat ^^^ b)=x.toNat ^^^ x.toNat:=by rw[h1]
 rw[← Nat.xor_assoc,Nat.xor_self,Nat.zero_xor]at h3
 exact h3
theorem yl(w:World){s:List UInt8}(hs:s≠ [])(ht:s.length≤200000)(b:Nat→Nat)(hb:∀i,i<4→b i<256)(hq:∃i,i<4∧b i≠0):
 10≤(aG (bV s).1).length∧gm (ak (js (aG (bV s).1) b)) 0 262144=([],0,0,121):=by
 have hl:=S03.fO s
 have htl:(S03.aR s).length≤262144:=by omega
 have hj:=tF w hs htl
 have ha:=sN s
 have hn:=iU hs
 have hO:=ii _ hn
 have e:(bV s).1=cw s:=by
  unfold bV
  rw[if_neg hs,if_neg (by omega)]
 obtain⟨l,hc⟩:∃l,l=aG (bV s).1:=⟨_,rfl⟩
 have hr:l.length=((bV s).1.length+7) / 8:=by rw[hc,dG]
 have h8:10≤l.length:=by omega
 have h5:∃Z,ak l=(bV s).1++Z∧aw Z:=by
  refine⟨_,by rw[hc];exact j4 _ ha,fun x hx=> ?_⟩
  rw[(List.mem_replicate.1 hx).2]
  omega
 obtain⟨Z,hZ,ho⟩:=h5
 rw[← hc]
 refine⟨h8,?_⟩
 obtain⟨M,hM⟩:∃M,M=(List.range 4).map fun i=>l.getD (6+i) 0:=⟨_,rfl⟩
 obtain⟨M',h9⟩:∃M',M'=(List.range 4).map fun i=>UInt8.ofNat ((l.getD (6+i) 0).toNat ^^^ b i):=⟨_,rfl⟩
 have hm:M.length=4:=by rw[hM];simp
 have h0:M'.length=4:=by rw[h9];simp
 have h7:=H9 l h8
 have hk:=oT l b h8
 rw[← hM]at h7
 rw[← h9]at hk
 have h6:(l.take 6).length=6:=by rw[List.length_take];omega
 obtain⟨X,hX⟩:∃X,X=aj (ji (S03.aR s)) 25++S06.cD (S06.ofL (S03.aR s))++eA (S03.aR s):=⟨_,rfl⟩
 have he:(bV s).1=aj 54156738319193 48++(aj (S02.cL s) 32++X):=by
  rw[e,hX]
  unfold cw eI
  simp only[List.append_assoc]
 have hB:ak (l.take 6)++(ak M++ak (l.drop 10))=aj 54156738319193 48++(aj (S02.cL s) 32++(X++Z)):=by
  rw[← em,←em,←h7,hZ,he]
  simp only[List.append_assoc]
 have hg:=List.append_inj hB (by rw[ax,af,h6])
 have hh:=List.append_inj hg.2 (by rw[ax,af,hm])
 have hf:ak (js l b)= []++(aj 54156738319193 48++ak M'++aj (ji (S03.aR s)) 25++S06.cD (S06.ofL (S03.aR s))++eA (S03.aR s))++Z:=by
  rw[hk,em,em,hg.1,hh.2,hX]
  simp only[List.append_assoc,List.nil_append]
 have hv:val (ak M')≠S02.cL s:=by
  intro h
  have h1:=fP (ak M') (aS M')
  rw[ax,h0,h]at h1
  have h2:ak M'=ak M:=by rw[hh.1];exact h1.symm
  have h3:M'=M:=by rw[← ro M',h2,ro]
  obtain⟨i,hi,hp⟩:=hq
  have h4:M'[i]? =M[i]? :=by rw[h3]
  rw[hM,h9,List.getElem?_map,List.getElem?_map,List.getElem?_range hi]at h4
  exact hp (sE (hb i hi) (Option.some.inj h4))
 rw[hf]
 have h:=DJ w hO hn htl (by omega) (ak M') (by rw[ax,h0]) hv [] Z ho
 exact h
def BAt(w:World)(g n:Nat)(f:Nat→Nat):Prop:=∀i,i<n→w.cell? ⟨g,i,none⟩=some (.int .u8 (f i))∧w.frozen? ⟨g,i,none⟩=false
theorem BAt.set{w:World}{g n:Nat}{f:Nat→Nat}(h:BAt w g n f)(j v:Nat)(hj:j<n):BAt (w.setCell ⟨g,j,none⟩ (.int .u8 v)) g n (fun i=>if i=j then v else f i):=by
 intro i hi
 refine⟨?_,by rw[World.frozen?_setCell];exact(h i hi).2⟩
 by_cases e:i=j
 ·subst e
  rw[World.cell?_setCell_same _ _ _ (h i hi).1]
  simp
 ·rw[World.cell?_setCell_other _ _ _ _ (by intro hh;cases hh;exact e rfl),(h i hi).1]
  simp[e]
theorem GW(w:World)(s:ByteArray):BAt (Lib.bytesWorld w 5 s) w.heap.size s.size fun i=>(s.data.toList.getD i 0).toNat:=by
 intro i hi
 refine⟨Lib.bytesWorld_cell w 5 s i hi,?_⟩
 have h0:s.size≤(Lib.bytesCells w 5 s).size:=by
  simp[Lib.bytesCells]
 simp[World.frozen?,Lib.bytesWorld_at_new]
 intro h1
 exfalso
 omega
theorem GP(x0 x1 x2 x3 y0 y1 y2 y3:Int)(w:World):(Op.equalIn 10000 42 (.agg #[.int .u8 x0,.int .u8 x1,.int .u8 x2,.int .u8 x3]) (.agg #[.int .u8 y0,.int .u8 y1,.int .u8 y2,.int .u8 y3])).run Tryz.prog w=.ok (x0==y0&&(x1==y1&&(x2==y2&&x3==y3))) w:=by
 show(Op.equalIn (9998+1+1) _ _ _).run Tryz.prog w=_
 rw[Op.equalIn]
 simp[run_underlying Tryz.underlying42,part,go_sem,List.range']
 by_cases h0:x0=y0
 ·by_cases h1:x1=y1
  ·by_cases h2:x2=y2
   ·by_cases h3:x3=y3
    ·simp[h0,h1,h2,h3]
    ·simp[h0,h1,h2,h3]
   ·simp[h0,h1,h2]
  ·simp[h0,h1]
 ·simp[h0]
theorem FF:Tryz.prog.eqGuardType Tryz.prog.depth 42=false:=by kernel_rfl
def nz(b:Nat→Nat):Prop:=b 0=0∧b 1=0∧b 2=0∧b 3=0
instance (b:Nat→Nat):Decidable (nz b):=inferInstanceAs (Decidable (_∧_))
theorem DE{b:Nat→Nat}(h:¬nz b):∃i,i<4∧b i≠0:=by
 by_cases h0:b 0=0
 ·by_cases h1:b 1=0
  ·by_cases h2:b 2=0
   ·exact⟨3,by omega,fun h3=>h ⟨h0,h1,h2,h3⟩⟩
   ·exact⟨2,by omega,h2⟩
  ·exact⟨1,by omega,h1⟩
 ·exact⟨0,by omega,h0⟩
theorem wZ(b:Nat→Nat)(w:World):(binOp .eql 42 (.agg #[.int .u8 (b 0),.int .u8 (b 1),.int .u8 (b 2),.int .u8 (b 3)]) (.agg #[.int .u8 0,.int .u8 0,.int .u8 0,.int .u8 0])).run Tryz.prog w=.ok (.bool (decide (nz b))) w:=by
 rw[run_eql_struct,GP]
 show Result.ok _ w=_
 congr 2
 by_cases h:nz b
 ·rw[decide_eq_true h,h.1,h.2.1,h.2.2.1,h.2.2.2]
  rfl
 ·rw[decide_eq_false h]
  unfold nz at h
  simp
  omega
section
variable (R:cT 20000)
include R
theorem BZ(w:World)(s:ByteArray)(b:Nat→Nat)(hs:s.size≤9223372036854775807)(h:s.size=0∨2000<s.size∨nz b):
 Calls Tryz.prog 6 #[.string s,.agg #[.int .u8 (b 0),.int .u8 (b 1),.int .u8 (b 2),.int .u8 (b 3)]] w fun e w'=>e=.returned (.bool true)∧Below w.heap.size w w':=by
 have h3:=aa (e9 R)
 have h6:Below w.heap.size w (w.alloc (.cells #[.int .u8 (b 0),.int .u8 (b 1),.int .u8 (b 2),.int .u8 (b 3)] 42)):=(Below.refl _ _).alloc (ah _) _
 have h4:=aa h6
 have hk:=ag w 42 #[.int .u8 (b 0),.int .u8 (b 1),.int .u8 (b 2),.int .u8 (b 3)]
 have HK:=aa hk
 clear R h6 hk
 by_cases h0:s.size=0
 ·obtain rfl:=xO h0
  clear h h0 hs
  go_enter Tryz.func6,Tryz.ntmps6
  go_upto_region 1 with fail
  generalize w.alloc (.cells #[.int .u8 (b 0),.int .u8 (b 1),.int .u8 (b 2),.int .u8 (b 3)] 42)=w1 at*
  go_wp2_with fail
  refine(h3.out _).mono ?_
  rintro e w7 ⟨rfl,h1⟩
  have h2:=aa (ao h4.out h1)
  clear h1
  go_wp2_with fail
  go_ret
  exact⟨rfl,h2.out⟩
 have h8:=S05.eW s (by omega)
 by_cases h5:2000<s.size
 ·have d0:decide ((2000:Int)<(s.size:Int))=true:=aC (by omega)
  clear h h0
  go_enter Tryz.func6,Tryz.ntmps6
  go_upto_region 1 with fail
  generalize w.alloc (.cells #[.int .u8 (b 0),.int .u8 (b 1),.int .u8 (b 2),.int .u8 (b 3)] 42)=w1 at*
  go_wp2_with fail
  refine(h3.out _).mono ?_
  rintro e w7 ⟨rfl,h1⟩
  have h2:=aa (ao h4.out h1)
  clear h1
  go_wp2_with fail
  go_ret
  exact⟨rfl,h2.out⟩
 ·have d0:decide ((2000:Int)<(s.size:Int))=false:=au (by omega)
  have hz:nz b:=by
   rcases h with h | h | h
   ·exact absurd h h0
   ·exact absurd h h5
   ·exact h
  have h7:=fun wx=>wZ b wx
  rw[decide_eq_true hz]at h7
  have hg:=FF
  clear h h0 hz
  go_enter Tryz.func6,Tryz.ntmps6
  go_upto_region 1 with fail
  generalize w.alloc (.cells #[.int .u8 (b 0),.int .u8 (b 1),.int .u8 (b 2),.int .u8 (b 3)] 42)=w1 at*
  have q0:w1.cell? ⟨w.heap.size,0,none⟩=some (.int .u8 (b 0)):=(ac HK.out 0).trans rfl
  have q1:w1.cell? ⟨w.heap.size,1,none⟩=some (.int .u8 (b 1)):=(ac HK.out 1).trans rfl
  have q2:w1.cell? ⟨w.heap.size,2,none⟩=some (.int .u8 (b 2)):=(ac HK.out 2).trans rfl
  have q3:w1.cell? ⟨w.heap.size,3,none⟩=some (.int .u8 (b 3)):=(ac HK.out 3).trans rfl
  go_wp2_with fail
  refine(h3.out _).mono ?_
  rintro e w7 ⟨rfl,h1⟩
  have h2:=aa (ao h4.out h1)
  clear h1
  go_wp2_with fail
  go_ret
  exact⟨rfl,h2.out⟩
end
theorem EN(b:Nat→Nat)(j:Nat)(h:j<4):(#[.int .u8 (b 0),.int .u8 (b 1),.int .u8 (b 2),.int .u8 (b 3)]:Array Value)[j]? =some (.int .u8 (b j)):=by
 have:j=0∨j=1∨j=2∨j=3:=by omega
 rcases this with rfl | rfl | rfl | rfl <;>rfl
theorem F9(l:List UInt8)(b:Nat→Nat)(n:Nat)(h:l.length=n):strOfNums ((List.range n).map fun i=>((fg l b 4 i:Nat):Int))=⟨(js l b).toArray⟩:=by
 unfold strOfNums js
 rw[List.map_map,h]
 congr 2
section
variable (R:cT 20000)
include R
theorem EB(w:World)(s:ByteArray)(b:Nat→Nat)(h0:0<s.size)(hs:s.size≤2000)(hb:∀i,i<4→b i<256)(hz:¬nz b):
 Calls Tryz.prog 6 #[.string s,.agg #[.int .u8 (b 0),.int .u8 (b 1),.int .u8 (b 2),.int .u8 (b 3)]] w fun e w'=>e=.returned (.bool true)∧Below w.heap.size w w':=by
 have hO:=aa (e9 R)
 have H6:=S05.eW s h0
 have h9:s.data.toList.length=s.size:=rfl
 have hv:s.data.toList≠ []:=fun h=>by rw[h]at h9;simp at h9;omega
 have HC:=aa fun wx=>R.make wx s (by omega)
 have hc:=jZ w s.data.toList
 have hM:(bV s.data.toList).2=0:=pP hv (by omega)
 have he:=lr (bV s.data.toList).1
 obtain⟨hh,ha⟩:=yl w hv (by omega) b hb (DE hz)
 rw[h9]at hc
 generalize bV s.data.toList=ans at*
 obtain⟨bs,k⟩:=ans
 have H1:k=0:=hM
 subst H1
 dsimp only at he hh ha hc
 obtain⟨q,hq⟩:∃q,q=bs.length:=⟨_,rfl⟩
 obtain⟨l,hl⟩:∃l,l=aG bs:=⟨_,rfl⟩
 obtain⟨T,hT⟩:∃T,T=(⟨(aG bs).toArray⟩:ByteArray):=⟨_,rfl⟩
 have hm:T.data.toList=l:=by rw[hT,hl]
 rw[← hl]at hh ha
 rw[← hq]at he hc
 have hF:T.size=l.length:=by rw[← hm];rfl
 obtain⟨n,hn⟩:∃n,n=l.length:=⟨_,rfl⟩
 rw[← hn]at hh hF
 have H3:n≤40000:=by
  have:T.size=(q+7) / 8:=by rw[hT];exact he
  omega
 have hC:Hid (∀ wx:World,Calls Tryz.prog 9 #[.string s] wx fun e w'=>e=.returned (.tuple #[.agg #[.string T,.int .i64 q],.int .i64 0])∧Below wx.heap.size wx w'):=aa (by
  rw[hT,hq]
  exact HC.out)
 obtain⟨U,hU⟩:∃U,U=(⟨(js l b).toArray⟩:ByteArray):=⟨_,rfl⟩
 have hG:U.size≤40000:=by
  have h:U.size=(js l b).length:=by rw[hU];rfl
  rw[h,mK]
  omega
 have hY:Hid (∀ wx,Calls Tryz.prog 11 #[.string U,.int .i64 0,.int .i64 262144] wx fun e w'=>e=.returned (.tuple #[.string ⟨#[]⟩,.int .u32 0,.int .i64 0,.int .i64 121])∧Below wx.heap.size wx w'):=aa fun wx=>by
  have h:=R.take wx U 0 262144 hG (by omega) (by omega) (by omega) (by omega)
  have e:gm (ak U.data.toList) 0 262144=([],0,0,121):=by
   rw[hU]
   exact ha
  rw[e]at h
  exact h
 have h2:=F9 l b n hn.symm
 rw[← hU]at h2
 have h6:=aa h2
 have hH:Below w.heap.size w (w.alloc (.cells #[.int .u8 (b 0),.int .u8 (b 1),.int .u8 (b 2),.int .u8 (b 3)] 42)):=(Below.refl _ _).alloc (ah _) _
 have hk:=ag w 42 #[.int .u8 (b 0),.int .u8 (b 1),.int .u8 (b 2),.int .u8 (b 3)]
 have hA:=aa hH
 have h3:=aa hk
 have d0:decide ((2000:Int)<(s.size:Int))=false:=au (by omega)
 have dT:decide ((T.size:Int)<10)=false:=au (by omega)
 have hK:=fun wx=>wZ b wx
 rw[decide_eq_false hz]at hK
 have hg:=FF
 have hZ:=aa hm
 have hE:=aa hF
 have hS:=aa hb
 have H5:=aa hn
 clear R HC h9 hv hc hM he hq hl hT hm hU hG h2 hH hk ha hb hz h0 hn
 go_enter Tryz.func6,Tryz.ntmps6
 go_upto_region 1 with fail
 generalize w.alloc (.cells #[.int .u8 (b 0),.int .u8 (b 1),.int .u8 (b 2),.int .u8 (b 3)] 42)=w1 at*
 have q0:w1.cell? ⟨w.heap.size,0,none⟩=some (.int .u8 (b 0)):=(ac h3.out 0).trans rfl
 have q1:w1.cell? ⟨w.heap.size,1,none⟩=some (.int .u8 (b 1)):=(ac h3.out 1).trans rfl
 have q2:w1.cell? ⟨w.heap.size,2,none⟩=some (.int .u8 (b 2)):=(ac h3.out 2).trans rfl
 have q3:w1.cell? ⟨w.heap.size,3,none⟩=some (.int .u8 (b 3)):=(ac h3.out 3).trans rfl
 go_wp2_with fail
 refine(hC.out w1).mono ?_
 rintro e w2 ⟨rfl,hr⟩
 have h1:Below w2.heap.size w2 (w2.alloc (.cells #[.string T,.int .i64 q] 24)):=(Below.refl _ _).alloc (ah _) _
 have hD:=aa ((an (ao hr h1)).blk h3.out az az)
 have hX:=aa (ag w2 24 #[.string T,.int .i64 q])
 have hB:=aa (hA.out.trans ((ao hr h1).mono hA.out.size))
 clear h1 hr q0 q1 q2 q3 hC hK
 go_upto_region 4 with fail
 generalize w2.alloc (.cells #[.string T,.int .i64 q] 24)=w3 at*
 generalize w2.heap.size=g1 at*
 have q0:w3.cell? ⟨g1,0,none⟩=some (.string T):=(ac hX.out 0).trans rfl
 have H2:=aA hD.out
 have h5:=Lib.run_convert_string_bytes (P:=Tryz.prog) w3 9 43 5 T Tryz.underlying9 Tryz.underlying43 Tryz.underlying5
 have ho:=GW w3 T
 rw[hZ.out,hE.out]at ho
 rw[hE.out]at h5
 have ht:Below w3.heap.size w3 (Lib.bytesWorld w3 5 T):=Lib.bytesWorld_below w3 5 T
 have hL:=aM ht hD.out
 have hy:=aa (show BAt (Lib.bytesWorld w3 5 T) w3.heap.size n (fg l b 0) by
  intro i hi
  rw[yV]
  exact ho i hi)
 have hP:=aa (ao hB.out ht)
 have hV:=aa hL
 generalize grownCap w3 n 0 5=cap at*
 generalize Lib.bytesWorld w3 5 T=w4 at*
 obtain⟨g2,hu⟩:∃g2,g2=w3.heap.size:=⟨_,rfl⟩
 rw[← hu]at hy h5 H2
 have H0:Hid (w.heap.size≤g2):=aa (by rw[hu];exact hB.out.size)
 clear ho ht hL hu
 go_wp2_with fail
 clear h5 q0
 go_loopw [8] (fun i wr=>∃j:Nat,j≤4∧i=.int .i64 j∧BAt wr g2 n (fg l b j)∧Blk wr w.heap.size 42 #[.int .u8 (b 0),.int .u8 (b 1),.int .u8 (b 2),.int .u8 (b 3)]∧Below w.heap.size w wr) (fun i _=>4 - (intOf i).toNat)
 case atStart=>exact⟨0,Nat.zero_le _,rfl,hy.out,hV.out,hP.out⟩
 case round=>
  obtain⟨j,hj,rfl,h4,h7,h8⟩:=hrel
  by_cases h:j<4
  ·have d1:decide ((j:Int)<4)=true:=aC (by omega)
   have hw:=h4.set (6+j) ((l.getD (6+j) 0).toNat ^^^ b j) (by omega)
   rw[za]at hw
   obtain⟨g3,g4⟩:=h4 (6+j) (by omega)
   rw[yk]at g3
   have hN:(l.getD (6+j) 0).toNat<256:=UInt8.toNat_lt _
   have H4:b j<256:=hS.out j h
   have hx:=u8_xor_nat _ _ hN H4
   have c2:wr.cell? ⟨w.heap.size,j,none⟩=some (.int .u8 (b j)):=(ac h7 j).trans (EN b j h)
   have h6:=aa hw
   obtain⟨p,hp⟩:∃p,p=6+j:=⟨_,rfl⟩
   have HA:(6:Int)+(j:Int)=(p:Int):=by omega
   have H8:(p:Int)<(n:Int):=by omega
   have H7:p≤10:=by omega
   rw[← hp]at g3 g4 hN hx h6
   generalize (l.getD p 0).toNat=x at*
   have hW:=aa (S05.aI h7 (show w.heap.size≠g2 by omega) p (.int .u8 ((x ^^^ b j:Nat):Int)))
   have hf:=aa (h8.setCell (p:=⟨g2,p,none⟩) H0.out (.int .u8 ((x ^^^ b j:Nat):Int)))
   generalize b j=y at*
   clear hw h4 h7 h8 hp
   go_wp2_with fail
   go_region
   go_wp2_with fail
   go_roundw
   case rel=>exact⟨j+1,by omega,by go_num,h6.out,hW.out,hf.out.drew⟩
   case measure=>simp[intOf];omega
  ·obtain rfl:j=4:=by omega
   have h5:=run_convert_bytes_arg (P:=Tryz.prog) wr 43 5 Tryz.underlying43 Tryz.underlying5 g2 0 n cap ((List.range n).map fun i=>((fg l b 4 i:Nat):Int)) (by simp) (fun i hi=>by
    rw[Nat.zero_add,(h4 i hi).1,List.getD_eq_getElem?_getD,List.getElem?_map,List.getElem?_range hi]
    rfl) 9 Tryz.underlying9
   rw[h6.out]at h5
   have hf:=aa h8
   clear h4 h7 h8
   go_wp2_with fail
   refine(hY.out _).mono ?_
   rintro e w6 ⟨rfl,hI⟩
   have hQ:=aa (ao hf.out hI)
   clear hI
   go_wp2_with fail
   refine(hO.out _).mono ?_
   rintro e w7 ⟨rfl,hJ⟩
   have hR:=aa (ao hQ.out hJ)
   clear hJ
   go_wp2_with fail
   go_ret
   exact⟨rfl,hR.out⟩
end
theorem Hy:Tryz.prog.cellsOf 42=4:=by kernel_rfl
theorem It:Tryz.prog.cellsOf 5=1:=by kernel_rfl
open Go.ChangeShapes Go.WideShapes Go.ChangeAt in
theorem Ci{H:Type}{enc:TypeId×Value→H}{W:World}{base:Nat}{v:Value}{d:DataW H}{ps:List MemPlace}(hv:Value.okWide Tryz.prog W .any base 42 v)
 (h:DataW.Trod enc Tryz.prog W 0 (fun _=>true) true 42 v d ps):∃f:Nat→Nat,v=.agg #[.int .u8 (f 0),.int .u8 (f 1),.int .u8 (f 2),.int .u8 (f 3)]∧∀i,i<4→f i<256:=by
 obtain⟨cs,rfl,h0,_⟩:∃cs,v=.agg cs∧cs.size=Tryz.prog.cellsOf 42∧Row.okWide Tryz.prog W .any base 42 cs:=by
  simpa [Value.okWide,Tryz.underlying42]using hv
 rw[Hy]at h0
 obtain⟨fuel,hf⟩:=h
 obtain⟨xs,m,_,_,_,hl,h4⟩:=DataW.trod_array Tryz.underlying42 hf
 obtain⟨c0,c1,c2,c3,h3⟩:∃c0 c1 c2 c3,cs=#[c0,c1,c2,c3]:=by
  obtain⟨l⟩:=cs
  match l,h0 with
  | [x,y,z,u],_=>exact⟨x,y,z,u,rfl⟩
 subst h3
 have get:∀(i:Nat) (ci:Value),i<4→(([c0,c1,c2,c3]:List Value).drop i).take 1= [ci]→∃k:Nat,ci=.int .u8 k∧k<256:=by
  intro i ci hi hc
  have h1:=h4 i hi
  rw[It,Nat.mul_one]at h1
  have hx:xs[i]? =some xs[i]:=List.getElem?_eq_getElem (by omega)
  rw[hx]at h1
  have h2:DataW.trod enc Tryz.prog W 0 (fun _=>true) true m 5 [ci]=some xs[i]:=by rw[← hc];exact h1
  obtain⟨k,e1,_,hw⟩:=DataW.trod_int Tryz.underlying5 h2
  simp only[List.cons.injEq,and_true]at e1
  have hb:=bounds_u8 hw
  refine⟨k.toNat,?_,by omega⟩
  rw[e1,Int.toNat_of_nonneg hb.1]
 obtain⟨a,rfl,ha⟩:=get 0 c0 (by omega) rfl
 obtain⟨b,rfl,hb⟩:=get 1 c1 (by omega) rfl
 obtain⟨c,rfl,hc⟩:=get 2 c2 (by omega) rfl
 obtain⟨d,rfl,hd⟩:=get 3 c3 (by omega) rfl
 refine⟨fun i=>if i=0 then a else if i=1 then b else if i=2 then c else d,rfl,fun i hi=> ?_⟩
 dsimp only
 split
 ·exact ha
 split
 ·exact hb
 split
 ·exact hc
 ·exact hd
end Go.Proofs.YthakcjehhlpjnaaGreat
namespace Go.Proofs.YthakcjehhlpjnaaGreat.BlockMakes
open Go.ChangeShapes Go.WideShapes Go.ChangeAt Go.RowKit
end Go.Proofs.YthakcjehhlpjnaaGreat.BlockMakes
namespace Go.Proofs.YthakcjehhlpjnaaGreat.BlockTakes
open Go.ChangeShapes Go.WideShapes Go.ChangeAt Go.RowKit
end Go.Proofs.YthakcjehhlpjnaaGreat.BlockTakes
namespace Go.Proofs.YthakcjehhlpjnaaGreat.BlockBack
open Go.ChangeShapes Go.WideShapes Go.ChangeAt Go.RowKit
theorem qZ(R:cT 20000)(os:Os)(started:os.Started)(H:Type)(enc:TypeId×Value→H):
 ReturnsInHanded {} Tryz.checked os 5 .any (Rows.blockBackSpec.pre6 enc Tryz.prog Tryz.f5 Rows.blockBackRow.domain false) (Rows.blockBackSpec.post enc Tryz.prog Tryz.f5 false true false false):=by
 refine returnsInHanded_of_change (C:=Tryz.checked) own started (by kernel_rfl) Tryz.func5
  (ChangeSpec.witness6 (enc:=enc) (C:=Tryz.checked) false ⟨#[],#[.string ⟨#[]⟩,.string ⟨#[]⟩,.int .i64 0], []⟩ 8 (by kernel_rfl) (by kernel_rfl) (by kernel_rfl) (by kernel_rfl)) ?_
 intro W base args ds gs before h4 hW h9 _
 have h3:∀(j:Nat) t v,Tryz.f5.params[j]? =some t→args[j]? =some v→Value.okWide Tryz.prog W .any base t v:=h4
 have h8:=hW
 obtain⟨p,q,h6,hV,rfl,ha,hc⟩:=hW
 have hA:DataW.TrodAll enc Tryz.prog W 0 (fun _=>true) true Tryz.f5.params.toList args.toList ds p:=h6
 rw[Tryz.params5]at hA h3
 obtain⟨v0,vs0,d0,ds0,p0,q0,h7,rfl,rfl,h0,r0⟩:=trodAll_cons hA
 obtain⟨v1,vs1,d1,ds1,p1,q1,rfl,rfl,rfl,h1,r1⟩:=trodAll_cons r0
 obtain⟨v2,vs2,d2,ds2,p2,q2,rfl,rfl,rfl,h2,r2⟩:=trodAll_cons r1
 obtain⟨rfl,rfl,rfl⟩:=trodAll_nil r2
 obtain rfl:args=#[v0,v1,v2]:=by cases args;simp_all
 obtain⟨rfl,rfl⟩:=trodVars_none hV
 obtain⟨s0,rfl,rfl,rfl,ws0⟩:=Go.ChangeMaps.open_string Tryz.underlying9 (h3 0 9 v0 rfl rfl) h0
 obtain⟨s1,rfl,rfl,rfl,ws1⟩:=Go.ChangeMaps.open_string Tryz.underlying9 (h3 1 9 v1 rfl rfl) h1
 obtain⟨i2,rfl,rfl,rfl,w2⟩:=open_int Tryz.underlying3 (h3 2 3 v2 rfl rfl) h2
 have b2:=bounds_i64 w2
 clear h6 h4
 have fin:∀e W',(e=Ending.returned (.bool true)∧Below W.heap.size W W')→∃v,e=Ending.returned v∧Rows.blockBackSpec.post enc Tryz.prog Tryz.f5 false true false false W #[.string s0,.string s1,.int .i64 i2] v W':=by
  rintro e W' ⟨rfl,hb⟩
  exact⟨_,rfl,qA h8 rfl hb (by kernel_rfl) (by kernel_rfl) rfl⟩
 unfold maxLen at ws0 ws1
 by_cases h5:2000<s0.size∨1000<s1.size
 ·exact(Dl R W s0 s1 i2 (by omega) (by omega) h5).mono fin
 ·by_cases h0:s0.size=0
  ·obtain rfl:=xO h0
   exact(Al R W s1 i2 (by omega)).mono fin
  ·exact(CK R W s0 s1 i2 (by omega) (by omega) (by omega) b2.1 b2.2).mono fin
theorem EX(R:cT 20000):Rows.blockBackRow.holds Tryz.pinned (OpenSpec.ofChange Rows.blockBackSpec):=
 OpenClaim.holds_of_wide 5 Tryz.f5 rfl rfl rfl rfl rfl rfl rfl ⟨rfl,rfl,rfl,rfl,rfl⟩ rfl rfl rfl rfl rfl (by kernel_rfl) Tryz.func5 (by kernel_rfl)
  (of_decide_eq_true (by kernel_rfl)) (by unfold Func.isWrapper;first | (rw [if_pos (by decide +kernel)];kernel_rfl) | (rw [if_neg (by decide +kernel)];exact⟨rfl,rfl⟩))
  (fun os started H enc _=>qZ R os started H enc)
end Go.Proofs.YthakcjehhlpjnaaGreat.BlockBack
namespace Go.Proofs.YthakcjehhlpjnaaGreat.BlockSums
open Go.ChangeShapes Go.WideShapes Go.ChangeAt Go.RowKit
theorem qZ(R:cT 20000)(os:Os)(started:os.Started)(H:Type)(enc:TypeId×Value→H):
 ReturnsInHanded {} Tryz.checked os 6 .any (Rows.blockSumsSpec.pre6 enc Tryz.prog Tryz.f6 Rows.blockSumsRow.domain false) (Rows.blockSumsSpec.post enc Tryz.prog Tryz.f6 false true false false):=by
 refine returnsInHanded_of_change (C:=Tryz.checked) own started (by kernel_rfl) Tryz.func6
  (ChangeSpec.witness6 (enc:=enc) (C:=Tryz.checked) false ⟨#[],#[.string ⟨#[]⟩,.agg #[.int .u8 0,.int .u8 0,.int .u8 0,.int .u8 0]], []⟩ 8 (by kernel_rfl) (by kernel_rfl) (by kernel_rfl) (by kernel_rfl)) ?_
 intro W base args ds gs before h2 hW h7 _
 have h3:∀(j:Nat) t v,Tryz.f6.params[j]? =some t→args[j]? =some v→Value.okWide Tryz.prog W .any base t v:=h2
 have h6:=hW
 obtain⟨p,q,h4,hV,rfl,h9,ha⟩:=hW
 have hA:DataW.TrodAll enc Tryz.prog W 0 (fun _=>true) true Tryz.f6.params.toList args.toList ds p:=h4
 rw[Tryz.params6]at hA h3
 obtain⟨v0,vs0,d0,ds0,p0,q0,h5,rfl,rfl,h0,r0⟩:=trodAll_cons hA
 obtain⟨v1,vs1,d1,ds1,p1,q1,rfl,rfl,rfl,h1,r1⟩:=trodAll_cons r0
 obtain⟨rfl,rfl,rfl⟩:=trodAll_nil r1
 obtain rfl:args=#[v0,v1]:=by cases args;simp_all
 obtain⟨rfl,rfl⟩:=trodVars_none hV
 obtain⟨s0,rfl,rfl,rfl,ws0⟩:=Go.ChangeMaps.open_string Tryz.underlying9 (h3 0 9 v0 rfl rfl) h0
 obtain⟨f1,rfl,h8⟩:=Ci (h3 1 42 v1 rfl rfl) h1
 clear h4 h2
 have fin:∀e W',(e=Ending.returned (.bool true)∧Below W.heap.size W W')→∃v,e=Ending.returned v∧Rows.blockSumsSpec.post enc Tryz.prog Tryz.f6 false true false false W #[.string s0,.agg #[.int .u8 (f1 0),.int .u8 (f1 1),.int .u8 (f1 2),.int .u8 (f1 3)]] v W':=by
  rintro e W' ⟨rfl,hb⟩
  exact⟨_,rfl,qA h6 rfl hb (by kernel_rfl) (by kernel_rfl) rfl⟩
 unfold maxLen at ws0
 by_cases he:s0.size=0∨2000<s0.size∨nz f1
 ·exact(BZ R W s0 f1 (by omega) he).mono fin
 ·exact(EB R W s0 f1 (by omega) (by omega) h8 (fun h=>he (.inr (.inr h)))).mono fin
theorem EX(R:cT 20000):Rows.blockSumsRow.holds Tryz.pinned (OpenSpec.ofChange Rows.blockSumsSpec):=
 OpenClaim.holds_of_wide 6 Tryz.f6 rfl rfl rfl rfl rfl rfl rfl ⟨rfl,rfl,rfl,rfl,rfl⟩ rfl rfl rfl rfl rfl (by kernel_rfl) Tryz.func6 (by kernel_rfl)
  (of_decide_eq_true (by kernel_rfl)) (by unfold Func.isWrapper;first | (rw [if_pos (by decide +kernel)];kernel_rfl) | (rw [if_neg (by decide +kernel)];exact⟨rfl,rfl⟩))
  (fun os started H enc _=>qZ R os started H enc)
end Go.Proofs.YthakcjehhlpjnaaGreat.BlockSums
namespace Go.Proofs.YthakcjehhlpjnaaGreat.BlockSmall
open Go.ChangeShapes Go.WideShapes Go.ChangeAt Go.RowKit
theorem qZ(R:cT 20000)(os:Os)(started:os.Started)(H:Type)(enc:TypeId×Value→H):
 ReturnsInHanded {} Tryz.checked os 7 .any (Rows.blockSmallSpec.pre6 enc Tryz.prog Tryz.f7 Rows.blockSmallRow.domain false) (Rows.blockSmallSpec.post enc Tryz.prog Tryz.f7 false true false false):=by
 refine returnsInHanded_of_change (C:=Tryz.checked) own started (by kernel_rfl) Tryz.func7
  (ChangeSpec.witness6 (enc:=enc) (C:=Tryz.checked) false ⟨#[],#[.string ⟨#[]⟩], []⟩ 8 (by kernel_rfl) (by kernel_rfl) (by kernel_rfl) (by kernel_rfl)) ?_
 intro W base args ds gs before h1 hW h6 _
 have h2:∀(j:Nat) t v,Tryz.f7.params[j]? =some t→args[j]? =some v→Value.okWide Tryz.prog W .any base t v:=h1
 have h5:=hW
 obtain⟨p,q,h3,hV,rfl,h7,h8⟩:=hW
 have hA:DataW.TrodAll enc Tryz.prog W 0 (fun _=>true) true Tryz.f7.params.toList args.toList ds p:=h3
 rw[Tryz.params7]at hA h2
 obtain⟨v0,vs0,d0,ds0,p0,q0,h4,rfl,rfl,h0,r0⟩:=trodAll_cons hA
 obtain⟨rfl,rfl,rfl⟩:=trodAll_nil r0
 obtain rfl:args=#[v0]:=by cases args;simp_all
 obtain⟨rfl,rfl⟩:=trodVars_none hV
 obtain⟨s0,rfl,rfl,rfl,ws0⟩:=Go.ChangeMaps.open_string Tryz.underlying9 (h2 0 9 v0 rfl rfl) h0
 clear h3 h1
 have fin:∀e W',(e=Ending.returned (.bool true)∧Below W.heap.size W W')→∃v,e=Ending.returned v∧Rows.blockSmallSpec.post enc Tryz.prog Tryz.f7 false true false false W #[.string s0] v W':=by
  rintro e W' ⟨rfl,hb⟩
  exact⟨_,rfl,qA h5 rfl hb (by kernel_rfl) (by kernel_rfl) rfl⟩
 unfold maxLen at ws0
 exact(BV R W s0 (by omega)).mono fin
theorem EX(R:cT 20000):Rows.blockSmallRow.holds Tryz.pinned (OpenSpec.ofChange Rows.blockSmallSpec):=
 OpenClaim.holds_of_wide 7 Tryz.f7 rfl rfl rfl rfl rfl rfl rfl ⟨rfl,rfl,rfl,rfl,rfl⟩ rfl rfl rfl rfl rfl (by kernel_rfl) Tryz.func7 (by kernel_rfl)
  (of_decide_eq_true (by kernel_rfl)) (by unfold Func.isWrapper;first | (rw [if_pos (by decide +kernel)];kernel_rfl) | (rw [if_neg (by decide +kernel)];exact⟨rfl,rfl⟩))
  (fun os started H enc _=>qZ R os started H enc)
end Go.Proofs.YthakcjehhlpjnaaGreat.BlockSmall
