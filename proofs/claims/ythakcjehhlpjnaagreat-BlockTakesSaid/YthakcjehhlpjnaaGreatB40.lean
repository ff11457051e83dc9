import Derived.Test.YthakcjehhlpjnaaGreatB18
set_option maxHeartbeats 1600000
set_option maxRecDepth 1000000
namespace Go.Proofs.YthakcjehhlpjnaaGreat.S03
open Go.RowKit
theorem uX(x:UInt8)(l:List UInt8):bE (x :: l)=0+cU x (255 - 0) ((x :: l).drop 0):=by
 show cU x 254 l+1=0+cU x (254+1) (x :: l)
 rw[cU,if_pos rfl]
 omega
theorem EF(l:List UInt8)(k:Nat)(x y:UInt8)(hy:l[k]? =some y)(he:y=x)(h2:k<255)(h:bE l=k+cU x (255 - k) (l.drop k)):
 bE l=(k+1)+cU x (255 - (k+1)) (l.drop (k+1)):=by
 have h0:k<l.length:=by
  rcases Nat.lt_or_ge k l.length with h1 | h1
  ·exact h1
  ·rw[List.getElem?_eq_none h1]at hy;cases hy
 have hd:l.drop k=y :: l.drop (k+1):=by
  rw[List.drop_eq_getElem_cons h0]
  rw[List.getElem?_eq_getElem h0]at hy
  rw[Option.some.inj hy]
 rw[h,hd,show 255 - k=(255 - (k+1))+1 by omega,cU,if_pos he]
 omega
theorem GT(w:World)(t:ByteArray)(hs:t.size≤9223372036854775807):
 Calls Tryz.prog 46 #[.string t] w fun e w'=>e=.returned (.int .i64 (bE t.data.toList))∧Below w.heap.size w w':=by
 go_enter Tryz.func46,Tryz.ntmps46
 go_wp2_with fail
 go_loopw [3] (fun i wx=>∃k:Nat,k≤255∧k≤t.size∧i=.int .i64 k∧(∀ h:0<t.size,bE t.data.toList=k+cU t[0] (255 - k) (t.data.toList.drop k))∧Below w.heap.size w wx) (fun i _=>255 - (intOf i).toNat)
 case atStart=>
  refine⟨0,by omega,by omega,rfl,fun h=> ?_,Below.refl _ _⟩
  rw[ga t h]
  exact uX _ _
 case round=>
  obtain⟨k,h1,h2,rfl,hk,h5⟩:=hrel
  have h4:=aa h5
  clear h5
  by_cases e1:k<t.size
  ·have h0:0<t.size:=by omega
   have h3:=hk h0
   clear hk
   by_cases e2:k<255
   ·by_cases e3:t[k]=t[0]
    ·have HK:=aa (EF t.data.toList k t[0] t[k] (fK t k e1) e3 e2 h3)
     have q:(((t[k].toNat:Nat):Int)==((t[0].toNat:Nat):Int))=true:=by rw[e3];simp
     clear h3
     have d2:decide ((k:Int)<if(255:Int)<(t.size:Int)then 255 else(t.size:Int))=true:=decide_eq_true (by split <;>omega)
     have d2m:decide ((k:Int)<min (t.size:Int) 255)=true:=ar (by omega)
     go_wp2_with fail
     go_region
     go_wp2_with fail
     go_roundw
     case rel=>exact⟨k+1,by omega,by omega,by go_num,fun _=>HK.out,az h4.out 1⟩
     case measure=>simp[intOf];omega
    ·have HK:=aa (lG t.data.toList k t[0] h3 (.inr (.inr ⟨t[k],fK t k e1,e3⟩)))
     have q:(((t[k].toNat:Nat):Int)==((t[0].toNat:Nat):Int))=false:=by
      simp only[beq_eq_false_iff_ne,ne_eq]
      intro h
      exact e3 (UInt8.toNat_inj.1 (by omega))
     clear h3 e3
     have d2:decide ((k:Int)<if(255:Int)<(t.size:Int)then 255 else(t.size:Int))=true:=decide_eq_true (by split <;>omega)
     have d2m:decide ((k:Int)<min (t.size:Int) 255)=true:=ar (by omega)
     go_wp2_with fail
     go_region
     go_wp2_with fail
     all_goals (
      go_ret
      exact⟨by rw[HK.out];rfl,az h4.out 1⟩)
   ·have HK:=aa (lG t.data.toList k t[0] h3 (.inr (.inl (by omega))))
    clear h3
    have d0:(255:Int)<(t.size:Int):=by omega
    have d2:decide ((k:Int)<255)=false:=ao (by omega)
    have d2m:decide ((k:Int)<min (t.size:Int) 255)=false:=ao (by omega)
    go_wp2_with fail
    go_region
    go_wp2_with fail
    go_ret
    exact⟨by rw[HK.out];rfl,az h4.out 1⟩
  ·have hz:bE t.data.toList=k:=by
    by_cases h0:0<t.size
    ·exact lG t.data.toList k t[0] (hk h0) (.inl (by show t.size≤k;omega))
    ·have ht:t.data.toList= []:=List.eq_nil_of_length_eq_zero (by show t.size=0;omega)
     rw[ht]
     show 0=k
     omega
   have HK:=aa hz
   clear hk hz
   have d2:decide ((k:Int)<if(255:Int)<(t.size:Int)then 255 else(t.size:Int))=false:=decide_eq_false (by split <;>omega)
   have d2m:decide ((k:Int)<min (t.size:Int) 255)=false:=ao (by omega)
   go_wp2_with fail
   go_region
   go_wp2_with fail
   go_ret
   exact⟨by rw[HK.out];rfl,az h4.out 1⟩
theorem xY(t:ByteArray)(o:List UInt8)(k:Nat)(S:List UInt8)(ht:0<t.size)(hk:bE t.data.toList=k)(h4:k<4)(hS:o++bB t.data.toList=S):
 1≤k∧k≤t.size∧(o++t.data.toList.take k)++bB (t.extract k t.size).data.toList=S:=by
 have hl:=ga t ht
 have hp:0<bE t.data.toList:=by rw[hl];exact jd _ _
 have h0:t.data.toList≠ []:=fun h=>by rw[h]at hp;exact absurd hp (by decide)
 have hh:=(ru t.data.toList).2
 have h2:t.data.toList.length=t.size:=rfl
 refine⟨by omega,by omega,?_⟩
 rw[← hS,o8 _ h0,hk,oF,if_pos h4,iR,List.append_assoc]
theorem Ae(t:ByteArray)(o:List UInt8)(k:Nat)(S:List UInt8)(ht:0<t.size)(hk:bE t.data.toList=k)(h4:¬k<4)(hS:o++bB t.data.toList=S):
 k≤255∧k≤t.size∧(o++t.data.toList.take 4++ [UInt8.ofNat (k - 4)])++bB (t.extract k t.size).data.toList=S:=by
 have hl:=ga t ht
 have hp:0<bE t.data.toList:=by rw[hl];exact jd _ _
 have h0:t.data.toList≠ []:=fun h=>by rw[h]at hp;exact absurd hp (by decide)
 have hh:=ru t.data.toList
 have h2:t.data.toList.length=t.size:=rfl
 refine⟨by omega,by omega,?_⟩
 rw[← hS,o8 _ h0,hk,oF,if_neg h4,iR,List.append_assoc,List.append_assoc,List.append_assoc]
theorem gK(w:World)(s:ByteArray)(hs:s.size≤2097152):
 Calls Tryz.prog 15 #[.string s] w fun e w'=>e=.returned (.string ⟨(bB s.data.toList).toArray⟩)∧Below w.heap.size w w':=by
 obtain⟨i5,h5,hx,hy,hA⟩:=info_parts Tryz.info5
 go_enter Tryz.func15,Tryz.ntmps15
 go_wp2_with fail
 go_loopw [0,3] (fun a v wr=>∃(t:ByteArray) (o:List UInt8),a=.string t∧wr.ownsRow w.heap.size 5 1 v o.length (o.map bv)∧o.length+2*t.size≤2*s.size∧o++bB t.data.toList=bB s.data.toList∧Below w.heap.size w wr) (fun a _ _=>yX a)
 case atStart=>exact⟨s, [],rfl,World.ownsRow_nil _ _ _ _,by simp,rfl,Below.refl _ _⟩
 case round=>
  obtain⟨t,o,rfl,h8,hi,h7,hb⟩:=hrel
  have he:=hb.size
  by_cases h:0<t.size
  ·have hr:=GT wr t (by omega)
   obtain⟨k,hk⟩:∃k,bE t.data.toList=k:=⟨_,rfl⟩
   obtain⟨N,hN⟩:∃N,N=o.length:=⟨_,rfl⟩
   rw[hk]at hr
   have HR:=aa hr
   have HB:=aa hb
   rw[← hN]at h8 hi
   have HN:=aa hN
   have hl:=aa h8
   by_cases h4:k<4
   ·have HP:=aa (xY t o k _ h hk h4 h7)
    have hE:=HP.out.1
    have hF:=HP.out.2.1
    clear h7 hk hr hb h8 hN
    go_wp2_with fail
    refine HR.out.mono ?_
    rintro e w1 ⟨rfl,hg⟩
    have h2:=(am hg).row hl.out (fun _ _=>aq) aq
    have hj:=aa (HB.out.trans (hg.mono he))
    have h3:=hj.out.size
    clear hg
    have hG:(t.extract 0 k).size=k:=by rw[ByteArray.size_extract];omega
    have ho:N≤4194304:=by omega
    have hf:=aa ho
    have hw:=aa hi
    clear ho hi
    go_wp2_with (at_builtin;refine Lib.wpList_append_own_string _ rfl _ _ 43 9 rfl w.heap.size 5 i5 Tryz.underlying43 Tryz.underlying9 h5 hx hy hA _ _ _ rfl h2 (t.extract 0 k) rfl ?c3 ?c4 ?c5 ?_)
    case c3=>have:=hf.out;unfold maxLen;omega
    case c4=>have:=hf.out;omega
    case c5=>exact h3
    intro v2 w2 h6 h1 _
    have h0:w2.ownsRow w.heap.size 5 1 v2 (N+k) ((o++t.data.toList.take k).map bv):=by
     rw[List.map_append,←lI]
     exact h6
    have hp:Below w.heap.size w w2:=hj.out.grown h1 h3 (fun k hk=>(h2.lt k hk).1)
    have hv:=aa hp
    have hm:=aa h0
    clear hp h6 h0 h1 h2
    go_wp2_with fail
    have ha:(o++t.data.toList.take k).length=N+k:=by
     rw[List.length_append,List.length_take,←HN.out,show t.data.toList.length=t.size from rfl]
     omega
    go_roundw
    case rel=>
     refine⟨t.extract k t.size,o++t.data.toList.take k,rfl,?_,?_,HP.out.2.2,hv.out⟩
     ·rw[ha]
      exact hm.out
     ·rw[ha,aW]
      have:=hw.out
      omega
    case measure=>show(t.extract k t.size).size<t.size;rw[aW];omega
   ·have HP:=aa (Ae t o k _ h hk h4 h7)
    have hE:=HP.out.1
    have hF:=HP.out.2.1
    clear h7 hk hr hb h8 hN
    go_wp2_with fail
    refine HR.out.mono ?_
    rintro e w1 ⟨rfl,hg⟩
    have h2:=(am hg).row hl.out (fun _ _=>aq) aq
    have hj:=aa (HB.out.trans (hg.mono he))
    have h3:=hj.out.size
    clear hg
    have hG:(t.extract 0 4).size=4:=by rw[ByteArray.size_extract];omega
    have ho:N≤4194304:=by omega
    have hf:=aa ho
    have hw:=aa hi
    have HS:=aa hs
    have d0:(if(4:Int)<(k:Int)then(4:Int)else(k:Int))=4:=by split <;>omega
    have d4:(4:Int)≤t.size:=by omega
    have d5:(4:Int)≤k:=by omega
    have d6:decide ((4:Int)≤k)=true:=decide_eq_true d5
    clear ho hi hs h4
    go_wp2_with (at_builtin;refine Lib.wpList_append_own_string _ rfl _ _ 43 9 rfl w.heap.size 5 i5 Tryz.underlying43 Tryz.underlying9 h5 hx hy hA _ _ _ rfl h2 (t.extract 0 4) rfl ?c3 ?c4 ?c5 ?_)
    case c3=>have:=hf.out;unfold maxLen;omega
    case c4=>have:=hf.out;omega
    case c5=>exact h3
    intro v2 w2 h6 h1 _
    have h0:w2.ownsRow w.heap.size 5 1 v2 (N+4) ((o++t.data.toList.take 4).map bv):=by
     rw[List.map_append,←lI]
     exact h6
    have hp:Below w.heap.size w w2:=hj.out.grown h1 h3 (fun k hk=>(h2.lt k hk).1)
    obtain⟨X,hX⟩:∃X,X=(o++t.data.toList.take 4).map bv:=⟨_,rfl⟩
    rw[← hX]at h0
    have HX:=aa hX
    have hv:=aa hp
    have hh:=hv.out.size
    have hH:(k:Int) - 4<256:=by omega
    clear hp h6 h1 h2 hX
    go_wp2_with (at_builtin;refine wpList_append_own _ rfl _ _ 43 rfl w.heap.size 5 i5 (.int .u8 0) 1 1 Tryz.underlying43 h5 hx hy hA rfl (by decide) _ _ _ rfl (h0.alloc _) ⟨w2.heap.size,0,none⟩ 1 1 [.int .u8 ((k:Int) - 4)] rfl rfl ?c1 ?c2 ?c3 ?c4 ?c5 ?_)
    case c1=>exact cell_one_new _ _ _
    case c2=>intro u hu;simp at hu;subst hu;rfl
    case c3=>have:=hf.out;unfold maxLen;omega
    case c4=>have:=hf.out;omega
    case c5=>simp;omega
    intro v3 w3 hc h9 _
    have hB:Below w.heap.size w w3:=(hv.out.alloc hh _).grown h9 (by simp;omega) (fun k hk=>(h0.lt k hk).1)
    have hD:=aa hB
    have hn:=aa hc
    clear hB hc h9 h0
    go_wp2_with fail
    have ha:(o++t.data.toList.take 4++ [UInt8.ofNat (k - 4)]).length=N+4+1:=by
     rw[List.length_append,List.length_append,List.length_take,←HN.out,show t.data.toList.length=t.size from rfl,List.length_singleton]
     omega
    have hq:bv (UInt8.ofNat (k - 4))=.int .u8 ((k:Int) - 4):=by
     have:(UInt8.ofNat (k - 4)).toNat=k - 4:=by
      rw[UInt8.toNat_ofNat']
      exact Nat.mod_eq_of_lt (by omega)
     unfold bv
     rw[this]
     congr 1
     omega
    go_roundw
    case rel=>
     refine⟨t.extract k t.size,o++t.data.toList.take 4++ [UInt8.ofNat (k - 4)],rfl,?_,?_,HP.out.2.2,hD.out⟩
     ·rw[ha,List.map_append,←HX.out,List.map_cons,List.map_nil,hq]
      exact hn.out
     ·rw[ha,aW]
      have:=hw.out
      omega
    case measure=>show(t.extract k t.size).size<t.size;rw[aW];omega
  ·have hz:t.size=0:=by omega
   have ht:t.data.toList= []:=List.eq_nil_of_length_eq_zero hz
   rw[ht,yn,List.append_nil]at h7
   have hC:=fO h8
   have HE:=aa h7
   have HB:=aa hb
   clear h7 hb h8 hi
   go_wp2_with fail
   go_ret
   rw[← HE.out]
   exact⟨rfl,HB.out⟩
theorem rT(x:UInt8):∀(m:Nat) (l:List UInt8),l=List.replicate (cU x m l) x++l.drop (cU x m l)∧(cU x m l<m→(l.drop (cU x m l)).head? ≠some x)
 | 0,l=>⟨rfl,fun h=>absurd h (Nat.lt_irrefl _)⟩
 | m+1, []=>⟨rfl,fun _ h=>by cases h⟩
 | m+1,y :: l=>by
   by_cases e:y=x
   ·have h:=rT x m l
    subst e
    have hr:cU y (m+1) (y :: l)=cU y m l+1:=by rw[cU,if_pos rfl]
    rw[hr]
    refine⟨?_,fun hlt=>h.2 (by omega)⟩
    show y :: l=y :: (List.replicate (cU y m l) y++l.drop (cU y m l))
    rw[← h.1]
   ·have hr:cU x (m+1) (y :: l)=0:=by rw[cU,if_neg e]
    rw[hr]
    exact⟨rfl,fun _ h=>e (Option.some.inj h)⟩
theorem zV(x:UInt8)(l:List UInt8)(n:Nat)(h:fd (x :: l)=n)(h4:n<4):x :: l=List.replicate n x++(x :: l).drop n∧((x :: l).drop n).head? ≠some x:=by
 have hs:=rT x 3 l
 have h1:1+cU x 3 l=n:=h
 obtain⟨j,rfl⟩:∃j,n=j+1:=⟨n - 1,by omega⟩
 have hj:cU x 3 l=j:=by omega
 rw[hj]at hs
 refine⟨?_,hs.2 (by omega)⟩
 show x :: l=x :: (List.replicate j x++l.drop j)
 rw[← hs.1]
theorem qu(x:UInt8)(r:List UInt8)(hr:r.head? ≠some x):∀(k:Nat) (o:List UInt8),k<4→o.length≤262144→dZ o (List.replicate k x++r)=if o.length+k≤262144 then dZ (o++List.replicate k x) r else([],3)
 | 0,o,_,ho=>by
   rw[if_pos (by omega)]
   simp
 | k+1,o,h,ho=>by
   have hs:=oz x (k+1) r (by omega) (by omega) (.inr hr)
   show dZ o (x :: (List.replicate k x++r))=_
   rw[jJ,if_pos (by show fd (List.replicate (k+1) x++r)<4;omega)]
   by_cases hb:262144≤o.length
   ·rw[if_pos hb,if_neg (by omega)]
   ·rw[if_neg hb,qu x r hr k (o++ [x]) (by omega) (by rw[List.length_append,List.length_singleton];omega),List.length_append,List.length_singleton,List.append_assoc]
    by_cases hf:o.length+(k+1)≤262144
    ·rw[if_pos (by omega),if_pos hf]
     rfl
    ·rw[if_neg (by omega),if_neg hf]
theorem IX(o l:List UInt8)(n:Nat)(hl:l≠ [])(h:fd l=n)(h4:n<4)(ho:o.length≤262144):dZ o l=if o.length+n≤262144 then dZ (o++l.take n) (l.drop n)else([],3):=by
 cases l with
 | nil=>exact absurd rfl hl
 | cons x l=>
   obtain⟨hs,hh⟩:=zV x l n h h4
   have hd:=qu x _ hh n o h4 ho
   rw[← hs]at hd
   have ht:(x :: l).take n=List.replicate n x:=by
    have h2:=congrArg (List.take n) hs
    rw[List.take_append_of_le_length (by simp)]at h2
    rw[h2,List.take_of_length_le (by simp)]
   rw[hd,ht]
theorem z8(o l:List UInt8)(x:UInt8)(hx:l[0]? =some x)(h:fd l=4):dZ o l=
 if 262144<o.length+4 then([],3)else if l.length=4 then([],30)
 else if 262144<o.length+4+(l.getD 4 0).toNat then([],3)else dZ (o++l.take 4++List.replicate (l.getD 4 0).toNat x) (l.drop 5):=by
 cases l with
 | nil=>cases hx
 | cons y l=>
   have e:y=x:=Option.some.inj hx
   subst e
   rw[jJ,if_neg (by omega)]
   have h4:(l.length=3)=((y :: l).length=4):=by
    rw[List.length_cons]
    exact propext ⟨fun h=>by omega,fun h=>by omega⟩
   simp only[h4]
   rfl
end Go.Proofs.YthakcjehhlpjnaaGreat.S03
