import Derived.Test.YthakcjehhlpjnaaGreatB00
import Derived.Lib.AppendStr
set_option maxHeartbeats 1600000
set_option maxRecDepth 1000000
namespace Go.Proofs.YthakcjehhlpjnaaGreat.S03
def cU(x:UInt8):Nat→List UInt8→Nat
 | 0,_=>0
 | _+1, []=>0
 | m+1,y :: l=>if y=x then cU x m l+1 else 0
theorem vz(x:UInt8):∀(m:Nat) (l:List UInt8),cU x m l≤m∧cU x m l≤l.length
 | 0,l=>⟨Nat.le_refl _,Nat.zero_le _⟩
 | m+1, []=>⟨Nat.zero_le _,Nat.le_refl _⟩
 | m+1,y :: l=>by
   have h:=vz x m l
   unfold cU
   split <;>simp <;>omega
def bE:List UInt8→Nat
 | []=>0
 | x :: l=>cU x 254 l+1
theorem ru(l:List UInt8):bE l≤255∧bE l≤l.length:=by
 cases l with
 | nil=>exact⟨by simp[bE],by simp[bE]⟩
 | cons x l=>
   have h:=vz x 254 l
   simp only[bE,List.length_cons]
   omega
theorem jd(x:UInt8)(l:List UInt8):0<bE (x :: l):=Nat.succ_pos _
def oF(l:List UInt8)(k:Nat):List UInt8:=if k<4 then l.take k else l.take 4++ [UInt8.ofNat (k - 4)]
def dM:Nat→List UInt8→List UInt8
 | 0,_=> []
 | _+1, []=> []
 | n+1,x :: l=>oF (x :: l) (bE (x :: l))++dM n ((x :: l).drop (bE (x :: l)))
theorem nw(n:Nat):dM n []= []:=by cases n <;>rfl
theorem CK(n:Nat):∀(m:Nat) (l:List UInt8),l.length≤n→l.length≤m→dM n l=dM m l:=by
 induction n with
 | zero=>
   intro m l h _
   have:l= []:=List.eq_nil_of_length_eq_zero (by omega)
   subst this
   rw[nw,nw]
 | succ n ih=>
   intro m l h h2
   cases l with
   | nil=>rw[nw,nw]
   | cons x l=>
     cases m with
     | zero=>simp at h2
     | succ m=>
       have hp:=jd x l
       simp only[List.length_cons]at h h2
       unfold dM
       rw[ih m _ (by rw[List.length_drop,List.length_cons];omega) (by rw[List.length_drop,List.length_cons];omega)]
def bB(l:List UInt8):List UInt8:=dM l.length l
theorem yn:bB []= []:=rfl
theorem Dr(x:UInt8)(l:List UInt8):bB (x :: l)=oF (x :: l) (bE (x :: l))++bB ((x :: l).drop (bE (x :: l))):=by
 have hp:=jd x l
 unfold bB
 rw[List.length_cons,dM,CK l.length _ _ (by rw[List.length_drop,List.length_cons];omega) (ah _)]
theorem o8(l:List UInt8)(h:l≠ []):bB l=oF l (bE l)++bB (l.drop (bE l)):=by
 cases l with
 | nil=>exact absurd rfl h
 | cons x l=>exact Dr x l
theorem lG(l:List UInt8)(k:Nat)(x:UInt8)(h:bE l=k+cU x (255 - k) (l.drop k))(he:l.length≤k∨255≤k∨∃y,l[k]? =some y∧y≠x):bE l=k:=by
 rw[h]
 have h0:cU x (255 - k) (l.drop k)=0:=by
  rcases he with h1 | h1 | ⟨y,hy,hn⟩
  ·rw[List.drop_of_length_le h1]
   cases 255 - k <;>rfl
  ·rw[show 255 - k=0 by omega]
   rfl
  ·have h2:k<l.length:=by
    rcases Nat.lt_or_ge k l.length with h1 | h1
    ·exact h1
    ·rw[List.getElem?_eq_none h1]at hy;cases hy
   rw[List.drop_eq_getElem_cons h2]
   rw[List.getElem?_eq_getElem h2]at hy
   cases 255 - k with
   | zero=>rfl
   | succ m=>rw[cU,if_neg (by rw[Option.some.inj hy];exact hn)]
 omega
open Go.RowKit
theorem fK(t:ByteArray)(j:Nat)(h:j<t.size):t.data.toList[j]? =some t[j]:=by
 have h0:j<t.data.toList.length:=by simpa using h
 rw[List.getElem?_eq_getElem h0]
 rfl
theorem lI(t:ByteArray)(k:Nat):(t.extract 0 k).data.toList=t.data.toList.take k:=by
 rw[ByteArray.data_extract,Array.toList_extract,List.extract_eq_take_drop,List.drop_zero,Nat.sub_zero]
theorem iR(t:ByteArray)(k:Nat):(t.extract k t.size).data.toList=t.data.toList.drop k:=by
 rw[ByteArray.data_extract,Array.toList_extract,List.extract_eq_take_drop]
 refine List.take_of_length_le ?_
 rw[List.length_drop]
 exact Nat.le_refl _
theorem aW(t:ByteArray)(k:Nat):(t.extract k t.size).size=t.size - k:=by rw[ByteArray.size_extract];omega
def yX:Value→Nat
 | .string t=>t.size
 | _=>0
def fd:List UInt8→Nat
 | []=>0
 | x :: l=>1+cU x 3 l
theorem Hq(l:List UInt8):fd l≤4∧fd l≤l.length:=by
 cases l with
 | nil=>exact⟨by simp[fd],by simp[fd]⟩
 | cons x l=>
   have h:=vz x 3 l
   simp only[fd,List.length_cons]
   omega
theorem vX(l:List UInt8)(k m N:Nat)(x y:UInt8)(hy:l[k]? =some y)(he:y=x)(hm:k<m)(h:N=k+cU x (m - k) (l.drop k)):N=(k+1)+cU x (m - (k+1)) (l.drop (k+1)):=by
 have h0:k<l.length:=by
  rcases Nat.lt_or_ge k l.length with h1 | h1
  ·exact h1
  ·rw[List.getElem?_eq_none h1]at hy;cases hy
 have hd:l.drop k=y :: l.drop (k+1):=by
  rw[List.drop_eq_getElem_cons h0]
  rw[List.getElem?_eq_getElem h0]at hy
  rw[Option.some.inj hy]
 rw[h,hd,show m - k=(m - (k+1))+1 by omega,cU,if_pos he]
 omega
theorem vn(l:List UInt8)(k m N:Nat)(x:UInt8)(h:N=k+cU x (m - k) (l.drop k))(he:l.length≤k∨m≤k∨∃y,l[k]? =some y∧y≠x):N=k:=by
 have h0:cU x (m - k) (l.drop k)=0:=by
  rcases he with h1 | h1 | ⟨y,hy,hn⟩
  ·rw[List.drop_of_length_le h1]
   cases m - k <;>rfl
  ·rw[show m - k=0 by omega]
   rfl
  ·have h2:k<l.length:=by
    rcases Nat.lt_or_ge k l.length with h1 | h1
    ·exact h1
    ·rw[List.getElem?_eq_none h1]at hy;cases hy
   rw[List.drop_eq_getElem_cons h2]
   rw[List.getElem?_eq_getElem h2]at hy
   cases m - k with
   | zero=>rfl
   | succ m=>rw[cU,if_neg (by rw[Option.some.inj hy];exact hn)]
 omega
theorem ga(t:ByteArray)(h:0<t.size):t.data.toList=t[0] :: t.data.toList.drop 1:=by
 have h0:0<t.data.toList.length:=h
 have:=List.drop_eq_getElem_cons h0
 rw[List.drop_zero]at this
 exact this
theorem CN(w:World)(t:ByteArray)(h:0<t.size):
 Calls Tryz.prog 104 #[.string t] w fun e w'=>e=.returned (.int .i64 (fd t.data.toList))∧Below w.heap.size w w':=by
 go_enter Tryz.func104,Tryz.ntmps104
 go_wp2_with fail
 go_loopw [3] (fun i wx=>∃k:Nat,1≤k∧k≤4∧k≤t.size∧i=.int .i64 k∧fd t.data.toList=k+cU t[0] (4 - k) (t.data.toList.drop k)∧Below w.heap.size w wx) (fun i _=>4 - (intOf i).toNat)
 case atStart=>
  refine⟨1,Nat.le_refl _,by omega,h,rfl,?_,Below.refl _ _⟩
  rw[ga t h]
  rfl
 case round=>
  obtain⟨k,h1,h2,h3,rfl,hk,h6⟩:=hrel
  have h5:=aa h6
  clear h6
  by_cases e:∃(e1:k<t.size),k<4∧t[k]=t[0]
  ·obtain⟨e1,e2,e3⟩:=e
   have HK:=aa (vX t.data.toList k 4 _ t[0] t[k] (fK t k e1) e3 e2 hk)
   clear hk
   have q:(((t[k].toNat:Nat):Int)==((t[0].toNat:Nat):Int))=true:=by rw[e3];simp
   have d2:(k:Int)<4:=by omega
   go_wp2_with fail
   go_quiet (fail)
   go_wp2_with fail
   go_roundw
   case rel=>exact⟨k+1,by omega,by omega,by omega,by go_num,HK.out,az h5.out _⟩
   case measure=>simp[intOf];omega
  ·have h4:fd t.data.toList=k:=by
    refine vn _ k 4 _ _ hk ?_
    by_cases e1:k<t.size
    ·by_cases e2:k<4
     ·exact .inr (.inr ⟨t[k],fK t k e1,fun e3=>e ⟨e1,e2,e3⟩⟩)
     ·exact .inr (.inl (by omega))
    ·exact .inl (by show t.size≤k;omega)
   have h0:=aa h4
   clear hk h4
   by_cases e1:k<t.size
   ·by_cases e2:k<4
    ·have e3:t[k]≠t[0]:=fun e3=>e ⟨e1,e2,e3⟩
     have q:(((t[k].toNat:Nat):Int)==((t[0].toNat:Nat):Int))=false:=by
      simp only[beq_eq_false_iff_ne,ne_eq]
      intro h
      exact e3 (UInt8.toNat_inj.1 (by omega))
     clear e e3
     have d2:(k:Int)<4:=by omega
     go_wp2_with fail
     go_quiet (fail)
     go_wp2_with fail
     go_ret
     exact⟨by rw[h0.out];rfl,az h5.out _⟩
    ·clear e
     have d2:¬(k:Int)<4:=by omega
     have d3:decide ((k:Int)<4)=false:=decide_eq_false d2
     go_wp2_with fail
     go_quiet (fail)
     go_wp2_with fail
     go_ret
     exact⟨by rw[h0.out];rfl,az h5.out _⟩
   ·clear e
    go_wp2_with fail
    go_quiet (fail)
    go_wp2_with fail
    go_ret
    exact⟨by rw[h0.out];rfl,az h5.out _⟩
def qI:Nat→List UInt8→List UInt8→List UInt8×Nat
 | 0,o,_=>(o,0)
 | _+1,o, []=>(o,0)
 | n+1,o,x :: l=>
   if fd (x :: l)<4 then(if 262144≤o.length then([],3)else qI n (o++ [x]) l)
   else if 262144<o.length+4 then([],3)
   else if l.length=3 then([],30)
   else if 262144<o.length+4+(l.getD 3 0).toNat then([],3)
   else qI n (o++(x :: l).take 4++List.replicate (l.getD 3 0).toNat x) (l.drop 4)
theorem nd(n:Nat)(o:List UInt8):qI n o []=(o,0):=by cases n <;>rfl
theorem CW(n:Nat):∀(m:Nat) (o l:List UInt8),l.length≤n→l.length≤m→qI n o l=qI m o l:=by
 induction n with
 | zero=>
   intro m o l h _
   have:l= []:=List.eq_nil_of_length_eq_zero (by omega)
   subst this
   rw[nd,nd]
 | succ n ih=>
   intro m o l h h2
   cases l with
   | nil=>rw[nd,nd]
   | cons x l=>
     cases m with
     | zero=>simp at h2
     | succ m=>
       simp only[List.length_cons]at h h2
       unfold qI
       rw[ih m (o++ [x]) l (by omega) (by omega),ih m (o++(x :: l).take 4++List.replicate (l.getD 3 0).toNat x) (l.drop 4) (by rw[List.length_drop];omega) (by rw[List.length_drop];omega)]
def dZ(o l:List UInt8):List UInt8×Nat:=qI l.length o l
theorem se(o:List UInt8):dZ o []=(o,0):=rfl
theorem jJ(o:List UInt8)(x:UInt8)(l:List UInt8):dZ o (x :: l)=
 if fd (x :: l)<4 then(if 262144≤o.length then([],3)else dZ (o++ [x]) l)
 else if 262144<o.length+4 then([],3)
 else if l.length=3 then([],30)
 else if 262144<o.length+4+(l.getD 3 0).toNat then([],3)
 else dZ (o++(x :: l).take 4++List.replicate (l.getD 3 0).toNat x) (l.drop 4):=by
 have h:dZ o (x :: l)=qI (l.length+1) o (x :: l):=rfl
 rw[h,qI]
 unfold dZ
 rw[CW l.length (l.drop 4).length _ (l.drop 4) (by rw[List.length_drop];omega) (ah _)]
theorem fO{w:World}{B:Nat}{v:Value}{l:List UInt8}(h:w.ownsRow B 5 1 v l.length (l.map bv)):(convert 43 9 v).run Tryz.prog w=.ok (.string ⟨l.toArray⟩) w:=by
 rcases h.2 with⟨rfl,h0⟩ | ⟨g,cap,cur,rfl,_⟩
 ·have:l= []:=List.eq_nil_of_length_eq_zero h0
  subst this
  exact run_convert_bytes_nil w 43 5 Tryz.underlying43 Tryz.underlying5 0 0 9 Tryz.underlying9
 ·have hn:∀j (hj:j<l.length),w.cell? ((⟨g,0,none⟩:Addr).add j)=some (.int .u8 (l[j].toNat:Int)):=by
   intro j hj
   have h1:=h.cells (g:=g) rfl j (.int .u8 (l[j].toNat:Int))
   exact h1 (by rw[List.getElem?_map,List.getElem?_eq_getElem hj];rfl)
  exact run_convert_bytes_back w 43 9 5 ⟨g,0,none⟩ cap l Tryz.underlying43 Tryz.underlying5 Tryz.underlying9 hn
theorem rg(w:World)(s:ByteArray):
 Calls Tryz.prog 43 #[.string s] w fun e w'=>e=.returned (.tuple #[.string ⟨(dZ [] s.data.toList).1.toArray⟩,.int .i64 (dZ [] s.data.toList).2])∧Below w.heap.size w w':=by
 obtain⟨i5,h5,hL,hM,hO⟩:=info_parts Tryz.info5
 go_enter Tryz.func43,Tryz.ntmps43
 go_wp2_with fail
 go_loopw [0,4] (fun a v wr=>∃(t:ByteArray) (o:List UInt8),a=.string t∧wr.ownsRow w.heap.size 5 1 v o.length (o.map bv)∧o.length≤262144∧t.size≤s.size∧dZ o t.data.toList=dZ [] s.data.toList∧Below w.heap.size w wr) (fun a _ _=>yX a)
 case atStart=>exact⟨s, [],rfl,World.ownsRow_nil _ _ _ _,by simp,Nat.le_refl _,rfl,Below.refl _ _⟩
 case round=>
  obtain⟨t,o,rfl,hh,hs,HK,he,hb⟩:=hrel
  have h9:=hb.size
  by_cases h:0<t.size
  ·have hl:=ga t h
   have h0:=jJ o t[0] (t.data.toList.drop 1)
   rw[← hl,he]at h0
   have HA:=Hq t.data.toList
   have htl:t.data.toList.length=t.size:=rfl
   have hW:(t.data.toList.drop 1).length=t.size - 1:=by rw[List.length_drop,htl]
   have hS:=aa htl
   have hQ:=aa hW
   have HS:=aa (CN wr t h)
   rename_i v0 _
   obtain⟨A0,c0,rfl,hJ,H3,H1⟩:=aj hh
   have HB:=aa hb
   have hp:=aa hh
   have HL:=aa hl
   have HD:=aa he
   obtain⟨N,hN⟩:∃N,N=o.length:=⟨_,rfl⟩
   rw[← hN]at hp hJ hs h0 ⊢
   have HN:=aa hN
   clear hl he hb H1 hh htl hW hN
   generalize fd t.data.toList=q at*
   by_cases hq:q<4
   ·rw[if_pos hq]at h0
    by_cases hn:262144≤N
    ·rw[if_pos hn]at h0
     have HC:=aa h0
     clear h0
     go_wp2_with fail
     refine HS.out.mono ?_
     rintro e w1 ⟨rfl,ha⟩
     have hj:=aa (HB.out.trans (ha.mono h9))
     clear ha
     have dd:decide ((262144:Int)≤(N:Int))=true:=ar (by omega)
     clear hn hs
     go_wp2_with fail
     go_ret2
     exact⟨by rw[HC.out];rfl,hj.out⟩
    ·rw[if_neg hn]at h0
     have HC:=aa h0
     clear h0
     go_wp2_with fail
     refine HS.out.mono ?_
     rintro e w1 ⟨rfl,ha⟩
     have h2:=(am ha).row hp.out (fun _ _=>aq) aq
     have hj:=aa (HB.out.trans (ha.mono h9))
     have h6:=hj.out.size
     clear ha
     have hY:N<262144:=by omega
     have hI:=aa hY
     have dd:decide ((262144:Int)≤(N:Int))=false:=ao (by omega)
     clear hn hs hY
     go_wp2_with (at_builtin;refine wpList_append_own _ rfl _ _ 43 rfl w.heap.size 5 i5 (.int .u8 0) 1 1 Tryz.underlying43 h5 hL hM hO rfl (by decide) _ _ _ rfl (h2.alloc _) ⟨w1.heap.size,0,none⟩ 1 1 [.int .u8 t[0].toNat] rfl rfl ?c1 ?c2 ?c3 ?c4 ?c5 ?_)
     case c1=>exact cell_one_new _ _ _
     case c2=>intro u hu;simp at hu;subst hu;rfl
     case c3=>have:=hI.out;unfold maxLen;omega
     case c4=>have:=hI.out;omega
     case c5=>simp;omega
     intro v2 w2 h7 h1 _
     have hy:Below w.heap.size w w2:=(hj.out.alloc h6 _).grown h1 (by simp;omega) (fun k hk=>(h2.lt k hk).1)
     have hw:=aa hy
     have h8:=aa h7
     clear hy h7 h1 h2
     go_wp2_with fail
     have hr:(t.extract 1 t.size).data.toList=t.data.toList.drop 1:=iR t 1
     go_roundw
     case rel=>
      refine⟨t.extract 1 t.size,o++ [t[0]],rfl,?_,?_,?_,?_,hw.out⟩
      ·rw[List.length_append,←HN.out,List.map_append]
       exact h8.out
      ·rw[List.length_append,←HN.out]
       exact hI.out
      ·rw[aW];omega
      ·rw[hr,←HC.out]
     case measure=>show(t.extract 1 t.size).size<t.size;rw[aW];omega
   ·have H8:q=4:=by omega
    subst H8
    rw[if_neg hq]at h0
    clear hq
    have HF:4≤t.size:=by rw[← hS.out];omega
    clear HA
    by_cases hA:262144<N+4
    ·rw[if_pos hA]at h0
     have HC:=aa h0
     clear h0
     go_wp2_with fail
     refine HS.out.mono ?_
     rintro e w1 ⟨rfl,ha⟩
     have hj:=aa (HB.out.trans (ha.mono h9))
     clear ha
     have dd:decide ((262144:Int)<(N:Int)+4)=true:=ar (by omega)
     have dn:(N:Int)≤262144:=by omega
     clear hA hs
     go_wp2_with fail
     go_ret2
     exact⟨by rw[HC.out];rfl,hj.out⟩
    ·rw[if_neg hA]at h0
     go_wp2_with fail
     refine HS.out.mono ?_
     rintro e w1 ⟨rfl,ha⟩
     have h2:=(am ha).row hp.out (fun _ _=>aq) aq
     have hj:=aa (HB.out.trans (ha.mono h9))
     have h6:=hj.out.size
     clear ha
     have hR:=aa hA
     have HG:=aa hs
     have hP:=aa h0
     have dd:decide ((262144:Int)<(N:Int)+4)=false:=ao (by omega)
     have dn:(N:Int)≤262144:=by omega
     have d4:(4:Int)≤t.size:=by omega
     have HO:(t.extract 0 4).size=4:=by rw[ByteArray.size_extract];omega
     clear hA hs h0
     go_wp2_with (at_builtin;refine Lib.wpList_append_own_string _ rfl _ _ 43 9 rfl w.heap.size 5 i5 Tryz.underlying43 Tryz.underlying9 h5 hL hM hO _ _ _ rfl h2 (t.extract 0 4) rfl ?c3 ?c4 ?c5 ?_)
     case c3=>have:=hR.out;unfold maxLen;omega
     case c4=>have:=hR.out;omega
     case c5=>exact h6
     intro v2 w2 h7 h1 _
     have hi:w2.ownsRow w.heap.size 5 1 v2 (N+4) ((o++t.data.toList.take 4).map bv):=by
      rw[List.map_append,←lI]
      exact h7
     have hy:Below w.heap.size w w2:=hj.out.grown h1 h6 (fun k hk=>(h2.lt k hk).1)
     have hw:=aa hy
     have hK:=hw.out.size
     have h8:=aa hi
     clear hy h7 hi h1 h2
     by_cases hB:t.size=4
     ·have hc:=hP.out
      rw[if_pos (by rw[hQ.out];omega)]at hc
      have HC:=aa hc
      clear hc
      have d5:((t.size:Int)==4)=true:=by rw[hB];rfl
      go_wp2_with fail
      go_ret2
      exact⟨by rw[HC.out];rfl,hw.out⟩
     ·have hc:=hP.out
      rw[if_neg (by rw[hQ.out];omega)]at hc
      have h4:4<t.size:=by omega
      have hf:((t.data.toList.drop 1).getD 3 0).toNat=t[4].toNat:=by
       rw[List.getD_eq_getElem?_getD,List.getElem?_drop,fK t 4 h4]
       rfl
      rw[hf]at hc
      have HC:=aa hc
      clear hc hf
      have d5:((t.size:Int)==4)=false:=by
       simp only[beq_eq_false_iff_ne,ne_eq]
       omega
      obtain⟨A2,c2,rfl,H5,H4,H2⟩:=aj h8.out
      have HH:t[4].toNat<256:=UInt8.toNat_lt _
      clear H2
      by_cases hC:262144<N+4+t[4].toNat
      ·have hc:=HC.out
       rw[if_pos hC]at hc
       have HE:=aa hc
       have dc:decide ((262144:Int)<(N:Int)+4+(t[4].toNat:Int))=true:=ar (by omega)
       have hG:=aa hC
       clear hc hC dc
       go_wp2_with fail
       ·go_ret2
        exact⟨by rw[HE.out];rfl,hw.out⟩
       ·exfalso
        have:=hG.out
        omega
      ·have hc:=HC.out
       rw[if_neg hC]at hc
       have HE:=aa hc
       have dc:decide ((262144:Int)<(N:Int)+4+(t[4].toNat:Int))=false:=ao (by omega)
       have hG:=aa hC
       clear hc hC
       have hD:N+4+t[4].toNat≤262144:=by have:=hG.out;omega
       have hF:=aa hD
       clear hD dc
       go_wp2_with fail
       ·exfalso
        have:=hG.out
        omega
       rename_i hle _ _
       clear hle
       go_loopw [4,6] (fun v i wx=>∃m:Nat,m≤t[4].toNat∧i=.int .i64 m∧wx.ownsRow w.heap.size 5 1 v (N+4+m) ((o++t.data.toList.take 4++List.replicate m t[0]).map bv)∧Below w.heap.size w wx) (fun _ i _=>t[4].toNat - (intOf i).toNat)
       case atStart=>exact⟨0,by omega,rfl,by rw[List.replicate_zero,List.append_nil];exact h8.out,hw.out⟩
       case round=>
        obtain⟨m,hm,rfl,h3,hH⟩:=hrel
        have hv:=hH.size
        by_cases HJ:m<t[4].toNat
        ·obtain⟨X,hX⟩:∃X,X=(o++t.data.toList.take 4++List.replicate m t[0]).map bv:=⟨_,rfl⟩
         rw[← hX]at h3
         have HX:=aa hX
         clear hX
         have HI:(N:Int)+4+m<262144:=by have:=hF.out;omega
         go_wp2_with (at_builtin;refine wpList_append_own _ rfl _ _ 43 rfl w.heap.size 5 i5 (.int .u8 0) 1 1 Tryz.underlying43 h5 hL hM hO rfl (by decide) _ _ _ rfl (h3.alloc _) ⟨wr.heap.size,0,none⟩ 1 1 [.int .u8 t[0].toNat] rfl rfl ?c1 ?c2 ?c3 ?c4 ?c5 ?_)
         case c1=>exact cell_one_new _ _ _
         case c2=>intro u hu;simp at hu;subst hu;rfl
         case c3=>have:=hF.out;unfold maxLen;omega
         case c4=>have:=hF.out;omega
         case c5=>simp;omega
         intro v3 w3 ho hg _
         have hT:Below w.heap.size w w3:=(hH.alloc hv _).grown hg (by simp;omega) (fun k hk=>(h3.lt k hk).1)
         have hZ:=aa hT
         have hx:=aa ho
         clear hT ho hg h3
         go_wp2_with fail
         go_roundw
         case rel=>
          refine⟨m+1,by omega,by go_num,?_,hZ.out⟩
          rw[List.replicate_succ',←List.append_assoc,List.map_append,←HX.out]
          exact hx.out
         case measure=>simp[intOf];omega
        ·obtain rfl:m=t[4].toNat:=by omega
         have HM:=aa h3
         have H0:=aa hH
         clear h3 hH
         go_wp2_with fail
         have hr:(t.extract 5 t.size).data.toList=(t.data.toList.drop 1).drop 4:=by
          rw[iR,List.drop_drop]
         have hE:(o++t.data.toList.take 4++List.replicate t[4].toNat t[0]).length=N+4+t[4].toNat:=by
          rw[List.length_append,List.length_append,List.length_replicate,List.length_take,hS.out,←HN.out]
          omega
         go_roundw
         case rel=>
          refine⟨t.extract 5 t.size,o++t.data.toList.take 4++List.replicate t[4].toNat t[0],rfl,?_,?_,?_,?_,H0.out⟩
          ·rw[hE]
           exact HM.out
          ·rw[hE]
           exact hF.out
          ·rw[aW];omega
          ·rw[hr,←HE.out]
         case measure=>show(t.extract 5 t.size).size<t.size;rw[aW];omega
  ·have hz:t.size=0:=by omega
   have ht:t.data.toList= []:=List.eq_nil_of_length_eq_zero hz
   rw[ht,se]at he
   have hV:=fO hh
   have HD:=aa he
   have HB:=aa hb
   clear he hb hh hs
   go_wp2_with fail
   go_ret2
   rw[← HD.out]
   exact⟨rfl,HB.out⟩
def pc(x:UInt8)(k:Nat):List UInt8:=if k<4 then List.replicate k x else List.replicate 4 x++ [UInt8.ofNat (k - 4)]
theorem gi(x:UInt8)(k:Nat):(pc x k).length=if k<4 then k else 5:=by
 unfold pc
 split <;>simp
theorem qL(x:UInt8)(l:List UInt8):∀(k m:Nat),k≤m→(k=m∨l.head? ≠some x)→cU x m (List.replicate k x++l)=k
 | 0,0,_,_=>rfl
 | 0,m+1,_,h=>by
   cases l with
   | nil=>rfl
   | cons y l=>
     have hy:¬y=x:=fun e=>by
      rcases h with h | h
      ·omega
      ·exact h (by rw[e];rfl)
     show cU x (m+1) (y :: l)=0
     rw[cU,if_neg hy]
 | k+1,0,h,_=>by omega
 | k+1,m+1,h,h2=>by
   show cU x (m+1) (x :: (List.replicate k x++l))=k+1
   rw[cU,if_pos rfl,qL x l k m (by omega) (by rcases h2 with h2 | h2;exact .inl (by omega);exact .inr h2)]
theorem yy(x:UInt8)(l:List UInt8)(k j:Nat)(h:j≤k):(List.replicate k x++l).take j=List.replicate j x:=by
 rw[List.take_append_of_le_length (by rw[List.length_replicate];exact h),List.take_replicate,Nat.min_eq_left h]
theorem BB(x:UInt8)(l:List UInt8)(k:Nat)(h1:1≤k)(h2:k≤255)(h3:k=255∨l.head? ≠some x):bB (List.replicate k x++l)=pc x k++bB l:=by
 obtain⟨j,rfl⟩:∃j,k=j+1:=⟨k - 1,by omega⟩
 have hr:bE (List.replicate (j+1) x++l)=j+1:=by
  show cU x 254 (List.replicate j x++l)+1=j+1
  rw[qL x l j 254 (by omega) (by rcases h3 with h3 | h3;exact .inl (by omega);exact .inr h3)]
 have h0:List.replicate (j+1) x++l≠ []:=by simp
 rw[o8 _ h0,hr,List.drop_left' (List.length_replicate ..)]
 congr 1
 unfold oF pc
 split
 ·rw[yy _ _ _ _ (ah _)]
 ·rw[yy _ _ _ _ (by omega)]
def k6(x:UInt8)(k:Nat)(l:List UInt8):List UInt8:=bB (List.replicate k x++l)
theorem iN(x:UInt8)(k:Nat)(h1:1≤k)(h2:k≤255):k6 x k []=pc x k:=by
 unfold k6
 rw[BB x [] k h1 h2 (.inr (by simp)),yn,List.append_nil]
theorem iB(x:UInt8)(k:Nat)(l:List UInt8):k6 x k (x :: l)=k6 x (k+1) l:=by
 unfold k6
 rw[List.replicate_succ',List.append_assoc]
 rfl
theorem fW(x y:UInt8)(k:Nat)(l:List UInt8)(h1:1≤k)(h2:k≤255)(h:y≠x∨k=255):k6 x k (y :: l)=pc x k++k6 y 1 l:=by
 unfold k6
 rw[BB x (y :: l) k h1 h2 (by rcases h with h | h;exact .inr (fun e=>h (Option.some.inj e));exact .inl h)]
 rfl
theorem iw(x:UInt8)(l:List UInt8):bB (x :: l)=k6 x 1 l:=rfl
theorem B9(b:UInt8)(l:List UInt8):∀(x:UInt8) (k:Nat),1≤k→k≤255→(k6 x k l).length≤(k6 x k (l++ [b])).length∧(k6 x k (l++ [b])).length≤(k6 x k l).length+2:=by
 induction l with
 | nil=>
   intro x k h1 h2
   rw[iN x k h1 h2]
   show _≤(k6 x k [b]).length∧(k6 x k [b]).length≤_
   by_cases h:b=x∧k<255
   ·obtain⟨rfl,h3⟩:=h
    rw[iB,iN _ _ (by omega) (by omega),gi,gi]
    split <;>split <;>omega
   ·rw[fW x b k [] h1 h2 (by by_cases e:b=x;exact .inr (by have:¬k<255:=fun q=>h ⟨e,q⟩;omega);exact .inl e),iN b 1 (by omega) (by omega),List.length_append,gi,gi]
    split <;>simp
 | cons y l ih=>
   intro x k h1 h2
   by_cases h:y=x∧k<255
   ·obtain⟨rfl,h3⟩:=h
    rw[List.cons_append,iB,iB]
    exact ih y (k+1) (by omega) (by omega)
   ·have ho:y≠x∨k=255:=by by_cases e:y=x;exact .inr (by have:¬k<255:=fun q=>h ⟨e,q⟩;omega);exact .inl e
    rw[List.cons_append,fW x y k _ h1 h2 ho,fW x y k _ h1 h2 ho,List.length_append,List.length_append]
    have:=ih y 1 (by omega) (by omega)
    omega
theorem JN(l:List UInt8)(b:UInt8):(bB l).length≤(bB (l++ [b])).length∧(bB (l++ [b])).length≤(bB l).length+2:=by
 cases l with
 | nil=>
   show 0≤(bB [b]).length∧(bB [b]).length≤0+2
   rw[iw,iN _ _ (by omega) (by omega),gi]
   simp
 | cons x l=>
   rw[List.cons_append,iw,iw]
   exact B9 b l x 1 (by omega) (by omega)
theorem DJ(l:List UInt8):∀(x:UInt8) (k:Nat),1≤k→k≤255→4*(k6 x k l).length≤5*(k+l.length):=by
 induction l with
 | nil=>
   intro x k h1 h2
   rw[iN x k h1 h2,gi]
   split <;>simp <;>omega
 | cons y l ih=>
   intro x k h1 h2
   by_cases h:y=x∧k<255
   ·obtain⟨rfl,h3⟩:=h
    rw[iB]
    have:=ih y (k+1) (by omega) (by omega)
    rw[List.length_cons]
    omega
   ·have ho:y≠x∨k=255:=by by_cases e:y=x;exact .inr (by have:¬k<255:=fun q=>h ⟨e,q⟩;omega);exact .inl e
    rw[fW x y k _ h1 h2 ho,List.length_append,gi,List.length_cons]
    have:=ih y 1 (by omega) (by omega)
    split <;>omega
theorem j5(l:List UInt8):(bB l).length≤l.length+l.length / 4:=by
 cases l with
 | nil=>exact Nat.le_refl _
 | cons x l=>
   have:=DJ l x 1 (by omega) (by omega)
   rw[iw,List.length_cons]
   omega
theorem ur(l:List UInt8):∀(x:UInt8) (k:Nat),1≤k→k≤255→(k6 x k l).head? =some x:=by
 have hp:∀(x:UInt8) (k:Nat) (r:List UInt8),1≤k→(pc x k++r).head? =some x:=by
  intro x k r h1
  obtain⟨j,rfl⟩:∃j,k=j+1:=⟨k - 1,by omega⟩
  unfold pc
  split <;>rfl
 induction l with
 | nil=>
   intro x k h1 h2
   have:=hp x k [] h1
   rw[List.append_nil]at this
   rw[iN x k h1 h2,this]
 | cons y l ih=>
   intro x k h1 h2
   by_cases h:y=x∧k<255
   ·obtain⟨rfl,h3⟩:=h
    rw[iB]
    exact ih y (k+1) (by omega) (by omega)
   ·have ho:y≠x∨k=255:=by by_cases e:y=x;exact .inr (by have:¬k<255:=fun q=>h ⟨e,q⟩;omega);exact .inl e
    rw[fW x y k _ h1 h2 ho]
    exact hp x k _ h1
theorem oz(x:UInt8)(k:Nat)(r:List UInt8)(h1:1≤k)(h4:k≤4)(h:k=4∨r.head? ≠some x):fd (List.replicate k x++r)=k:=by
 obtain⟨j,rfl⟩:∃j,k=j+1:=⟨k - 1,by omega⟩
 show 1+cU x 3 (List.replicate j x++r)=j+1
 rw[qL x r j 3 (by omega) (by rcases h with h | h;exact .inl (by omega);exact .inr h)]
 omega
theorem tP(x:UInt8)(r:List UInt8)(hr:r.head? ≠some x):∀(k:Nat) (o:List UInt8),k<4→o.length+k≤262144→dZ o (List.replicate k x++r)=dZ (o++List.replicate k x) r
 | 0,o,_,_=>by simp
 | k+1,o,h,hl=>by
   have hs:=oz x (k+1) r (by omega) (by omega) (.inr hr)
   show dZ o (x :: (List.replicate k x++r))=_
   rw[jJ,if_pos (by show fd (List.replicate (k+1) x++r)<4;omega),if_neg (by omega),tP x r hr k (o++ [x]) (by omega) (by rw[List.length_append,List.length_singleton];omega),List.append_assoc]
   rfl
theorem Hd(x:UInt8)(r:List UInt8)(k:Nat)(o:List UInt8)(h4:4≤k)(h:k≤255)(hl:o.length+k≤262144):dZ o (pc x k++r)=dZ (o++List.replicate k x) r:=by
 have hc:(UInt8.ofNat (k - 4)).toNat=k - 4:=by
  rw[UInt8.toNat_ofNat']
  exact Nat.mod_eq_of_lt (by omega)
 have hp:pc x k++r=x :: x :: x :: x :: UInt8.ofNat (k - 4) :: r:=by
  unfold pc
  rw[if_neg (by omega)]
  rfl
 have hs:fd (x :: x :: x :: x :: UInt8.ofNat (k - 4) :: r)=4:=oz x 4 (UInt8.ofNat (k - 4) :: r) (by omega) (by omega) (.inl rfl)
 have hg:((x :: x :: x :: UInt8.ofNat (k - 4) :: r).getD 3 0).toNat=k - 4:=hc
 have ht:(x :: x :: x :: x :: UInt8.ofNat (k - 4) :: r).take 4=List.replicate 4 x:=rfl
 have hd:(x :: x :: x :: UInt8.ofNat (k - 4) :: r).drop 4=r:=rfl
 have hn:(x :: x :: x :: UInt8.ofNat (k - 4) :: r).length=r.length+4:=rfl
 rw[hp,jJ,hs,if_neg (by omega),if_neg (by omega),hn,if_neg (by omega),hg,if_neg (by omega),ht,hd,List.append_assoc,List.replicate_append_replicate,show 4+(k - 4)=k by omega]
theorem tY(x:UInt8)(r:List UInt8)(k:Nat)(o:List UInt8)(h:k≤255)(hl:o.length+k≤262144)(hr:4≤k∨r.head? ≠some x):dZ o (pc x k++r)=dZ (o++List.replicate k x) r:=by
 by_cases h4:4≤k
 ·exact Hd x r k o h4 h hl
 ·have h0:r.head? ≠some x:=by rcases hr with hr | hr;exact absurd hr h4;exact hr
  rw[show pc x k=List.replicate k x by unfold pc;rw[if_pos (by omega)]]
  exact tP x r h0 k o (by omega) hl
theorem GD(l:List UInt8):∀(x:UInt8) (k:Nat) (o:List UInt8),1≤k→k≤255→o.length+k+l.length≤262144→dZ o (k6 x k l)=(o++List.replicate k x++l,0):=by
 induction l with
 | nil=>
   intro x k o h1 h2 h3
   have:=tY x [] k o h2 (by simpa using h3) (.inr (by simp))
   rw[List.append_nil]at this
   rw[iN x k h1 h2,this,se,List.append_nil]
 | cons y l ih=>
   intro x k o h1 h2 h3
   rw[List.length_cons]at h3
   by_cases h:y=x∧k<255
   ·obtain⟨rfl,h4⟩:=h
    rw[iB,ih y (k+1) o (by omega) (by omega) (by omega),List.replicate_succ']
    simp
   ·have ho:y≠x∨k=255:=by by_cases e:y=x;exact .inr (by have:¬k<255:=fun q=>h ⟨e,q⟩;omega);exact .inl e
    rw[fW x y k _ h1 h2 ho,tY x _ k o h2 (by omega) (by
     rcases ho with ho | ho
     ·exact .inr (by rw[ur l y 1 (by omega) (by omega)];exact fun e=>ho (Option.some.inj e))
     ·exact .inl (by omega)),ih y 1 _ (by omega) (by omega) (by rw[List.length_append,List.length_replicate];omega)]
    simp
theorem mY(l:List UInt8)(h:l.length≤262144):dZ [] (bB l)=(l,0):=by
 cases l with
 | nil=>rfl
 | cons x l=>
   rw[List.length_cons]at h
   rw[iw,GD l x 1 [] (by omega) (by omega) (by simp;omega)]
   rfl
end Go.Proofs.YthakcjehhlpjnaaGreat.S03
