import Derived.Test.YthakcjehhlpjnaaGreatA00
import Derived.Laws.Concat
import Derived.Lib.AppendZeros
set_option maxHeartbeats 3200000
set_option maxRecDepth 100000
namespace Go.Proofs.YthakcjehhlpjnaaGreat.S06
def vy:List UInt8:=(List.range 256).map UInt8.ofNat
def ofL(s:List UInt8):List UInt8:=vy.filter fun b=>decide (b∈s)
theorem FE(b:UInt8):b∈vy:=List.mem_map.2 ⟨b.toNat,List.mem_range.2 (UInt8.toNat_lt b),UInt8.ofNat_toNat⟩
theorem xH:vy.Pairwise (· < ·):=by
 unfold vy
 rw[List.pairwise_map]
 refine List.Pairwise.imp_of_mem ?_ List.pairwise_lt_range
 intro a b ha hb h0
 have ha:=List.mem_range.1 ha
 have hb:=List.mem_range.1 hb
 rw[UInt8.lt_iff_toNat_lt,UInt8.toNat_ofNat',UInt8.toNat_ofNat',Nat.mod_eq_of_lt ha,Nat.mod_eq_of_lt hb]
 exact h0
theorem lF(s:List UInt8)(b:UInt8):b∈ofL s↔b∈s:=by
 unfold ofL
 rw[List.mem_filter]
 exact⟨fun h=>of_decide_eq_true h.2,fun h=>⟨FE b,decide_eq_true h⟩⟩
theorem fA(s:List UInt8):(ofL s).Pairwise (· < ·):=xH.filter _
theorem md:∀{a b:List UInt8},a.Pairwise (· < ·)→b.Pairwise (· < ·)→(∀ x,x∈a↔x∈b)→a=b:=by
 intro a b ha hb h
 have h0:a.Nodup:=List.nodup_iff_pairwise_ne.2 (ha.imp fun {x y} h e=>by subst e;exact UInt8.lt_irrefl _ h)
 have h3:b.Nodup:=List.nodup_iff_pairwise_ne.2 (hb.imp fun {x y} h e=>by subst e;exact UInt8.lt_irrefl _ h)
 refine List.Perm.eq_of_pairwise (le:=(· < ·)) (fun x y _ _ h1 h2=>absurd (UInt8.lt_trans h1 h2) (UInt8.lt_irrefl _)) ha hb ?_
 exact(List.perm_ext_iff_of_nodup h0 h3).2 h
theorem qt{a:List UInt8}(h:a.Pairwise (· < ·)):ofL a=a:=md (fA a) h (lF a)
theorem BP(s:List UInt8):ofL (ofL s)=ofL s:=qt (fA s)
def gB(a:List UInt8):Prop:=a≠ []∧ofL a=a
instance (a:List UInt8):Decidable (gB a):=inferInstanceAs (Decidable (_∧_))
theorem FI(a:List UInt8):gB a↔a≠ []∧a.Pairwise (· < ·):=
 ⟨fun h=>⟨h.1,by rw[← h.2];exact fA a⟩,fun h=>⟨h.1,qt h.2⟩⟩
theorem pU(s:List UInt8)(h:s≠ []):gB (ofL s):=by
 refine⟨fun e=> ?_,BP s⟩
 obtain⟨x,hx⟩:=List.exists_mem_of_ne_nil _ h
 have:=(lF s x).2 hx
 rw[e]at this
 exact absurd this az
def ew(list:List UInt8)(at_:Nat):List UInt8:=list.getD at_ 0 :: (list.take at_++list.drop (at_+1))
theorem dI(list:List UInt8)(p:Nat)(h:p<list.length):(ew list p).length=list.length:=by
 unfold ew
 rw[List.length_cons,List.length_append,List.length_take,List.length_drop]
 omega
theorem Cz(list:List UInt8)(p:Nat)(h:p<list.length)(x:UInt8):x∈ew list p↔x∈list:=by
 have e:list=list.take p++list.getD p 0 :: list.drop (p+1):=by
  rw[List.getD_eq_getElem?_getD,List.getElem?_eq_getElem h]
  show list=list.take p++list[p] :: list.drop (p+1)
  rw[← List.drop_eq_getElem_cons h,List.take_append_drop]
 unfold ew
 conv=>rhs;rw[e]
 rw[List.mem_cons,List.mem_append,List.mem_append,List.mem_cons]
 constructor
 ·rintro(h | h | h)
  ·exact .inr (.inl h)
  ·exact .inl h
  ·exact .inr (.inr h)
 ·rintro(h | h | h)
  ·exact .inr (.inl h)
  ·exact .inl h
  ·exact .inr (.inr h)
def cK:List UInt8→List UInt8→Option (List Nat)
 | [],_=>some []
 | b :: s,list=>if b∈list then(cK s (ew list (list.idxOf b))).map (list.idxOf b :: ·)else none
def eB:List Int→List UInt8→Option (List UInt8)
 | [],_=>some []
 | x :: l,list=>if 0≤x∧x<list.length then(eB l (ew list x.toNat)).map (list.getD x.toNat 0 :: ·)else none
theorem Gx(list:List UInt8)(b:UInt8)(h:b∈list):list.getD (list.idxOf b) 0=b:=by
 have h1:=List.idxOf_lt_length_of_mem h
 rw[List.getD_eq_getElem?_getD,List.getElem?_eq_getElem h1]
 exact List.getElem_idxOf h1
theorem p9:∀(s list:List UInt8),(∀ x∈s,x∈list)→∃l,cK s list=some l∧l.length=s.length
 | [],list,_=>⟨[],rfl,rfl⟩
 | b :: s,list,h=>by
   have hb:=h b List.mem_cons_self
   have h1:=List.idxOf_lt_length_of_mem hb
   obtain⟨l,h2,h3⟩:=p9 s (ew list (list.idxOf b)) fun x hx=>(Cz list _ h1 x).2 (h x (List.mem_cons_of_mem _ hx))
   refine⟨list.idxOf b :: l,?_,by rw[List.length_cons,List.length_cons,h3]⟩
   rw[cK,if_pos hb,h2]
   rfl
theorem qG:∀(s list:List UInt8) (l:List Nat),cK s list=some l→eB (l.map fun(x:Nat)=>(x:Int)) list=some s
 | [],list,l,h=>by
   simp only[cK,Option.some.injEq]at h
   subst h
   rfl
 | b :: s,list,l,h=>by
   rw[cK]at h
   by_cases hb:b∈list
   ·rw[if_pos hb]at h
    have h1:=List.idxOf_lt_length_of_mem hb
    rcases hf:cK s (ew list (list.idxOf b))with _ | l2
    ·rw[hf]at h
     simp at h
    ·rw[hf]at h
     simp only[Option.map_some,Option.some.injEq]at h
     subst h
     have ih:=qG s _ l2 hf
     rw[List.map_cons,eB,if_pos ⟨by omega,by omega⟩,Int.toNat_natCast,ih,Gx list b hb]
     rfl
   ·rw[if_neg hb]at h
    simp at h
def uS(a:List UInt8)(b:Nat):Nat:=if UInt8.ofNat b∈a then 1 else 0
def jn(a:List UInt8)(i:Nat):Nat:=if a.any (fun x=>x.toNat / 16==i)then 1 else 0
def bc(a:List UInt8)(i:Nat):List Nat:=if jn a i=1 then(List.range 16).map fun k=>uS a (16*i+k)else []
def cD(a:List UInt8):List Nat:=(List.range 16).map (jn a)++(List.range 16).flatMap (bc a)
def ff(l:List Nat)(p i:Nat):List UInt8:=((List.range 16).filter fun k=>l.getD (p+k) 0==1).map fun k=>UInt8.ofNat (16*i+k)
def goT(l:List Nat)(fl:Nat→Nat):List Nat→Nat→List UInt8→Option (List UInt8×Nat)
 | [],p,out=>some (out,p)
 | i :: is,p,out=>if fl i=0 then goT l fl is p out else if l.length<p+16 then none else goT l fl is (p+16) (out++ff l p i)
def fy(l:List Nat)(p:Nat):List UInt8×Nat×Nat:=
 if l.length<p then([],0,2)else if l.length<p+16 then([],0,10)else
  match goT l (fun i=>l.getD (p+i) 0) (List.range 16) (p+16) []with
  | none=>([],0,10)
  | some (out,q)=>if out= []then([],0,60)else(out,q,0)
theorem jV(a:List UInt8)(i:Nat):jn a i=0∨jn a i=1:=by
 unfold jn
 split
 ·exact .inr rfl
 ·exact .inl rfl
theorem iw(a:List UInt8)(i:Nat):(bc a i).length=16*jn a i:=by
 unfold bc
 rcases jV a i with h | h <;>rw[h] <;>simp
theorem iT(a:List UInt8):∃r,r≤16∧(cD a).length=16+16*r:=by
 have h:∀n,∃r,r≤n∧((List.range n).flatMap (bc a)).length=16*r:=by
  intro n
  induction n with
  | zero=>exact⟨0,Nat.le_refl _,rfl⟩
  | succ n ih=>
    obtain⟨r,h1,h2⟩:=ih
    rw[List.range_succ,List.flatMap_append,List.length_append,h2]
    simp only[List.flatMap_cons,List.flatMap_nil,List.append_nil,iw]
    rcases jV a n with h | h
    ·exact⟨r,by omega,by rw[h];omega⟩
    ·exact⟨r+1,by omega,by rw[h];omega⟩
 obtain⟨r,h1,h2⟩:=h 16
 refine⟨r,h1,?_⟩
 unfold cD
 rw[List.length_append,h2,List.length_map,List.length_range]
def nb(a:List UInt8)(i:Nat):List UInt8:=((List.range 16).filter fun k=>uS a (16*i+k)==1).map fun k=>UInt8.ofNat (16*i+k)
theorem zB(a:List UInt8)(i:Nat)(hi:i<16)(h:jn a i=0):nb a i= []:=by
 unfold nb
 rw[List.map_eq_nil_iff,List.filter_eq_nil_iff]
 intro k hk
 have hk:=List.mem_range.1 hk
 unfold uS
 split
 ·rename_i hm
  exfalso
  unfold jn at h
  rw[if_pos]at h
  ·simp at h
  ·rw[List.any_eq_true]
   refine⟨_,hm,?_⟩
   rw[UInt8.toNat_ofNat',Nat.mod_eq_of_lt (by omega),show(16*i+k) / 16=i by omega]
   simp
 ·simp
theorem zG(x y:List Nat)(a:List UInt8)(i:Nat):ff (x++((List.range 16).map fun k=>uS a (16*i+k))++y) x.length i=nb a i:=by
 unfold ff nb
 congr 1
 refine List.filter_congr fun k hk=> ?_
 have hk:=List.mem_range.1 hk
 rw[List.getD_eq_getElem?_getD,List.append_assoc,List.getElem?_append_right (by omega),Nat.add_sub_cancel_left,List.getElem?_append_left (by simpa using hk),List.getElem?_map,List.getElem?_range hk]
 rfl
theorem rE(a:List UInt8)(fl:Nat→Nat):∀(is:List Nat) (x y:List Nat) (out:List UInt8),(∀ i∈is,fl i=jn a i∧i<16)→
 goT (x++is.flatMap (bc a)++y) fl is x.length out=some (out++is.flatMap (nb a),x.length+(is.flatMap (bc a)).length)
 | [],x,y,out,_=>by simp[goT]
 | i :: is,x,y,out,h=>by
   have hi:=h i List.mem_cons_self
   have hr:=fun j hj=>h j (List.mem_cons_of_mem i hj)
   rw[goT,hi.1]
   rcases jV a i with h0 | h0
   ·have e:bc a i= []:=by unfold bc;rw[if_neg (by omega)]
    rw[if_pos h0]
    simp only[List.flatMap_cons,e,List.nil_append,zB a i hi.2 h0]
    exact rE a fl is x y out hr
   ·have e:bc a i=(List.range 16).map fun k=>uS a (16*i+k):=by unfold bc;rw[if_pos h0]
    have el:(bc a i).length=16:=by rw[iw,h0]
    rw[if_neg (by omega),if_neg (by simp only[List.flatMap_cons,List.length_append,el];omega)]
    have e2:x++(i :: is).flatMap (bc a)++y=(x++bc a i)++is.flatMap (bc a)++y:=by simp only[List.flatMap_cons,List.append_assoc]
    have e3:ff (x++(i :: is).flatMap (bc a)++y) x.length i=nb a i:=by
     have:=zG x (is.flatMap (bc a)++y) a i
     rw[← e]at this
     rw[← this]
     simp only[List.flatMap_cons,List.append_assoc]
    rw[e3,e2]
    have ih:=rE a fl is (x++bc a i) y (out++nb a i) hr
    rw[List.length_append,el]at ih
    rw[ih]
    simp only[List.flatMap_cons,List.append_assoc,List.length_append,el,Option.some.injEq,Prod.mk.injEq,true_and]
    omega
theorem FO(a:List UInt8):(List.range 16).flatMap (nb a)=ofL a:=by
 refine md ?_ (fA a) fun x=> ?_
 ·rw[List.pairwise_flatMap]
  refine⟨fun i hi=> ?_,?_⟩
  ·have hi:=List.mem_range.1 hi
   unfold nb
   rw[List.pairwise_map]
   refine List.Pairwise.imp_of_mem ?_ (List.pairwise_lt_range.filter _)
   intro p q hp hq h1
   have hp:=List.mem_range.1 (List.mem_filter.1 hp).1
   have hq:=List.mem_range.1 (List.mem_filter.1 hq).1
   rw[UInt8.lt_iff_toNat_lt,UInt8.toNat_ofNat',UInt8.toNat_ofNat',Nat.mod_eq_of_lt (by omega),Nat.mod_eq_of_lt (by omega)]
   omega
  ·refine List.Pairwise.imp_of_mem ?_ List.pairwise_lt_range
   intro i j hi hj h0 x hx y hy
   have hi:=List.mem_range.1 hi
   have hj:=List.mem_range.1 hj
   obtain⟨p,hp,rfl⟩:=List.mem_map.1 hx
   obtain⟨q,hq,rfl⟩:=List.mem_map.1 hy
   have hp:=List.mem_range.1 (List.mem_filter.1 hp).1
   have hq:=List.mem_range.1 (List.mem_filter.1 hq).1
   rw[UInt8.lt_iff_toNat_lt,UInt8.toNat_ofNat',UInt8.toNat_ofNat',Nat.mod_eq_of_lt (by omega),Nat.mod_eq_of_lt (by omega)]
   omega
 ·rw[List.mem_flatMap,lF]
  constructor
  ·rintro⟨i,_,hx⟩
   obtain⟨k,hk,rfl⟩:=List.mem_map.1 hx
   have:=(List.mem_filter.1 hk).2
   unfold uS at this
   split at this
   ·assumption
   ·simp at this
  ·intro hx
   have hb:=UInt8.toNat_lt x
   have e:16*(x.toNat / 16)+x.toNat % 16=x.toNat:=by omega
   have e2:UInt8.ofNat (16*(x.toNat / 16)+x.toNat % 16)=x:=by rw[e,UInt8.ofNat_toNat]
   refine⟨x.toNat / 16,List.mem_range.2 (by omega),List.mem_map.2 ⟨x.toNat % 16,List.mem_filter.2 ⟨List.mem_range.2 (by omega),?_⟩,e2⟩⟩
   unfold uS
   rw[e2,if_pos hx]
   rfl
theorem oD(a:List UInt8)(h:gB a)(x y:List Nat):fy (x++cD a++y) x.length=(a,x.length+(cD a).length,0):=by
 obtain⟨r,hr,hl⟩:=iT a
 have h0:∀i∈List.range 16,(x++cD a++y).getD (x.length+i) 0=jn a i∧i<16:=by
  intro i hi
  have hi:=List.mem_range.1 hi
  refine⟨?_,hi⟩
  rw[List.getD_eq_getElem?_getD,List.append_assoc,List.getElem?_append_right (by omega),Nat.add_sub_cancel_left,List.getElem?_append_left (by omega)]
  unfold cD
  rw[List.getElem?_append_left (by simpa using hi),List.getElem?_map,List.getElem?_range hi]
  rfl
 have hg:=rE a (fun i=>(x++cD a++y).getD (x.length+i) 0) (List.range 16) (x++(List.range 16).map (jn a)) y [] h0
 have e:x++(List.range 16).map (jn a)++(List.range 16).flatMap (bc a)++y=x++cD a++y:=by unfold cD;simp only[List.append_assoc]
 rw[e,List.length_append,List.length_map,List.length_range,FO,h.2,List.nil_append]at hg
 unfold fy
 rw[if_neg (by simp only[List.length_append];omega),if_neg (by simp only[List.length_append];omega),hg]
 simp only[h.1,if_false]
 have:(cD a).length=16+((List.range 16).flatMap (bc a)).length:=by
  unfold cD
  rw[List.length_append,List.length_map,List.length_range]
 rw[this,Nat.add_assoc]
open Go.RowKit
def fm(l:List UInt8):ByteArray:=⟨l.toArray⟩
theorem ib(s:ByteArray)(i:Nat)(h:i<s.size):s.data.toList.getD i 0=s[i]:=by
 rw[List.getD_eq_getElem?_getD,List.getElem?_eq_getElem (by simpa using h)]
 rfl
theorem eW(s:ByteArray)(h:0<s.size):s.toList.isEmpty=false:=by
 rw[ByteArray.toList_eq]
 have h0:s.data.toList.length=s.size:=rfl
 cases hd:s.data.toList with
 | nil=>rw[hd]at h0;simp at h0;omega
 | cons a l=>rfl
theorem cH(w:World)(v:Value)(t:TypeId):∀(j:Nat) (u:Value), [v][j]? =some u→(w.alloc (.cells #[v] t)).cell? ((⟨w.heap.size,0,none⟩:Addr).add j)=some u:=by
 intro j u hu
 have hj:j=0:=by
  have:=(List.getElem?_eq_some_iff.1 hu).1
  simp at this
  exact this
 subst hj
 simp at hu
 subst hu
 rw[Addr.add_lit,ac (ag w t _)]
 rfl
def kR(s a:List UInt8):List Nat×Nat:=if gB a then(match cK s a with | none=>([],60) | some l=>(l,0))else([],2)
def oF(w:World)(s a:List UInt8)(e:Ending)(w':World):Prop:=∃(v:Value) (L:List Nat) (c:Nat),kR s a=(L,c)∧e=.returned (.tuple #[v,.int .i64 c])∧w'.ownsRow w.heap.size 3 1 v L.length (L.map iv)∧Below w.heap.size w w'
theorem BY(s:ByteArray)(q:Nat)(h:q<s.size):s.data.toList.drop q=s[q] :: s.data.toList.drop (q+1):=by
 have hl:q<s.data.toList.length:=h
 rw[List.drop_eq_getElem_cons hl]
 rfl
def ZIn(w:World)(A:Option Addr)(n:Nat)(L:List Int):Prop:=
 L.length=n∧(0<n→∃b off,A=some ⟨b,off,none⟩∧∀i,i<n→w.cell? ⟨b,off+i,none⟩=some (.int .i64 (L.getD i 0)))
theorem ZIn.below{w w':World}{A:Option Addr}{n:Nat}{L:List Int}(h:ZIn w A n L)(hb:Below w.heap.size w w'):ZIn w' A n L:=by
 refine⟨h.1,fun hn=> ?_⟩
 obtain⟨b,off,rfl,hc⟩:=h.2 hn
 exact⟨b,off,rfl,fun i hi=>(hb.cell (p:=⟨b,off+i,none⟩) (World.block_lt_of_cell? w _ (hc i hi))).trans (hc i hi)⟩
def ep(l:List Int)(a:List UInt8):List UInt8×Nat:=if gB a then(match eB l a with | none=>([],60) | some t=>(t,0))else([],2)
theorem rP(a:List UInt8):aw (cD a):=by
 intro b hb
 unfold cD at hb
 rcases List.mem_append.1 hb with h | h
 ·obtain⟨i,_,rfl⟩:=List.mem_map.1 h
  have:=jV a i
  omega
 ·obtain⟨i,_,h⟩:=List.mem_flatMap.1 h
  unfold bc at h
  split at h
  ·obtain⟨k,_,rfl⟩:=List.mem_map.1 h
   unfold uS
   split <;>omega
  ·exact absurd h az
def kt(a:List UInt8)(q:Nat):List Nat:=(List.range 16).map (jn a)++(List.range q).flatMap (bc a)
theorem o9(a:List UInt8)(q:Nat):kt a (q+1)=kt a q++bc a q:=by
 have e:(List.range (q+1)).flatMap (bc a)=(List.range q).flatMap (bc a)++bc a q:=by
  rw[List.range_succ,List.flatMap_append]
  simp
 unfold kt
 rw[e,List.append_assoc]
theorem l8(a:List UInt8):∀q,(kt a q).length≤16+16*q
 | 0=>by simp[kt]
 | q+1=>by
   rw[o9,List.length_append,iw]
   have:=l8 a q
   rcases jV a q with h | h <;>rw[h] <;>omega
def xm(w:World)(L:List Nat)(c:Nat)(e:Ending)(w':World):Prop:=e=.returned (.tuple #[.agg #[.string ⟨(aG L).toArray⟩,.int .i64 L.length],.int .i64 c])∧Below w.heap.size w w'
def IJ:Option (List UInt8×Nat)→List UInt8×Nat×Nat
 | none=>([],0,10)
 | some (out,q)=>if out= []then([],0,60)else(out,q,0)
theorem Cc(L:List Nat)(p:Nat)(h:p+16≤L.length):fy L p=IJ (goT L (fun i=>L.getD (p+i) 0) (List.range 16) (p+16) []):=by
 unfold fy
 rw[if_neg (by omega),if_neg (by omega)]
 rcases goT L (fun i=>L.getD (p+i) 0) (List.range 16) (p+16) []with _ | ⟨o,q⟩ <;>rfl
def aE(l:List Nat)(p:Int):List UInt8×Nat×Nat:=if p<0 then([],0,2)else fy l p.toNat
def jM(w:World)(ans:List UInt8×Nat×Nat)(e:Ending)(w':World):Prop:=e=.returned (.tuple #[.string (fm ans.1),.int .i64 ans.2.1,.int .i64 ans.2.2])∧Below w.heap.size w w'
end Go.Proofs.YthakcjehhlpjnaaGreat.S06
