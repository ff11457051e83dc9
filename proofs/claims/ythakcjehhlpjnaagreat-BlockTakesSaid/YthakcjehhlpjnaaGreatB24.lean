import Derived.Test.YthakcjehhlpjnaaGreatB10
import Derived.Laws.Concat
import Derived.Lib.AppendZeros
set_option maxHeartbeats 3200000
set_option maxRecDepth 100000
namespace Go.Proofs.YthakcjehhlpjnaaGreat.S06
def yg:List UInt8:=(List.range 256).map UInt8.ofNat
def ofL(s:List UInt8):List UInt8:=yg.filter fun b=>decide (b∈s)
theorem Gr(b:UInt8):b∈yg:=List.mem_map.2 ⟨b.toNat,List.mem_range.2 (UInt8.toNat_lt b),UInt8.ofNat_toNat⟩
theorem yM:yg.Pairwise (· < ·):=by
 unfold yg
 rw[List.pairwise_map]
 refine List.Pairwise.imp_of_mem ?_ List.pairwise_lt_range
 intro a b ha hb h0
 have ha:=List.mem_range.1 ha
 have hb:=List.mem_range.1 hb
 rw[UInt8.lt_iff_toNat_lt,UInt8.toNat_ofNat',UInt8.toNat_ofNat',Nat.mod_eq_of_lt ha,Nat.mod_eq_of_lt hb]
 exact h0
theorem lU(s:List UInt8)(b:UInt8):b∈ofL s↔b∈s:=by
 unfold ofL
 rw[List.mem_filter]
 exact⟨fun h=>of_decide_eq_true h.2,fun h=>⟨Gr b,decide_eq_true h⟩⟩
theorem fY(s:List UInt8):(ofL s).Pairwise (· < ·):=yM.filter _
theorem mM:∀{a b:List UInt8},a.Pairwise (· < ·)→b.Pairwise (· < ·)→(∀ x,x∈a↔x∈b)→a=b:=by
 intro a b ha hb h
 have h0:a.Nodup:=List.nodup_iff_pairwise_ne.2 (ha.imp fun {x y} h e=>by subst e;exact UInt8.lt_irrefl _ h)
 have h3:b.Nodup:=List.nodup_iff_pairwise_ne.2 (hb.imp fun {x y} h e=>by subst e;exact UInt8.lt_irrefl _ h)
 refine List.Perm.eq_of_pairwise (le:=(· < ·)) (fun x y _ _ h1 h2=>absurd (UInt8.lt_trans h1 h2) (UInt8.lt_irrefl _)) ha hb ?_
 exact(List.perm_ext_iff_of_nodup h0 h3).2 h
theorem qJ{a:List UInt8}(h:a.Pairwise (· < ·)):ofL a=a:=mM (fY a) h (lU a)
theorem CE(s:List UInt8):ofL (ofL s)=ofL s:=qJ (fY s)
def eY(a:List UInt8):Prop:=a≠ []∧ofL a=a
instance (a:List UInt8):Decidable (eY a):=inferInstanceAs (Decidable (_∧_))
theorem Gd(a:List UInt8):eY a↔a≠ []∧a.Pairwise (· < ·):=
 ⟨fun h=>⟨h.1,by rw[← h.2];exact fY a⟩,fun h=>⟨h.1,qJ h.2⟩⟩
theorem qx(s:List UInt8)(h:s≠ []):eY (ofL s):=by
 refine⟨fun e=> ?_,CE s⟩
 obtain⟨x,hx⟩:=List.exists_mem_of_ne_nil _ h
 have:=(lU s x).2 hx
 rw[e]at this
 exact absurd this aq
def cE(list:List UInt8)(at_:Nat):List UInt8:=list.getD at_ 0 :: (list.take at_++list.drop (at_+1))
theorem da(list:List UInt8)(p:Nat)(h:p<list.length):(cE list p).length=list.length:=by
 unfold cE
 rw[List.length_cons,List.length_append,List.length_take,List.length_drop]
 omega
theorem Eb(list:List UInt8)(p:Nat)(h:p<list.length)(x:UInt8):x∈cE list p↔x∈list:=by
 have e:list=list.take p++list.getD p 0 :: list.drop (p+1):=by
  rw[List.getD_eq_getElem?_getD,List.getElem?_eq_getElem h]
  show list=list.take p++list[p] :: list.drop (p+1)
  rw[← List.drop_eq_getElem_cons h,List.take_append_drop]
 unfold cE
 conv=>rhs;rw[e]
 rw[List.mem_cons,List.mem_append,List.mem_append,List.mem_cons]
 constructor
 ·rintro(h | h | h)
  ·exact .inr (.inl h)
  ·exact .inl h
  ·exact .inr (.inr h)
 ·rintro(h | h | h)
  ·exact .inr (.inl h)
  ·exact .inl h
  ·exact .inr (.inr h)
def cJ:List UInt8→List UInt8→Option (List Nat)
 | [],_=>some []
 | b :: s,list=>if b∈list then(cJ s (cE list (list.idxOf b))).map (list.idxOf b :: ·)else none
def ch:List Int→List UInt8→Option (List UInt8)
 | [],_=>some []
 | x :: l,list=>if 0≤x∧x<list.length then(ch l (cE list x.toNat)).map (list.getD x.toNat 0 :: ·)else none
theorem II(list:List UInt8)(b:UInt8)(h:b∈list):list.getD (list.idxOf b) 0=b:=by
 have h1:=List.idxOf_lt_length_of_mem h
 rw[List.getD_eq_getElem?_getD,List.getElem?_eq_getElem h1]
 exact List.getElem_idxOf h1
theorem qH:∀(s list:List UInt8),(∀ x∈s,x∈list)→∃l,cJ s list=some l∧l.length=s.length
 | [],list,_=>⟨[],rfl,rfl⟩
 | b :: s,list,h=>by
   have hb:=h b List.mem_cons_self
   have h1:=List.idxOf_lt_length_of_mem hb
   obtain⟨l,h2,h3⟩:=qH s (cE list (list.idxOf b)) fun x hx=>(Eb list _ h1 x).2 (h x (List.mem_cons_of_mem _ hx))
   refine⟨list.idxOf b :: l,?_,by rw[List.length_cons,List.length_cons,h3]⟩
   rw[cJ,if_pos hb,h2]
   rfl
theorem rC:∀(s list:List UInt8) (l:List Nat),cJ s list=some l→ch (l.map fun(x:Nat)=>(x:Int)) list=some s
 | [],list,l,h=>by
   simp only[cJ,Option.some.injEq]at h
   subst h
   rfl
 | b :: s,list,l,h=>by
   rw[cJ]at h
   by_cases hb:b∈list
   ·rw[if_pos hb]at h
    have h1:=List.idxOf_lt_length_of_mem hb
    rcases hf:cJ s (cE list (list.idxOf b))with _ | l2
    ·rw[hf]at h
     simp at h
    ·rw[hf]at h
     simp only[Option.map_some,Option.some.injEq]at h
     subst h
     have ih:=rC s _ l2 hf
     rw[List.map_cons,ch,if_pos ⟨by omega,by omega⟩,Int.toNat_natCast,ih,II list b hb]
     rfl
   ·rw[if_neg hb]at h
    simp at h
def uW(a:List UInt8)(b:Nat):Nat:=if UInt8.ofNat b∈a then 1 else 0
def jF(a:List UInt8)(i:Nat):Nat:=if a.any (fun x=>x.toNat / 16==i)then 1 else 0
def a8(a:List UInt8)(i:Nat):List Nat:=if jF a i=1 then(List.range 16).map fun k=>uW a (16*i+k)else []
def dL(a:List UInt8):List Nat:=(List.range 16).map (jF a)++(List.range 16).flatMap (a8 a)
def eh(l:List Nat)(p i:Nat):List UInt8:=((List.range 16).filter fun k=>l.getD (p+k) 0==1).map fun k=>UInt8.ofNat (16*i+k)
def goT(l:List Nat)(fl:Nat→Nat):List Nat→Nat→List UInt8→Option (List UInt8×Nat)
 | [],p,out=>some (out,p)
 | i :: is,p,out=>if fl i=0 then goT l fl is p out else if l.length<p+16 then none else goT l fl is (p+16) (out++eh l p i)
def dE(l:List Nat)(p:Nat):List UInt8×Nat×Nat:=
 if l.length<p then([],0,2)else if l.length<p+16 then([],0,10)else
  match goT l (fun i=>l.getD (p+i) 0) (List.range 16) (p+16) []with
  | none=>([],0,10)
  | some (out,q)=>if out= []then([],0,60)else(out,q,0)
theorem kb(a:List UInt8)(i:Nat):jF a i=0∨jF a i=1:=by
 unfold jF
 split
 ·exact .inr rfl
 ·exact .inl rfl
theorem iG(a:List UInt8)(i:Nat):(a8 a i).length=16*jF a i:=by
 unfold a8
 rcases kb a i with h | h <;>rw[h] <;>simp
theorem ji(a:List UInt8):∃r,r≤16∧(dL a).length=16+16*r:=by
 have h:∀n,∃r,r≤n∧((List.range n).flatMap (a8 a)).length=16*r:=by
  intro n
  induction n with
  | zero=>exact⟨0,Nat.le_refl _,rfl⟩
  | succ n ih=>
    obtain⟨r,h1,h2⟩:=ih
    rw[List.range_succ,List.flatMap_append,List.length_append,h2]
    simp only[List.flatMap_cons,List.flatMap_nil,List.append_nil,iG]
    rcases kb a n with h | h
    ·exact⟨r,by omega,by rw[h];omega⟩
    ·exact⟨r+1,by omega,by rw[h];omega⟩
 obtain⟨r,h1,h2⟩:=h 16
 refine⟨r,h1,?_⟩
 unfold dL
 rw[List.length_append,h2,List.length_map,List.length_range]
def nf(a:List UInt8)(i:Nat):List UInt8:=((List.range 16).filter fun k=>uW a (16*i+k)==1).map fun k=>UInt8.ofNat (16*i+k)
theorem y6(a:List UInt8)(i:Nat)(hi:i<16)(h:jF a i=0):nf a i= []:=by
 unfold nf
 rw[List.map_eq_nil_iff,List.filter_eq_nil_iff]
 intro k hk
 have hk:=List.mem_range.1 hk
 unfold uW
 split
 ·rename_i hm
  exfalso
  unfold jF at h
  rw[if_pos]at h
  ·simp at h
  ·rw[List.any_eq_true]
   refine⟨_,hm,?_⟩
   rw[UInt8.toNat_ofNat',Nat.mod_eq_of_lt (by omega),show(16*i+k) / 16=i by omega]
   simp
 ·simp
theorem zr(x y:List Nat)(a:List UInt8)(i:Nat):eh (x++((List.range 16).map fun k=>uW a (16*i+k))++y) x.length i=nf a i:=by
 unfold eh nf
 congr 1
 refine List.filter_congr fun k hk=> ?_
 have hk:=List.mem_range.1 hk
 rw[List.getD_eq_getElem?_getD,List.append_assoc,List.getElem?_append_right (by omega),Nat.add_sub_cancel_left,List.getElem?_append_left (by simpa using hk),List.getElem?_map,List.getElem?_range hk]
 rfl
theorem sJ(a:List UInt8)(fl:Nat→Nat):∀(is:List Nat) (x y:List Nat) (out:List UInt8),(∀ i∈is,fl i=jF a i∧i<16)→
 goT (x++is.flatMap (a8 a)++y) fl is x.length out=some (out++is.flatMap (nf a),x.length+(is.flatMap (a8 a)).length)
 | [],x,y,out,_=>by simp[goT]
 | i :: is,x,y,out,h=>by
   have hi:=h i List.mem_cons_self
   have hr:=fun j hj=>h j (List.mem_cons_of_mem i hj)
   rw[goT,hi.1]
   rcases kb a i with h0 | h0
   ·have e:a8 a i= []:=by unfold a8;rw[if_neg (by omega)]
    rw[if_pos h0]
    simp only[List.flatMap_cons,e,List.nil_append,y6 a i hi.2 h0]
    exact sJ a fl is x y out hr
   ·have e:a8 a i=(List.range 16).map fun k=>uW a (16*i+k):=by unfold a8;rw[if_pos h0]
    have el:(a8 a i).length=16:=by rw[iG,h0]
    rw[if_neg (by omega),if_neg (by simp only[List.flatMap_cons,List.length_append,el];omega)]
    have e2:x++(i :: is).flatMap (a8 a)++y=(x++a8 a i)++is.flatMap (a8 a)++y:=by simp only[List.flatMap_cons,List.append_assoc]
    have e3:eh (x++(i :: is).flatMap (a8 a)++y) x.length i=nf a i:=by
     have:=zr x (is.flatMap (a8 a)++y) a i
     rw[← e]at this
     rw[← this]
     simp only[List.flatMap_cons,List.append_assoc]
    rw[e3,e2]
    have ih:=sJ a fl is (x++a8 a i) y (out++nf a i) hr
    rw[List.length_append,el]at ih
    rw[ih]
    simp only[List.flatMap_cons,List.append_assoc,List.length_append,el,Option.some.injEq,Prod.mk.injEq,true_and]
    omega
theorem E3(a:List UInt8):(List.range 16).flatMap (nf a)=ofL a:=by
 refine mM ?_ (fY a) fun x=> ?_
 ·rw[List.pairwise_flatMap]
  refine⟨fun i hi=> ?_,?_⟩
  ·have hi:=List.mem_range.1 hi
   unfold nf
   rw[List.pairwise_map]
   refine List.Pairwise.imp_of_mem ?_ (List.pairwise_lt_range.filter _)
   intro p q hp hq h1
   have hp:=List.mem_range.1 (List.mem_filter.1 hp).1
   have hq:=List.mem_range.1 (List.mem_filter.1 hq).1
   rw[UInt8.lt_iff_toNat_lt,UInt8.toNat_ofNat',UInt8.toNat_ofNat',Nat.mod_eq_of_lt (by omega),Nat.mod_eq_of_lt (by omega)]
   omega
  ·refine List.Pairwise.imp_of_mem ?_ List.pairwise_lt_range
   intro i j hi hj h0 x hx y hy
   have hi:=List.mem_range.1 hi
   have hj:=List.mem_range.1 hj
   obtain⟨p,hp,rfl⟩:=List.mem_map.1 hx
   obtain⟨q,hq,rfl⟩:=List.mem_map.1 hy
   have hp:=List.mem_range.1 (List.mem_filter.1 hp).1
   have hq:=List.mem_range.1 (List.mem_filter.1 hq).1
   rw[UInt8.lt_iff_toNat_lt,UInt8.toNat_ofNat',UInt8.toNat_ofNat',Nat.mod_eq_of_lt (by omega),Nat.mod_eq_of_lt (by omega)]
   omega
 ·rw[List.mem_flatMap,lU]
  constructor
  ·rintro⟨i,_,hx⟩
   obtain⟨k,hk,rfl⟩:=List.mem_map.1 hx
   have:=(List.mem_filter.1 hk).2
   unfold uW at this
   split at this
   ·assumption
   ·simp at this
  ·intro hx
   have hb:=UInt8.toNat_lt x
   have e:16*(x.toNat / 16)+x.toNat % 16=x.toNat:=by omega
   have e2:UInt8.ofNat (16*(x.toNat / 16)+x.toNat % 16)=x:=by rw[e,UInt8.ofNat_toNat]
   refine⟨x.toNat / 16,List.mem_range.2 (by omega),List.mem_map.2 ⟨x.toNat % 16,List.mem_filter.2 ⟨List.mem_range.2 (by omega),?_⟩,e2⟩⟩
   unfold uW
   rw[e2,if_pos hx]
   rfl
theorem oU(a:List UInt8)(h:eY a)(x y:List Nat):dE (x++dL a++y) x.length=(a,x.length+(dL a).length,0):=by
 obtain⟨r,hr,hl⟩:=ji a
 have h0:∀i∈List.range 16,(x++dL a++y).getD (x.length+i) 0=jF a i∧i<16:=by
  intro i hi
  have hi:=List.mem_range.1 hi
  refine⟨?_,hi⟩
  rw[List.getD_eq_getElem?_getD,List.append_assoc,List.getElem?_append_right (by omega),Nat.add_sub_cancel_left,List.getElem?_append_left (by omega)]
  unfold dL
  rw[List.getElem?_append_left (by simpa using hi),List.getElem?_map,List.getElem?_range hi]
  rfl
 have hg:=sJ a (fun i=>(x++dL a++y).getD (x.length+i) 0) (List.range 16) (x++(List.range 16).map (jF a)) y [] h0
 have e:x++(List.range 16).map (jF a)++(List.range 16).flatMap (a8 a)++y=x++dL a++y:=by unfold dL;simp only[List.append_assoc]
 rw[e,List.length_append,List.length_map,List.length_range,E3,h.2,List.nil_append]at hg
 unfold dE
 rw[if_neg (by simp only[List.length_append];omega),if_neg (by simp only[List.length_append];omega),hg]
 simp only[h.1,if_false]
 have:(dL a).length=16+((List.range 16).flatMap (a8 a)).length:=by
  unfold dL
  rw[List.length_append,List.length_map,List.length_range]
 rw[this,Nat.add_assoc]
open Go.RowKit
def cN(l:List UInt8):ByteArray:=⟨l.toArray⟩
theorem CF(l:List UInt8):(cN l).size=l.length:=rfl
theorem dY(s:ByteArray)(i:Nat)(h:i<s.size):s.data.toList.getD i 0=s[i]:=by
 rw[List.getD_eq_getElem?_getD,List.getElem?_eq_getElem (by simpa using h)]
 rfl
theorem jL(s:ByteArray)(h:0<s.size):s.toList.isEmpty=false:=by
 rw[ByteArray.toList_eq]
 have h0:s.data.toList.length=s.size:=rfl
 cases hd:s.data.toList with
 | nil=>rw[hd]at h0;simp at h0;omega
 | cons a l=>rfl
theorem FZ:∀(l:List UInt8) (b:UInt8) (q:Nat),q<l.length→(∀ j,j<q→l.getD j 0≠b)→l.getD q 0=b→l.idxOf b=q
 | [],_,_,h,_,_=>by simp at h
 | x :: l,b,0,_,_,h=>by
   rw[List.getD_cons_zero]at h
   subst h
   simp
 | x :: l,b,q+1,hl,hlow,h=>by
   have h0:=hlow 0 (Nat.succ_pos q)
   rw[List.getD_cons_zero]at h0
   rw[List.idxOf_cons]
   have e2:(x==b)=false:=by simpa using h0
   rw[e2]
   simp only[List.length_cons]at hl
   rw[List.getD_cons_succ]at h
   have:=FZ l b q (by omega) (fun j hj=>by have:=hlow (j+1) (by omega);rwa [List.getD_cons_succ]at this) h
   simp[this]
theorem yU:∀(l:List UInt8) (b:UInt8),(∀ j,j<l.length→l.getD j 0≠b)→l.idxOf b=l.length
 | [],_,_=>rfl
 | x :: l,b,hlow=>by
   have h0:=hlow 0 (by simp)
   rw[List.getD_cons_zero]at h0
   rw[List.idxOf_cons]
   have e2:(x==b)=false:=by simpa using h0
   rw[e2]
   have:=yU l b (fun j hj=>by have:=hlow (j+1) (by simp;omega);rwa [List.getD_cons_succ]at this)
   simp[this]
theorem DA(w:World)(s:ByteArray)(b:UInt8)(hs:s.size≤1000000):Calls Tryz.prog 134 #[.string s,.int .u8 b.toNat] w fun e w'=>e=.returned (.int .i64 (s.data.toList.idxOf b:Nat))∧w=w':=by
 have h5:=aa (show s.data.toList.length=s.size from rfl)
 go_enter Tryz.func134,Tryz.ntmps134
 go_wp2_with fail
 go_loop [5] (fun x=>∃q:Nat,q≤s.size∧x=.int .i64 q∧∀j,j<q→s.data.toList.getD j 0≠b) (fun x=>s.size - (intOf x).toNat)
 case atStart=>exact⟨0,Nat.zero_le _,rfl,fun j h=>by omega⟩
 case round=>
  obtain⟨q,hq,rfl,h0⟩:=hrel
  have h4:=aa h0
  by_cases e:q<s.size
  ·have d1:decide ((q:Int)<(s.size:Int))=true:=ar (by omega)
   have h2:=dY s q e
   by_cases e1:s[q]=b
   ·have q1:((s[q].toNat:Int)==(b.toNat:Int))=true:=by rw[e1];simp
    have h1:=FZ s.data.toList b q (by rw[h5.out];exact e) h0 (h2.trans e1)
    have h3:=aa h1
    clear h0 h2 e1 h1
    go_wp2_with fail
    go_ret
    rw[h3.out]
    exact⟨rfl,rfl⟩
   ·have q1:((s[q].toNat:Int)==(b.toNat:Int))=false:=by
     simp only[beq_eq_false_iff_ne,ne_eq]
     exact fun h=>e1 (UInt8.toNat_inj.1 (by omega))
    have HE:=aa (show s.data.toList.getD q 0≠b by rw[h2];exact e1)
    clear h0 h2 e1
    go_wp2_with fail
    go_round
    case rel=>
     refine⟨q+1,by omega,by go_num,fun j hj=> ?_⟩
     by_cases h:j=q
     ·rw[h];exact HE.out
     ·exact h4.out j (by omega)
    case measure=>simp[intOf];omega
  ·obtain rfl:q=s.size:=by omega
   have d1:decide ((s.size:Int)<(s.size:Int))=false:=ao (by omega)
   have h1:=yU s.data.toList b (fun j hj=>h0 j (by rw[h5.out]at hj;exact hj))
   have h3:=aa h1
   clear h0 h1
   go_wp2_with fail
   go_ret
   rw[h3.out,h5.out]
   exact⟨rfl,rfl⟩
theorem AM(s:ByteArray)(p:Nat)(hp:p<s.size):s.extract p (p+1)++s.extract 0 p++s.extract (p+1) s.size=cN (cE s.data.toList p):=by
 apply ByteArray.ext
 apply Array.ext'
 show(s.extract p (p+1)++s.extract 0 p++s.extract (p+1) s.size).data.toList=cE s.data.toList p
 have h0:p<s.data.toList.length:=hp
 rw[ByteArray.data_append,ByteArray.data_append,Array.toList_append,Array.toList_append,ByteArray.data_extract,ByteArray.data_extract,ByteArray.data_extract,Array.toList_extract,Array.toList_extract,Array.toList_extract,List.extract_eq_take_drop,List.extract_eq_take_drop,List.extract_eq_take_drop,List.drop_zero,Nat.sub_zero,show p+1 - p=1 by omega,cE]
 have h1:(s.data.toList.drop p).take 1= [s.data.toList.getD p 0]:=by
  rw[List.drop_eq_getElem_cons h0,List.getD_eq_getElem?_getD,List.getElem?_eq_getElem h0]
  rfl
 have h2:(s.data.toList.drop (p+1)).take (s.size - (p+1))=s.data.toList.drop (p+1):=by
  refine List.take_of_length_le ?_
  rw[List.length_drop]
  exact Nat.le_refl _
 rw[h1,h2]
 simp
theorem AA(w:World)(s:ByteArray)(p:Nat)(hp:p<s.size)(hs:s.size≤1000000):Calls Tryz.prog 102 #[.string s,.int .i64 p] w fun e w'=>e=.returned (.string (cN (cE s.data.toList p)))∧∃m,w'=w.drewN m:=by
 have hx:=AM s p hp
 have h1:(s.extract p (p+1)).size=1:=by rw[ByteArray.size_extract];omega
 have h2:(s.extract 0 p).size=p:=by rw[ByteArray.size_extract];omega
 have h3:(s.extract (p+1) s.size).size=s.size - (p+1):=by rw[ByteArray.size_extract];omega
 have h0:∀w9:World,(Op.stringOp .add (s.extract p (p+1)) (s.extract 0 p)).run Tryz.prog w9=.ok (.string (s.extract p (p+1)++s.extract 0 p)) w9:=fun w9=>run_string_add_sum w9 _ _ (by omega)
 have h4:∀w9:World,(Op.stringOp .add (s.extract p (p+1)++s.extract 0 p) (s.extract (p+1) s.size)).run Tryz.prog w9=.ok (.string (cN (cE s.data.toList p))) w9:=fun w9=>(run_string_add_sum w9 _ _ (by rw[ByteArray.size_append];omega)).trans (by rw[hx])
 have h5:(0:Int)≤(p:Int):=by omega
 have h6:(p:Int)≤(p:Int)+1:=by omega
 have h7:(p:Int)+1≤(s.size:Int):=by omega
 have h8:(p:Int)≤(s.size:Int):=by omega
 have h9:(0:Int)≤(p:Int)+1:=by omega
 have ha:IntKind.i64.wrap ((p:Int)+1)=(p:Int)+1:=by rw[IntKind.wrap_i64];omega
 clear hx h1 h2 h3
 generalize cN (cE s.data.toList p)=t at*
 go_enter Tryz.func102,Tryz.ntmps102
 go_wp2_with fail
 go_region
 go_wp2_with fail
 go_ret
 exact⟨rfl,1,rfl⟩
def AN(s:List UInt8)(b:Nat):List UInt8:=((List.range b).map UInt8.ofNat).filter fun x=>decide (x∈s)
theorem CA(s:List UInt8)(b:Nat):AN s (b+1)=AN s b++if UInt8.ofNat b∈s then [UInt8.ofNat b]else []:=by
 unfold AN
 rw[List.range_succ,List.map_append,List.filter_append]
 congr 1
 simp only[List.map_cons,List.map_nil,List.filter_cons,List.filter_nil,decide_eq_true_eq]
theorem x7(s:List UInt8)(b:Nat):(AN s b).length≤b:=by
 unfold AN
 refine Nat.le_trans (List.length_filter_le _ _) ?_
 rw[List.length_map,List.length_range]
 exact Nat.le_refl _
theorem yA(w1:World)(v:Int):(convert 43 9 (.slice (some ⟨w1.heap.size,0,none⟩) 1 1)).run Tryz.prog (w1.alloc (.cells #[.int .u8 v] 5))=.ok (.string ⟨#[UInt8.ofNat v.toNat]⟩) (w1.alloc (.cells #[.int .u8 v] 5)):=by
 refine run_convert_bytes_arg (P:=Tryz.prog) (w1.alloc (.cells #[.int .u8 v] 5)) 43 5 Tryz.underlying43 Tryz.underlying5 w1.heap.size 0 1 1 [v] rfl (fun i hi=> ?_) 9 Tryz.underlying9
 obtain rfl:i=0:=by omega
 rw[World.cell?_alloc_new]
 rfl
theorem rB(s:List UInt8)(b:UInt8):s.idxOf b<s.length↔b∈s:=List.idxOf_lt_length_iff
theorem Fd(w:World)(s:ByteArray)(hs:s.size≤1000000):Calls Tryz.prog 75 #[.string s] w fun e w'=>e=.returned (.string (cN (ofL s.data.toList)))∧Below w.heap.size w w':=by
 have hc:=aa (show s.data.toList.length=s.size from rfl)
 have HN:=aa (CA s.data.toList)
 have h9:=aa (x7 s.data.toList)
 go_enter Tryz.func75,Tryz.ntmps75
 go_wp2_with fail
 go_loopw [3,4] (fun out x wx=>∃(b:Nat) (t:ByteArray),b≤256∧x=.int .i64 b∧out=.string t∧t.data.toList=AN s.data.toList b∧Below w.heap.size w wx) (fun _ x _=>256 - (intOf x).toNat)
 case atStart=>exact⟨0,⟨#[]⟩,by omega,rfl,rfl,rfl,Below.refl _ _⟩
 case round=>
  obtain⟨b,t,hb,rfl,rfl,ht,h0⟩:=hrel
  have HT:=aa ht
  have HB:=aa h0
  have hz:=h0.size
  by_cases e:b<256
  ·have d1:decide ((b:Int)<256)=true:=ar (by omega)
   have h5:(UInt8.ofNat b).toNat=b:=by rw[UInt8.toNat_ofNat',Nat.mod_eq_of_lt e]
   have h3:=DA wr s (UInt8.ofNat b) hs
   rw[h5]at h3
   have h2:=HN.out b
   have h1:=rB s.data.toList (UInt8.ofNat b)
   rw[hc.out]at h1
   obtain⟨p,hp⟩:∃p,p=s.data.toList.idxOf (UInt8.ofNat b):=⟨_,rfl⟩
   rw[← hp]at h3 h1
   have h7:=aa h3
   have hk:IntKind.u8.wrap (b:Int)=(b:Int):=by
    show(b:Int) % 256=b
    omega
   by_cases e1:UInt8.ofNat b∈s.data.toList
   ·have hh:p<s.size:=h1.2 e1
    have d2:decide ((p:Int)<(s.size:Int))=true:=ar (by omega)
    rw[if_pos e1]at h2
    have hg:=yA wr (b:Int)
    rw[Int.toNat_natCast]at hg
    obtain⟨t2,h6⟩:∃t2:ByteArray,t2=t++⟨#[UInt8.ofNat b]⟩:=⟨_,rfl⟩
    have hi:t.size≤256:=by
     show t.data.toList.length≤256
     rw[ht]
     exact Nat.le_trans (h9.out b) (by omega)
    have hf:∀w9:World,(Op.stringOp .add t ⟨#[UInt8.ofNat b]⟩).run Tryz.prog w9=.ok (.string t2) w9:=fun w9=>(run_string_add_sum w9 _ _ (by show t.size+1≤_;omega)).trans (by rw[h6])
    have h4:t2.data.toList=AN s.data.toList (b+1):=by
     rw[h2,←ht,h6]
     show(t++⟨#[UInt8.ofNat b]⟩:ByteArray).data.toList=_
     rw[ByteArray.data_append,Array.toList_append]
    have he:=aa h4
    have h8:=aa (h0.alloc hz (.cells #[.int .u8 (b:Int)] 5))
    clear ht h0 h5 h3 h2 h1 hp e1 h6 hi h4
    go_wp2_with fail
    refine h7.out.mono ?_
    rintro e w1 ⟨rfl,rfl⟩
    go_wp2_with fail
    go_roundw
    case rel=>exact⟨b+1,t2,by omega,by go_num,rfl,he.out,h8.out⟩
    case measure=>simp[intOf];omega
   ·have hh:¬p<s.size:=fun h=>e1 (h1.1 h)
    have d2:decide ((p:Int)<(s.size:Int))=false:=ao (by omega)
    rw[if_neg e1,List.append_nil]at h2
    have ha:=aa h2
    clear ht h0 h5 h3 h2 h1 hp e1
    go_wp2_with fail
    refine h7.out.mono ?_
    rintro e w1 ⟨rfl,rfl⟩
    go_wp2_with fail
    go_roundw
    case rel=>exact⟨b+1,t,by omega,by go_num,rfl,by rw[ha.out];exact HT.out,HB.out⟩
    case measure=>simp[intOf];omega
  ·obtain rfl:b=256:=by omega
   have hj:t=cN (ofL s.data.toList):=by
    apply ByteArray.ext
    apply Array.ext'
    exact ht
   subst hj
   clear ht h0
   go_wp2_with fail
   go_ret
   exact⟨rfl,HB.out⟩
theorem vG(w:World)(s:ByteArray)(hs:s.size≤1000000):Calls Tryz.prog 101 #[.string s] w fun e w'=>e=.returned (.bool (decide (eY s.data.toList)))∧Below w.heap.size w w':=by
 by_cases h0:s.size=0
 ·have hd:s=⟨#[]⟩:=by
   apply ByteArray.ext
   exact Array.eq_empty_of_size_eq_zero h0
  subst hd
  have e:decide (eY (⟨#[]⟩:ByteArray).data.toList)=false:=decide_eq_false (fun h=>h.1 rfl)
  rw[e]
  go_enter Tryz.func101,Tryz.ntmps101
  go_wp2_with fail
  go_ret
  exact⟨rfl,Below.refl _ _⟩
 ·have h5:=jL s (by omega)
  have h1:s.data.toList≠ []:=fun h=>by
   have h3:s.data.toList.length=s.size:=rfl
   rw[h]at h3
   simp at h3
   omega
  have HA:=aa (Fd w s hs)
  have h4:((cN (ofL s.data.toList)).toList==s.toList)=decide (eY s.data.toList):=by
   rw[ByteArray.toList_eq,ByteArray.toList_eq]
   show(ofL s.data.toList==s.data.toList)=_
   by_cases h:ofL s.data.toList=s.data.toList
   ·rw[decide_eq_true ⟨h1,h⟩,h]
    simp
   ·rw[decide_eq_false (fun h2=>h h2.2)]
    simpa using h
  clear h1
  generalize decide (eY s.data.toList)=d at*
  go_enter Tryz.func101,Tryz.ntmps101
  go_wp2_with fail
  refine HA.out.mono ?_
  rintro e w1 ⟨rfl,hb⟩
  have HB:=aa hb
  clear hb
  go_wp2_with fail
  go_ret
  exact⟨rfl,HB.out⟩
theorem bi(w:World)(v:Value)(t:TypeId):∀(j:Nat) (u:Value), [v][j]? =some u→(w.alloc (.cells #[v] t)).cell? ((⟨w.heap.size,0,none⟩:Addr).add j)=some u:=by
 intro j u hu
 have hj:j=0:=by
  have:=(List.getElem?_eq_some_iff.1 hu).1
  simp at this
  exact this
 subst hj
 simp at hu
 subst hu
 rw[Addr.add_lit,ac (ag w t _)]
 rfl
def lP(s a:List UInt8):List Nat×Nat:=if eY a then(match cJ s a with | none=>([],60) | some l=>(l,0))else([],2)
def oA(w:World)(s a:List UInt8)(e:Ending)(w':World):Prop:=∃(v:Value) (L:List Nat) (c:Nat),lP s a=(L,c)∧e=.returned (.tuple #[v,.int .i64 c])∧w'.ownsRow w.heap.size 3 1 v L.length (L.map iv)∧Below w.heap.size w w'
theorem D2(s:ByteArray)(q:Nat)(h:q<s.size):s.data.toList.drop q=s[q] :: s.data.toList.drop (q+1):=by
 have hl:q<s.data.toList.length:=h
 rw[List.drop_eq_getElem_cons hl]
 rfl
def ZIn(w:World)(A:Option Addr)(n:Nat)(L:List Int):Prop:=
 L.length=n∧(0<n→∃b off,A=some ⟨b,off,none⟩∧∀i,i<n→w.cell? ⟨b,off+i,none⟩=some (.int .i64 (L.getD i 0)))
theorem ZIn.below{w w':World}{A:Option Addr}{n:Nat}{L:List Int}(h:ZIn w A n L)(hb:Below w.heap.size w w'):ZIn w' A n L:=by
 refine⟨h.1,fun hn=> ?_⟩
 obtain⟨b,off,rfl,hc⟩:=h.2 hn
 exact⟨b,off,rfl,fun i hi=>(hb.cell (p:=⟨b,off+i,none⟩) (World.block_lt_of_cell? w _ (hc i hi))).trans (hc i hi)⟩
def cw(l:List Int)(a:List UInt8):List UInt8×Nat:=if eY a then(match ch l a with | none=>([],60) | some t=>(t,0))else([],2)
theorem o6(w:World)(A:Option Addr)(n c:Nat)(L:List Int)(a:ByteArray)(hL:ZIn w A n L)(hn:n≤1000000)(ha:a.size≤1000000):
 Calls Tryz.prog 41 #[.slice A n c,.string a] w fun e w'=>e=.returned (.tuple #[.string (cN (cw L a.data.toList).1),.int .i64 (cw L a.data.toList).2])∧Below w.heap.size w w':=by
 obtain⟨i5,h5,hW,hY,hZ⟩:=info_parts Tryz.info5
 have HM:=aa (vG w a ha)
 by_cases hm:eY a.data.toList
 ·have d0:decide (eY a.data.toList)=true:=decide_eq_true hm
  rw[d0]at HM
  have h3:=aa (show cw L a.data.toList=(match ch L a.data.toList with | none=>([],60) | some t=>(t,0))from if_pos hm)
  have HL:=aa hL
  clear d0 hm hL
  generalize cw L a.data.toList=ans at*
  go_enter Tryz.func41,Tryz.ntmps41
  go_wp2_with fail
  refine HM.out.mono ?_
  rintro e w1 ⟨rfl,h6⟩
  have hf:=aa h6
  have hv:=aa (HL.out.below h6)
  have he:=h6.size
  clear h6
  go_wp2_with fail
  go_loopw [6,7,8] (fun out list i wx=>∃(q:Nat) (t:ByteArray) (o:List UInt8),q≤n∧i=.int .i64 q∧list=.string t∧t.size=a.size∧wx.ownsRow w1.heap.size 5 1 out o.length (o.map bv)∧o.length=q∧
   ch L a.data.toList=(ch (L.drop q) t.data.toList).map (o++ ·)∧Below w1.heap.size w1 wx) (fun _ _ i _=>n - (intOf i).toNat)
  case atStart=>exact⟨0,a, [],Nat.zero_le _,rfl,rfl,rfl,World.ownsRow_nil _ _ _ _,rfl,by simp,Below.refl _ _⟩
  case round=>
   obtain⟨q,t,o,hq,rfl,rfl,hj,h0,h9,hh,hb⟩:=hrel
   have H0:=hb.size
   obtain⟨A0,c0,rfl,hT,hS,hP⟩:=aj h0
   clear hP
   unfold maxLen at hS
   have hA:=hv.out.1
   by_cases e:q<n
   ·have d1:decide ((q:Int)<(n:Int))=true:=ar (by omega)
    obtain⟨b,off,rfl,hc⟩:=hv.out.2 (by omega)
    have h7:=hc q e
    have hB:=World.block_lt_of_cell? w1 _ h7
    have hp:L.drop q=L.getD q 0 :: L.drop (q+1):=by
     rw[List.drop_eq_getElem_cons (by omega),List.getD_eq_getElem?_getD,List.getElem?_eq_getElem (by omega)]
     rfl
    obtain⟨x,hx⟩:∃x,x=L.getD q 0:=⟨_,rfl⟩
    rw[← hx]at h7 hp
    have H1:=(hb.cell (p:=⟨b,off+q,none⟩) hB).trans h7
    have hI:=aa h7
    rw[h9]at h0 hT ⊢
    have hw:=aa h9
    have HB:=aa hb
    have ht:=aa hh
    have hO:=aa hj
    have hs:=aa hp
    obtain⟨X,hX⟩:∃X,X=o.map bv:=⟨_,rfl⟩
    rw[← hX]at h0
    have HX:=aa hX
    have HO:=aa h0
    obtain⟨m,hm⟩:∃m,m=a.size:=⟨_,rfl⟩
    have hE:t.size=m:=hj.trans hm.symm
    clear hX h0 h9 hb hh hj hp hc hx hA h7
    by_cases e1:0≤x∧x<m
    ·obtain⟨p,rfl⟩:∃p:Nat,x=p:=⟨x.toNat,by omega⟩
     have H2:p<m:=by omega
     have hr:p<t.size:=by omega
     have d2:decide ((p:Int)<0)=false:=ao (by omega)
     have d3:decide ((m:Int)≤(p:Int))=false:=ao (by omega)
     have hV:¬m≤p:=by omega
     have hF:=fun w9:World=>AA w9 t p hr (by omega)
     have hz:=dY t p hr
     have hD:ch L a.data.toList=(ch (L.drop (q+1)) (cE t.data.toList p)).map ((o++ [t[p]])++ ·):=by
      rw[ht.out,hs.out,ch,if_pos ⟨e1.1,by rw[show t.data.toList.length=m from hE];exact e1.2⟩,Int.toNat_natCast,hz,Option.map_map]
      congr 1
      funext l
      simp
     have htl:(cE t.data.toList p).length=t.size:=da _ p hr
     have hy:=aa hF
     have hJ:=aa hD
     obtain⟨t2,hi⟩:∃t2,t2=cN (cE t.data.toList p):=⟨_,rfl⟩
     rw[← hi]at hy
     have hN:=aa (show t2.data.toList=cE t.data.toList p by rw[hi];rfl)
     have hl:=aa (show t2.size=a.size by rw[hi,CF,htl,hO.out])
     clear e1 hF hD htl hi hz
     go_wp2_with (at_builtin;refine wpList_append_own _ rfl _ _ 43 rfl w1.heap.size 5 i5 (.int .u8 0) 1 1 Tryz.underlying43 h5 hW hY hZ rfl (by decide) _ _ _ rfl (HO.out.alloc _) ⟨wr.heap.size,0,none⟩ 1 1 [.int .u8 (t[p]).toNat] rfl rfl ?c1 ?c2 ?c3 ?c4 ?c5 ?_)
     case c1=>exact bi _ _ _
     case c2=>intro u hu;simp at hu;subst hu;rfl
     case c3=>unfold maxLen;omega
     case c4=>omega
     case c5=>simp;omega
     intro v4 w4 h4 h2 _
     have ho:Below w1.heap.size w1 w4:=(HB.out.alloc H0 _).grown h2 (by simp;omega) (fun k hk=>(HO.out.lt k hk).1)
     have hQ:=(ho.cell (p:=⟨b,off+q,none⟩) hB).trans hI.out
     have hK:=aa h4
     have hG:=aa ho
     clear h4 h2 ho
     go_wp2_with fail
     refine(hy.out w4).mono ?_
     rintro e w5 ⟨rfl,m5,rfl⟩
     have hH:=aa (az hG.out m5)
     have hM:=aa (show(w4.drewN m5).ownsRow w1.heap.size 5 1 v4 (q+1) (X++ [.int .u8 (t[p]).toNat])from hK.out)
     generalize w4.drewN m5=w5 at*
     go_wp2_with fail
     go_roundw
     case rel=>
      refine⟨q+1,t2,o++ [t[p]],by omega,by go_num,rfl,hl.out,?_,by rw[List.length_append,hw.out];rfl,by rw[hN.out];exact hJ.out,hH.out⟩
      rw[List.length_append,hw.out,List.map_append,←HX.out]
      exact hM.out
     case measure=>simp[intOf];omega
    ·have hC:ch L a.data.toList=none:=by
      rw[ht.out,hs.out,ch,if_neg (fun h=>e1 ⟨h.1,by have:=h.2;rw[show t.data.toList.length=m from hE]at this;exact this⟩)]
      rfl
     have h1:ans=([],60):=by rw[h3.out,hC]
     subst h1
     have hg:=aa (hf.out.trans (HB.out.mono he))
     clear hC h3
     by_cases e2:x<0
     ·have d2:decide (x<0)=true:=decide_eq_true e2
      clear e1
      go_wp2_with fail
      go_ret2
      exact⟨rfl,hg.out⟩
     ·obtain⟨p,rfl⟩:∃p:Nat,x=p:=⟨x.toNat,by omega⟩
      have hV:m≤p:=by omega
      have d2:decide ((p:Int)<0)=false:=ao (by omega)
      have d3:decide ((m:Int)≤(p:Int))=true:=ar (by omega)
      clear e1 e2
      go_wp2_with fail
      go_ret2
      exact⟨rfl,hg.out⟩
   ·obtain rfl:q=n:=by omega
    have d1:decide ((q:Int)<(q:Int))=false:=ao (by omega)
    have h8:ch L a.data.toList=some o:=by
     rw[hh,List.drop_of_length_le (by omega)]
     simp[ch]
    have h1:ans=(o,0):=by rw[h3.out,h8]
    have hR:=fO h0
    rw[h9]at hR ⊢
    subst h1
    have hg:=aa (hf.out.trans (hb.mono he))
    clear h8 hb h0 hh h9 hj h3 hA
    go_wp2_with fail
    go_ret2
    exact⟨rfl,hg.out⟩
 ·have d0:decide (eY a.data.toList)=false:=decide_eq_false hm
  rw[d0]at HM
  have h1:cw L a.data.toList=([],2):=if_neg hm
  rw[h1]
  clear d0 hm h1
  go_enter Tryz.func41,Tryz.ntmps41
  go_wp2_with fail
  refine HM.out.mono ?_
  rintro e w1 ⟨rfl,h6⟩
  have hf:=aa h6
  clear h6
  go_wp2_with fail
  go_ret2
  exact⟨rfl,hf.out⟩
theorem ri(a:List UInt8):an (dL a):=by
 intro b hb
 unfold dL at hb
 rcases List.mem_append.1 hb with h | h
 ·obtain⟨i,_,rfl⟩:=List.mem_map.1 h
  have:=kb a i
  omega
 ·obtain⟨i,_,h⟩:=List.mem_flatMap.1 h
  unfold a8 at h
  split at h
  ·obtain⟨k,_,rfl⟩:=List.mem_map.1 h
   unfold uW
   split <;>omega
  ·exact absurd h aq
def kK(a:List UInt8)(q:Nat):List Nat:=(List.range 16).map (jF a)++(List.range q).flatMap (a8 a)
theorem pd(a:List UInt8)(q:Nat):kK a (q+1)=kK a q++a8 a q:=by
 have e:(List.range (q+1)).flatMap (a8 a)=(List.range q).flatMap (a8 a)++a8 a q:=by
  rw[List.range_succ,List.flatMap_append]
  simp
 unfold kK
 rw[e,List.append_assoc]
theorem mn(a:List UInt8):∀q,(kK a q).length≤16+16*q
 | 0=>by simp[kK]
 | q+1=>by
   rw[pd,List.length_append,iG]
   have:=mn a q
   rcases kb a q with h | h <;>rw[h] <;>omega
def yr(w:World)(L:List Nat)(c:Nat)(e:Ending)(w':World):Prop:=e=.returned (.tuple #[.agg #[.string ⟨(aK L).toArray⟩,.int .i64 L.length],.int .i64 c])∧Below w.heap.size w w'
def kw(l:List Nat)(p i k:Nat):List UInt8:=((List.range k).filter fun j=>l.getD (p+j) 0==1).map fun j=>UInt8.ofNat (16*i+j)
theorem yO(l:List Nat)(p i k:Nat):kw l p i (k+1)=kw l p i k++if l.getD (p+k) 0=1 then [UInt8.ofNat (16*i+k)]else []:=by
 unfold kw
 rw[List.range_succ,List.filter_append,List.map_append]
 congr 1
 simp only[List.filter_cons,List.filter_nil,beq_iff_eq]
 split <;>rfl
theorem mp(l:List Nat)(p i k:Nat):(kw l p i k).length≤k:=by
 unfold kw
 rw[List.length_map]
 refine Nat.le_trans (List.length_filter_le _ _) ?_
 rw[List.length_range]
 exact Nat.le_refl _
theorem zX(i:Nat)(h:i<16):(List.range 16).drop i=i :: (List.range 16).drop (i+1):=by
 rw[List.drop_eq_getElem_cons (by rw[List.length_range];exact h),List.getElem_range]
theorem IC(t:ByteArray)(o:List UInt8)(h:t.data.toList=o):t.toList.isEmpty=decide (o= []):=by
 rw[ByteArray.toList_eq,h]
 cases o <;>simp
def JG:Option (List UInt8×Nat)→List UInt8×Nat×Nat
 | none=>([],0,10)
 | some (out,q)=>if out= []then([],0,60)else(out,q,0)
theorem uv(L:List Nat)(p:Nat)(h:p+16≤L.length):dE L p=JG (goT L (fun i=>L.getD (p+i) 0) (List.range 16) (p+16) []):=by
 unfold dE
 rw[if_neg (by omega),if_neg (by omega)]
 rcases goT L (fun i=>L.getD (p+i) 0) (List.range 16) (p+16) []with _ | ⟨o,q⟩ <;>rfl
theorem oq(w:World)(A:Option Addr)(n c p:Nat)(L:List Nat)(hL:aw w A n L)(H0:n≤c)(hn:n≤10000000)(hp:p+16≤n):
 Calls Tryz.prog 37 #[.slice A n c,.int .i64 p] w fun e w'=>e=.returned (.tuple #[.string (cN (dE L p).1),.int .i64 (dE L p).2.1,.int .i64 (dE L p).2.2])∧Below w.heap.size w w':=by
 obtain⟨b,off,rfl,h4⟩:=hL.2 (by omega)
 have h8:=hL.1
 have h0:=uv L p (by omega)
 have h3:=aa h0
 have HC:=aa h4
 have hB:=World.block_lt_of_cell? w _ (h4 0 (by omega))
 have hj:=aa h8
 generalize dE L p=ans at*
 have d1:decide ((p:Int)<0)=false:=ao (by omega)
 have d2:decide ((n:Int)<(p:Int))=false:=ao (by omega)
 have hR:¬n<p:=by omega
 obtain⟨d,hd⟩:∃d,d=n - p:=⟨_,rfl⟩
 have hK:(n:Int) - (p:Int)=(d:Int):=by omega
 have d3:decide ((d:Int)<16)=false:=ao (by omega)
 have hM:(0:Int)≤(p:Int):=by omega
 have hN:(p:Int)≤(p:Int)+16:=by omega
 have hO:(p:Int)+16≤(c:Int):=by omega
 have hP:((p:Int)+16 - (p:Int)).toNat=16:=by omega
 have hQ:((c:Int) - (p:Int)).toNat=c - p:=by omega
 clear h0 hL h4 h8 hd
 go_enter Tryz.func37,Tryz.ntmps37
 go_wp2_with fail
 clear d1 d2 d3 hR hK hM hN hO hP hQ
 obtain⟨p1,hv⟩:∃p1,p1=p+16:=⟨_,rfl⟩
 have ha:(p:Int)+16=(p1:Int):=by omega
 rw[ha]
 rw[← hv]at h3
 have hY:=aa hv
 have hw:p1≤n:=by omega
 clear hv ha
 go_loopw [1,8,9] (fun at_ out x wx=>∃(i q:Nat) (t:ByteArray) (o:List UInt8),i≤16∧x=.int .i64 i∧at_=.int .i64 q∧out=.string t∧t.data.toList=o∧o.length≤16*i∧q≤n∧
  ans=JG (goT L (fun j=>L.getD (p+j) 0) ((List.range 16).drop i) q o)∧Below w.heap.size w wx) (fun _ _ x _=>16 - (intOf x).toNat)
 case atStart=>exact⟨0,p1,⟨#[]⟩, [],by omega,rfl,rfl,rfl,rfl,by simp,hw,h3.out,Below.refl _ _⟩
 case round=>
  clear h3
  obtain⟨i,q,t,o,hi,rfl,rfl,rfl,ht,ho,hS,h0,hb⟩:=hrel
  have HA:=hb.size
  have HT:=aa ht
  have HO:=aa ho
  have h3:=aa h0
  have HB:=aa hb
  by_cases e:i<16
  ·have d1:decide ((i:Int)<16)=true:=ar (by omega)
   have hC:=(hb.cell (p:=⟨b,off+(p+i),none⟩) hB).trans (HC.out (p+i) (by omega))
   rw[← Nat.add_assoc]at hC
   rw[zX i e,goT]at h0
   obtain⟨f,hf⟩:∃f,f=L.getD (p+i) 0:=⟨_,rfl⟩
   rw[← hf]at hC h0
   by_cases e1:f=0
   ·rw[if_pos e1]at h0
    have d2:((f:Int)==0)=true:=by rw[e1];rfl
    have hh:=aa h0
    clear ht ho h0 hb hf e1
    go_wp2_with fail
    go_roundw
    case rel=>exact⟨i+1,q,t,o,by omega,by go_num,rfl,rfl,HT.out,by have:=HO.out;omega,hS,hh.out,HB.out⟩
    case measure=>simp[intOf];omega
   ·rw[if_neg e1,hj.out]at h0
    have d2:((f:Int)==0)=false:=by
     simp only[beq_eq_false_iff_ne,ne_eq]
     omega
    obtain⟨m,hm⟩:∃m,m=n - q:=⟨_,rfl⟩
    have hZ:(n:Int) - (q:Int)=(m:Int):=by omega
    by_cases e2:n<q+16
    ·rw[if_pos e2]at h0
     have hs:m<16:=by omega
     have d3:decide ((m:Int)<16)=true:=ar (by omega)
     have h9:ans=([],0,10):=h0
     subst h9
     clear ht ho h0 hb hf e1 e2 hm h3
     go_wp2_with fail
     go_ret3
     exact⟨rfl,HB.out⟩
    ·rw[if_neg e2]at h0
     have hs:¬m<16:=by omega
     have d3:decide ((m:Int)<16)=false:=ao (by omega)
     have hh:=aa h0
     have hx:q+16≤n:=by omega
     clear ht ho h0 hb hf e1 e2 hm
     go_wp2_with fail
     go_loopw [8,10] (fun out x wx=>∃(k:Nat) (t2:ByteArray),k≤16∧x=.int .i64 k∧out=.string t2∧t2.data.toList=o++kw L q i k∧Below w.heap.size w wx) (fun _ x _=>16 - (intOf x).toNat)
     case atStart=>exact⟨0,t,by omega,rfl,rfl,by rw[HT.out];simp[kw],HB.out⟩
     case round=>
      obtain⟨k,t2,hk,rfl,rfl,h6,hb⟩:=hrel
      have hX:=hb.size
      have hH:=aa h6
      have hA:=aa hb
      by_cases e3:k<16
      ·have d4:decide ((k:Int)<16)=true:=ar (by omega)
       have hD:=(hb.cell (p:=⟨b,off+(q+k),none⟩) hB).trans (HC.out (q+k) (by omega))
       have h5:=yO L q i k
       obtain⟨g,hg⟩:∃g,g=L.getD (q+k) 0:=⟨_,rfl⟩
       rw[← hg]at hD h5
       obtain⟨r,hr⟩:∃r,r=q+k:=⟨_,rfl⟩
       have H3:(q:Int)+(k:Int)=(r:Int):=by omega
       have H2:r<n:=by omega
       rw[← hr]at hD
       by_cases e4:g=1
       ·have d5:((g:Int)==1)=true:=by rw[e4];rfl
        rw[if_pos e4]at h5
        obtain⟨y,hy⟩:∃y,y=16*i+k:=⟨_,rfl⟩
        have hE:y<256:=by omega
        obtain⟨u,hu⟩:∃u,u=16*i:=⟨_,rfl⟩
        have H4:(16:Int)*(i:Int)=(u:Int):=by omega
        have hW:(i:Int)*16=(u:Int):=by omega
        have H8:(u:Int)+(k:Int)=(y:Int):=by omega
        rw[← hy]at h5
        have H5:IntKind.u8.wrap (y:Int)=(y:Int):=by
         show(y:Int) % 256=y
         omega
        have hJ:=yA wr (y:Int)
        rw[Int.toNat_natCast]at hJ
        obtain⟨t3,hz⟩:∃t3:ByteArray,t3=t2++⟨#[UInt8.ofNat y]⟩:=⟨_,rfl⟩
        have hT:t2.size≤300:=by
         show t2.data.toList.length≤300
         rw[h6,List.length_append]
         have h1:=HO.out
         have h2:=mp L q i k
         omega
        have hI:∀w9:World,(Op.stringOp .add t2 ⟨#[UInt8.ofNat y]⟩).run Tryz.prog w9=.ok (.string t3) w9:=fun w9=>(run_string_add_sum w9 _ _ (by show t2.size+1≤_;omega)).trans (by rw[hz])
        have he:t3.data.toList=o++kw L q i (k+1):=by
         rw[h5,←List.append_assoc,←h6,hz]
         show(t2++⟨#[UInt8.ofNat y]⟩:ByteArray).data.toList=_
         rw[ByteArray.data_append,Array.toList_append]
        have hl:=aa he
        have hF:=aa (hb.alloc hX (.cells #[.int .u8 (y:Int)] 5))
        clear h6 hb h5 hg hr e4 hy hu hz hT he
        go_wp2_with fail
        go_roundw
        case rel=>exact⟨k+1,t3,by omega,by go_num,rfl,hl.out,hF.out⟩
        case measure=>simp[intOf];omega
       ·have d5:((g:Int)==1)=false:=by
         simp only[beq_eq_false_iff_ne,ne_eq]
         omega
        rw[if_neg e4,List.append_nil]at h5
        have hG:=aa h5
        clear h6 hb h5 hg hr e4
        go_wp2_with fail
        go_roundw
        case rel=>exact⟨k+1,t2,by omega,by go_num,rfl,by rw[hG.out];exact hH.out,hA.out⟩
        case measure=>simp[intOf];omega
      ·obtain rfl:k=16:=by omega
       have d4:decide ((16:Int)<16)=false:=by decide
       have hc:kw L q i 16=eh L q i:=rfl
       rw[hc]at h6
       have hl:=aa h6
       have H1:(eh L q i).length≤16:=mp L q i 16
       clear h6 hb hc
       go_wp2_with fail
       go_roundw
       case rel=>exact⟨i+1,q+16,t2,o++eh L q i,by omega,by go_num,by go_num,rfl,hl.out,by rw[List.length_append];have:=HO.out;omega,hx,hh.out,hA.out⟩
       case measure=>simp[intOf];omega
  ·obtain rfl:i=16:=by omega
   have d1:decide ((16:Int)<16)=false:=by decide
   have hq:(List.range 16).drop 16= []:=rfl
   rw[hq,goT]at h0
   have h7:=IC t o ht
   by_cases e1:o= []
   ·have h9:ans=([],0,60):=by
     rw[h0]
     show(if o= []then(([]:List UInt8),0,60)else(o,q,0))=_
     rw[if_pos e1]
    rw[decide_eq_true e1]at h7
    subst h9
    clear h0 h3 ht ho hb hq e1
    go_wp2_with fail
    go_ret3
    exact⟨rfl,HB.out⟩
   ·have h9:ans=(o,q,0):=by
     rw[h0]
     show(if o= []then(([]:List UInt8),0,60)else(o,q,0))=_
     rw[if_neg e1]
    rw[decide_eq_false e1]at h7
    have hV:t=cN o:=by
     apply ByteArray.ext
     apply Array.ext'
     exact ht
    subst h9 hV
    clear h0 h3 ht ho hb hq e1
    go_wp2_with fail
    go_ret3
    exact⟨rfl,HB.out⟩
def ax(l:List Nat)(p:Int):List UInt8×Nat×Nat:=if p<0 then([],0,2)else dE l p.toNat
def iZ(w:World)(ans:List UInt8×Nat×Nat)(e:Ending)(w':World):Prop:=e=.returned (.tuple #[.string (cN ans.1),.int .i64 ans.2.1,.int .i64 ans.2.2])∧Below w.heap.size w w'
theorem EB(w:World)(A:Option Addr)(n c:Nat)(p:Int)(L:List Nat)(hL:aw w A n L)(h6:n≤c)(hn:n≤10000000)(hp:p≤9223372036854775807):
 Calls Tryz.prog 37 #[.slice A n c,.int .i64 p] w (iZ w (ax L p)):=by
 have h4:=hL.1
 by_cases h1:p<0
 ·have h0:ax L p=([],0,2):=if_pos h1
  rw[h0]
  have d1:decide (p<0)=true:=decide_eq_true h1
  clear h0 hL h4 hp
  go_enter Tryz.func37,Tryz.ntmps37
  go_wp2_with fail
  go_ret3
  exact⟨rfl,Below.refl _ _⟩
 ·obtain⟨q,rfl⟩:∃q:Nat,p=q:=⟨p.toNat,by omega⟩
  have h0:ax L (q:Int)=dE L q:=by
   unfold ax
   rw[if_neg h1,Int.toNat_natCast]
  rw[h0]
  by_cases h2:n<q
  ·have ht:dE L q=([],0,2):=by
    unfold dE
    rw[if_pos (by omega)]
   rw[ht]
   have d1:decide ((q:Int)<0)=false:=decide_eq_false h1
   have d2:decide ((n:Int)<(q:Int))=true:=ar (by omega)
   clear h0 hL h4 hp ht h1
   go_enter Tryz.func37,Tryz.ntmps37
   go_wp2_with fail
   go_ret3
   exact⟨rfl,Below.refl _ _⟩
  ·by_cases h3:n<q+16
   ·have ht:dE L q=([],0,10):=by
     unfold dE
     rw[if_neg (by omega),if_pos (by omega)]
    rw[ht]
    have d1:decide ((q:Int)<0)=false:=decide_eq_false h1
    have d2:decide ((n:Int)<(q:Int))=false:=ao (by omega)
    obtain⟨d,hd⟩:∃d,d=n - q:=⟨_,rfl⟩
    have h7:(n:Int) - (q:Int)=(d:Int):=by omega
    have h5:d<16:=by omega
    have d3:decide ((d:Int)<16)=true:=ar (by omega)
    clear h0 hL h4 hp ht h1 hd h3
    go_enter Tryz.func37,Tryz.ntmps37
    go_wp2_with fail
    go_ret3
    exact⟨rfl,Below.refl _ _⟩
   ·exact oq w A n c q L hL h6 hn (by omega)
end Go.Proofs.YthakcjehhlpjnaaGreat.S06
