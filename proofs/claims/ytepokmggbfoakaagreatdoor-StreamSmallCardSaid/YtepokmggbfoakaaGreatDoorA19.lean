import Derived.Test.YtepokmggbfoakaaGreatDoorA00
import Derived.Laws.Concat
import Derived.Lib.AppendZeros
set_option maxHeartbeats 3200000
set_option maxRecDepth 100000
namespace Go.Proofs.YtepokmggbfoakaaGreatDoor.S06
def yh:List UInt8:=(List.range 256).map UInt8.ofNat
def ofL(s:List UInt8):List UInt8:=yh.filter fun b=>decide (b∈s)
theorem G1(b:UInt8):b∈yh:=List.mem_map.2 ⟨b.toNat,List.mem_range.2 (Oq b),OT⟩
theorem yi:yh.Pairwise (· < ·):=by unfold yh;rw[Od];refine Nj ?_ P3;intro a b ha hb h0;have ha:=List.mem_range.1 ha;have hb:=List.mem_range.1 hb;rw[Of,M4,M4,Ms ha,Ms hb];exact h0
theorem mV(s:List UInt8)(b:UInt8):b∈ofL s↔b∈s:=by unfold ofL;rw[List.mem_filter];exact⟨fun h=>OP h.2,fun h=>⟨G1 b,L8 h⟩⟩
theorem gH(s:List UInt8):(ofL s).Pairwise (· < ·):=yi.filter _
theorem nR:∀{a b:List UInt8},a.Pairwise (· < ·)→b.Pairwise (· < ·)→(∀ x,x∈a↔x∈b)→a=b:=by intro a b ha hb h;have h0:a.Nodup:=List.nodup_iff_pairwise_ne.2 (ha.imp fun {x y} h e=>by subst e;exact Qo _ h);have h3:b.Nodup:=List.nodup_iff_pairwise_ne.2 (hb.imp fun {x y} h e=>by subst e;exact Qo _ h);refine List.Perm.eq_of_pairwise (le:=(· < ·)) (fun x y _ _ h1 h2=>absurd (UInt8.lt_trans h1 h2) (Qo _)) ha hb ?_;exact(NP h0 h3).2 h
theorem tJ{a:List UInt8}(h:a.Pairwise (· < ·)):ofL a=a:=nR (gH a) h (mV a)
theorem FN(s:List UInt8):ofL (ofL s)=ofL s:=tJ (gH s)
def iy(a:List UInt8):Prop:=a≠ []∧ofL a=a
instance (a:List UInt8):Decidable (iy a):=inferInstanceAs (Decidable (_∧_))
theorem IL(a:List UInt8):iy a↔a≠ []∧a.Pairwise (· < ·):=
 ⟨fun h=>⟨h.1,by rw[← h.2];exact gH a⟩,fun h=>⟨h.1,tJ h.2⟩⟩
theorem rH(s:List UInt8)(h:s≠ []):iy (ofL s):=by refine⟨fun e=> ?_,FN s⟩;obtain⟨x,hx⟩:=List.exists_mem_of_ne_nil _ h;have:=(mV s x).2 hx;rw[e]at this;exact absurd this ay
def fg(list:List UInt8)(at_:Nat):List UInt8:=list.getD at_ 0 :: (list.take at_++list.drop (at_+1))
theorem ef(list:List UInt8)(p:Nat)(h:p<list.length):(fg list p).length=list.length:=by unfold fg;rw[Mb,LR,Mj,Mc];omega
theorem GK(list:List UInt8)(p:Nat)(h:p<list.length)(x:UInt8):x∈fg list p↔x∈list:=by
 have e:list=list.take p++list.getD p 0 :: list.drop (p+1):=by rw[LU,LV h];show list=list.take p++list[p] :: list.drop (p+1);rw[← MA h,MY]
 unfold fg;conv=>rhs;rw[e]
 rw[Ob,List.mem_append,List.mem_append,Ob];constructor
 ·rintro(h | h | h);·exact .inr (.inl h)
  ·exact .inl h
  ·exact .inr (.inr h)
 ·rintro(h | h | h);·exact .inr (.inl h)
  ·exact .inl h
  ·exact .inr (.inr h)
def dq:List UInt8→List UInt8→Option (List Nat)
 | [],_=>some []
 | b :: s,list=>if b∈list then(dq s (fg list (list.idxOf b))).map (list.idxOf b :: ·)else none
def fh:List Int→List UInt8→Option (List UInt8)
 | [],_=>some []
 | x :: l,list=>if 0≤x∧x<list.length then(fh l (fg list x.toNat)).map (list.getD x.toNat 0 :: ·)else none
theorem Ks(list:List UInt8)(b:UInt8)(h:b∈list):list.getD (list.idxOf b) 0=b:=by have h1:=NL h;rw[LU,LV h1];exact List.getElem_idxOf h1
theorem sV:∀(s list:List UInt8),(∀ x∈s,x∈list)→∃l,dq s list=some l∧l.length=s.length
 | [],list,_=>⟨[],rfl,rfl⟩
 | b :: s,list,h=>by have hb:=h b L4;have h1:=NL hb;obtain⟨l,h2,h3⟩:=sV s (fg list (list.idxOf b)) fun x hx=>(GK list _ h1 x).2 (h x (Ma _ hx));refine⟨list.idxOf b :: l,?_,by rw[Mb,Mb,h3]⟩;rw[dq,LX hb,h2];rfl
theorem sd:∀(s list:List UInt8) (l:List Nat),dq s list=some l→fh (l.map fun(x:Nat)=>(x:Int)) list=some s
 | [],list,l,h=>by simp only[dq,MS]at h;subst h;rfl
 | b :: s,list,l,h=>by
  rw[dq]at h;by_cases hb:b∈list
  ·rw[LX hb]at h;have h1:=NL hb;rcases hf:dq s (fg list (list.idxOf b))with _ | l2;·rw[hf]at h;simp at h
   ·rw[hf]at h;simp only[Nn,MS]at h;subst h;have ih:=sd s _ l2 hf;rw[M8,fh,LX ⟨by omega,by omega⟩,L9,ih,Ks list b hb];rfl
  ·rw[LW hb]at h;simp at h
def wO(a:List UInt8)(b:Nat):Nat:=if UInt8.ofNat b∈a then 1 else 0
def ko(a:List UInt8)(i:Nat):Nat:=if a.any (fun x=>x.toNat / 16==i)then 1 else 0
def bi(a:List UInt8)(i:Nat):List Nat:=if ko a i=1 then(List.range 16).map fun k=>wO a (16*i+k)else []
def dM(a:List UInt8):List Nat:=(List.range 16).map (ko a)++(List.range 16).flatMap (bi a)
def eH(l:List Nat)(p i:Nat):List UInt8:=((List.range 16).filter fun k=>l.getD (p+k) 0==1).map fun k=>UInt8.ofNat (16*i+k)
def goT(l:List Nat)(fl:Nat→Nat):List Nat→Nat→List UInt8→Option (List UInt8×Nat)
 | [],p,out=>some (out,p)
 | i :: is,p,out=>if fl i=0 then goT l fl is p out else if l.length<p+16 then none else goT l fl is (p+16) (out++eH l p i)
def fN(l:List Nat)(p:Nat):List UInt8×Nat×Nat:=
 if l.length<p then([],0,2)else if l.length<p+16 then([],0,10)else
  match goT l (fun i=>l.getD (p+i) 0) (List.range 16) (p+16) []with
  | none=>([],0,10)
  | some (out,q)=>if out= []then([],0,60)else(out,q,0)
theorem lC(a:List UInt8)(i:Nat):ko a i=0∨ko a i=1:=by
 unfold ko;split;·exact .inr rfl
 ·exact .inl rfl
theorem jC(a:List UInt8)(i:Nat):(bi a i).length=16*ko a i:=by unfold bi;rcases lC a i with h | h <;>rw[h] <;>simp
theorem jW(a:List UInt8):∃r,r≤16∧(dM a).length=16+16*r:=by
 have h:∀n,∃r,r≤n∧((List.range n).flatMap (bi a)).length=16*r:=by
  intro n
  induction n with
  | zero=>exact⟨0,L5 _,rfl⟩
  | succ n ih=>
   obtain⟨r,h1,h2⟩:=ih;rw[MQ,M9,LR,h2];simp only[MD,Pw,Mv,jC];rcases lC a n with h | h;·exact⟨r,by omega,by rw[h];omega⟩
   ·exact⟨r+1,by omega,by rw[h];omega⟩
 obtain⟨r,h1,h2⟩:=h 16;refine⟨r,h1,?_⟩;unfold dM;rw[LR,h2,Mi,Mt]
def oR(a:List UInt8)(i:Nat):List UInt8:=((List.range 16).filter fun k=>wO a (16*i+k)==1).map fun k=>UInt8.ofNat (16*i+k)
theorem Cw(a:List UInt8)(i:Nat)(hi:i<16)(h:ko a i=0):oR a i= []:=by
 unfold oR;rw[List.map_eq_nil_iff,List.filter_eq_nil_iff];intro k hk;have hk:=List.mem_range.1 hk;unfold wO;split
 ·rename_i hm;exfalso;unfold ko at h;rw[LX]at h;·simp at h
  ·rw[List.any_eq_true];refine⟨_,hm,?_⟩;rw[M4,Ms (by omega),show(16*i+k) / 16=i by omega];simp
 ·simp
theorem C6(x y:List Nat)(a:List UInt8)(i:Nat):eH (x++((List.range 16).map fun k=>wO a (16*i+k))++y) x.length i=oR a i:=by unfold eH oR;congr 1;refine P4 fun k hk=> ?_;have hk:=List.mem_range.1 hk;rw[LU,LZ,MC (by omega),Ny,ME (by simpa using hk),Me,Mx hk];rfl
theorem sZ(a:List UInt8)(fl:Nat→Nat):∀(is:List Nat) (x y:List Nat) (out:List UInt8),(∀ i∈is,fl i=ko a i∧i<16)→
 goT (x++is.flatMap (bi a)++y) fl is x.length out=some (out++is.flatMap (oR a),x.length+(is.flatMap (bi a)).length)
 | [],x,y,out,_=>by simp[goT]
 | i :: is,x,y,out,h=>by
  have hi:=h i L4;have hr:=fun j hj=>h j (Ma i hj);rw[goT,hi.1];rcases lC a i with h0 | h0;·have e:bi a i= []:=(by unfold bi;rw[LW (by omega)]);rw[LX h0];simp only[MD,e,Mz,Cw a i hi.2 h0];exact sZ a fl is x y out hr
  ·have e:bi a i=(List.range 16).map fun k=>wO a (16*i+k):=(by unfold bi;rw[LX h0]);have el:(bi a i).length=16:=(by rw[jC,h0]);rw[LW (by omega),LW (by simp only[MD,LR,el];omega)];have e2:x++(i :: is).flatMap (bi a)++y=(x++bi a i)++is.flatMap (bi a)++y:=(by simp only[MD,LZ]);have e3:eH (x++(i :: is).flatMap (bi a)++y) x.length i=oR a i:=(by have:=C6 x (is.flatMap (bi a)++y) a i;rw[← e]at this;rw[← this];simp only[MD,LZ]);rw[e3,e2];have ih:=sZ a fl is (x++bi a i) y (out++oR a i) hr;rw[LR,el]at ih;rw[ih];simp only[MD,LZ,LR,el,MS,Oj,true_and];omega
theorem Jm(a:List UInt8):(List.range 16).flatMap (oR a)=ofL a:=by
 refine nR ?_ (gH a) fun x=> ?_
 ·rw[List.pairwise_flatMap];refine⟨fun i hi=> ?_,?_⟩;·have hi:=List.mem_range.1 hi;unfold oR;rw[Od];refine Nj ?_ (List.pairwise_lt_range.filter _);intro p q hp hq h1;have hp:=List.mem_range.1 (List.mem_filter.1 hp).1;have hq:=List.mem_range.1 (List.mem_filter.1 hq).1;rw[Of,M4,M4,Ms (by omega),Ms (by omega)];omega
  ·refine Nj ?_ P3;intro i j hi hj h0 x hx y hy;have hi:=List.mem_range.1 hi;have hj:=List.mem_range.1 hj;obtain⟨p,hp,rfl⟩:=List.mem_map.1 hx;obtain⟨q,hq,rfl⟩:=List.mem_map.1 hy;have hp:=List.mem_range.1 (List.mem_filter.1 hp).1;have hq:=List.mem_range.1 (List.mem_filter.1 hq).1;rw[Of,M4,M4,Ms (by omega),Ms (by omega)];omega
 ·rw[List.mem_flatMap,mV];constructor
  ·rintro⟨i,_,hx⟩;obtain⟨k,hk,rfl⟩:=List.mem_map.1 hx;have:=(List.mem_filter.1 hk).2;unfold wO at this;split at this;·assumption
   ·simp at this
  ·intro hx;have hb:=Oq x;have e:16*(x.toNat / 16)+x.toNat % 16=x.toNat:=(by omega);have e2:UInt8.ofNat (16*(x.toNat / 16)+x.toNat % 16)=x:=(by rw[e,OT]);refine⟨x.toNat / 16,List.mem_range.2 (by omega),List.mem_map.2 ⟨x.toNat % 16,List.mem_filter.2 ⟨List.mem_range.2 (by omega),?_⟩,e2⟩⟩;unfold wO;rw[e2,LX hx];rfl
theorem qn(a:List UInt8)(h:iy a)(x y:List Nat):fN (x++dM a++y) x.length=(a,x.length+(dM a).length,0):=by obtain⟨r,hr,hl⟩:=jW a;have h0:∀i∈List.range 16,(x++dM a++y).getD (x.length+i) 0=ko a i∧i<16:=(by intro i hi;have hi:=List.mem_range.1 hi;refine⟨?_,hi⟩;rw[LU,LZ,MC (by omega),Ny,ME (by omega)];unfold dM;rw[ME (by simpa using hi),Me,Mx hi];rfl);have hg:=sZ a (fun i=>(x++dM a++y).getD (x.length+i) 0) (List.range 16) (x++(List.range 16).map (ko a)) y [] h0;have e:x++(List.range 16).map (ko a)++(List.range 16).flatMap (bi a)++y=x++dM a++y:=(by unfold dM;simp only[LZ]);rw[e,LR,Mi,Mt,Jm,h.2,Mz]at hg;unfold fN;rw[LW (by simp only[LR];omega),LW (by simp only[LR];omega),hg];simp only[h.1,Qf];have:(dM a).length=16+((List.range 16).flatMap (bi a)).length:=(by unfold dM;rw[LR,Mi,Mt]);rw[this,Nu]
open Go.RowKit
def aX(l:List UInt8):ByteArray:=⟨l.toArray⟩
theorem kK(s:ByteArray)(i:Nat)(h:i<s.size):s.data.toList.getD i 0=s[i]:=by rw[LU,LV (by simpa using h)];rfl
theorem mU(s:ByteArray)(h:0<s.size):s.toList.isEmpty=false:=by
 rw[Ox];have h0:s.data.toList.length=s.size:=rfl
 cases hd:s.data.toList with
 | nil=>rw[hd]at h0;simp at h0;omega
 | cons a l=>rfl
theorem cQ(w:World)(v:Value)(t:TypeId):∀(j:Nat) (u:Value), [v][j]? =some u→(w.alloc (.cells #[v] t)).cell? ((⟨w.heap.size,0,none⟩:Addr).add j)=some u:=by intro j u hu;have hj:j=0:=(by have:=(List.getElem?_eq_some_iff.1 hu).1;simp at this;exact this);subst hj;simp at hu;subst hu;rw[NX,ac (ah w t _)];rfl
def me(s a:List UInt8):List Nat×Nat:=if iy a then(match dq s a with | none=>([],60) | some l=>(l,0))else([],2)
def pp(w:World)(s a:List UInt8)(e:Ending)(w':World):Prop:=∃(v:Value) (L:List Nat) (c:Nat),me s a=(L,c)∧e=.returned (.tuple #[v,.int .i64 c])∧w'.ownsRow w.heap.size 3 1 v L.length (L.map iv)∧Below w.heap.size w w'
theorem E5(s:ByteArray)(q:Nat)(h:q<s.size):s.data.toList.drop q=s[q] :: s.data.toList.drop (q+1):=by have hl:q<s.data.toList.length:=h;rw[MA hl];rfl
def ZIn(w:World)(A:Option Addr)(n:Nat)(L:List Int):Prop:=
 L.length=n∧(0<n→∃b off,A=some ⟨b,off,none⟩∧∀i,i<n→w.cell? ⟨b,off+i,none⟩=some (.int .i64 (L.getD i 0)))
theorem ZIn.below{w w':World}{A:Option Addr}{n:Nat}{L:List Int}(h:ZIn w A n L)(hb:Below w.heap.size w w'):ZIn w' A n L:=by refine⟨h.1,fun hn=> ?_⟩;obtain⟨b,off,rfl,hc⟩:=h.2 hn;exact⟨b,off,rfl,fun i hi=>(hb.cell (p:=⟨b,off+i,none⟩) (Md w _ (hc i hi))).trans (hc i hi)⟩
def eE(l:List Int)(a:List UInt8):List UInt8×Nat:=if iy a then(match fh l a with | none=>([],60) | some t=>(t,0))else([],2)
theorem se(a:List UInt8):au (dM a):=by
 intro b hb;unfold dM at hb;rcases List.mem_append.1 hb with h | h;·obtain⟨i,_,rfl⟩:=List.mem_map.1 h;have:=lC a i;omega
 ·obtain⟨i,_,h⟩:=List.mem_flatMap.1 h;unfold bi at h;split at h;·obtain⟨k,_,rfl⟩:=List.mem_map.1 h;unfold wO;split <;>omega
  ·exact absurd h ay
def lD(a:List UInt8)(q:Nat):List Nat:=(List.range 16).map (ko a)++(List.range q).flatMap (bi a)
theorem re(a:List UInt8)(q:Nat):lD a (q+1)=lD a q++bi a q:=by have e:(List.range (q+1)).flatMap (bi a)=(List.range q).flatMap (bi a)++bi a q:=(by rw[MQ,M9];simp);unfold lD;rw[e,LZ]
theorem nj(a:List UInt8):∀q,(lD a q).length≤16+16*q
 | 0=>by simp[lD]
 | q+1=>by rw[re,LR,jC];have:=nj a q;rcases lC a q with h | h <;>rw[h] <;>omega
def ya(w:World)(L:List Nat)(c:Nat)(e:Ending)(w':World):Prop:=e=.returned (.tuple #[.agg #[.string ⟨(pack L).toArray⟩,.int .i64 L.length],.int .i64 c])∧Below w.heap.size w w'
def LH:Option (List UInt8×Nat)→List UInt8×Nat×Nat
 | none=>([],0,10)
 | some (out,q)=>if out= []then([],0,60)else(out,q,0)
theorem Gw(L:List Nat)(p:Nat)(h:p+16≤L.length):fN L p=LH (goT L (fun i=>L.getD (p+i) 0) (List.range 16) (p+16) []):=by unfold fN;rw[LW (by omega),LW (by omega)];rcases goT L (fun i=>L.getD (p+i) 0) (List.range 16) (p+16) []with _ | ⟨o,q⟩ <;>rfl
def ax(l:List Nat)(p:Int):List UInt8×Nat×Nat:=if p<0 then([],0,2)else fN l p.toNat
def kz(w:World)(ans:List UInt8×Nat×Nat)(e:Ending)(w':World):Prop:=e=.returned (.tuple #[.string (aX ans.1),.int .i64 ans.2.1,.int .i64 ans.2.2])∧Below w.heap.size w w'
end Go.Proofs.YtepokmggbfoakaaGreatDoor.S06
