import Derived.Test.YtfhgikojdfblpaaGreatM13
import Derived.Laws.Concat
import Derived.Lib.AppendZeros
set_option maxHeartbeats 1600000
set_option maxRecDepth 100000
namespace Go.Proofs.YtfhgikojdfblpaaGreat.S06
open _root_.Go.Proofs.Tryz
def za:List UInt8:=(List.range 256).map UInt8.ofNat
def ofL(s:List UInt8):List UInt8:=za.filter fun b=>decide (b∈s)
theorem IA(b:UInt8):b∈za:=List.mem_map.2 ⟨b.toNat,List.mem_range.2 (PZ b),P4⟩
theorem zd:za.Pairwise (· < ·):=by unfold za;rw[PE];refine OG ?_ Ru;intro a b ha hb h0;have ha:=List.mem_range.1 ha;have hb:=List.mem_range.1 hb;rw[PM,Oo,Oo,NL ha,NL hb];exact h0
theorem nN(s:List UInt8)(b:UInt8):b∈ofL s↔b∈s:=by unfold ofL;rw[List.mem_filter];exact⟨fun h=>Rn h.2,fun h=>⟨IA b,Nn h⟩⟩
theorem il(s:List UInt8):(ofL s).Pairwise (· < ·):=zd.filter _
theorem oV:∀{a b:List UInt8},a.Pairwise (· < ·)->b.Pairwise (· < ·)->(∀ x,x∈a↔x∈b)->a=b:=by intro a b ha hb h;have h0:a.Nodup:=List.nodup_iff_pairwise_ne.2 (ha.imp fun {x y} h e=>by subst e;exact RH _ h);have h3:b.Nodup:=List.nodup_iff_pairwise_ne.2 (hb.imp fun {x y} h e=>by subst e;exact RH _ h);refine List.Perm.eq_of_pairwise (le:=(· < ·)) (fun x y _ _ h1 h2=>absurd (UInt8.lt_trans h1 h2) (RH _)) ha hb ?_;exact(Pm h0 h3).2 h
theorem uB{a:List UInt8}(h:a.Pairwise (· < ·)):ofL a=a:=oV (il a) h (nN a)
theorem Gz(s:List UInt8):ofL (ofL s)=ofL s:=uB (il s)
def fp(a:List UInt8):Prop:=a≠ []/\ofL a=a
instance (a:List UInt8):Decidable (fp a):=inferInstanceAs (Decidable (_/\_))
theorem JK(a:List UInt8):fp a↔a≠ []/\a.Pairwise (· < ·):=
 ⟨fun h=>⟨h.1,by rw[<- h.2];exact il a⟩,fun h=>⟨h.1,uB h.2⟩⟩
theorem pX(s:List UInt8)(h:s≠ []):fp (ofL s):=by refine⟨fun e=> ?_,Gz s⟩;obtain⟨x,hx⟩:=List.exists_mem_of_ne_nil _ h;have:=(nN s x).2 hx;rw[e]at this;exact absurd this aw
def dO(list:List UInt8)(at_:Nat):List UInt8:=list.getD at_ 0::(list.take at_++list.drop (at_+1))
theorem eh(list:List UInt8)(p:Nat)(h:p<list.length):(dO list p).length=list.length:=by unfold dO;rw[Ns,Nb,NB,Ny];omega
theorem Ig(list:List UInt8)(p:Nat)(h:p<list.length)(x:UInt8):x∈dO list p↔x∈list:=by
 have e:list=list.take p++list.getD p 0::list.drop (p+1):=by rw[Na,Nc h];show list=list.take p++list[p]::list.drop (p+1);rw[<- NN h,OW]
 unfold dO;conv=>rhs;rw[e]
 rw[PA,Rh,Rh,PA];constructor
 ·rintro(h|h|h);·exact .inr (.inl h)
  ·exact .inl h
  ·exact .inr (.inr h)
 ·rintro(h|h|h);·exact .inr (.inl h)
  ·exact .inl h
  ·exact .inr (.inr h)
def cz:List UInt8->List UInt8->Option (List Nat)
 | [],_=>some []
 | b::s,list=>if b∈list then(cz s (dO list (list.idxOf b))).map (list.idxOf b :: ·)else none
def fB:List Int->List UInt8->Option (List UInt8)
 | [],_=>some []
 | x::l,list=>if 0<=x/\x<list.length then(fB l (dO list x.toNat)).map (list.getD x.toNat 0 :: ·)else none
theorem Lz(list:List UInt8)(b:UInt8)(h:b∈list):list.getD (list.idxOf b) 0=b:=by have h1:=Ph h;rw[Na,Nc h1];exact List.getElem_idxOf h1
theorem tW:∀(s list:List UInt8),(∀ x∈s,x∈list)->∃l,cz s list=some l/\l.length=s.length
 | [],list,_=>⟨[],rfl,rfl⟩
 | b::s,list,h=>by have hb:=h b Nh;have h1:=Ph hb;obtain⟨l,h2,h3⟩:=tW s (dO list (list.idxOf b)) fun x hx=>(Ig list _ h1 x).2 (h x (Nm _ hx));refine⟨list.idxOf b::l,?_,by rw[Ns,Ns,h3]⟩;rw[cz,Nf hb,h2];rfl
theorem td:∀(s list:List UInt8) (l:List Nat),cz s list=some l->fB (l.map fun(x:Nat)=>(x:Int)) list=some s
 | [],list,l,h=>by simp only[cz,Oj]at h;subst h;rfl
 | b::s,list,l,h=>by
  rw[cz]at h;by_cases hb:b∈list
  ·rw[Nf hb]at h;have h1:=Ph hb;rcases hf:cz s (dO list (list.idxOf b))with _|l2;·rw[hf]at h;simp at h
   ·rw[hf]at h;simp only[Ov,Oj]at h;subst h;have ih:=td s _ l2 hf;rw[Ow,fB,Nf ⟨by omega,by omega⟩,Nv,ih,Lz list b hb];rfl
  ·rw[Nd hb]at h;simp at h
def mK(a:List UInt8)(b:Nat):Nat:=if UInt8.ofNat b∈a then 1 else 0
def fZ(a:List UInt8)(i:Nat):Nat:=if a.any (fun x=>x.toNat/16==i)then 1 else 0
def bA(a:List UInt8)(i:Nat):List Nat:=if fZ a i=1 then(List.range 16).map fun k=>mK a (16*i+k)else []
def bU(a:List UInt8):List Nat:=(List.range 16).map (fZ a)++(List.range 16).flatMap (bA a)
def gF(l:List Nat)(p i:Nat):List UInt8:=((List.range 16).filter fun k=>l.getD (p+k) 0==1).map fun k=>UInt8.ofNat (16*i+k)
def goT(l:List Nat)(fl:Nat->Nat):List Nat->Nat->List UInt8->Option (List UInt8×Nat)
 | [],p,out=>some (out,p)
 | i::is,p,out=>if fl i=0 then goT l fl is p out else if l.length<p+16 then none else goT l fl is (p+16) (out++gF l p i)
def gE(l:List Nat)(p:Nat):List UInt8×Nat×Nat:=
 if l.length<p then([],0,2)else if l.length<p+16 then([],0,10)else
  match goT l (fun i=>l.getD (p+i) 0) (List.range 16) (p+16) []with
  | none=>([],0,10)
  | some (out,q)=>if out= []then([],0,60)else(out,q,0)
theorem kJ(a:List UInt8)(i:Nat):fZ a i=0\/fZ a i=1:=by
 unfold fZ;split;·exact .inr rfl
 ·exact .inl rfl
theorem gz(a:List UInt8)(i:Nat):(bA a i).length=16*fZ a i:=by unfold bA;rcases kJ a i with h|h <;>rw[h] <;>simp
theorem iP(a:List UInt8):∃r,r<=16/\(bU a).length=16+16*r:=by
 have h:∀n,∃r,r<=n/\((List.range n).flatMap (bA a)).length=16*r:=by
  intro n
  induction n with
  | zero=>exact⟨0,Nk _,rfl⟩
  | succ n ih=>
   obtain⟨r,h1,h2⟩:=ih;rw[Oh,OF,Nb,h2];simp only[Oa,List.flatMap_nil,NU,gz];rcases kJ a n with h|h;·exact⟨r,by omega,by rw[h];omega⟩
   ·exact⟨r+1,by omega,by rw[h];omega⟩
 obtain⟨r,h1,h2⟩:=h 16;refine⟨r,h1,?_⟩;unfold bU;rw[Nb,h2,Nu,NE]
def qd(a:List UInt8)(i:Nat):List UInt8:=((List.range 16).filter fun k=>mK a (16*i+k)==1).map fun k=>UInt8.ofNat (16*i+k)
theorem Dn(a:List UInt8)(i:Nat)(hi:i<16)(h:fZ a i=0):qd a i= []:=by
 unfold qd;rw[List.map_eq_nil_iff,List.filter_eq_nil_iff];intro k hk;have hk:=List.mem_range.1 hk;unfold mK;split
 ·rename_i hm;exfalso;unfold fZ at h;rw[if_pos]at h;·simp at h
  ·rw[List.any_eq_true];refine⟨_,hm,?_⟩;rw[Oo,NL (by omega),show(16*i+k)/16=i by omega];simp
 ·simp
theorem DZ(x y:List Nat)(a:List UInt8)(i:Nat):gF (x++((List.range 16).map fun k=>mK a (16*i+k))++y) x.length i=qd a i:=by unfold gF qd;congr 1;refine List.filter_congr fun k hk=> ?_;have hk:=List.mem_range.1 hk;rw[Na,Ni,NO (by omega),Py,NW (by simpa using hk),Np,NJ hk];rfl
theorem tZ(a:List UInt8)(fl:Nat->Nat):∀(is:List Nat) (x y:List Nat) (out:List UInt8),(∀ i∈is,fl i=fZ a i/\i<16)->
 goT (x++is.flatMap (bA a)++y) fl is x.length out=some (out++is.flatMap (qd a),x.length+(is.flatMap (bA a)).length)
 | [],x,y,out,_=>by simp[goT]
 | i::is,x,y,out,h=>by
  have hi:=h i Nh;have hr:=fun j hj=>h j (Nm i hj);rw[goT,hi.1];rcases kJ a i with h0|h0;·have e:bA a i= []:=(by unfold bA;rw[Nd]);rw[Nf h0];simp only[Oa,e,Ok,Dn a i hi.2 h0];exact tZ a fl is x y out hr
  ·have e:bA a i=(List.range 16).map fun k=>mK a (16*i+k):=(by unfold bA;rw[Nf h0]);have el:(bA a i).length=16:=(by rw[gz,h0]);rw[Nd,Nd (by simp only[Oa,Nb,el];omega)];have e2:x++(i::is).flatMap (bA a)++y=(x++bA a i)++is.flatMap (bA a)++y:=(by simp only[Oa,Ni]);have e3:gF (x++(i::is).flatMap (bA a)++y) x.length i=qd a i:=(by have:=DZ x (is.flatMap (bA a)++y) a i;rw[<- e]at this;rw[<- this];simp only[Oa,Ni]);rw[e3,e2];have ih:=tZ a fl is (x++bA a i) y (out++qd a i) hr;rw[Nb,el]at ih;rw[ih];simp only[Oa,Ni,Nb,el,Oj,Ps,true_and];omega
theorem Ks(a:List UInt8):(List.range 16).flatMap (qd a)=ofL a:=by
 refine oV ?_ (il a) fun x=> ?_
 ·rw[List.pairwise_flatMap];refine⟨fun i hi=> ?_,?_⟩;·have hi:=List.mem_range.1 hi;unfold qd;rw[PE];refine OG ?_ (List.pairwise_lt_range.filter _);intro p q hp hq h1;have hp:=List.mem_range.1 (List.mem_filter.1 hp).1;have hq:=List.mem_range.1 (List.mem_filter.1 hq).1;rw[PM,Oo,Oo,NL (by omega),NL (by omega)];omega
  ·refine OG ?_ Ru;intro i j hi hj h0 x hx y hy;have hi:=List.mem_range.1 hi;have hj:=List.mem_range.1 hj;obtain⟨p,hp,rfl⟩:=List.mem_map.1 hx;obtain⟨q,hq,rfl⟩:=List.mem_map.1 hy;have hp:=List.mem_range.1 (List.mem_filter.1 hp).1;have hq:=List.mem_range.1 (List.mem_filter.1 hq).1;rw[PM,Oo,Oo,NL (by omega),NL (by omega)];omega
 ·rw[List.mem_flatMap,nN];constructor
  ·rintro⟨i,_,hx⟩;obtain⟨k,hk,rfl⟩:=List.mem_map.1 hx;have:=(List.mem_filter.1 hk).2;unfold mK at this;split at this;·assumption
   ·simp at this
  ·intro hx;have hb:=PZ x;have e:16*(x.toNat/16)+x.toNat%16=x.toNat:=(by omega);have e2:UInt8.ofNat (16*(x.toNat/16)+x.toNat%16)=x:=(by rw[e,P4]);refine⟨x.toNat/16,List.mem_range.2 (by omega),List.mem_map.2 ⟨x.toNat%16,List.mem_filter.2 ⟨List.mem_range.2 (by omega),?_⟩,e2⟩⟩;unfold mK;rw[e2,Nf hx];rfl
theorem rt(a:List UInt8)(h:fp a)(x y:List Nat):gE (x++bU a++y) x.length=(a,x.length+(bU a).length,0):=by obtain⟨r,hr,hl⟩:=iP a;have h0:∀i∈List.range 16,(x++bU a++y).getD (x.length+i) 0=fZ a i/\i<16:=(by intro i hi;have hi:=List.mem_range.1 hi;refine⟨?_,hi⟩;rw[Na,Ni,NO (by omega),Py,NW (by omega)];unfold bU;rw[NW (by simpa using hi),Np,NJ hi];rfl);have hg:=tZ a (fun i=>(x++bU a++y).getD (x.length+i) 0) (List.range 16) (x++(List.range 16).map (fZ a)) y [] h0;have e:x++(List.range 16).map (fZ a)++(List.range 16).flatMap (bA a)++y=x++bU a++y:=(by unfold bU;simp only[Ni]);rw[e,Nb,Nu,NE,Ks,h.2,Ok]at hg;unfold gE;rw[Nd (by simp only[Nb];omega),Nd (by simp only[Nb];omega),hg];simp only[h.1,RA];have:(bU a).length=16+((List.range 16).flatMap (bA a)).length:=(by unfold bU;rw[Nb,Nu,NE]);rw[this,OQ]
open Go.RowKit
def eP(l:List UInt8):ByteArray:=⟨l.toArray⟩
theorem Ho(l:List UInt8):(eP l).size=l.length:=rfl
theorem ij(s:ByteArray)(i:Nat)(h:i<s.size):s.data.toList.getD i 0=s[i]:=by rw[Na,Nc (by simpa using h)];rfl
theorem ik(s:ByteArray)(h:0<s.size):s.toList.isEmpty=false:=by
 rw[P8];have h0:s.data.toList.length=s.size:=rfl
 cases hd:s.data.toList with
 | nil=>rw[hd]at h0;simp at h0;omega
 | cons a l=>rfl
theorem JA:∀(l:List UInt8) (b:UInt8) (q:Nat),q<l.length->(∀ j,j<q->l.getD j 0≠b)->l.getD q 0=b->l.idxOf b=q
 | [],_,_,h,_,_=>by simp at h
 | x::l,b,0,_,_,h=>by rw[RK]at h;subst h;simp
 | x::l,b,q+1,hl,hlow,h=>by have h0:=hlow 0 (Nat.succ_pos q);rw[RK]at h0;rw[List.idxOf_cons];have e2:(x==b)=false:=(by simpa using h0);rw[e2];simp only[Ns]at hl;rw[P7]at h;have:=JA l b q (by omega) (fun j hj=>by have:=hlow (j+1) (by omega);rwa [P7]at this) h;simp[this]
theorem AA:∀(l:List UInt8) (b:UInt8),(∀ j,j<l.length->l.getD j 0≠b)->l.idxOf b=l.length
 | [],_,_=>rfl
 | x::l,b,hlow=>by have h0:=hlow 0 (by simp);rw[RK]at h0;rw[List.idxOf_cons];have e2:(x==b)=false:=(by simpa using h0);rw[e2];have:=AA l b (fun j hj=>by have:=hlow (j+1) (by simp;omega);rwa [P7]at this);simp[this]
theorem xd(w:World)(s:ByteArray)(b:UInt8)(hs:s.size<=1000000):Calls prog 108 #[.string s,.int .u8 b.toNat] w fun e w'=>e=.returned (.int .i64 (s.data.toList.idxOf b:Nat))/\w=w':=by
 have h5:=aa (show s.data.toList.length=s.size from rfl);go_enter func108,ntmps108;go_wp2_with fail;go_loop [5] (fun x=>∃q:Nat,q<=s.size/\x=.int .i64 q/\∀j,j<q->s.data.toList.getD j 0≠b) (fun x=>s.size-(intOf x).toNat)
 case atStart=>exact⟨0,Ng _,rfl,fun j h=>by omega⟩
 case round=>
  obtain⟨q,hq,rfl,h0⟩:=hrel;have h4:=aa h0;by_cases e:q<s.size
  ·have h2:=ij s q e;by_cases e1:s[q]=b;·have q1:((s[q].toNat:Int)==(b.toNat:Int))=true:=(by rw[e1];simp);have h1:=JA s.data.toList b q (by rw[h5.out];exact e) h0 (h2.trans e1);have h3:=aa h1;clear h0 h2 e1 h1;go_wp2_with fail;go_ret;rw[h3.out];exact⟨rfl,rfl⟩
   ·have q1:((s[q].toNat:Int)==(b.toNat:Int))=false:=(by simp only[NC,R8];exact fun h=>e1 (UInt8.toNat_inj.1 (by omega)));have HE:=aa (show s.data.toList.getD q 0≠b by rw[h2];exact e1);clear h0 h2 e1;go_wp2_with fail;go_round;case rel=>
     refine⟨q+1,by omega,by go_num,fun j hj=> ?_⟩;by_cases h:j=q;·rw[h];exact HE.out
     ·exact h4.out j (by omega)
    case measure=>simp[intOf];omega
  ·obtain rfl:q=s.size:=(by omega);have h1:=AA s.data.toList b (fun j hj=>h0 j (by rw[h5.out]at hj;exact hj));have h3:=aa h1;clear h0 h1;go_wp2_with fail;go_ret;rw[h3.out,h5.out];exact⟨rfl,rfl⟩
theorem D5(s:ByteArray)(p:Nat)(hp:p<s.size):s.extract p (p+1)++s.extract 0 p++s.extract (p+1) s.size=eP (dO s.data.toList p):=by apply QL;apply Array.ext';show(s.extract p (p+1)++s.extract 0 p++s.extract (p+1) s.size).data.toList=dO s.data.toList p;have h0:p<s.data.toList.length:=hp;rw[Ql,Ql,Pd,Pd,PG,PG,PG,PY,PY,PY,Pq,Pq,Pq,QY,QF,show p+1-p=1 by omega,dO];have h1:(s.data.toList.drop p).take 1= [s.data.toList.getD p 0]:=(by rw[NN h0,Na,Nc h0];rfl);have h2:(s.data.toList.drop (p+1)).take (s.size-(p+1))=s.data.toList.drop (p+1):=(by refine Nr ?_;rw[Ny];exact Nk _);rw[h1,h2];simp
theorem D4(w:World)(s:ByteArray)(p:Nat)(hp:p<s.size)(hs:s.size<=1000000):Calls prog 110 #[.string s,.int .i64 p] w fun e w'=>e=.returned (.string (eP (dO s.data.toList p)))/\∃m,w'=w.drewN m:=by have hx:=D5 s p hp;have h1:(s.extract p (p+1)).size=1:=(by rw[OB];omega);have h2:(s.extract 0 p).size=p:=(by rw[OB];omega);have h3:(s.extract (p+1) s.size).size=s.size-(p+1):=(by rw[OB];omega);have h0:∀w9:World,(Op.stringOp .add (s.extract p (p+1)) (s.extract 0 p)).run prog w9=.ok (.string (s.extract p (p+1)++s.extract 0 p)) w9:=fun w9=>Rj w9 _ _ (by omega);have h4:∀w9:World,(Op.stringOp .add (s.extract p (p+1)++s.extract 0 p) (s.extract (p+1) s.size)).run prog w9=.ok (.string (eP (dO s.data.toList p))) w9:=fun w9=>(Rj w9 _ _ (by rw[QO];omega)).trans (by rw[hx]);have h5:(0:Int)<=(p:Int):=(by omega);have h6:(p:Int)<=(p:Int)+1:=(by omega);have h7:(p:Int)+1<=(s.size:Int):=(by omega);have h8:(p:Int)<=(s.size:Int):=(by omega);have h9:(0:Int)<=(p:Int)+1:=(by omega);have ha:IntKind.i64.wrap ((p:Int)+1)=(p:Int)+1:=(by rw[Of];omega);clear hx h1 h2 h3;generalize eP (dO s.data.toList p)=t at*;go_enter func110,ntmps110;go_wp2_with fail;go_region;go_wp2_with fail;go_ret;exact⟨rfl,1,rfl⟩
def Do(s:List UInt8)(b:Nat):List UInt8:=((List.range b).map UInt8.ofNat).filter fun x=>decide (x∈s)
theorem GA(s:List UInt8)(b:Nat):Do s (b+1)=Do s b++if UInt8.ofNat b∈s then [UInt8.ofNat b]else []:=by unfold Do;rw[Oh,Nz,QI];congr 1;simp only[Ow,QC,List.filter_cons,List.filter_nil,PF]
theorem AX(s:List UInt8)(b:Nat):(Do s b).length<=b:=by unfold Do;refine ND (QP _ _) ?_;rw[Nu,NE];exact Nk _
theorem mN(w1:World)(v:Int):(convert 69 9 (.slice (some ⟨w1.heap.size,0,none⟩) 1 1)).run prog (w1.alloc (.cells #[.int .u8 v] 5))=.ok (.string ⟨#[UInt8.ofNat v.toNat]⟩) (w1.alloc (.cells #[.int .u8 v] 5)):=by refine run_convert_bytes_arg (P:=prog) (w1.alloc (.cells #[.int .u8 v] 5)) 69 5 underlying69 underlying5 w1.heap.size 0 1 1 [v] rfl (fun i hi=> ?_) 9 underlying9;obtain rfl:i=0:=(by omega);rw[Rv];rfl
theorem oJ(s:List UInt8)(b:UInt8):s.idxOf b<s.length↔b∈s:=List.idxOf_lt_length_iff
theorem By(w:World)(s:ByteArray)(hs:s.size<=1000000):Calls prog 60 #[.string s] w fun e w'=>e=.returned (.string (eP (ofL s.data.toList)))/\Below w.heap.size w w':=by
 have hc:=aa (show s.data.toList.length=s.size from rfl);have HN:=aa (GA s.data.toList);have h9:=aa (AX s.data.toList);go_enter func60,ntmps60;go_wp2_with fail;go_loopw [3,4] (fun out x wx=>∃(b:Nat) (t:ByteArray),b<=256/\x=.int .i64 b/\out=.string t/\t.data.toList=Do s.data.toList b/\Below w.heap.size w wx) (fun _ x _=>256-(intOf x).toNat)
 case atStart=>exact⟨0,⟨#[]⟩,by omega,rfl,rfl,rfl,Nj _ _⟩
 case round=>
  obtain⟨b,t,hb,rfl,rfl,ht,h0⟩:=hrel;have HT:=aa ht;have HB:=aa h0;have hz:=h0.size;by_cases e:b<256
  ·have d1:decide ((b:Int)<256)=true:=bE;have h5:(UInt8.ofNat b).toNat=b:=(by rw[Oo,NL e]);have h3:=xd wr s (UInt8.ofNat b) hs;rw[h5]at h3;have h2:=HN.out b;have h1:=oJ s.data.toList (UInt8.ofNat b);rw[hc.out]at h1;obtain⟨p,hp⟩:∃p,p=s.data.toList.idxOf (UInt8.ofNat b):=⟨_,rfl⟩;rw[<- hp]at h3 h1;have h7:=aa h3;have hk:IntKind.u8.wrap (b:Int)=(b:Int):=(by show(b:Int)%256=b;omega);by_cases e1:UInt8.ofNat b∈s.data.toList
   ·have hh:p<s.size:=h1.2 e1;rw[Nf e1]at h2;have hg:=mN wr (b:Int);rw[Nv]at hg;obtain⟨t2,h6⟩:∃t2:ByteArray,t2=t++⟨#[UInt8.ofNat b]⟩:=⟨_,rfl⟩;have hi:t.size<=256:=(by show t.data.toList.length<=256;rw[ht];exact ND (h9.out b) (by omega));have hf:∀w9:World,(Op.stringOp .add t ⟨#[UInt8.ofNat b]⟩).run prog w9=.ok (.string t2) w9:=fun w9=>(Rj w9 _ _ (by show t.size+1<=_;omega)).trans (by rw[h6]);have h4:t2.data.toList=Do s.data.toList (b+1):=(by rw[h2,<-ht,h6];show(t++⟨#[UInt8.ofNat b]⟩:ByteArray).data.toList=_;rw[Ql,Pd]);have he:=aa h4;have h8:=aa (h0.alloc hz (.cells #[.int .u8 (b:Int)] 5));clear ht h0 h5 h3 h2 h1 hp e1 h6 hi h4;go_wp2_with fail;refine h7.out.mono ?_;rintro e w1 ⟨rfl,rfl⟩;go_wp2_with fail;go_roundw;case rel=>exact⟨b+1,t2,by omega,by go_num,rfl,he.out,h8.out⟩
    case measure=>simp[intOf];omega
   ·have hh:¬p<s.size:=fun h=>e1 (h1.1 h);rw[Nd e1,NU]at h2;have ha:=aa h2;clear ht h0 h5 h3 h2 h1 hp e1;go_wp2_with fail;refine h7.out.mono ?_;rintro e w1 ⟨rfl,rfl⟩;go_wp2_with fail;go_roundw;case rel=>exact⟨b+1,t,by omega,by go_num,rfl,by rw[ha.out];exact HT.out,HB.out⟩
    case measure=>simp[intOf];omega
  ·obtain rfl:b=256:=(by omega);have hj:t=eP (ofL s.data.toList):=(by apply QL;apply Array.ext';exact ht);subst hj;clear ht h0;go_wp2_with fail;go_ret;exact⟨rfl,HB.out⟩
theorem pY(w:World)(s:ByteArray)(hs:s.size<=1000000):Calls prog 109 #[.string s] w fun e w'=>e=.returned (.bool (decide (fp s.data.toList)))/\Below w.heap.size w w':=by
 by_cases h0:s.size=0;·have hd:s=⟨#[]⟩:=(by apply QL;exact QA h0);subst hd;have e:decide (fp (⟨#[]⟩:ByteArray).data.toList)=false:=Nl (fun h=>h.1 rfl);rw[e];go_enter func109,ntmps109;go_wp2_with fail;go_ret;exact⟨rfl,Nj _ _⟩
 ·have h5:=ik s (by omega);have h1:s.data.toList≠ []:=fun h=>by have h3:s.data.toList.length=s.size:=rfl;rw[h]at h3;simp at h3;omega
  have HA:=aa (By w s hs);have h4:((eP (ofL s.data.toList)).toList==s.toList)=decide (fp s.data.toList):=by
   rw[P8,P8];show(ofL s.data.toList==s.data.toList)=_;by_cases h:ofL s.data.toList=s.data.toList;·rw[Nn ⟨h1,h⟩,h];simp
   ·rw[Nl (fun h2=>h h2.2)];simpa using h
  clear h1;generalize decide (fp s.data.toList)=d at*;go_enter func109,ntmps109;go_wp2_with fail;refine HA.out.mono ?_;rintro e w1 ⟨rfl,hb⟩;have HB:=aa hb;clear hb;go_wp2_with fail;go_ret;exact⟨rfl,HB.out⟩
theorem bV(w:World)(v:Value)(t:TypeId):∀(j:Nat) (u:Value), [v][j]? =some u->(w.alloc (.cells #[v] t)).cell? ((⟨w.heap.size,0,none⟩:Addr).add j)=some u:=by intro j u hu;have hj:j=0:=(by have:=(List.getElem?_eq_some_iff.1 hu).1;simp at this;exact this);subst hj;simp at hu;subst hu;rw[OT,ac (aj w t _)];rfl
def gl(s a:List UInt8):List Nat×Nat:=if fp a then(match cz s a with|none=>([],60)|some l=>(l,0))else([],2)
def nA(w:World)(s a:List UInt8)(e:Ending)(w':World):Prop:=∃(v:Value) (L:List Nat) (c:Nat),gl s a=(L,c)/\e=.returned (.tuple #[v,.int .i64 c])/\w'.ownsRow w.heap.size 3 1 v L.length (L.map iv)/\Below w.heap.size w w'
theorem wC(s:ByteArray)(q:Nat)(h:q<s.size):s.data.toList.drop q=s[q]::s.data.toList.drop (q+1):=by have hl:q<s.data.toList.length:=h;rw[NN hl];rfl
theorem DO(w:World)(s a:ByteArray)(hs:s.size<=1000000)(ha:a.size<=1000000):Calls prog 61 #[.string s,.string a] w (nA w s.data.toList a.data.toList):=by
 obtain⟨i3,h3,hR,hS,hT⟩:=N4 Tryz.info3
 have HM:=aa (pY w a ha)
 by_cases hm:fp a.data.toList
 ·have d0:decide (fp a.data.toList)=true:=Nn hm
  rw[d0]at HM
  have h4:=aa (show gl s.data.toList a.data.toList=(match cz s.data.toList a.data.toList with|none=>([],60)|some l=>(l,0))from Nf hm)
  have hK:=aa (show s.data.toList.length=s.size from rfl)
  clear d0 hm
  go_enter func61,ntmps61
  go_wp2_with fail
  refine HM.out.mono ?_
  rintro e w1 ⟨rfl,h7⟩
  have hc:=aa h7
  have h6:=h7.size
  clear h7
  go_wp2_with fail
  go_loopw [6,7,8] (fun out list i wx=>∃(q:Nat) (t:ByteArray) (o:List Nat),q<=s.size/\i=.int .i64 q/\list=.string t/\t.size=a.size/\wx.ownsRow w1.heap.size 3 1 out o.length (o.map iv)/\o.length=q/\
   cz s.data.toList a.data.toList=(cz (s.data.toList.drop q) t.data.toList).map (o++ ·)/\Below w1.heap.size w1 wx) (fun _ _ i _=>s.size-(intOf i).toNat)
  case atStart=>exact⟨0,a, [],Ng _,rfl,rfl,rfl,Nt _ _ _ _,rfl,by simp,Nj _ _⟩
  case round=>
   obtain⟨q,t,o,hq,rfl,rfl,hw,h2,hr,hA,hb⟩:=hrel
   have hW:=hb.size
   obtain⟨A0,c0,rfl,hP,hO,hN⟩:=ai h2
   clear hN
   unfold maxLen at hO
   rw[hr]at h2 hP |-
   have hj:=aa hr
   have HB:=aa hb
   have hi:=aa hA
   have hM:=aa hw
   obtain⟨X,hX⟩:∃X,X=o.map iv:=⟨_,rfl⟩
   rw[<- hX]at h2
   have HX:=aa hX
   have HO:=aa h2
   obtain⟨m,hm⟩:∃m,m=a.size:=⟨_,rfl⟩
   have ht:t.size=m:=hw.trans hm.symm
   clear hX h2 hr hb hA hw
   by_cases e:q<s.size
   ·have h8:=xd wr t s[q] (by omega)
    have he:=wC s q e
    have ho:t.data.toList.idxOf s[q]<=m:=by rw[<- ht];exact List.idxOf_le_length
    by_cases e1:s[q]∈t.data.toList
    ·have hQ:t.data.toList.idxOf s[q]<m:=by rw[<- ht];exact(oJ _ _).2 e1
     obtain⟨p,hp⟩:∃p,p=t.data.toList.idxOf s[q]:=⟨_,rfl⟩
     rw[<- hp]at h8 ho hQ
     have hE:=D4 wr t p (by omega) (by omega)
     have hC:cz s.data.toList a.data.toList=(cz (s.data.toList.drop (q+1)) (dO t.data.toList p)).map ((o++ [p])++ ·):=by
      rw[hi.out,he,cz,Nf e1,<-hp,Option.map_map]
      congr 1
      funext l
      simp
     have htl:(dO t.data.toList p).length=t.size:=eh _ p (by show p<t.size;omega)
     have hl:=aa h8
     have hy:=aa hE
     have hI:=aa hC
     obtain⟨t2,hf⟩:∃t2,t2=eP (dO t.data.toList p):=⟨_,rfl⟩
     rw[<- hf]at hy
     have hL:=aa (show t2.data.toList=dO t.data.toList p by rw[hf];rfl)
     have hn:=aa (show t2.size=a.size by rw[hf,Ho,htl,hM.out])
     clear h8 he ho e1 hp hE hC htl hf
     go_wp2_with fail
     refine hl.out.mono ?_
     rintro e w3 ⟨rfl,rfl⟩
     go_wp2_with fail
     refine hy.out.mono ?_
     rintro e w3 ⟨rfl,m3,rfl⟩
     have hx:=aa (show(wr.drewN m3).ownsRow w1.heap.size 3 1 (.slice A0 q c0) q X from HO.out)
     have hF:=aa (ax HB.out m3)
     have hV:w1.heap.size<=(wr.drewN m3).heap.size:=hW
     generalize wr.drewN m3=w3 at*
     go_wp2_with (at_builtin;refine N5 _ rfl _ _ 37 rfl w1.heap.size 3 i3 (.int .i64 0) 1 8 underlying37 h3 hR hS hT rfl (by decide) _ _ _ rfl (hx.out.alloc _) ⟨w3.heap.size,0,none⟩ 1 1 [.int .i64 p] rfl rfl ?c1 ?c2 ?c3 ?c4 ?c5 ?_)
     case c1=>exact bV _ _ _
     case c2=>intro u hu;simp at hu;subst hu;rfl
     case c3=>unfold maxLen;omega
     case c4=>omega
     case c5=>simp;omega
     intro v4 w4 h5 h0 _
     have hz:Below w1.heap.size w1 w4:=(hF.out.alloc hV _).grown h0 (by simp;omega) (fun k hk=>(hx.out.lt k hk).1)
     have hJ:=aa h5
     have hG:=aa hz
     clear h5 h0 hz
     go_wp2_with fail
     go_roundw
     case rel=>
      refine⟨q+1,t2,o++ [p],by omega,by go_num,rfl,hn.out,?_,by rw[Nb,hj.out];rfl,by rw[hL.out];exact hI.out,hG.out⟩
      rw[Nb,hj.out,Nz,<-HX.out]
      exact hJ.out
     case measure=>simp[intOf];omega
    ·have hD:t.data.toList.idxOf s[q]=m:=by
      rw[<- ht]
      exact Nat.le_antisymm List.idxOf_le_length (Nat.not_lt.1 fun h=>e1 ((oJ _ _).1 h))
     rw[hD]at h8
     have hB:cz s.data.toList a.data.toList=none:=by
      rw[hi.out,he,cz,Nd e1]
      rfl
     have hl:=aa h8
     have hH:=aa hB
     clear h8 he ho e1 hD hB
     go_wp2_with fail
     refine hl.out.mono ?_
     rintro e w3 ⟨rfl,rfl⟩
     go_wp2_with fail
     go_ret2
     refine⟨_, [],60,?_,rfl,Nt _ _ _ _,hc.out.trans (HB.out.mono h6)⟩
     rw[h4.out,hH.out]
   ·obtain rfl:q=s.size:=by omega
    have h9:cz s.data.toList a.data.toList=some o:=by
     rw[hi.out,N9 (by rw[hK.out];exact Nk _)]
     simp[cz]
    have hh:=aa h9
    clear h9
    go_wp2_with fail
    go_ret2
    refine⟨_,o,0,?_,rfl,?_,hc.out.trans (HB.out.mono h6)⟩
    ·rw[h4.out,hh.out]
    ·have h1:=HO.out
     rw[HX.out]at h1
     rw[hj.out]
     exact own_lower h1 h6
 ·have d0:decide (fp a.data.toList)=false:=Nl hm
  rw[d0]at HM
  have h4:=aa (show gl s.data.toList a.data.toList=([],2)from Nd hm)
  clear d0 hm
  go_enter func61,ntmps61
  go_wp2_with fail
  refine HM.out.mono ?_
  rintro e w1 ⟨rfl,h7⟩
  have hc:=aa h7
  clear h7
  go_wp2_with fail
  go_ret2
  exact⟨_, [],2,h4.out,rfl,Nt _ _ _ _,hc.out⟩
 where
 own_lower {w:World} {B B':Nat} {e:TypeId} {size n:Nat} {v:Value} {xs:List Value} (h:w.ownsRow B e size v n xs) (hb:B'<=B):w.ownsRow B' e size v n xs:=by
  refine⟨h.1,?_⟩
  rcases h.2 with h1|⟨g,cap,cur,hv,hg,rest⟩
  ·exact .inl h1
  ·exact .inr ⟨g,cap,cur,hv,ND hb hg,rest⟩
def ZIn(w:World)(A:Option Addr)(n:Nat)(L:List Int):Prop:=
 L.length=n/\(0<n->∃b off,A=some ⟨b,off,none⟩/\∀i,i<n->w.cell? ⟨b,off+i,none⟩=some (.int .i64 (L.getD i 0)))
theorem ZIn.below{w w':World}{A:Option Addr}{n:Nat}{L:List Int}(h:ZIn w A n L)(hb:Below w.heap.size w w'):ZIn w' A n L:=by refine⟨h.1,fun hn=> ?_⟩;obtain⟨b,off,rfl,hc⟩:=h.2 hn;exact⟨b,off,rfl,fun i hi=>(hb.cell (p:=⟨b,off+i,none⟩) (No w _ (hc i hi))).trans (hc i hi)⟩
def fq(l:List Int)(a:List UInt8):List UInt8×Nat:=if fp a then(match fB l a with|none=>([],60)|some t=>(t,0))else([],2)
def gJ(w:World)(g n:Nat)(f:Nat->Nat):Prop:=∃cs,Blk w g 3 cs/\cs.size=n/\∀i,i<n->cs[i]? =some (.int .i64 (f i))
theorem gJ.cell{w:World}{g n:Nat}{f:Nat->Nat}(h:gJ w g n f){i:Nat}(hi:i<n):w.cell? ⟨g,i,none⟩=some (.int .i64 (f i:Nat)):=by obtain⟨cs,hb,_,hc⟩:=h;rw[ac hb,hc i hi]
theorem gJ.frozen{w:World}{g n:Nat}{f:Nat->Nat}(h:gJ w g n f)(i:Nat):w.frozen? ⟨g,i,none⟩=false:=by obtain⟨cs,hb,_,hc⟩:=h;exact ae hb i
theorem gJ.set{w:World}{g n:Nat}{f:Nat->Nat}(h:gJ w g n f){i:Nat}(hi:i<n)(x:Nat):gJ (w.setCell ⟨g,i,none⟩ (.int .i64 x)) g n fun j=>if j=i then x else f j:=by
 obtain⟨cs,hb,hs,hc⟩:=h;refine⟨_,ay hb i (.int .i64 x),by rw[Pu,hs],fun j hj=> ?_⟩;rw[O5];by_cases e:i=j;·subst e;rw[Nf rfl,Nf];simp
 ·have e2:¬j=i:=fun h=>e h.symm;rw[Nd e,hc j hj];simp[e2]
theorem gJ.apart{w:World}{g k n:Nat}{f:Nat->Nat}(h:gJ w g n f)(h0:g≠k)(i:Nat)(u:Value):gJ (w.setCell ⟨k,i,none⟩ u) g n f:=by obtain⟨cs,hb,hs,hc⟩:=h;refine⟨cs,?_,hs,hc⟩;show(w.setCell ⟨k,i,none⟩ u).heap[g]? =_;rw[OK w ⟨k,i,none⟩ u g h0];exact hb
theorem gJ.same{w:World}{g n:Nat}{f f2:Nat->Nat}(h:gJ w g n f)(e:∀i,i<n->f i=f2 i):gJ w g n f2:=by obtain⟨cs,hb,hs,hc⟩:=h;exact⟨cs,hb,hs,fun i hi=>by rw[hc i hi,e i hi]⟩
theorem gJ.zeros(w:World)(n:Nat):gJ (w.alloc (.cells (madeCells #[.int .i64 0] n) 3)) w.heap.size n fun _=>0:=by refine⟨_,aj w 3 _,by simp[madeCells],fun i hi=> ?_⟩;rw[<- Qm,PX,OP,Nf hi];rfl
theorem gJ.step{w w':World}{g n:Nat}{f:Nat->Nat}{B:Nat}{ps:List Nat}{ts:List TypeId}(h:gJ w g n f)(hs:ak B ps ts w w')(hp:g∉ps)(ht:3∉ts):gJ w' g n f:=by obtain⟨cs,hb,hz,hc⟩:=h;exact⟨cs,hs.blk hb hp ht,hz,hc⟩
theorem gJ.ints{w:World}{g n:Nat}{f:Nat->Nat}(h:gJ w g n f):aB w (some ⟨g,0,none⟩) n ((List.range n).map f):=
 ⟨by rw[Nu,NE],fun _=>⟨g,0,rfl,fun i hi=>by
   rw[N8,h.cell hi,Na,Np,NJ hi]
   rfl⟩⟩
theorem wY{w:World}{g n:Nat}{f:Nat->Nat}(h:gJ w g n f)(o:Obj):gJ (w.alloc o) g n f:=by obtain⟨cs,hb,hz,hc⟩:=h;refine⟨cs,?_,hz,hc⟩;show(w.heap.push o)[g]? =_;rw[Array.getElem?_push,Nd (by have:=aA hb;omega)];exact hb
theorem IC(l:List UInt8)(q b:Nat)(hq:q<l.length)(hb:b<256):mK (l.take (q+1)) b=if b=(l.getD q 0).toNat then 1 else mK (l.take q) b:=by
 have e:l.getD q 0=l[q]:=by rw[Na,Nc hq];rfl
 unfold mK;rw[NF hq,e];by_cases h:b=l[q].toNat;·subst h;rw[Nf rfl,if_pos];rw[P4];exact OX _ (List.mem_singleton.2 rfl)
 ·rw[Nd h];have h0:¬UInt8.ofNat b=l[q]:=fun h2=>h (by rw[<- h2,Oo,NL hb]);simp only[Rh,Og,h0,or_false]
theorem Kp(l:List UInt8)(q i:Nat)(hq:q<l.length):fZ (l.take (q+1)) i=if i=(l.getD q 0).toNat/16 then 1 else fZ (l.take q) i:=by
 have e:l.getD q 0=l[q]:=by rw[Na,Nc hq];rfl
 unfold fZ;rw[NF hq,e,List.any_append];by_cases h:i=l[q].toNat/16;·subst h;rw[Nf rfl,if_pos];simp
 ·rw[Nd h];have h0:(l[q].toNat/16==i)=false:=(by simpa using fun h2=>h h2.symm);simp[h0]
theorem Kt(w:World)(s:ByteArray)(hs:s.size<=1000000):Calls prog 116 #[.string s] w fun e w'=>∃g1 g2,e=.returned (.tuple #[.slice (some ⟨g1,0,none⟩) 16 16,.slice (some ⟨g2,0,none⟩) 256 256])/\gJ w' g1 16 (fZ s.data.toList)/\gJ w' g2 256 (mK s.data.toList)/\w.heap.size<=g1/\w.heap.size<=g2/\Below w.heap.size w w':=by
 obtain⟨i3,h3,hj,hk,hl⟩:=N4 Tryz.info3;have h5:∀w1:World,(Instr.makeSlice 37 (.int .i64 16) (.int .i64 16)).run prog w1=.ok (.slice (some ⟨w1.heap.size,0,none⟩) 16 16) (w1.alloc (.cells (madeCells #[.int .i64 0] 16) 3)):=by intro w1;have h:=Qv (P:=prog) w1 37 3 i3 (.int .i64 0) underlying37 h3 hj .i64 .i64 16 16 (by omega) (by omega) (by rw[hl];omega) (by omega);rw[hk]at h;exact h
 have h6:∀w1:World,(Instr.makeSlice 37 (.int .i64 256) (.int .i64 256)).run prog w1=.ok (.slice (some ⟨w1.heap.size,0,none⟩) 256 256) (w1.alloc (.cells (madeCells #[.int .i64 0] 256) 3)):=by intro w1;have h:=Qv (P:=prog) w1 37 3 i3 (.int .i64 0) underlying37 h3 hj .i64 .i64 256 256 (by omega) (by omega) (by rw[hl];omega) (by omega);rw[hk]at h;exact h
 have hA:=h5 w;have hB:=h6 (w.alloc (.cells (madeCells #[.int .i64 0] 16) 3));have e0:(w.alloc (.cells (madeCells #[.int .i64 0] 16) 3)).heap.size=w.heap.size+1:=by simp
 have hp:=wY (gJ.zeros w 16) (.cells (madeCells #[.int .i64 0] 256) 3);have hg:=gJ.zeros (w.alloc (.cells (madeCells #[.int .i64 0] 16) 3)) 256;rw[e0]at hg;have hm:=aa hp;have hn:=aa hg;have HB:=aa (((Nj _ w).alloc (ag _) (.cells (madeCells #[.int .i64 0] 16) 3)).alloc (by simp) (.cells (madeCells #[.int .i64 0] 256) 3));have hv:=aa (IC s.data.toList);have hw:=aa (Kp s.data.toList);have he:=aa (show s.data.toList.length=s.size from rfl);clear h5 h6 hp hg h3 hj hk hl e0;generalize madeCells #[.int .i64 0] 16=c16 at*;generalize madeCells #[.int .i64 0] 256=c256 at*;go_enter func116,ntmps116;go_wp2_with fail;go_loopw [6] (fun x wx=>∃q:Nat,q<=s.size/\x=.int .i64 q/\gJ wx w.heap.size 16 (fZ (s.data.toList.take q))/\gJ wx (w.heap.size+1) 256 (mK (s.data.toList.take q))/\Below w.heap.size w wx) (fun x _=>s.size-(intOf x).toNat)
 case atStart=>
  refine⟨0,Ng _,rfl,hm.out.same fun i _=> ?_,hn.out.same fun i _=> ?_,HB.out⟩;·simp[fZ]
  ·simp[mK]
 case round=>
  clear hm hn HB hA hB;obtain⟨q,hq,rfl,h1,h2,hb⟩:=hrel;have H1:=aa h1;have H2:=aa h2;have HB:=aa hb;by_cases e:q<s.size
  ·have h0:=PZ s[q];have ho:=ij s q e;have hf:=fun b=>hv.out q b (by rw[he.out];exact e);have h9:=fun b=>hw.out q b (by rw[he.out];exact e);obtain⟨b,h8⟩:∃b,b=s[q].toNat:=⟨_,rfl⟩;rw[ho,<-h8]at hf h9;rw[<- h8]at h0;have hF:s[q].toNat=b:=h8.symm;obtain⟨h,hh⟩:∃h,h=b/16:=⟨_,rfl⟩;rw[<- hh]at h9;have h4:h<16:=(by omega);have hz:(b:Int)/16=(h:Int):=(by omega);have hC:Int.tdiv (b:Int) 16=(h:Int):=(by rw[Int.tdiv_eq_ediv_of_nonneg (by omega)];exact hz);have hy:=h2.cell h0;have hE:=h2.frozen b;have h7:=h1.apart (show w.heap.size≠w.heap.size+1 by omega) b (.int .i64 1);have hx:=h7.cell h4;have hD:=h7.frozen h;obtain⟨v2,ht⟩:∃v,v=mK (s.data.toList.take q) b:=⟨_,rfl⟩;obtain⟨v1,hr⟩:∃v,v=fZ (s.data.toList.take q) h:=⟨_,rfl⟩;rw[<- ht]at hy;rw[<- hr]at hx;have ha:=aa hf;have hc:=aa h9;have hu:=aa h7;clear hf h9 h1 h2 hb ho h8 hh hr ht h7;go_wp2_with fail;go_roundw;case rel=>refine⟨q+1,by omega,by go_num,(hu.out.set h4 1).same fun i _=>(hc.out i).symm,((H2.out.set h0 1).apart (by omega) _ _).same fun i hi=>(ha.out i hi).symm,(HB.out.setCell (by show _<=w.heap.size+1;omega) _).setCell (by show _<=w.heap.size;omega) _⟩
   case measure=>simp[intOf];omega
  ·obtain rfl:q=s.size:=(by omega);have hT:s.data.toList.take s.size=s.data.toList:=Nr (Oi he.out);rw[hT]at h1 h2;have H3:=aa h1;have H4:=aa h2;clear h1 h2 hb hT;go_wp2_with fail;go_ret2;exact⟨_,_,rfl,H3.out,H4.out,Nk _,by omega,HB.out⟩
theorem lK(a:List UInt8):au (bU a):=by
 intro b hb;unfold bU at hb;rcases List.mem_append.1 hb with h|h;·obtain⟨i,_,rfl⟩:=List.mem_map.1 h;have:=kJ a i;omega
 ·obtain⟨i,_,h⟩:=List.mem_flatMap.1 h;unfold bA at h;split at h;·obtain⟨k,_,rfl⟩:=List.mem_map.1 h;unfold mK;split <;>omega
  ·exact absurd h aw
def eW(a:List UInt8)(q:Nat):List Nat:=(List.range 16).map (fZ a)++(List.range q).flatMap (bA a)
theorem nt(a:List UInt8)(q:Nat):eW a (q+1)=eW a q++bA a q:=by have e:(List.range (q+1)).flatMap (bA a)=(List.range q).flatMap (bA a)++bA a q:=(by rw[Oh,OF];simp);unfold eW;rw[e,Ni]
theorem kT(a:List UInt8):∀q,(eW a q).length<=16+16*q
 | 0=>by simp[eW]
 | q+1=>by rw[nt,Nb,gz];have:=kT a q;rcases kJ a q with h|h <;>rw[h] <;>omega
def pu(w:World)(L:List Nat)(c:Nat)(e:Ending)(w':World):Prop:=e=.returned (.tuple #[.agg #[.string ⟨(aK L).toArray⟩,.int .i64 L.length],.int .i64 c])/\Below w.heap.size w w'
theorem G6(w:World)(a:ByteArray)(ha:a.size<=1000000)(hm:fp a.data.toList):Calls prog 66 #[.string a] w (pu w (bU a.data.toList) 0):=by
 have HM:=aa fun w1:World=>pY w1 a ha;have HR:=aa fun w1:World=>Kt w1 a ha;have d0:decide (fp a.data.toList)=true:=Nn hm;rw[d0]at HM;have hG:Blk (w.alloc (.cells #[.string ⟨#[]⟩,.int .i64 0] 24)) w.heap.size 24 #[.string ⟨#[]⟩,.int .i64 0]:=aj w 24 _;have hD:Below w.heap.size w (w.alloc (.cells #[.string ⟨#[]⟩,.int .i64 0] 24)):=(Nj _ _).alloc (ag _) _;have hY:=aa hG;have hQ:=aa hD;have HC:=aa (nt a.data.toList);have HA:=aa (kT a.data.toList);have H7:=aa (kJ a.data.toList);have hO:eW a.data.toList 16=bU a.data.toList:=rfl;have H8:=aa hO;have hW:=aa (lK a.data.toList);clear d0 hm hG hD hO;go_enter func66,ntmps66;go_wp2_with fail;refine(HM.out _).mono ?_;rintro e w1 ⟨rfl,hb⟩;have hk:=aO hb hY.out;have hf:Below w.heap.size w w1:=hQ.out.trans (hb.mono (by simp));have HK:=aa hk;have HB:=aa hf;clear hb hk hf;go_wp2_with fail;refine(HR.out w1).mono ?_;rintro e w2 ⟨g1,g2,rfl,hJ,hK,HF,HG,hv⟩;have hH:=aO hv HK.out;have hg:Below w.heap.size w w2:=aq HB.out hv;have hZ:=aa hH;have hB:=aa hg;have H1:=aa hJ;have H2:=aa hK;clear hH hg hv hJ hK;have h3:(w2.alloc (.cells #[] 3)).ownsRow w2.heap.size 3 1 (.slice (some ⟨w2.heap.size,0,none⟩) 0 0) 0 []:=OM w2 #[] 0 (ag _) (Ng _) rfl;obtain⟨v3,w3,hM,h8,hj⟩:=bB (w2.alloc (.cells #[] 3)) w2.heap.size _ 0 [] h3 (some ⟨g1,0,none⟩) 16 16 ((List.range 16).map (fZ a.data.toList)) (wY H1.out _).ints (by omega) (by simp);have hE:Below w2.heap.size w2 w3:=((Nj _ w2).alloc (ag _) _).grown hj (by simp) (fun k hk=>(h3.lt k hk).1);have H6:=aa hM;have H4:=aa h8;have hR:=aa hE;have hA:=hB.out.size;clear h3 hM h8 hj hE;go_wp2_with (at_builtin;refine Lib.wpList_append_run _ rfl _ _ 37 37 rfl (.slice (some ⟨w2.heap.size,0,none⟩) 0 0) (.slice (some ⟨g1,0,none⟩) 16 16) rfl rfl v3 w3 H6.out ?_)
 go_loopw [6,7] (fun out x wx=>∃q:Nat,q<=16/\x=.int .i64 q/\wx.ownsRow w2.heap.size 3 1 out (eW a.data.toList q).length ((eW a.data.toList q).map iv)/\Below w2.heap.size w2 wx) (fun _ x _=>16-(intOf x).toNat)
 case atStart=>refine⟨0,Ng _,rfl,?_,hR.out⟩;have e:eW a.data.toList 0=(List.range 16).map (fZ a.data.toList):=(by simp[eW]);have h1:=H4.out;rw[e,Nu,NE];exact h1
 case round=>
  obtain⟨q,hq,rfl,h2,hb⟩:=hrel;have hP:=hb.size;have ht:=HA.out q;have h5:=H1.out.step (an hb) aw aw;have h6:=H2.out.step (an hb) aw aw;obtain⟨A0,c0,rfl,hy,HE,HD⟩:=ai h2;clear HD;unfold maxLen at HE;have H5:=aa h2;have hT:=aa hb;by_cases e:q<16
  ·have d1:decide ((q:Int)<16)=true:=bE;have hc:=h5.cell e;have hs:=HC.out q;have he:=gz a.data.toList q;rcases H7.out q with h0|h0
   ·rw[h0]at hc he;have hr:bA a.data.toList q= []:=Nq (by omega);rw[hr,NU]at hs;have H3:=aa hs;clear h2 hb h5 h6 hs he hr h0 ht;go_wp2_with fail;go_roundw;case rel=>exact⟨q+1,by omega,by go_num,by rw[H3.out];exact H5.out,hT.out⟩
    case measure=>simp[intOf];omega
   ·rw[h0]at hc he;have h7:bA a.data.toList q=(List.range 16).map fun k=>mK a.data.toList (16*q+k):=(by unfold bA;rw[Nf h0]);obtain⟨p,hp⟩:∃p,p=16*q:=⟨_,rfl⟩;have HL:(16:Int)*(q:Int)=(p:Int):=(by omega);have hx:aB wr (some ⟨g2,p,none⟩) 16 (bA a.data.toList q):=(by refine⟨by rw[he],fun _=>⟨g2,p,rfl,fun i hi=> ?_⟩⟩;rw[h6.cell (i:=p+i) (by omega),h7,Na,Np,NJ hi,hp];rfl);obtain⟨d,hd⟩:∃d,d=p+16-p:=⟨_,rfl⟩;have h9:d=16:=(by omega);rw[<- h9]at hx;obtain⟨v4,w4,hz,h4,hl⟩:=bB wr w2.heap.size _ _ _ h2 (some ⟨g2,p,none⟩) d (256-p) (bA a.data.toList q) hx (by omega) hP;rw[h9]at h4;rw[hd]at hz;have hF:Below w2.heap.size w2 w4:=hb.grown hl hP (fun k hk=>(h2.lt k hk).1);have HH:(0:Int)<=(p:Int):=(by omega);have HI:(p:Int)<=(p:Int)+16:=(by omega);have HJ:(p:Int)+16<=256:=(by omega);have hh:w4.ownsRow w2.heap.size 3 1 v4 (eW a.data.toList (q+1)).length ((eW a.data.toList (q+1)).map iv):=(by rw[hs,Nb,Nz,he];exact h4);have hC:=aa hz;have hX:=aa hh;have hu:=aa hF;obtain⟨N,hN⟩:∃N,N=(eW a.data.toList q).length:=⟨_,rfl⟩;rw[<- hN]at hC hy |-;clear h2 hb h5 h6 hs he h0 ht h7 hx hz h4 hl hF hh hp hN hd h9;(go_wp2_with (at_builtin;refine Lib.wpList_append_run _ rfl _ _ 37 37 rfl (.slice A0 N c0) (.slice (some ⟨g2,p,none⟩) (p+16-p) (256-p)) rfl rfl v4 w4 hC.out ?_));go_roundw;case rel=>exact⟨q+1,by omega,by go_num,hX.out,hu.out⟩
    case measure=>simp[intOf];omega
  ·obtain rfl:q=16:=(by omega);have hL:eW a.data.toList 16=bU a.data.toList:=H8.out;rw[hL]at h2 ht hy |-;have hI:=aO hb hZ.out;have HT:=aa (BS wr A0 _ c0 _ (aE h2) hW.out (by omega));have hf:=hB.out.trans (hb.mono hA);have H0:=aa hI;have hV:=aa hf;obtain⟨S,hS⟩:∃S:ByteArray,S=⟨(aK (bU a.data.toList)).toArray⟩:=⟨_,rfl⟩;unfold pu;rw[<- hS];rw[<- hS]at HT;obtain⟨n,hn⟩:∃n,n=(bU a.data.toList).length:=⟨_,rfl⟩;rw[<- hn]at ht hy HT |-;have HN:=aa hn;have HS:=aa hS;clear h2 hb h5 h6 ht hL hI hf hS hn;go_wp2_with fail;refine HT.out.mono ?_;rintro e w5 ⟨rfl,hw⟩;have ho:=aO hw H0.out;have q0:w5.cell? ⟨w.heap.size,0,none⟩=some (.string ⟨#[]⟩):=ac ho 0;have q1:w5.cell? ⟨w.heap.size,1,none⟩=some (.int .i64 0):=ac ho 1;have f0:=ae ho 0;have f1:=ae ho 1;have hu:=aa (aq hV.out hw);clear ho hw;go_wp2_with fail;refine NH (v:=.tuple #[.agg #[.string S,.int .i64 n],.int .i64 0]) ?_ rfl ?_;·simp[results,results66,go_sem,q0,q1]
   ·refine⟨?_,(hu.out.setCell (p:=⟨w.heap.size,0,none⟩) (ag _) _).setCell (p:=⟨w.heap.size,1,none⟩) (ag _) _⟩;rw[HN.out,HS.out];rfl
def MT:Option (List UInt8×Nat)->List UInt8×Nat×Nat
 | none=>([],0,10)
 | some (out,q)=>if out= []then([],0,60)else(out,q,0)
theorem Hv(L:List Nat)(p:Nat)(h:p+16<=L.length):gE L p=MT (goT L (fun i=>L.getD (p+i) 0) (List.range 16) (p+16) []):=by unfold gE;rw[Nd,Nd];rcases goT L (fun i=>L.getD (p+i) 0) (List.range 16) (p+16) []with _|⟨o,q⟩ <;>rfl
def aN(l:List Nat)(p:Int):List UInt8×Nat×Nat:=if p<0 then([],0,2)else gE l p.toNat
def lc(w:World)(ans:List UInt8×Nat×Nat)(e:Ending)(w':World):Prop:=e=.returned (.tuple #[.string (eP ans.1),.int .i64 ans.2.1,.int .i64 ans.2.2])/\Below w.heap.size w w'
