import Derived.Test.YtepokmggbfoakaaGreatDoorT08
import Derived.Laws.Concat
import Derived.Lib.AppendZeros
set_option maxHeartbeats 3200000
set_option maxRecDepth 100000
namespace Go.Proofs.YtepokmggbfoakaaGreatDoor.S06
open _root_.Go.Proofs.Tryz
def yS:List UInt8:=(List.range 256).map UInt8.ofNat
def ofL(s:List UInt8):List UInt8:=yS.filter fun b=>decide (b∈s)
theorem Iu(b:UInt8):b∈yS:=List.mem_map.2 ⟨b.toNat,List.mem_range.2 (Pr b),QC⟩
theorem yT:yS.Pairwise (· < ·):=by unfold yS;rw[PJ];refine OQ ?_ Ry;intro a b ha hb h0;have ha:=List.mem_range.1 ha;have hb:=List.mem_range.1 hb;rw[PQ,Ot,Ot,NJ ha,NJ hb];exact h0
theorem nd(s:List UInt8)(b:UInt8):b∈ofL s↔b∈s:=by unfold ofL;rw[List.mem_filter];exact⟨fun h=>of_decide_eq_true h.2,fun h=>⟨Iu b,No h⟩⟩
theorem ic(s:List UInt8):(ofL s).Pairwise (· < ·):=yT.filter _
theorem od:∀{a b:List UInt8},a.Pairwise (· < ·)->b.Pairwise (· < ·)->(∀ x,x∈a↔x∈b)->a=b:=by intro a b ha hb h;have h0:a.Nodup:=List.nodup_iff_pairwise_ne.2 (ha.imp fun {x y} h e=>by subst e;exact RV _ h);have h3:b.Nodup:=List.nodup_iff_pairwise_ne.2 (hb.imp fun {x y} h e=>by subst e;exact RV _ h);refine List.Perm.eq_of_pairwise (le:=(· < ·)) (fun x y _ _ h1 h2=>absurd (UInt8.lt_trans h1 h2) (RV _)) ha hb ?_;exact(Pp h0 h3).2 h
theorem uk{a:List UInt8}(h:a.Pairwise (· < ·)):ofL a=a:=od (ic a) h (nd a)
theorem Gz(s:List UInt8):ofL (ofL s)=ofL s:=uk (ic s)
def fE(a:List UInt8):Prop:=a≠ []/\ofL a=a
instance (a:List UInt8):Decidable (fE a):=inferInstanceAs (Decidable (_/\_))
theorem JJ(a:List UInt8):fE a↔a≠ []/\a.Pairwise (· < ·):=
 ⟨fun h=>⟨h.1,by rw[<- h.2];exact ic a⟩,fun h=>⟨h.1,uk h.2⟩⟩
theorem sg(s:List UInt8)(h:s≠ []):fE (ofL s):=by refine⟨fun e=> ?_,Gz s⟩;obtain⟨x,hx⟩:=List.exists_mem_of_ne_nil _ h;have:=(nd s x).2 hx;rw[e]at this;exact absurd this ar
def df(list:List UInt8)(at_:Nat):List UInt8:=list.getD at_ 0::(list.take at_++list.drop (at_+1))
theorem dS(list:List UInt8)(p:Nat)(h:p<list.length):(df list p).length=list.length:=by unfold df;rw[Nv,Nc,Nz,Nq];omega
theorem Ib(list:List UInt8)(p:Nat)(h:p<list.length)(x:UInt8):x∈df list p↔x∈list:=by
 have e:list=list.take p++list.getD p 0::list.drop (p+1):=by rw[Nb,Nd h];show list=list.take p++list[p]::list.drop (p+1);rw[<- NP h,OF]
 unfold df;conv=>rhs;rw[e]
 rw[PF,List.mem_append,List.mem_append,PF];constructor
 ·rintro(h|h|h);·exact .inr (.inl h)
  ·exact .inl h
  ·exact .inr (.inr h)
 ·rintro(h|h|h);·exact .inr (.inl h)
  ·exact .inl h
  ·exact .inr (.inr h)
def dw:List UInt8->List UInt8->Option (List Nat)
 | [],_=>some []
 | b::s,list=>if b∈list then(dw s (df list (list.idxOf b))).map (list.idxOf b :: ·)else none
def cK:List Int->List UInt8->Option (List UInt8)
 | [],_=>some []
 | x::l,list=>if 0<=x/\x<list.length then(cK l (df list x.toNat)).map (list.getD x.toNat 0 :: ·)else none
theorem Lw(list:List UInt8)(b:UInt8)(h:b∈list):list.getD (list.idxOf b) 0=b:=by have h1:=Pj h;rw[Nb,Nd h1];exact List.getElem_idxOf h1
theorem tK:∀(s list:List UInt8),(∀ x∈s,x∈list)->∃l,dw s list=some l/\l.length=s.length
 | [],list,_=>⟨[],rfl,rfl⟩
 | b::s,list,h=>by have hb:=h b Nl;have h1:=Pj hb;obtain⟨l,h2,h3⟩:=tK s (df list (list.idxOf b)) fun x hx=>(Ib list _ h1 x).2 (h x (Nu _ hx));refine⟨list.idxOf b::l,?_,by rw[Nv,Nv,h3]⟩;rw[dw,Ng hb,h2];rfl
theorem sM:∀(s list:List UInt8) (l:List Nat),dw s list=some l->cK (l.map fun(x:Nat)=>(x:Int)) list=some s
 | [],list,l,h=>by simp only[dw,On]at h;subst h;rfl
 | b::s,list,l,h=>by
  rw[dw]at h;by_cases hb:b∈list
  ·rw[Ng hb]at h;have h1:=Pj hb;rcases hf:dw s (df list (list.idxOf b))with _|l2;·rw[hf]at h;simp at h
   ·rw[hf]at h;simp only[Oy,On]at h;subst h;have ih:=sM s _ l2 hf;rw[OB,cK,Ng ⟨by omega,by omega⟩,Nn,ih,Lw list b hb];rfl
  ·rw[Nf hb]at h;simp at h
def xF(a:List UInt8)(b:Nat):Nat:=if UInt8.ofNat b∈a then 1 else 0
def kz(a:List UInt8)(i:Nat):Nat:=if a.any (fun x=>x.toNat/16==i)then 1 else 0
def bA(a:List UInt8)(i:Nat):List Nat:=if kz a i=1 then(List.range 16).map fun k=>xF a (16*i+k)else []
def dZ(a:List UInt8):List Nat:=(List.range 16).map (kz a)++(List.range 16).flatMap (bA a)
def dR(l:List Nat)(p i:Nat):List UInt8:=((List.range 16).filter fun k=>l.getD (p+k) 0==1).map fun k=>UInt8.ofNat (16*i+k)
def goT(l:List Nat)(fl:Nat->Nat):List Nat->Nat->List UInt8->Option (List UInt8×Nat)
 | [],p,out=>some (out,p)
 | i::is,p,out=>if fl i=0 then goT l fl is p out else if l.length<p+16 then none else goT l fl is (p+16) (out++dR l p i)
def dQ(l:List Nat)(p:Nat):List UInt8×Nat×Nat:=
 if l.length<p then([],0,2)else if l.length<p+16 then([],0,10)else
  match goT l (fun i=>l.getD (p+i) 0) (List.range 16) (p+16) []with
  | none=>([],0,10)
  | some (out,q)=>if out= []then([],0,60)else(out,q,0)
theorem lG(a:List UInt8)(i:Nat):kz a i=0\/kz a i=1:=by
 unfold kz;split;·exact .inr rfl
 ·exact .inl rfl
theorem jG(a:List UInt8)(i:Nat):(bA a i).length=16*kz a i:=by unfold bA;rcases lG a i with h|h <;>rw[h] <;>simp
theorem j9(a:List UInt8):∃r,r<=16/\(dZ a).length=16+16*r:=by
 have h:∀n,∃r,r<=n/\((List.range n).flatMap (bA a)).length=16*r:=by
  intro n
  induction n with
  | zero=>exact⟨0,Nm _,rfl⟩
  | succ n ih=>
   obtain⟨r,h1,h2⟩:=ih;rw[Oi,OO,Nc,h2];simp only[N9,List.flatMap_nil,NR,jG];rcases lG a n with h|h;·exact⟨r,by omega,by rw[h];omega⟩
   ·exact⟨r+1,by omega,by rw[h];omega⟩
 obtain⟨r,h1,h2⟩:=h 16;refine⟨r,h1,?_⟩;unfold dZ;rw[Nc,h2,NC,NK]
def o9(a:List UInt8)(i:Nat):List UInt8:=((List.range 16).filter fun k=>xF a (16*i+k)==1).map fun k=>UInt8.ofNat (16*i+k)
theorem Da(a:List UInt8)(i:Nat)(hi:i<16)(h:kz a i=0):o9 a i= []:=by
 unfold o9;rw[List.map_eq_nil_iff,List.filter_eq_nil_iff];intro k hk;have hk:=List.mem_range.1 hk;unfold xF;split
 ·rename_i hm;exfalso;unfold kz at h;rw[Ng]at h;·simp at h
  ·rw[List.any_eq_true];refine⟨_,hm,?_⟩;rw[Ot,NJ (by omega),show(16*i+k)/16=i by omega];simp
 ·simp
theorem DT(x y:List Nat)(a:List UInt8)(i:Nat):dR (x++((List.range 16).map fun k=>xF a (16*i+k))++y) x.length i=o9 a i:=by unfold dR o9;congr 1;refine Rz fun k hk=> ?_;have hk:=List.mem_range.1 hk;rw[Nb,Ni,NU (by omega),O5,NT (by simpa using hk),Np,NN hk];rfl
theorem tP(a:List UInt8)(fl:Nat->Nat):∀(is:List Nat) (x y:List Nat) (out:List UInt8),(∀ i∈is,fl i=kz a i/\i<16)->
 goT (x++is.flatMap (bA a)++y) fl is x.length out=some (out++is.flatMap (o9 a),x.length+(is.flatMap (bA a)).length)
 | [],x,y,out,_=>by simp[goT]
 | i::is,x,y,out,h=>by
  have hi:=h i Nl;have hr:=fun j hj=>h j (Nu i hj);rw[goT,hi.1];rcases lG a i with h0|h0;·have e:bA a i= []:=(by unfold bA;rw[Nf (by omega)]);rw[Ng h0];simp only[N9,e,NX,Da a i hi.2 h0];exact tP a fl is x y out hr
  ·have e:bA a i=(List.range 16).map fun k=>xF a (16*i+k):=(by unfold bA;rw[Ng h0]);have el:(bA a i).length=16:=(by rw[jG,h0]);rw[Nf (by omega),Nf (by simp only[N9,Nc,el];omega)];have e2:x++(i::is).flatMap (bA a)++y=(x++bA a i)++is.flatMap (bA a)++y:=(by simp only[N9,Ni]);have e3:dR (x++(i::is).flatMap (bA a)++y) x.length i=o9 a i:=(by have:=DT x (is.flatMap (bA a)++y) a i;rw[<- e]at this;rw[<- this];simp only[N9,Ni]);rw[e3,e2];have ih:=tP a fl is (x++bA a i) y (out++o9 a i) hr;rw[Nc,el]at ih;rw[ih];simp only[N9,Ni,Nc,el,On,Pv,true_and];omega
theorem Kk(a:List UInt8):(List.range 16).flatMap (o9 a)=ofL a:=by
 refine od ?_ (ic a) fun x=> ?_
 ·rw[List.pairwise_flatMap];refine⟨fun i hi=> ?_,?_⟩;·have hi:=List.mem_range.1 hi;unfold o9;rw[PJ];refine OQ ?_ (List.pairwise_lt_range.filter _);intro p q hp hq h1;have hp:=List.mem_range.1 (List.mem_filter.1 hp).1;have hq:=List.mem_range.1 (List.mem_filter.1 hq).1;rw[PQ,Ot,Ot,NJ (by omega),NJ (by omega)];omega
  ·refine OQ ?_ Ry;intro i j hi hj h0 x hx y hy;have hi:=List.mem_range.1 hi;have hj:=List.mem_range.1 hj;obtain⟨p,hp,rfl⟩:=List.mem_map.1 hx;obtain⟨q,hq,rfl⟩:=List.mem_map.1 hy;have hp:=List.mem_range.1 (List.mem_filter.1 hp).1;have hq:=List.mem_range.1 (List.mem_filter.1 hq).1;rw[PQ,Ot,Ot,NJ (by omega),NJ (by omega)];omega
 ·rw[List.mem_flatMap,nd];constructor
  ·rintro⟨i,_,hx⟩;obtain⟨k,hk,rfl⟩:=List.mem_map.1 hx;have:=(List.mem_filter.1 hk).2;unfold xF at this;split at this;·assumption
   ·simp at this
  ·intro hx;have hb:=Pr x;have e:16*(x.toNat/16)+x.toNat%16=x.toNat:=(by omega);have e2:UInt8.ofNat (16*(x.toNat/16)+x.toNat%16)=x:=(by rw[e,QC]);refine⟨x.toNat/16,List.mem_range.2 (by omega),List.mem_map.2 ⟨x.toNat%16,List.mem_filter.2 ⟨List.mem_range.2 (by omega),?_⟩,e2⟩⟩;unfold xF;rw[e2,Ng hx];rfl
theorem qL(a:List UInt8)(h:fE a)(x y:List Nat):dQ (x++dZ a++y) x.length=(a,x.length+(dZ a).length,0):=by obtain⟨r,hr,hl⟩:=j9 a;have h0:∀i∈List.range 16,(x++dZ a++y).getD (x.length+i) 0=kz a i/\i<16:=(by intro i hi;have hi:=List.mem_range.1 hi;refine⟨?_,hi⟩;rw[Nb,Ni,NU (by omega),O5,NT (by omega)];unfold dZ;rw[NT (by simpa using hi),Np,NN hi];rfl);have hg:=tP a (fun i=>(x++dZ a++y).getD (x.length+i) 0) (List.range 16) (x++(List.range 16).map (kz a)) y [] h0;have e:x++(List.range 16).map (kz a)++(List.range 16).flatMap (bA a)++y=x++dZ a++y:=(by unfold dZ;simp only[Ni]);rw[e,Nc,NC,NK,Kk,h.2,NX]at hg;unfold dQ;rw[Nf (by simp only[Nc];omega),Nf (by simp only[Nc];omega),hg];simp only[h.1,RK];have:(dZ a).length=16+((List.range 16).flatMap (bA a)).length:=(by unfold dZ;rw[Nc,NC,NK]);rw[this,OL]
open Go.RowKit
def bq(l:List UInt8):ByteArray:=⟨l.toArray⟩
theorem qI(l:List UInt8):(bq l).size=l.length:=rfl
theorem fz(s:ByteArray)(i:Nat)(h:i<s.size):s.data.toList.getD i 0=s[i]:=by rw[Nb,Nd (by simpa using h)];rfl
theorem kZ(s:ByteArray)(h:0<s.size):s.toList.isEmpty=false:=by
 rw[Pi];have h0:s.data.toList.length=s.size:=rfl
 cases hd:s.data.toList with
 | nil=>rw[hd]at h0;simp at h0;omega
 | cons a l=>rfl
theorem Jt:∀(l:List UInt8) (b:UInt8) (q:Nat),q<l.length->(∀ j,j<q->l.getD j 0≠b)->l.getD q 0=b->l.idxOf b=q
 | [],_,_,h,_,_=>by simp at h
 | x::l,b,0,_,_,h=>by rw[RY]at h;subst h;simp
 | x::l,b,q+1,hl,hlow,h=>by have h0:=hlow 0 (Nat.succ_pos q);rw[RY]at h0;rw[List.idxOf_cons];have e2:(x==b)=false:=(by simpa using h0);rw[e2];simp only[Nv]at hl;rw[Qd]at h;have:=Jt l b q (by omega) (fun j hj=>by have:=hlow (j+1) (by omega);rwa [Qd]at this) h;simp[this]
theorem Ah:∀(l:List UInt8) (b:UInt8),(∀ j,j<l.length->l.getD j 0≠b)->l.idxOf b=l.length
 | [],_,_=>rfl
 | x::l,b,hlow=>by have h0:=hlow 0 (by simp);rw[RY]at h0;rw[List.idxOf_cons];have e2:(x==b)=false:=(by simpa using h0);rw[e2];have:=Ah l b (fun j hj=>by have:=hlow (j+1) (by simp;omega);rwa [Qd]at this);simp[this]
theorem GL(w:World)(s:ByteArray)(b:UInt8)(hs:s.size<=1000000):Calls prog 112 #[.string s,.int .u8 b.toNat] w fun e w'=>e=.returned (.int .i64 (s.data.toList.idxOf b:Nat))/\w=w':=by
 have h5:=aa (show s.data.toList.length=s.size from rfl);go_enter func112,ntmps112;go_wp2_with fail;go_loop [5] (fun x=>∃q:Nat,q<=s.size/\x=.int .i64 q/\∀j,j<q->s.data.toList.getD j 0≠b) (fun x=>s.size-(intOf x).toNat)
 case atStart=>exact⟨0,Nh _,rfl,fun j h=>by omega⟩
 case round=>
  obtain⟨q,hq,rfl,h0⟩:=hrel;have h4:=aa h0;by_cases e:q<s.size
  ·have h2:=fz s q e;by_cases e1:s[q]=b;·have q1:((s[q].toNat:Int)==(b.toNat:Int))=true:=(by rw[e1];simp);have h1:=Jt s.data.toList b q (by rw[h5.out];exact e) h0 (h2.trans e1);have h3:=aa h1;clear h0 h2 e1 h1;go_wp2_with fail;go_ret;rw[h3.out];exact⟨rfl,rfl⟩
   ·have q1:((s[q].toNat:Int)==(b.toNat:Int))=false:=(by simp only[NA,Sh];exact fun h=>e1 (UInt8.toNat_inj.1 (by omega)));have HE:=aa (show s.data.toList.getD q 0≠b by rw[h2];exact e1);clear h0 h2 e1;go_wp2_with fail;go_round;case rel=>
     refine⟨q+1,by omega,by go_num,fun j hj=> ?_⟩;by_cases h:j=q;·rw[h];exact HE.out
     ·exact h4.out j (by omega)
    case measure=>simp[intOf];omega
  ·obtain rfl:q=s.size:=(by omega);have h1:=Ah s.data.toList b (fun j hj=>h0 j (by rw[h5.out]at hj;exact hj));have h3:=aa h1;clear h0 h1;go_wp2_with fail;go_ret;rw[h3.out,h5.out];exact⟨rfl,rfl⟩
theorem D2(s:ByteArray)(p:Nat)(hp:p<s.size):s.extract p (p+1)++s.extract 0 p++s.extract (p+1) s.size=bq (df s.data.toList p):=by apply QN;apply Array.ext';show(s.extract p (p+1)++s.extract 0 p++s.extract (p+1) s.size).data.toList=df s.data.toList p;have h0:p<s.data.toList.length:=hp;rw[QQ,QQ,Pu,Pu,Qg,Qg,Qg,QB,QB,QB,PP,PP,PP,Q2,Qf,show p+1-p=1 by omega,df];have h1:(s.data.toList.drop p).take 1= [s.data.toList.getD p 0]:=(by rw[NP h0,Nb,Nd h0];rfl);have h2:(s.data.toList.drop (p+1)).take (s.size-(p+1))=s.data.toList.drop (p+1):=(by refine Nt ?_;rw[Nq];exact Nm _);rw[h1,h2];simp
theorem D0(w:World)(s:ByteArray)(p:Nat)(hp:p<s.size)(hs:s.size<=1000000):Calls prog 114 #[.string s,.int .i64 p] w fun e w'=>e=.returned (.string (bq (df s.data.toList p)))/\∃m,w'=w.drewN m:=by have hx:=D2 s p hp;have h1:(s.extract p (p+1)).size=1:=(by rw[Oo];omega);have h2:(s.extract 0 p).size=p:=(by rw[Oo];omega);have h3:(s.extract (p+1) s.size).size=s.size-(p+1):=(by rw[Oo];omega);have h0:∀w9:World,(Op.stringOp .add (s.extract p (p+1)) (s.extract 0 p)).run prog w9=.ok (.string (s.extract p (p+1)++s.extract 0 p)) w9:=fun w9=>Rl w9 _ _ (by omega);have h4:∀w9:World,(Op.stringOp .add (s.extract p (p+1)++s.extract 0 p) (s.extract (p+1) s.size)).run prog w9=.ok (.string (bq (df s.data.toList p))) w9:=fun w9=>(Rl w9 _ _ (by rw[ByteArray.size_append];omega)).trans (by rw[hx]);have h5:(0:Int)<=(p:Int):=(by omega);have h6:(p:Int)<=(p:Int)+1:=(by omega);have h7:(p:Int)+1<=(s.size:Int):=(by omega);have h8:(p:Int)<=(s.size:Int):=(by omega);have h9:(0:Int)<=(p:Int)+1:=(by omega);have ha:IntKind.i64.wrap ((p:Int)+1)=(p:Int)+1:=(by rw[Oe];omega);clear hx h1 h2 h3;generalize bq (df s.data.toList p)=t at*;go_enter func114,ntmps114;go_wp2_with fail;go_region;go_wp2_with fail;go_ret;exact⟨rfl,1,rfl⟩
def Db(s:List UInt8)(b:Nat):List UInt8:=((List.range b).map UInt8.ofNat).filter fun x=>decide (x∈s)
theorem GA(s:List UInt8)(b:Nat):Db s (b+1)=Db s b++if UInt8.ofNat b∈s then [UInt8.ofNat b]else []:=by unfold Db;rw[Oi,NF,PX];congr 1;simp only[OB,Qx,RF,RU,Qa]
theorem AD(s:List UInt8)(b:Nat):(Db s b).length<=b:=by unfold Db;refine NH (Qu _ _) ?_;rw[NC,NK];exact Nm _
theorem zC(w1:World)(v:Int):(convert 39 9 (.slice (some ⟨w1.heap.size,0,none⟩) 1 1)).run prog (w1.alloc (.cells #[.int .u8 v] 5))=.ok (.string ⟨#[UInt8.ofNat v.toNat]⟩) (w1.alloc (.cells #[.int .u8 v] 5)):=by refine run_convert_bytes_arg (P:=prog) (w1.alloc (.cells #[.int .u8 v] 5)) 39 5 underlying39 underlying5 w1.heap.size 0 1 1 [v] rfl (fun i hi=> ?_) 9 underlying9;obtain rfl:i=0:=(by omega);rw[World.cell?_alloc_new];rfl
theorem tZ(s:List UInt8)(b:UInt8):s.idxOf b<s.length↔b∈s:=List.idxOf_lt_length_iff
theorem Kl(w:World)(s:ByteArray)(hs:s.size<=1000000):Calls prog 64 #[.string s] w fun e w'=>e=.returned (.string (bq (ofL s.data.toList)))/\Below w.heap.size w w':=by
 have hc:=aa (show s.data.toList.length=s.size from rfl);have HN:=aa (GA s.data.toList);have h9:=aa (AD s.data.toList);go_enter func64,ntmps64;go_wp2_with fail;go_loopw [3,4] (fun out x wx=>∃(b:Nat) (t:ByteArray),b<=256/\x=.int .i64 b/\out=.string t/\t.data.toList=Db s.data.toList b/\Below w.heap.size w wx) (fun _ x _=>256-(intOf x).toNat)
 case atStart=>exact⟨0,⟨#[]⟩,by omega,rfl,rfl,rfl,Nj _ _⟩
 case round=>
  obtain⟨b,t,hb,rfl,rfl,ht,h0⟩:=hrel;have HT:=aa ht;have HB:=aa h0;have hz:=h0.size;by_cases e:b<256
  ·have d1:decide ((b:Int)<256)=true:=aX (by omega);have h5:(UInt8.ofNat b).toNat=b:=(by rw[Ot,NJ e]);have h3:=GL wr s (UInt8.ofNat b) hs;rw[h5]at h3;have h2:=HN.out b;have h1:=tZ s.data.toList (UInt8.ofNat b);rw[hc.out]at h1;obtain⟨p,hp⟩:∃p,p=s.data.toList.idxOf (UInt8.ofNat b):=⟨_,rfl⟩;rw[<- hp]at h3 h1;have h7:=aa h3;have hk:IntKind.u8.wrap (b:Int)=(b:Int):=(by show(b:Int)%256=b;omega);by_cases e1:UInt8.ofNat b∈s.data.toList
   ·have hh:p<s.size:=h1.2 e1;rw[Ng e1]at h2;have hg:=zC wr (b:Int);rw[Nn]at hg;obtain⟨t2,h6⟩:∃t2:ByteArray,t2=t++⟨#[UInt8.ofNat b]⟩:=⟨_,rfl⟩;have hi:t.size<=256:=(by show t.data.toList.length<=256;rw[ht];exact NH (h9.out b) (by omega));have hf:∀w9:World,(Op.stringOp .add t ⟨#[UInt8.ofNat b]⟩).run prog w9=.ok (.string t2) w9:=fun w9=>(Rl w9 _ _ (by show t.size+1<=_;omega)).trans (by rw[h6]);have h4:t2.data.toList=Db s.data.toList (b+1):=(by rw[h2,<-ht,h6];show(t++⟨#[UInt8.ofNat b]⟩:ByteArray).data.toList=_;rw[QQ,Pu]);have he:=aa h4;have h8:=aa (h0.alloc hz (.cells #[.int .u8 (b:Int)] 5));clear ht h0 h5 h3 h2 h1 hp e1 h6 hi h4;go_wp2_with fail;refine h7.out.mono ?_;rintro e w1 ⟨rfl,rfl⟩;go_wp2_with fail;go_roundw;case rel=>exact⟨b+1,t2,by omega,by go_num,rfl,he.out,h8.out⟩
    case measure=>simp[intOf];omega
   ·have hh:¬p<s.size:=fun h=>e1 (h1.1 h);rw[Nf e1,NR]at h2;have ha:=aa h2;clear ht h0 h5 h3 h2 h1 hp e1;go_wp2_with fail;refine h7.out.mono ?_;rintro e w1 ⟨rfl,rfl⟩;go_wp2_with fail;go_roundw;case rel=>exact⟨b+1,t,by omega,by go_num,rfl,by rw[ha.out];exact HT.out,HB.out⟩
    case measure=>simp[intOf];omega
  ·obtain rfl:b=256:=(by omega);have hj:t=bq (ofL s.data.toList):=(by apply QN;apply Array.ext';exact ht);subst hj;clear ht h0;go_wp2_with fail;go_ret;exact⟨rfl,HB.out⟩
theorem yb(w:World)(s:ByteArray)(hs:s.size<=1000000):Calls prog 113 #[.string s] w fun e w'=>e=.returned (.bool (decide (fE s.data.toList)))/\Below w.heap.size w w':=by
 by_cases h0:s.size=0;·have hd:s=⟨#[]⟩:=(by apply QN;exact QI h0);subst hd;have e:decide (fE (⟨#[]⟩:ByteArray).data.toList)=false:=Nk (fun h=>h.1 rfl);rw[e];go_enter func113,ntmps113;go_wp2_with fail;go_ret;exact⟨rfl,Nj _ _⟩
 ·have h5:=kZ s (by omega);have h1:s.data.toList≠ []:=fun h=>by have h3:s.data.toList.length=s.size:=rfl;rw[h]at h3;simp at h3;omega
  have HA:=aa (Kl w s hs);have h4:((bq (ofL s.data.toList)).toList==s.toList)=decide (fE s.data.toList):=by
   rw[Pi,Pi];show(ofL s.data.toList==s.data.toList)=_;by_cases h:ofL s.data.toList=s.data.toList;·rw[No ⟨h1,h⟩,h];simp
   ·rw[Nk (fun h2=>h h2.2)];simpa using h
  clear h1;generalize decide (fE s.data.toList)=d at*;go_enter func113,ntmps113;go_wp2_with fail;refine HA.out.mono ?_;rintro e w1 ⟨rfl,hb⟩;have HB:=aa hb;clear hb;go_wp2_with fail;go_ret;exact⟨rfl,HB.out⟩
theorem bn(w:World)(v:Value)(t:TypeId):∀(j:Nat) (u:Value), [v][j]? =some u->(w.alloc (.cells #[v] t)).cell? ((⟨w.heap.size,0,none⟩:Addr).add j)=some u:=by intro j u hu;have hj:j=0:=(by have:=(List.getElem?_eq_some_iff.1 hu).1;simp at this;exact this);subst hj;simp at hu;subst hu;rw[OX,ac (aj w t _)];rfl
def my(s a:List UInt8):List Nat×Nat:=if fE a then(match dw s a with|none=>([],60)|some l=>(l,0))else([],2)
def pG(w:World)(s a:List UInt8)(e:Ending)(w':World):Prop:=∃(v:Value) (L:List Nat) (c:Nat),my s a=(L,c)/\e=.returned (.tuple #[v,.int .i64 c])/\w'.ownsRow w.heap.size 3 1 v L.length (L.map iv)/\Below w.heap.size w w'
theorem FP(s:ByteArray)(q:Nat)(h:q<s.size):s.data.toList.drop q=s[q]::s.data.toList.drop (q+1):=by have hl:q<s.data.toList.length:=h;rw[NP hl];rfl
def ZIn(w:World)(A:Option Addr)(n:Nat)(L:List Int):Prop:=
 L.length=n/\(0<n->∃b off,A=some ⟨b,off,none⟩/\∀i,i<n->w.cell? ⟨b,off+i,none⟩=some (.int .i64 (L.getD i 0)))
theorem ZIn.below{w w':World}{A:Option Addr}{n:Nat}{L:List Int}(h:ZIn w A n L)(hb:Below w.heap.size w w'):ZIn w' A n L:=by refine⟨h.1,fun hn=> ?_⟩;obtain⟨b,off,rfl,hc⟩:=h.2 hn;exact⟨b,off,rfl,fun i hi=>(hb.cell (p:=⟨b,off+i,none⟩) (Nr w _ (hc i hi))).trans (hc i hi)⟩
def cL(l:List Int)(a:List UInt8):List UInt8×Nat:=if fE a then(match cK l a with|none=>([],60)|some t=>(t,0))else([],2)
theorem qA(w:World)(A:Option Addr)(n c:Nat)(L:List Int)(a:ByteArray)(hL:ZIn w A n L)(hn:n<=1000000)(ha:a.size<=1000000):
 Calls prog 82 #[.slice A n c,.string a] w fun e w'=>e=.returned (.tuple #[.string (bq (cL L a.data.toList).1),.int .i64 (cL L a.data.toList).2])/\Below w.heap.size w w':=by
 obtain⟨i5,h5,hW,hY,hZ⟩:=NY Tryz.info5;have HM:=aa (yb w a ha);by_cases hm:fE a.data.toList
 ·have d0:decide (fE a.data.toList)=true:=No hm;rw[d0]at HM;have h3:=aa (show cL L a.data.toList=(match cK L a.data.toList with|none=>([],60)|some t=>(t,0))from Ng hm);have HL:=aa hL;clear d0 hm hL;generalize cL L a.data.toList=ans at*;go_enter func82,ntmps82;go_wp2_with fail;refine HM.out.mono ?_;rintro e w1 ⟨rfl,h6⟩;have hf:=aa h6;have hv:=aa (HL.out.below h6);have he:=h6.size;clear h6;go_wp2_with fail
  go_loopw [6,7,8] (fun out list i wx=>∃(q:Nat) (t:ByteArray) (o:List UInt8),q<=n/\i=.int .i64 q/\list=.string t/\t.size=a.size/\wx.ownsRow w1.heap.size 5 1 out o.length (o.map bv)/\o.length=q/\
   cK L a.data.toList=(cK (L.drop q) t.data.toList).map (o++ ·)/\Below w1.heap.size w1 wx) (fun _ _ i _=>n-(intOf i).toNat)
  case atStart=>exact⟨0,a, [],Nh _,rfl,rfl,rfl,Ns _ _ _ _,rfl,by simp,Nj _ _⟩
  case round=>
   obtain⟨q,t,o,hq,rfl,rfl,hj,h0,h9,hh,hb⟩:=hrel;have H0:=hb.size;obtain⟨A0,c0,rfl,hT,hS,hP⟩:=ak h0;clear hP;unfold maxLen at hS;have hA:=hv.out.1;by_cases e:q<n
   ·obtain⟨b,off,rfl,hc⟩:=hv.out.2 (by omega);have h7:=hc q e;have hB:=Nr w1 _ h7;have hp:L.drop q=L.getD q 0::L.drop (q+1):=(by rw[NP (by omega),Nb,Nd (by omega)];rfl);obtain⟨x,hx⟩:∃x,x=L.getD q 0:=⟨_,rfl⟩;rw[<- hx]at h7 hp;have H1:=(hb.cell (p:=⟨b,off+q,none⟩) hB).trans h7;have hI:=aa h7;rw[h9]at h0 hT |-;have hw:=aa h9;have HB:=aa hb;have ht:=aa hh;have hO:=aa hj;have hs:=aa hp;obtain⟨X,hX⟩:∃X,X=o.map bv:=⟨_,rfl⟩;rw[<- hX]at h0;have HX:=aa hX;have HO:=aa h0;obtain⟨m,hm⟩:∃m,m=a.size:=⟨_,rfl⟩;have hE:t.size=m:=hj.trans hm.symm;clear hX h0 h9 hb hh hj hp hc hx hA h7;by_cases e1:0<=x/\x<m
    ·obtain⟨p,rfl⟩:∃p:Nat,x=p:=⟨x.toNat,by omega⟩;have H2:p<m:=(by omega);have hr:p<t.size:=(by omega);have d2:decide ((p:Int)<0)=false:=aD (by omega);have hV:¬m<=p:=(by omega);have hF:=fun w9:World=>D0 w9 t p hr (by omega);have hz:=fz t p hr;have hD:cK L a.data.toList=(cK (L.drop (q+1)) (df t.data.toList p)).map ((o++ [t[p]])++ ·):=(by rw[ht.out,hs.out,cK,Ng ⟨e1.1,by rw[show t.data.toList.length=m from hE];exact e1.2⟩,Nn,hz,Option.map_map];congr 1;funext l;simp);have htl:(df t.data.toList p).length=t.size:=dS _ p hr;have hy:=aa hF;have hJ:=aa hD;obtain⟨t2,hi⟩:∃t2,t2=bq (df t.data.toList p):=⟨_,rfl⟩;rw[<- hi]at hy;have hN:=aa (show t2.data.toList=df t.data.toList p by rw[hi];rfl);have hl:=aa (show t2.size=a.size by rw[hi,qI,htl,hO.out]);clear e1 hF hD htl hi hz;(go_wp2_with (at_builtin;refine Ob _ rfl _ _ 39 rfl w1.heap.size 5 i5 (.int .u8 0) 1 1 underlying39 h5 hW hY hZ rfl (by decide) _ _ _ rfl (HO.out.alloc _) ⟨wr.heap.size,0,none⟩ 1 1 [.int .u8 (t[p]).toNat] rfl rfl ?c1 ?c2 ?c3 ?c4 ?c5 ?_));case c1=>exact bn _ _ _
     case c2=>intro u hu;simp at hu;subst hu;rfl
     case c3=>unfold maxLen;omega
     case c4=>omega
     case c5=>simp;omega
     intro v4 w4 h4 h2 _;have ho:Below w1.heap.size w1 w4:=(HB.out.alloc H0 _).grown h2 (by simp;omega) (fun k hk=>(HO.out.lt k hk).1);have hQ:=(ho.cell (p:=⟨b,off+q,none⟩) hB).trans hI.out;have hK:=aa h4;have hG:=aa ho;clear h4 h2 ho;go_wp2_with fail;refine(hy.out w4).mono ?_;rintro e w5 ⟨rfl,m5,rfl⟩;have hH:=aa (ay hG.out m5);have hM:=aa (show(w4.drewN m5).ownsRow w1.heap.size 5 1 v4 (q+1) (X++ [.int .u8 (t[p]).toNat])from hK.out);generalize w4.drewN m5=w5 at*;go_wp2_with fail;go_roundw;case rel=>refine⟨q+1,t2,o++ [t[p]],by omega,by go_num,rfl,hl.out,?_,by rw[Nc,hw.out];rfl,by rw[hN.out];exact hJ.out,hH.out⟩;rw[Nc,hw.out,NF,<-HX.out];exact hM.out
     case measure=>simp[intOf];omega
    ·have hC:cK L a.data.toList=none:=(by rw[ht.out,hs.out,cK,Nf (fun h=>e1 ⟨h.1,by have:=h.2;rw[show t.data.toList.length=m from hE]at this;exact this⟩)];rfl);have h1:ans=([],60):=(by rw[h3.out,hC]);subst h1;have hg:=aa (hf.out.trans (HB.out.mono he));clear hC h3;by_cases e2:x<0;·have d2:decide (x<0)=true:=No e2;clear e1;go_wp2_with fail;go_ret2;exact⟨rfl,hg.out⟩
     ·obtain⟨p,rfl⟩:∃p:Nat,x=p:=⟨x.toNat,by omega⟩;have hV:m<=p:=(by omega);have d2:decide ((p:Int)<0)=false:=aD (by omega);clear e1 e2;go_wp2_with fail;go_ret2;exact⟨rfl,hg.out⟩
   ·obtain rfl:q=n:=(by omega);have h8:cK L a.data.toList=some o:=(by rw[hh,NW (by omega)];simp[cK]);have h1:ans=(o,0):=(by rw[h3.out,h8]);have hR:=iz h0;rw[h9]at hR |-;subst h1;have hg:=aa (hf.out.trans (hb.mono he));clear h8 hb h0 hh h9 hj h3 hA;go_wp2_with fail;go_ret2;exact⟨rfl,hg.out⟩
 ·have d0:decide (fE a.data.toList)=false:=Nk hm;rw[d0]at HM;have h1:cL L a.data.toList=([],2):=Nf hm;rw[h1];clear d0 hm h1;go_enter func82,ntmps82;go_wp2_with fail;refine HM.out.mono ?_;rintro e w1 ⟨rfl,h6⟩;have hf:=aa h6;clear h6;go_wp2_with fail;go_ret2;exact⟨rfl,hf.out⟩
theorem sN(a:List UInt8):am (dZ a):=by
 intro b hb;unfold dZ at hb;rcases List.mem_append.1 hb with h|h;·obtain⟨i,_,rfl⟩:=List.mem_map.1 h;have:=lG a i;omega
 ·obtain⟨i,_,h⟩:=List.mem_flatMap.1 h;unfold bA at h;split at h;·obtain⟨k,_,rfl⟩:=List.mem_map.1 h;unfold xF;split <;>omega
  ·exact absurd h ar
def lI(a:List UInt8)(q:Nat):List Nat:=(List.range 16).map (kz a)++(List.range q).flatMap (bA a)
theorem rH(a:List UInt8)(q:Nat):lI a (q+1)=lI a q++bA a q:=by have e:(List.range (q+1)).flatMap (bA a)=(List.range q).flatMap (bA a)++bA a q:=(by rw[Oi,OO];simp);unfold lI;rw[e,Ni]
theorem nF(a:List UInt8):∀q,(lI a q).length<=16+16*q
 | 0=>by simp[lI]
 | q+1=>by rw[rH,Nc,jG];have:=nF a q;rcases lG a q with h|h <;>rw[h] <;>omega
def yN(w:World)(L:List Nat)(c:Nat)(e:Ending)(w':World):Prop:=e=.returned (.tuple #[.agg #[.string ⟨(aF L).toArray⟩,.int .i64 L.length],.int .i64 c])/\Below w.heap.size w w'
def lQ(l:List Nat)(p i k:Nat):List UInt8:=((List.range k).filter fun j=>l.getD (p+j) 0==1).map fun j=>UInt8.ofNat (16*i+j)
theorem Bu(l:List Nat)(p i k:Nat):lQ l p i (k+1)=lQ l p i k++if l.getD (p+k) 0=1 then [UInt8.ofNat (16*i+k)]else []:=by unfold lQ;rw[Oi,PX,NF];congr 1;simp only[RF,RU,O0];split <;>rfl
theorem nH(l:List Nat)(p i k:Nat):(lQ l p i k).length<=k:=by unfold lQ;rw[NC];refine NH (Qu _ _) ?_;rw[NK];exact Nm _
theorem Dm(i:Nat)(h:i<16):(List.range 16).drop i=i::(List.range 16).drop (i+1):=by rw[NP (by rw[NK];exact h),List.getElem_range]
theorem LZ(t:ByteArray)(o:List UInt8)(h:t.data.toList=o):t.toList.isEmpty=decide (o= []):=by rw[Pi,h];cases o <;>simp
def Mz:Option (List UInt8×Nat)->List UInt8×Nat×Nat
 | none=>([],0,10)
 | some (out,q)=>if out= []then([],0,60)else(out,q,0)
theorem xh(L:List Nat)(p:Nat)(h:p+16<=L.length):dQ L p=Mz (goT L (fun i=>L.getD (p+i) 0) (List.range 16) (p+16) []):=by unfold dQ;rw[Nf (by omega),Nf (by omega)];rcases goT L (fun i=>L.getD (p+i) 0) (List.range 16) (p+16) []with _|⟨o,q⟩ <;>rfl
theorem qD(w:World)(A:Option Addr)(n c p:Nat)(L:List Nat)(hL:aw w A n L)(hW:n<=c)(hn:n<=10000000)(hp:p+16<=n):
 Calls prog 78 #[.slice A n c,.int .i64 p] w fun e w'=>e=.returned (.tuple #[.string (bq (dQ L p).1),.int .i64 (dQ L p).2.1,.int .i64 (dQ L p).2.2])/\Below w.heap.size w w':=by
 obtain⟨b,off,rfl,h4⟩:=hL.2 (by omega);have h8:=hL.1;have h0:=xh L p (by omega);have h3:=aa h0;have HC:=aa h4;have hA:=Nr w _ (h4 0 (by omega));have hj:=aa h8;generalize dQ L p=ans at*;have d1:decide ((p:Int)<0)=false:=aD (by omega);have d2:decide ((n:Int)<(p:Int))=false:=aD (by omega);have hP:¬n<p:=by omega
 obtain⟨d,hd⟩:∃d,d=n-p:=⟨_,rfl⟩;have hK:(n:Int)-(p:Int)=(d:Int):=by omega
 have d3:decide ((d:Int)<16)=false:=aD (by omega);have hM:(0:Int)<=(p:Int):=by omega
 have hN:(p:Int)<=(p:Int)+16:=by omega
 have hO:(p:Int)+16<=(c:Int):=by omega
 clear h0 hL h4 h8 hd;go_enter func78,ntmps78;go_wp2_with fail;clear d1 d2 d3 hP hK hM hN hO;obtain⟨p1,hD⟩:∃p1,p1=p+16:=⟨_,rfl⟩;have ha:(p:Int)+16=(p1:Int):=by omega
 rw[ha];rw[<- hD]at h3;have hv:p1<=n:=by omega
 clear hD ha
 go_loopw [1,8,9] (fun at_ out x wx=>∃(i q:Nat) (t:ByteArray) (o:List UInt8),i<=16/\x=.int .i64 i/\at_=.int .i64 q/\out=.string t/\t.data.toList=o/\o.length<=16*i/\q<=n/\
  ans=Mz (goT L (fun j=>L.getD (p+j) 0) ((List.range 16).drop i) q o)/\Below w.heap.size w wx) (fun _ _ x _=>16-(intOf x).toNat)
 case atStart=>exact⟨0,p1,⟨#[]⟩, [],by omega,rfl,rfl,rfl,rfl,by simp,hv,h3.out,Nj _ _⟩
 case round=>
  clear h3;obtain⟨i,q,t,o,hi,rfl,rfl,rfl,ht,ho,hQ,h0,hb⟩:=hrel;have HT:=aa ht;have HO:=aa ho;have h3:=aa h0;have HB:=aa hb;by_cases e:i<16
  ·have d1:decide ((i:Int)<16)=true:=aX (by omega);have hB:=(hb.cell (p:=⟨b,off+(p+i),none⟩) hA).trans (HC.out (p+i) (by omega));rw[<- OL]at hB;rw[Dm i e,goT]at h0;obtain⟨f,hf⟩:∃f,f=L.getD (p+i) 0:=⟨_,rfl⟩;rw[<- hf]at hB h0;by_cases e1:f=0
   ·rw[Ng e1]at h0;have d2:((f:Int)==0)=true:=(by rw[e1];rfl);have hh:=aa h0;clear ht ho h0 hb hf e1;go_wp2_with fail;go_roundw;case rel=>exact⟨i+1,q,t,o,by omega,by go_num,rfl,rfl,HT.out,by have:=HO.out;omega,hQ,hh.out,HB.out⟩
    case measure=>simp[intOf];omega
   ·rw[Nf e1,hj.out]at h0;have d2:((f:Int)==0)=false:=(by simp only[NA,Sh];omega);obtain⟨m,hm⟩:∃m,m=n-q:=⟨_,rfl⟩;have hV:(n:Int)-(q:Int)=(m:Int):=(by omega);by_cases e2:n<q+16;·rw[Ng e2]at h0;have hs:m<16:=(by omega);have d3:decide ((m:Int)<16)=true:=aX (by omega);have h9:ans=([],0,10):=h0;subst h9;clear ht ho h0 hb hf e1 e2 hm h3;go_wp2_with fail;go_ret3;exact⟨rfl,HB.out⟩
    ·rw[Nf e2]at h0;have hs:¬m<16:=(by omega);have d3:decide ((m:Int)<16)=false:=aD (by omega);have hh:=aa h0;have hw:q+16<=n:=(by omega);clear ht ho h0 hb hf e1 e2 hm;go_wp2_with fail;(go_loopw [8,10] (fun out x wx=>∃(k:Nat) (t2:ByteArray),k<=16/\x=.int .i64 k/\out=.string t2/\t2.data.toList=o++lQ L q i k/\Below w.heap.size w wx) (fun _ x _=>16-(intOf x).toNat));case atStart=>exact⟨0,t,by omega,rfl,rfl,by rw[HT.out];simp[lQ],HB.out⟩
     case round=>
      obtain⟨k,t2,hk,rfl,rfl,h6,hb⟩:=hrel;have hT:=hb.size;have hH:=aa h6;have hz:=aa hb;by_cases e3:k<16
      ·have d4:decide ((k:Int)<16)=true:=aX (by omega);have hC:=(hb.cell (p:=⟨b,off+(q+k),none⟩) hA).trans (HC.out (q+k) (by omega));have h5:=Bu L q i k;obtain⟨g,hg⟩:∃g,g=L.getD (q+k) 0:=⟨_,rfl⟩;rw[<- hg]at hC h5;obtain⟨r,hr⟩:∃r,r=q+k:=⟨_,rfl⟩;have hZ:(q:Int)+(k:Int)=(r:Int):=(by omega);have hY:r<n:=(by omega);rw[<- hr]at hC;by_cases e4:g=1
       ·have d5:((g:Int)==1)=true:=(by rw[e4];rfl);rw[Ng e4]at h5;obtain⟨y,hy⟩:∃y,y=16*i+k:=⟨_,rfl⟩;have hE:y<256:=(by omega);obtain⟨u,hu⟩:∃u,u=16*i:=⟨_,rfl⟩;have H0:(16:Int)*(i:Int)=(u:Int):=(by omega);have H2:(u:Int)+(k:Int)=(y:Int):=(by omega);rw[<- hy]at h5;have H1:IntKind.u8.wrap (y:Int)=(y:Int):=(by show(y:Int)%256=y;omega);have hJ:=zC wr (y:Int);rw[Nn]at hJ;obtain⟨t3,hx⟩:∃t3:ByteArray,t3=t2++⟨#[UInt8.ofNat y]⟩:=⟨_,rfl⟩;have hR:t2.size<=300:=(by show t2.data.toList.length<=300;rw[h6,Nc];have h1:=HO.out;have h2:=nH L q i k;omega);have hI:∀w9:World,(Op.stringOp .add t2 ⟨#[UInt8.ofNat y]⟩).run prog w9=.ok (.string t3) w9:=fun w9=>(Rl w9 _ _ (by show t2.size+1<=_;omega)).trans (by rw[hx]);have he:t3.data.toList=o++lQ L q i (k+1):=(by rw[h5,<-Ni,<-h6,hx];show(t2++⟨#[UInt8.ofNat y]⟩:ByteArray).data.toList=_;rw[QQ,Pu]);have hl:=aa he;have hF:=aa (hb.alloc hT (.cells #[.int .u8 (y:Int)] 5));clear h6 hb h5 hg hr e4 hy hu hx hR he;go_wp2_with fail;go_roundw;case rel=>exact⟨k+1,t3,by omega,by go_num,rfl,hl.out,hF.out⟩
        case measure=>simp[intOf];omega
       ·have d5:((g:Int)==1)=false:=(by simp only[NA,Sh];omega);rw[Nf e4,NR]at h5;have hG:=aa h5;clear h6 hb h5 hg hr e4;go_wp2_with fail;go_roundw;case rel=>exact⟨k+1,t2,by omega,by go_num,rfl,by rw[hG.out];exact hH.out,hz.out⟩
        case measure=>simp[intOf];omega
      ·obtain rfl:k=16:=(by omega);have d4:decide ((16:Int)<16)=false:=(by decide);have hc:lQ L q i 16=dR L q i:=rfl;rw[hc]at h6;have hl:=aa h6;have hX:(dR L q i).length<=16:=nH L q i 16;clear h6 hb hc;go_wp2_with fail;go_roundw;case rel=>exact⟨i+1,q+16,t2,o++dR L q i,by omega,by go_num,by go_num,rfl,hl.out,by rw[Nc];have:=HO.out;omega,hw,hh.out,hz.out⟩
       case measure=>simp[intOf];omega
  ·obtain rfl:i=16:=(by omega);have d1:decide ((16:Int)<16)=false:=(by decide);have hq:(List.range 16).drop 16= []:=rfl;rw[hq,goT]at h0;have h7:=LZ t o ht;by_cases e1:o= [];·have h9:ans=([],0,60):=(by rw[h0];show(if o= []then(([]:List UInt8),0,60)else(o,q,0))=_;rw[Ng e1]);rw[No e1]at h7;subst h9;clear h0 h3 ht ho hb hq e1;go_wp2_with fail;go_ret3;exact⟨rfl,HB.out⟩
   ·have h9:ans=(o,q,0):=(by rw[h0];show(if o= []then(([]:List UInt8),0,60)else(o,q,0))=_;rw[Nf e1]);rw[Nk e1]at h7;have hS:t=bq o:=(by apply QN;apply Array.ext';exact ht);subst h9 hS;clear h0 h3 ht ho hb hq e1;go_wp2_with fail;go_ret3;exact⟨rfl,HB.out⟩
def ao(l:List Nat)(p:Int):List UInt8×Nat×Nat:=if p<0 then([],0,2)else dQ l p.toNat
def jl(w:World)(ans:List UInt8×Nat×Nat)(e:Ending)(w':World):Prop:=e=.returned (.tuple #[.string (bq ans.1),.int .i64 ans.2.1,.int .i64 ans.2.2])/\Below w.heap.size w w'
theorem G6(w:World)(A:Option Addr)(n c:Nat)(p:Int)(L:List Nat)(hL:aw w A n L)(h6:n<=c)(hn:n<=10000000)(hp:p<=9223372036854775807):
 Calls prog 78 #[.slice A n c,.int .i64 p] w (jl w (ao L p)):=by
 have h4:=hL.1;by_cases h1:p<0;·have h0:ao L p=([],0,2):=Ng h1;rw[h0];have d1:decide (p<0)=true:=No h1;clear h0 hL h4 hp;go_enter func78,ntmps78;go_wp2_with fail;go_ret3;exact⟨rfl,Nj _ _⟩
 ·obtain⟨q,rfl⟩:∃q:Nat,p=q:=⟨p.toNat,by omega⟩;have h0:ao L (q:Int)=dQ L q:=by unfold ao;rw[Nf h1,Nn]
  rw[h0];by_cases h2:n<q;·have ht:dQ L q=([],0,2):=(by unfold dQ;rw[Ng (by omega)]);rw[ht];have d1:decide ((q:Int)<0)=false:=Nk h1;clear h0 hL h4 hp ht h1;go_enter func78,ntmps78;go_wp2_with fail;go_ret3;exact⟨rfl,Nj _ _⟩
  ·by_cases h3:n<q+16;·have ht:dQ L q=([],0,10):=(by unfold dQ;rw[Nf (by omega),Ng (by omega)]);rw[ht];have d1:decide ((q:Int)<0)=false:=Nk h1;obtain⟨d,hd⟩:∃d,d=n-q:=⟨_,rfl⟩;have h7:(n:Int)-(q:Int)=(d:Int):=(by omega);have h5:d<16:=(by omega);have d3:decide ((d:Int)<16)=true:=aX (by omega);clear h0 hL h4 hp ht h1 hd h3;go_enter func78,ntmps78;go_wp2_with fail;go_ret3;exact⟨rfl,Nj _ _⟩
   ·exact qD w A n c q L hL h6 hn (by omega)
