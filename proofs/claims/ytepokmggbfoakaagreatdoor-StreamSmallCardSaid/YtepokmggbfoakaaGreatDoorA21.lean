import Derived.Test.YtepokmggbfoakaaGreatDoorA20
import Derived.Lib.AppendZeros
import Derived.Lib.AppendZerosOnto
set_option maxHeartbeats 3200000
set_option maxRecDepth 100000
namespace Go.Proofs.YtepokmggbfoakaaGreatDoor.S07
open Go.RowKit
def xK(k:Int):List Nat×Nat:=if k<0∨2147483647<k then([],2)else(dig k.toNat,0)
def mc(n:Int)(L:List Int):List Nat×Nat:=if n<1∨256<n then([],2)else if ∀x∈L,0≤x∧x<n then(fG n.toNat 0 (L.map Int.toNat),0)else([],60)
def eQ(n most:Int)(L:List Int):List Nat×Nat:=if n<1∨256<n∨most<0∨262144<most then([],2)else eu n.toNat most.toNat L [] 1 false
def dP(w:World)(ans:List Nat×Nat)(e:Ending)(w':World):Prop:=∃v,e=.returned (.tuple #[v,.int .i64 ans.2])∧w'.ownsRow w.heap.size 3 1 v ans.1.length (ans.1.map iv)∧Below w.heap.size w w'
theorem zt(n r:Nat)(l:List Nat):fG n r (0 :: l)=fG n (r+1) l:=by rw[fG,LX rfl]
theorem zo(n r x:Nat)(l:List Nat)(h:x≠0):fG n r (x :: l)=dig r++(x+1) :: fG n 0 l:=by rw[fG,LW h]
theorem fw(L:List Int)(q:Nat)(h:q<L.length):L.take (q+1)=L.take q++ [L.getD q 0]:=by rw[Mn h,LU,LV h];rfl
theorem uL(L:List Int)(q:Nat)(h:q<L.length):(L.map Int.toNat).drop q=(L.getD q 0).toNat :: (L.map Int.toNat).drop (q+1):=by have h1:q<(L.map Int.toNat).length:=(by rw[Mi];exact h);rw[MA h1,Qc,LU,LV h];rfl
theorem uE(m:Nat):(Builtin.zeroCells (Value.int .i64 0).cells m).toList=List.replicate m (.int .i64 0):=by
 apply ML;intro j;by_cases hj:j<m;·simp[Builtin.zeroCells,hj,Nat.mod_one,Value.cells]
 ·simp[Builtin.zeroCells,hj,Value.cells]
theorem qg{P:Program}(w:World)(t tn ty e:TypeId)(i:TypeInfo)(kq kn:IntKind)(ht:P.underlying t=some (.slice e))(h8:P.underlying tn=some (.int kn))(hi:P.info? e=some i)(hz:i.zero=some (.int .i64 0))(hs:i.size=1)(h5:i.bytes=8)
 (g sLen sCap:Nat) (cur:Array Value) (hg:w.heap[g]? =some (.cells cur e (0,0)))
 (k:Nat) (h0:0<k) (hk:k≤1000000000) (h1:sLen+k≤sCap) (h6:sLen+k≤cur.size):
 (Builtin.append_ #[t,tn] ty #[.slice (some ⟨g,0,none⟩) sLen sCap,.int kq k]).run P w=
   .ok (.slice (some ⟨g,0,none⟩) (sLen+k) sCap) (w.setRow g (cur.toList.take sLen++List.replicate k (Value.int .i64 0)++cur.toList.drop (sLen+k)).toArray):=by have h7:k≠0:=(by omega);have hw:IntKind.i64.wrap (k:Int)=k:=(by rw[MV];omega);have h2:¬(281474976710656<(k:Int)*8):=(by omega);have h3:¬((k:Int)<0):=(by omega);have h4:=run_storeCells_at P g sLen e (List.replicate k (Value.int .i64 0)) 0 cur w hg (by simp;omega) (by intro u hu;rw[PE hu];rfl);simp only[MM,Mo]at h4;simp[Builtin.append_,OE ht,OE h8,sizeOf,typeInfo,zeroValue,hi,hz,hs,h5,asInt,asIntOf,hw,h1,h3,h7,h2,NX,uE,h4]
theorem rq{P:Program}(w:World)(base:Nat)(t tn ty e:TypeId)(i:TypeInfo)(kq kn:IntKind)(ht:P.underlying t=some (.slice e))(hb:P.underlying tn=some (.int kn))(hi:P.info? e=some i)(hz:i.zero=some (.int .i64 0))(hs:i.size=1)(h8:i.bytes=8)
 (v:Value) (n:Nat) (xs:List Value) (h1:w.ownsRow base e 1 v n xs) (k:Nat) (h0:0<k) (hk:k≤1000000000) (hn:n≤1000000000) (h6:base≤w.heap.size):
 ∃v' w',(Builtin.append_ #[t,tn] ty #[v,.int kq k]).run P w=.ok v' w'∧w'.ownsRow base e 1 v' (n+k) (xs++List.replicate k (Value.int .i64 0))∧w.grownBy w' v.ownBlock∧(v'.ownBlock=v.ownBlock∨v'.ownBlock=some w.heap.size):=by
 have h2:(xs++List.replicate k (Value.int .i64 0)).length=(n+k)*1:=by rw[LR,h1.1,Mo];omega
 have grown:∀(old:Nat),old<n+k→∀(row:Option Nat),
  (w.drew.alloc (.cells (xs.toArray++Builtin.zeroCells (Value.int .i64 0).cells k++Builtin.zeroCells (Value.int .i64 0).cells (grownCap w (n+k) old e - (n+k))) e)).ownsRow base e 1
    (.slice (some ⟨w.heap.size,0,none⟩) (n+k) (grownCap w (n+k) old e)) (n+k) (xs++List.replicate k (Value.int .i64 0))∧
  w.grownBy (w.drew.alloc (.cells (xs.toArray++Builtin.zeroCells (Value.int .i64 0).cells k++Builtin.zeroCells (Value.int .i64 0).cells (grownCap w (n+k) old e - (n+k))) e)) row:=by
  intro old ho row
  have hf:=grownCap_ge w (n+k) old e
  have h9:grownCap w (n+k) old e≤maxLen:=grownCap_le_maxLen w (n+k) old e (by unfold maxLen;omega)
  have hh:xs.length=n:=by rw[h1.1,MR]
  refine⟨⟨h2,.inr ⟨w.heap.size,_,_,rfl,h6,_root_.Go.heap_alloc_new w.drew _,hf,h9,?_,?_⟩⟩,⟨rfl,rfl,rfl,by simp,fun q hq _=>_root_.Go.heap_alloc_old w.drew _ hq⟩⟩
  ·simp only[Array.size_append,OU,size_zeroCells,Value.cells,hh]
   simp
   omega
  ·simp only[Qt,LZ,uE]
   rw[← LZ,←h2]
   exact List.take_left
 rcases h1.2 with⟨rfl,rfl⟩ | ⟨g,cap,cur,rfl,hc,hg,hj,h9,he,h4⟩;·have hx:xs= []:=Mg (by simpa using h1.1);subst hx;have hr:=Lib.run_append_nil_zeros (P:=P) w t tn ty e i (.int .i64 0) kq kn ht hb hi hz k h0 (by omega) (by omega) (by rw[h8];omega);have h5:=grown 0 (by omega) (Value.ownBlock (.slice none 0 0));simp only[MG,Mz,Array.empty_append]at h5 ⊢;exact⟨_,_,hr,h5.1,h5.2,Or.inr rfl⟩
 ·rw[MR]at he;by_cases h3:n+k≤cap
  ·have hr:=qg (P:=P) w t tn ty e i kq kn ht hb hi hz hs h8 g n cap cur hg k h0 hk h3 (by omega);refine⟨_,_,hr,⟨h2,.inr ⟨g,cap,_,rfl,hc,_root_.Go.setRow_heap w g cur _ e _ hg,h3,h9,?_,?_⟩⟩,⟨rfl,rfl,rfl,by simp,fun q _ hq=>_root_.Go.setRow_other w g q _ (fun e=>hq (by simp[Value.ownBlock,e]))⟩,Or.inl rfl⟩;·simp only[OU,LR,Mj,Mc,Qu,Mo];omega
   ·rw[MR]at h4;rw[h4,←h2];exact List.take_left
  ·have h7:∀j u,xs[j]? =some u→w.cell? ((⟨g,0,none⟩:Addr).add j)=some u:=h1.cells (g:=g) rfl;have ha:=run_firstCells_some (P:=P) w.drew i.size n ⟨g,0,none⟩ n cap xs (by rw[h1.1,hs]) (by simpa using h7);have hr:=Lib.run_append_grow_zeros (P:=P) w t tn ty e i (.int .i64 0) kq kn ht hb hi hz (some ⟨g,0,none⟩) n cap xs ha k h0 (by omega) (by omega) (by omega) (by rw[h8];omega) (by rw[h8];exact growslice_fits (by omega) (by omega));have h5:=grown cap (by omega) (Value.ownBlock (.slice (some ⟨g,0,none⟩) n cap));exact⟨_,_,hr,h5.1,h5.2,Or.inr rfl⟩
theorem oB(n most:Nat)(s:Int)(l:List Int)(o:List Nat)(wo:Nat)(ended:Bool):eu n most (s :: l) o wo ended=
 if s<0∨(n:Int)+1<s then([],60)
 else if ended then([],70)
 else if s=(n:Int)+1 then eu n most l o wo true
 else if 1<s then(if most≤o.length then([],3)else eu n most l (o++ [s.toNat - 1]) 1 false)
 else if most<o.length+(s.toNat+1)*wo then([],3)else eu n most l (o++List.replicate ((s.toNat+1)*wo) 0) (wo*2) false:=rfl
theorem uS(k:Int):(xK k).1.length≤31:=by
 unfold xK;split;·exact LY _
 ·have h:=(sO k.toNat).1;show(dig k.toNat).length≤31;rcases MF (dig k.toNat).length 32 with h1 | h1;·omega
  ·have h2:2 ^ 32≤2 ^ (dig k.toNat).length:=MW (by decide) h1;omega
end Go.Proofs.YtepokmggbfoakaaGreatDoor.S07
