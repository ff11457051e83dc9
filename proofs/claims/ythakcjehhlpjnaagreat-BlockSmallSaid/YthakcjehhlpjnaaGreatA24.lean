import Derived.Test.YthakcjehhlpjnaaGreatA23
import Derived.Lib.Bytealg
import Derived.Laws.Externs
set_option maxHeartbeats 1600000
set_option maxRecDepth 100000
namespace Go.Proofs.YthakcjehhlpjnaaGreat.S05
open Go.RowKit
theorem oy(w:World)(g n c k i:Nat)(L:List Nat)(h:cF w g L)(hl:L.length=n)(hk:k<n)(hv:L.getD k 0=i)(h0:∀q,q<k→L.getD q 0≠i)(hn:n≤1000000):
 Calls Tryz.prog 48 #[.slice (some ⟨g,0,none⟩) n c,.int .i64 i] w fun e w'=>e=.returned (.int .i64 k)∧w=w':=by
 have HH:=aa h
 have HL:=aa hl
 have HV:=aa hv
 have h1:=aa h0
 clear h hl hv h0
 go_enter Tryz.func48,Tryz.ntmps48
 go_wp2_with fail
 go_loop [8] (fun x=>∃q:Nat,q≤k∧x=.int .i64 q) (fun x=>n - (intOf x).toNat)
 case atStart=>exact⟨0,Nat.zero_le _,rfl⟩
 case round=>
  obtain⟨q,hq,rfl⟩:=hrel
  have hc:=HH.out.cell (i:=q) (by rw[HL.out];omega)
  have d1:decide ((q:Int)<(n:Int))=true:=aC (by omega)
  by_cases e:q=k
  ·subst e
   rw[HV.out]at hc
   have d2:((i:Int)==(i:Int))=true:=beq_self_eq_true _
   go_wp2_with fail
   go_ret
   exact⟨rfl,rfl⟩
  ·have h3:=h1.out q (by omega)
   obtain⟨v,h2⟩:∃v,v=L.getD q 0:=⟨_,rfl⟩
   rw[← h2]at hc h3
   clear h2
   have d2:((i:Int)==(v:Int))=false:=beq_false_of_ne (by omega)
   go_wp2_with fail
   go_round
   case rel=>exact⟨q+1,by omega,by go_num⟩
   case measure=>simp[intOf];omega
theorem sQ{L:List Nat}(h:L.Nodup){i j:Nat}(hi:i<L.length)(hj:j<L.length)(e:L[i]=L[j]):i=j:=by
 have hp:=List.pairwise_iff_getElem.1 h
 rcases Nat.lt_trichotomy i j with h1 | h1 | h1
 ·exact absurd e (hp i j hi hj h1)
 ·exact h1
 ·exact absurd e.symm (hp j i hj hi h1)
def uG(s:List UInt8)(i k:Nat):Prop:=∃L,dR s L∧k<L.length∧L.getD k 0=i
theorem pu{s:List UInt8}{L:List Nat}(h:dR s L)(i:Nat)(hi:i<s.length):∃k,k<L.length∧L.getD k 0=i∧∀q,q<k→L.getD q 0≠i:=by
 have h0:=(h.2 i).2 hi
 obtain⟨k,hk,e⟩:=List.getElem_of_mem h0
 refine⟨k,hk,by rw[List.getD_eq_getElem?_getD,List.getElem?_eq_getElem hk];exact e,fun q hq e2=> ?_⟩
 rw[List.getD_eq_getElem?_getD,List.getElem?_eq_getElem (by omega)]at e2
 have h5:L[q]=L[k]:=(show L[q]=i from e2).trans e.symm
 have:=sQ (jf h) (by omega) hk h5
 omega
end Go.Proofs.YthakcjehhlpjnaaGreat.S05
