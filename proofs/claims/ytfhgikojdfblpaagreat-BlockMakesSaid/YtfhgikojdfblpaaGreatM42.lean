import Derived.Test.YtfhgikojdfblpaaGreatM41
set_option maxHeartbeats 3200000
set_option maxRecDepth 100000
namespace Go.Proofs.YtfhgikojdfblpaaGreat
open _root_.Go.Proofs.Tryz
open Go.RowKit
theorem xS(w:World)(A:Option Addr)(n c:Nat)(L:List Nat)(hL:aB w A n L)(hu:n<=c)(hn:n<=2000000)(g T m:Nat)(C:Nat->List Nat)(hT:vv w g T C)(h1:1<=T)(hr:T<=6)(hm:m<=258)
 (hC:∀t,t<T->(C t).length=m/\∀x∈C t,x<=1000) (he:∀x∈L,x<m) (G:Nat) (hG:G=aH n):
 Calls prog 86 #[.slice (some ⟨g,0,none⟩) T T,.slice A n c] w fun e w'=>e=.returned (.slice (some ⟨w.heap.size,0,none⟩) G G)/\az w' w.heap.size w.heap.size G G (fun k=>eU ((List.range T).map C) (bI L k))/\Below w.heap.size w w':=by
 have hv:G<=40001/\n<=50*G/\50*G<n+50:=by rw[hG];unfold aH;omega
 have h5:=aa (kx w n (by omega));rw[<- hG]at h5;have ht:=bu w G (by omega);have HM:=aa (bf w w.heap.size G (ag _) (by omega));have ha:=aa ((Nj w.heap.size w).alloc (ag _) (.cells (madeCells #[.int .i64 0] G) 3));have HL:=aa fun(w1:World) (hb:Below w.heap.size w w1)=>cF hL hb;have HT:=aa fun(w1:World) (hb:Below w.heap.size w w1)=>hT.below hb;have HC:=aa hC;have hl:=aa he;obtain⟨pf,h7⟩:∃pf:Nat->Nat,pf=fun k=>eU ((List.range T).map C) (bI L k):=⟨_,rfl⟩;have ho:Hid (∀ k,eU ((List.range T).map C) (bI L k)=pf k):=aa fun k=>by rw[h7]
 rw[<- h7];clear hL hT hC he hG h7;go_enter func86,ntmps86;go_wp2_with fail;refine h5.out.mono ?_;rintro e w0 ⟨rfl,rfl⟩;go_wp2_with fail;clear ht h5;go_loopw [6,13] (fun s6 kv wx=>∃k:Nat,k<=G/\kv=.int .i64 k/\az wx w.heap.size w.heap.size G G (fun j=>if j<k then pf j else 0)/\Below w.heap.size w wx) (fun _ kv _=>G-(intOf kv).toNat)
 case atStart=>refine⟨0,Ng _,rfl,?_,ha.out⟩;have e:(fun j=>if j<0 then pf j else 0)=fun _=>0:=(by funext j;rw[Nd]);rw[e];exact HM.out
 case round=>
  clear HM ha;rename World=>w6;obtain⟨k,hk,rfl,hf,hb⟩:=hrel;by_cases e4:k<G
  ·have hy:(0:Int)<=(k:Int):=(by omega);have hw:(k:Int)<(G:Int):=(by omega);have h2:=aa (tE w6 A n c L k (HL.out w6 hb) hu hn (by omega));have h0:=aa fun(A2:Option Addr) (c2:Nat) (hq:aB w6 A2 (bI L k).length (bI L k))=>vz w6 g T m C (HT.out w6 hb) h1 hr hm HC.out A2 (bI L k).length c2 (bI L k) hq (by rw[jc];omega) (fun x hx=>hl.out x (OS (OC hx)));rw[ho.out k]at h0;have HF:=aa hf;have HB:=aa hb;clear hf hb;go_wp2_with fail;refine h2.out.mono ?_;rintro e w7 ⟨A2,c2,rfl,hh,hs,_,rfl⟩;have hc:=aa (h0.out A2 c2 hh);clear hh hs h2 h0;generalize (bI L k).length=pl at*;go_wp2_with fail;refine hc.out.mono ?_;rintro e w8 ⟨rfl,h6⟩;have h4:az w8 w.heap.size w.heap.size G G (fun j=>if j<k then pf j else 0):=(an h6).row HF.out (fun _ _=>aw) aw;obtain⟨pk,h8⟩:∃pk,pk=pf k:=⟨_,rfl⟩;rw[<- h8];have c8:=h4.cell k e4;have f8:=h4.frozen k;have h9:=h4.set k pk;have hg:(fun j=>if j=k then pk else if j<k then pf j else 0)=fun j=>if j<k+1 then pf j else 0:=by
    funext j;by_cases ej:j=k;·rw[Nf ej,Nf,ej,h8]
    ·rw[Nd ej];by_cases ej2:j<k;·rw[Nf ej2,Nf]
     ·rw[Nd ej2,Nd]
   rw[hg]at h9;have hp:=aa h9;have hi:=aa ((aq HB.out h6).setCell (p:=⟨w.heap.size,k,none⟩) (ag _) (.int .i64 (pk:Nat)));clear h4 h9 hg HF HB hc h6 h8;go_wp2_with fail;go_roundw;case rel=>exact⟨k+1,by omega,by go_num,hp.out,hi.out⟩
   case measure=>simp[intOf];omega
  ·obtain rfl:k=G:=(by omega);have h3:w6.ownsRow w.heap.size 3 1 (.slice (some ⟨w.heap.size,0,none⟩) k k) k (cN k fun j=>if j<k then pf j else 0):=hf;rw[cw k _ pf fun j hj=>Nf hj]at h3;have HE:=aa h3;have HB:=aa hb;clear hf hb h3;go_wp2_with fail;go_ret;exact⟨rfl,HE.out,HB.out⟩
