import Derived.Test.YtepokmggbfoakaaGreatDoorA26
set_option maxHeartbeats 3200000
set_option maxRecDepth 100000
namespace Go.Proofs.YtepokmggbfoakaaGreatDoor
open Go.RowKit
abbrev KV (bT bG:Nat):Value:=.func (.func 267) #[] #[.pointer (some ⟨bT,0,none⟩),.pointer (some ⟨bG,0,none⟩)]
theorem vo(w:World)(bT bG g T n:Nat)(C:Nat→List Nat)(hc:Blk w bT 88 #[.slice (some ⟨g,0,none⟩) T T])(hT:Bb w g T C)(hn:n≤258)(hC:∀t,t<T→(C t).length=n∧∀x∈C t,x≤1000)
 (A:Option Addr) (m c:Nat) (G:List Nat) (hb:Blk w bG 57 #[.slice A m c]) (hG:aU w A m G) (hm:m≤50) (ha:∀x∈G,x<n) (t:Nat) (ht:t<T):
 Calls Tryz.prog 267 #[.int .i64 t,.pointer (some ⟨bT,0,none⟩),.pointer (some ⟨bG,0,none⟩)] w fun e w'=>e=.returned (.int .i64 (gF (C t) G:Nat))∧∃d,w'=w.drewN d:=by
 have hj:=hG.1;have p0:w.cell? ⟨bT,0,none⟩=some (.slice (some ⟨g,0,none⟩) T T):=(ac hc 0).trans rfl;have p1:w.cell? ⟨bG,0,none⟩=some (.slice A m c):=(ac hb 0).trans rfl;obtain⟨A1,k1,he,h5,hf⟩:=hT t ht;have h4:=hC t ht;have h6:(C t).length=n:=h4.1;have h7:=aa h4.2;rw[h6]at he h5 hf;have HY:=aa h5;have HG:=aa hG;have hl:=aa ha;have h3:=aa hj;have h9:=aa h6;have hz:(0:Int)≤(t:Int):=by omega
 have hA:(t:Int)<(T:Int):=by omega
 obtain⟨K,hK⟩:∃K,K=C t:=⟨_,rfl⟩;rw[← hK]at h7 HY h9 ⊢;clear hT hC hc hb hG ha hj h6 h4 h5 hK;go_enter Tryz.func267,Tryz.ntmps267;go_upto_region 1 with fail;go_quiet (fail);go_wp2_with fail;have p1b:(w.drewN nq).cell? ⟨bG,0,none⟩=some (.slice A m c):=p1;go_loopw [5,8,15] (fun sv s8 iv' wx=>∃(i s:Nat),i≤m∧iv'=.int .i64 i∧sv=.int .i64 s∧Hid (s=gF K (G.take i))∧s≤1000*i∧∃d,wx=w.drewN d) (fun _ _ iv' _=>m - (intOf iv').toNat)
 case atStart=>exact⟨0,0,LY _,rfl,rfl,rfl,LY _,nq,rfl⟩
 case round=>
  rename World=>w2;obtain⟨i,s,hi,rfl,rfl,hs,hv,h0⟩:=hrel;have h8:=aa h0;by_cases e2:i<m
  ·have hr:(0:Int)≤(i:Int):=(by omega);have hu:(i:Int)<(m:Int):=(by omega);obtain⟨gb,go,rfl,hh⟩:=HG.out.2 (by omega);have hx:=hh i e2
   have hq:G.getD i 0<n:=hl.out _ (by
    rw[LU,LV (by rw[h3.out];exact e2)]
    exact Mu _)
   have hk:gF K (G.take (i+1))=gF K (G.take i)+K.getD (G.getD i 0) 0:=(by rw[Id (by rw[h3.out];exact e2),Fr]);generalize G.getD i 0=x at*;obtain⟨cb,co,rfl,hg⟩:=HY.out.2 (by omega);have hy:=hg x (by omega)
   have hE:K.getD x 0≤1000:=h7.out _ (by
    rw[LU,LV (by rw[h9.out];exact hq)]
    exact Mu _)
   generalize K.getD x 0=y at*;have q1:w2.cell? ⟨gb,go+i,none⟩=some (.int .i64 x):=(by obtain⟨d,rfl⟩:=h0;exact hx);have q2:w2.cell? ⟨cb,co+x,none⟩=some (.int .i64 y):=(by obtain⟨d,rfl⟩:=h0;exact hy);obtain⟨s2,h1⟩:∃s2:Nat,s2=s+y:=⟨_,rfl⟩;have hw:(s:Int)+(y:Int)=(s2:Int):=(by omega);have h2:s2≤1000*(i+1):=(by omega);have HS2:Hid (s2=gF K (G.take (i+1))):=aa (by rw[hk,h1,hs.out]);have hB:(0:Int)≤(x:Int):=(by omega);have hD:(x:Int)<(n:Int):=(by omega);have ho:=aa h2;have hp:s2≤60000:=(by omega);clear he hf hh hx hk hg hy h1 h0 h2 p0 p1 p1b;go_wp2_with fail;go_roundw;case rel=>exact⟨i+1,s2,by omega,by go_num,rfl,HS2,ho.out,h8.out⟩
   case measure=>simp[intOf];omega
  ·obtain rfl:i=m:=(by omega);have h1:=hs.out;rw[Mh (Nr h3.out)]at h1;subst h1;clear h0 hs;go_wp2_with fail;go_ret;exact⟨rfl,h8.out⟩
theorem yH(w:World)(A B:Option Addr)(n c m d:Nat):
 Calls Tryz.prog 234 #[.slice A n c,.slice B m d] w fun e w'=>e=.returned (KV w.heap.size (w.heap.size+1))∧w'=(w.alloc (.cells #[.slice A n c] 88)).alloc (.cells #[.slice B m d] 57):=by go_enter Tryz.func234,Tryz.ntmps234;go_wp2_with fail;go_ret;exact⟨by simp[KV],rfl⟩
theorem uH(w:World)(g T n:Nat)(C:Nat→List Nat)(hT:Bb w g T C)(h1:1≤T)(hD:T≤6)(hn:n≤258)(hC:∀t,t<T→(C t).length=n∧∀x∈C t,x≤1000)
 (A:Option Addr) (m c:Nat) (G:List Nat) (hG:aU w A m G) (hm:m≤50) (hb:∀x∈G,x<n):
 Calls Tryz.prog 197 #[.slice (some ⟨g,0,none⟩) T T,.slice A m c] w fun e w'=>e=.returned (.int .i64 (kT ((List.range T).map C) G:Nat))∧Below w.heap.size w w':=by
 have hh:Below w.heap.size w (w.alloc (.cells #[.slice (some ⟨g,0,none⟩) T T] 88)):=(L6 _ _).alloc (ag _) _;have hi:=ah w 88 #[.slice (some ⟨g,0,none⟩) T T];obtain⟨w0,he⟩:∃w0,w0=w.alloc (.cells #[.slice (some ⟨g,0,none⟩) T T] 88):=⟨_,rfl⟩;have hy:w0.heap.size=w.heap.size+1:=by rw[he];simp
 rw[← he]at hh hi;have hc:Below w0.heap.size w0 (w0.alloc (.cells #[.slice A m c] 57)):=(L6 _ _).alloc (ag _) _;have h8:=ah w0 57 #[.slice A m c];have h0:=aP hc hi;have h7:=aq hh hc;obtain⟨w1,hl⟩:∃w1,w1=w0.alloc (.cells #[.slice A m c] 57):=⟨_,rfl⟩;rw[← hl]at hc h8 h0 h7;have hg:=hT.below h7;have hf:=dG hG h7;rw[hy]at h8;have hB:=aa fun(t:Nat) (ht:t<T)=>vo w1 w.heap.size (w.heap.size+1) g T n C h0 hg hn hC A m c G h8 hf hm hb t ht;have h5:Hid (∀ d t,t<T→Calls Tryz.prog 267 #[.int .i64 t,.pointer (some ⟨w.heap.size,0,none⟩),.pointer (some ⟨w.heap.size+1,0,none⟩)] (w1.drewN d) fun e w'=>e=.returned (.int .i64 (gF (C t) G:Nat))∧∃d2,w'=w1.drewN d2):=aa fun d t ht=>by have hd:Below w1.heap.size w1 (w1.drewN d):=aL (L6 _ _) d;refine(vo (w1.drewN d) w.heap.size (w.heap.size+1) g T n C h0 (hg.below hd) hn hC A m c G h8 (dG hf hd) hm hb t ht).mono ?_;rintro e w' ⟨rfl,d2,rfl⟩;exact⟨rfl,d+d2,by simp[World.drewN,Nu]⟩
 have HR:=aa (yH w (some ⟨g,0,none⟩) A T T m c);rw[← he,←hl]at HR;have hz:=aa h7;obtain⟨p,hp⟩:∃p:Nat→Nat×Nat,p=mw ((List.range T).map C) G:=⟨_,rfl⟩;have h6:kT ((List.range T).map C) G=(p T).1:=by unfold kT;rw[hp];simp
 rw[h6];have h2:Hid (∀ t,t<T→p (t+1)=if t=0∨gF (C t) G<(p t).2 then(t,gF (C t) G)else p t):=aa fun t ht=>by rw[hp,mw,IJ C T t ht]
 have hu:∀t,t<T→gF (C t) G≤50000:=fun t ht=>by
  have h3:=Ko (C t) G 1000 (fun x hx=>(hC t ht).2 _ (by
   rw[LU,LV (by rw[(hC t ht).1];exact hb x hx)]
   exact Mu _))
  have h4:1000*G.length≤1000*50:=Qq _ (by rw[hG.1];exact hm);omega
 have hq:=aa hu;have hr:Hid (p 1=(0,gF (C 0) G)):=aa (by rw[h2.out 0 (by omega),LX (.inl rfl)]);clear hT hG hC hb hp h6 hu h0 h8 hg hf h7 he hl hy hh hi hc;generalize w.heap.size=g0 at*;go_enter Tryz.func197,Tryz.ntmps197;go_wp2_with fail;refine HR.out.mono ?_;rintro e w1 ⟨rfl,rfl⟩;go_wp2_with fail;refine(h5.out 0 0 (by omega)).mono ?_;rintro e w2 ⟨rfl,d1,rfl⟩;obtain⟨s0,hj⟩:∃s0,s0=gF (C 0) G:=⟨_,rfl⟩;rw[← hj]at hr ⊢;have hk:s0≤50000:=by rw[hj];exact hq.out 0 (by omega)
 clear hj;go_wp2_with fail;go_loopw [6,7,8,9] (fun bv lv tv cv wx=>∃(t b l:Nat),1≤t∧t≤T∧tv=.int .i64 t∧bv=.int .i64 b∧lv=.int .i64 l∧l≤50000∧Hid (p t=(b,l))∧∃d,wx=w1.drewN d) (fun _ _ tv _ _=>T - (intOf tv).toNat)
 case atStart=>exact⟨1,0,s0,L5 _,h1,rfl,rfl,rfl,hk,hr,d1,rfl⟩
 case round=>
  rename World=>w3;obtain⟨t,b,l,hE,ht,rfl,rfl,rfl,hA,hv,hd⟩:=hrel;obtain⟨d,rfl⟩:=hd;by_cases e:t<T
  ·have h9:=h2.out t e;rw[hv.out]at h9;dsimp only at h9;have ho:=aa (h5.out d t e);have hw:=hq.out t e;obtain⟨s,hs⟩:∃s,s=gF (C t) G:=⟨_,rfl⟩;rw[← hs]at h9 ho hw;have ha:=aa h9;clear hs h9;go_wp2_with fail;refine ho.out.mono ?_;rintro e w4 ⟨rfl,d4,rfl⟩;by_cases h3:s<l
   ·have HP:Hid (p (t+1)=(t,s)):=aa (by rw[ha.out,LX (.inr h3)]);clear ha;go_wp2_with fail;go_roundw;case rel=>exact⟨t+1,t,s,by omega,by omega,by go_num,rfl,rfl,hw,HP,d4,rfl⟩
    case measure=>simp[intOf];omega
   ·have HP:Hid (p (t+1)=(b,l)):=aa (by rw[ha.out,LW (by omega)]);clear ha;go_wp2_with fail;go_roundw;case rel=>exact⟨t+1,b,l,by omega,by omega,by go_num,rfl,rfl,hA,HP,d4,rfl⟩
    case measure=>simp[intOf];omega
  ·obtain rfl:t=T:=(by omega);have HE:=aa (aL hz.out d);go_wp2_with fail;go_ret;exact⟨by rw[hv.out];rfl,HE.out⟩
theorem wU(w:World)(A:Option Addr)(n c:Nat)(L:List Nat)(hL:aU w A n L)(hu:n≤c)(hn:n≤2000000)(g T m:Nat)(C:Nat→List Nat)(hT:Bb w g T C)(h1:1≤T)(hr:T≤6)(hm:m≤258)
 (hC:∀t,t<T→(C t).length=m∧∀x∈C t,x≤1000) (he:∀x∈L,x<m) (G:Nat) (hG:G=aQ n):
 Calls Tryz.prog 148 #[.slice (some ⟨g,0,none⟩) T T,.slice A n c] w fun e w'=>e=.returned (.slice (some ⟨w.heap.size,0,none⟩) G G)∧aA w' w.heap.size w.heap.size G G (fun k=>kT ((List.range T).map C) (df L k))∧Below w.heap.size w w':=by
 have hv:G≤40001∧n≤50*G∧50*G<n+50:=by rw[hG];unfold aQ;omega
 have h5:=aa (jN w n (by omega));rw[← hG]at h5;have ht:=bC w G (by omega);have HM:=aa (bh w w.heap.size G (ag _) (by omega));have ha:=aa ((L6 w.heap.size w).alloc (ag _) (.cells (madeCells #[.int .i64 0] G) 3));have HL:=aa fun(w1:World) (hb:Below w.heap.size w w1)=>dG hL hb;have HT:=aa fun(w1:World) (hb:Below w.heap.size w w1)=>hT.below hb;have HC:=aa hC;have hl:=aa he;obtain⟨pf,h7⟩:∃pf:Nat→Nat,pf=fun k=>kT ((List.range T).map C) (df L k):=⟨_,rfl⟩;have ho:Hid (∀ k,kT ((List.range T).map C) (df L k)=pf k):=aa fun k=>by rw[h7]
 rw[← h7];clear hL hT hC he hG h7;go_enter Tryz.func148,Tryz.ntmps148;go_wp2_with fail;refine h5.out.mono ?_;rintro e w0 ⟨rfl,rfl⟩;go_wp2_with fail;clear ht h5;go_loopw [6,13] (fun s6 kv wx=>∃k:Nat,k≤G∧kv=.int .i64 k∧aA wx w.heap.size w.heap.size G G (fun j=>if j<k then pf j else 0)∧Below w.heap.size w wx) (fun _ kv _=>G - (intOf kv).toNat)
 case atStart=>refine⟨0,LY _,rfl,?_,ha.out⟩;have e:(fun j=>if j<0 then pf j else 0)=fun _=>0:=(by funext j;rw[LW (by omega)]);rw[e];exact HM.out
 case round=>
  clear HM ha;rename World=>w6;obtain⟨k,hk,rfl,hf,hb⟩:=hrel;by_cases e4:k<G
  ·have hy:(0:Int)≤(k:Int):=(by omega);have hw:(k:Int)<(G:Int):=(by omega);have h2:=aa (sE w6 A n c L k (HL.out w6 hb) hu hn (by omega));have h0:=aa fun(A2:Option Addr) (c2:Nat) (hq:aU w6 A2 (df L k).length (df L k))=>uH w6 g T m C (HT.out w6 hb) h1 hr hm HC.out A2 (df L k).length c2 (df L k) hq (by rw[oU];omega) (fun x hx=>hl.out x (NA (NO hx)));rw[ho.out k]at h0;have HF:=aa hf;have HB:=aa hb;clear hf hb;go_wp2_with fail;refine h2.out.mono ?_;rintro e w7 ⟨A2,c2,rfl,hh,hs,_,rfl⟩;have hc:=aa (h0.out A2 c2 hh);clear hh hs h2 h0;generalize (df L k).length=pl at*;go_wp2_with fail;refine hc.out.mono ?_;rintro e w8 ⟨rfl,h6⟩;have h4:aA w8 w.heap.size w.heap.size G G (fun j=>if j<k then pf j else 0):=(an h6).row HF.out (fun _ _=>ay) ay;obtain⟨pk,h8⟩:∃pk,pk=pf k:=⟨_,rfl⟩;rw[← h8];have c8:=h4.cell k e4;have f8:=h4.frozen k;have h9:=h4.set k pk;have hg:(fun j=>if j=k then pk else if j<k then pf j else 0)=fun j=>if j<k+1 then pf j else 0:=by
    funext j;by_cases ej:j=k;·rw[LX ej,LX (by omega),ej,h8]
    ·rw[LW ej];by_cases ej2:j<k;·rw[LX ej2,LX (by omega)]
     ·rw[LW ej2,LW (by omega)]
   rw[hg]at h9;have hp:=aa h9;have hi:=aa ((aq HB.out h6).setCell (p:=⟨w.heap.size,k,none⟩) (ag _) (.int .i64 (pk:Nat)));clear h4 h9 hg HF HB hc h6 h8;go_wp2_with fail;go_roundw;case rel=>exact⟨k+1,by omega,by go_num,hp.out,hi.out⟩
   case measure=>simp[intOf];omega
  ·obtain rfl:k=G:=(by omega);have h3:w6.ownsRow w.heap.size 3 1 (.slice (some ⟨w.heap.size,0,none⟩) k k) k (cz k fun j=>if j<k then pf j else 0):=hf;rw[bW k _ pf fun j hj=>LX hj]at h3;have HE:=aa h3;have HB:=aa hb;clear hf hb h3;go_wp2_with fail;go_ret;exact⟨rfl,HE.out,HB.out⟩
end Go.Proofs.YtepokmggbfoakaaGreatDoor
