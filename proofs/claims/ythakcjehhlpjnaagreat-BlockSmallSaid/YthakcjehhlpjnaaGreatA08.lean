import Derived.Test.YthakcjehhlpjnaaGreatA07
set_option maxHeartbeats 6400000
set_option maxRecDepth 100000
namespace Go.Proofs.YthakcjehhlpjnaaGreat
open Go.RowKit
theorem size_drew(w:World):w.drew.heap.size=w.heap.size:=rfl
theorem Af{w W:World}(h:Below w.heap.size w W):Below w.heap.size w W.drew:=h.drew
theorem yW{w W:World}(h:Below w.heap.size w W)(o:Obj):Below w.heap.size w (W.alloc o):=h.alloc h.size o
theorem Ic{w W:World}{b o:Nat}(h:Below w.heap.size w W)(hp:w.heap.size≤b)(v:Value):Below w.heap.size w (W.setCell ⟨b,o,none⟩ v):=h.setCell (p:=⟨b,o,none⟩) hp v
theorem Ib{w W W2:World}(h:Below w.heap.size w W)(hb:Below W.heap.size W W2):Below w.heap.size w W2:=ao h hb
theorem Il{W:World}{g:Nat}{t:TypeId}{cs:Array Value}(h:g=W.heap.size):Blk (W.alloc (.cells cs t)) g t cs:=by
 subst h
 exact ag W t cs
theorem In{W:World}{g:Nat}{t:TypeId}(h:Blk W g t #[.slice none 0 0])(v:Value):Blk (W.setCell ⟨g,0,none⟩ v) g t #[v]:=ay h 0 v
theorem ko{W:World}{g b o:Nat}{t:TypeId}{cs:Array Value}(h:Blk W g t cs)(h0:g≠b)(v:Value):Blk (W.setCell ⟨b,o,none⟩ v) g t cs:=(aD W v h0).trans h
theorem AG{W:World}{g N:Nat}{T:List (Nat×Nat)}(h:jr W g N T)(o:Obj):jr (W.alloc o) g N T:=by
 obtain⟨cs,h1,h2⟩:=h
 exact⟨cs,dN h1 o,h2⟩
theorem Hs{W:World}{g N b o:Nat}{T:List (Nat×Nat)}(h:jr W g N T)(h0:g≠b)(v:Value):jr (W.setCell ⟨b,o,none⟩ v) g N T:=by
 obtain⟨cs,h1,h2⟩:=h
 exact⟨cs,ko h1 h0 v,h2⟩
theorem IL{W:World}{g m:Nat}(h:Blk W g 222 (madeCells #[.int .i64 0,.int .i64 0] (m*2))):jr W g m []:=⟨_,h,by rw[size_madeCells],fun i hi=>absurd hi (by simp)⟩
theorem BA{W:World}{g:Nat}{t:TypeId}{v:Value}(h:Blk W g t #[v]):W.cell? ⟨g,0,none⟩=some v∧W.frozen? ⟨g,0,none⟩=false∧(∀ o:Obj,(W.alloc o).cell? ⟨g,0,none⟩=some v)∧(∀ o:Obj,(W.alloc o).frozen? ⟨g,0,none⟩=false)∧(∀ o o2:Obj,((W.alloc o).alloc o2).cell? ⟨g,0,none⟩=some v)∧∀o o2:Obj,((W.alloc o).alloc o2).frozen? ⟨g,0,none⟩=false:=
 ⟨(ac h 0).trans rfl,ae h 0,fun o=>(ac (dN h o) 0).trans rfl,fun o=>ae (dN h o) 0,fun o o2=>(ac (dN (dN h o) o2) 0).trans rfl,fun o o2=>ae (dN (dN h o) o2) 0⟩
theorem pe{W:World}{g b:Nat}{t:TypeId}{u:Value}(h:Blk W g t #[u])(h0:g≠b):(∀ (v:Value) (o:Obj),((W.setCell ⟨b,0,none⟩ v).alloc o).cell? ⟨g,0,none⟩=some u)∧∀(v:Value) (o:Obj),((W.setCell ⟨b,0,none⟩ v).alloc o).frozen? ⟨g,0,none⟩=false:=
 ⟨fun v o=>(ac (dN (ko (b:=b) (o:=0) h h0 v) o) 0).trans rfl,fun v o=>ae (dN (ko (b:=b) (o:=0) h h0 v) o) 0⟩
def E6(w wx:World)(n:Nat)(T:List (Nat×Nat))(s3 s4:Value):Prop:=∃bS bM gS gM,s3=.pointer (some ⟨bS,0,none⟩)∧s4=.pointer (some ⟨bM,0,none⟩)∧Blk wx bS 218 #[.slice (some ⟨gS,0,none⟩) n n]∧Blk wx bM 218 #[.slice (some ⟨gM,0,none⟩) 0 n]∧
 jr wx gS n T∧jr wx gM n []∧Below w.heap.size w wx∧bS≠bM∧gS≠gM∧w.heap.size≤bS∧w.heap.size≤bM∧w.heap.size≤gS∧w.heap.size≤gM
theorem sS(w:World)(B bS bM gS gM p q N:Nat)(AS:Option Addr)(LS LM:List (Nat×Nat))
 (hS:Blk w bS 218 #[.slice AS (LS.length - p:Nat) (LS.length - p:Nat)]) (hM:Blk w bM 218 #[.slice (some ⟨gM,q*2,none⟩) (LM.length - q:Nat) (N - q:Nat)])
 (tS:dV w gS LS) (tM:dV w gM LM) (h0:p<LS.length→AS=some ⟨gS,p*2,none⟩) (hp:p≤LS.length) (hq:q≤LM.length) (hN:q+2≤N) (h9:LM.length≤N) (hL:LS.length≤1000000) (ha:N≤1000000)
 (hf:∀t∈LS,t.1<4611686018427387904) (hc:∀t∈LM,t.1<4611686018427387904) (hb:∀t∈LS,∀u∈LM,t.2≠u.2) (hh:p<LS.length∨q<LM.length) (h8:B≤bS) (h7:B≤bM) (hg:bS≠bM):
 Calls Tryz.prog 256 #[.pointer (some ⟨bS,0,none⟩),.pointer (some ⟨bM,0,none⟩)] w fun e w'=>∃(x:Nat×Nat) (p1 q1:Nat) (A1:Option Addr),e=.returned (.agg #[.int .i64 x.1,.int .i64 x.2])∧ai B [bS,bM] [] w w'∧
  jF (LS.drop p) (LM.drop q)=(x,LS.drop p1,LM.drop q1)∧p1≤LS.length∧q1≤LM.length∧(p1<LS.length→A1=some ⟨gS,p1*2,none⟩)∧Blk w' bS 218 #[.slice A1 (LS.length - p1:Nat) (LS.length - p1:Nat)]∧Blk w' bM 218 #[.slice (some ⟨gM,q1*2,none⟩) (LM.length - q1:Nat) (N - q1:Nat)]:=by
 refine(Bn w B bS bM gS gM p q N AS LS LM hS hM tS tM h0 hp hq hN h9 hL ha hf hc hb hh h8 h7 hg).mono ?_
 rintro e w' ⟨x,he,h6,⟨h1,h2,⟨A1,h3,h4⟩,h5⟩ | ⟨h1,h2,h3,h4⟩⟩
 ·exact⟨x,p+1,q,A1,he,h6,h2,h1,hq,h4,h3,h5⟩
 ·exact⟨x,p,q+1,AS,he,h6,h2,hp,h1,h0,h3,h4⟩
structure Ii (w wx:World) (W:List Nat) (n bS bM gS gM gI:Nat) (LS LM:List (Nat×Nat)) (k p q b:Nat) (AS:Option Addr) (ws ov:Nat→Nat) (act:List Tr) (len:Nat→Nat):Prop where
 boxS:Blk wx bS 218 #[.slice AS (LS.length - p:Nat) (LS.length - p:Nat)]
 boxM:Blk wx bM 218 #[.slice (some ⟨gM,q*2,none⟩) (LM.length - q:Nat) (n - q:Nat)]
 rowS:dV wx gS LS
 rowM:jr wx gM n LM
 at_:p<LS.length→AS=some ⟨gS,p*2,none⟩
 hp:p≤LS.length
 hq:q≤LM.length
 hm:LM.length+n=k
 hk:k≤2*n - 1
 two:Two n k ws ov (LS.drop p) (LM.drop q) b
 grown:iY n W k ws ov act len
 row:aB wx w.heap.size gI (2*n - 1) (2*n - 1) ov
 low:∀t∈LM,t.1≤W.sum∧n≤t.2
 below:Below w.heap.size w wx
theorem D3(w:World)(A:Option Addr)(n c:Nat)(f:Nat→Nat)(hL:aT w A n ((List.range n).map f))(h2:2≤n)(hn:n≤258)(hf:∀i,i<n→1≤f i∧f i≤1073741824):
 Calls Tryz.prog 237 #[.slice A n c] w fun e w'=>∃g ov ws act len,e=.returned (.slice (some ⟨g,0,none⟩) (2*n - 1:Nat) (2*n - 1:Nat))∧iY n ((List.range n).map f) (2*n - 1) ws ov act len∧aB w' w.heap.size g (2*n - 1) (2*n - 1) ov∧Below w.heap.size w w':=by
 have HH:=fun(w1:World) (h:aT w1 A n ((List.range n).map f))=>tU w1 A n c f h (by omega) (by omega)
 obtain⟨T,hT⟩:∃T,T=(List.range n).map fun i=>(f i,i):=⟨_,rfl⟩
 rw[← hT]at HH
 have HA:=aa HH
 have HT:=aa hT
 have p5:∀w1:World,(Instr.makeSlice 218 (.int .i64 0) (.int .i64 n)).run Tryz.prog w1=.ok (.slice (some ⟨w1.heap.size,0,none⟩) 0 n) (w1.alloc (.cells (madeCells #[.int .i64 0,.int .i64 0] (n*2)) 222)):=fun w1=>qH w1 0 n (Nat.zero_le _) (by omega)
 have HI:=aa fun(w1:World) (hb:Below w.heap.size w w1)=>cU hL hb
 have st1:ai w.heap.size [] [] w w:=ai.refl _ _ _ _
 clear hL HH hT
 go_enter Tryz.func237,Tryz.ntmps237
 go_wp2_with fail
 go_cut [3,4]from 10 to 14 (fun s3 s4 wx=>E6 w wx n T s3 s4)
 case first=>
  go_region_held3 (fun w'=>True)
   (trivial)
   (first
     | (go_at_call 170;with_reducible refine(HA.out _ (HI.out _ (by repeat (first | with_reducible exact st1.below | with_reducible assumption | with_reducible refine Af ?_ | with_reducible refine yW ?_ _)))).mono ?_;rintro e w2 ⟨rfl,HE,hh⟩
        have bl2:Below w.heap.size w w2:=Ib (by repeat (first | with_reducible exact st1.below | with_reducible assumption | with_reducible refine Af ?_ | with_reducible refine yW ?_ _)) hh
        have z2:=HE.row.lt
        (first
          | ((first | with_reducible (have h1:=dL hh (ag _ _ _);have h2:=dL hh (dN (ag _ _ _) _);have h3:=dL hh (dN (dN (ag _ _ _) _) _)) | with_reducible (have h1:=dL hh (jv (ag _ _ _));have h2:=dL hh (jv (dN (ag _ _ _) _));have h3:=dL hh (jv (dN (dN (ag _ _ _) _) _))));(try obtain⟨c1,f1,ca1,fa1,cb1,fb1⟩:=BA h1);(try obtain⟨c2,f2,ca2,fa2,cb2,fb2⟩:=BA h2);(try obtain⟨c3,f3,ca3,fa3,cb3,fb3⟩:=BA h3);simp only[World.size_alloc,size_drew]at *;(try obtain⟨cp12,fp12⟩:=pe (b:=w.heap.size+1) h1 (by omega));(try obtain⟨cp13,fp13⟩:=pe (b:=w.heap.size) h1 (by omega));(try obtain⟨cp21,fp21⟩:=pe (b:=w.heap.size+1+1) h2 (by omega));(try obtain⟨cp23,fp23⟩:=pe (b:=w.heap.size) h2 (by omega));(try obtain⟨cp31,fp31⟩:=pe (b:=w.heap.size+1+1) h3 (by omega));(try obtain⟨cp32,fp32⟩:=pe (b:=w.heap.size+1) h3 (by omega)))
          | ((first | with_reducible (have h1:=dL hh (ag _ _ _);have h2:=dL hh (dN (ag _ _ _) _)) | with_reducible (have h1:=dL hh (jv (ag _ _ _));have h2:=dL hh (jv (dN (ag _ _ _) _))));(try obtain⟨c1,f1,ca1,fa1,cb1,fb1⟩:=BA h1);(try obtain⟨c2,f2,ca2,fa2,cb2,fb2⟩:=BA h2);simp only[World.size_alloc,size_drew]at *;(try obtain⟨cp12,fp12⟩:=pe (b:=w.heap.size) h1 (by omega));(try obtain⟨cp21,fp21⟩:=pe (b:=w.heap.size+1) h2 (by omega)))
          | ((first | with_reducible (have h1:=dL hh (ag _ _ _)) | with_reducible (have h1:=dL hh (jv (ag _ _ _))));(try obtain⟨c1,f1,ca1,fa1,cb1,fb1⟩:=BA h1);simp only[World.size_alloc,size_drew]at *)
          | (simp only[size_drew]at *)
          | skip)))
  all_goals go_wp2_with fail
  all_goals go_meet
  all_goals refine⟨_,_,_,_,rfl,rfl,by(repeat (first | with_reducible assumption | (with_reducible refine Il ?_;(simp;done)) | with_reducible refine dN ?_ _ | with_reducible refine In ?_ _ | (with_reducible refine ko ?_ ?_ _;rotate_left;omega))),by(repeat (first | with_reducible assumption | (with_reducible refine Il ?_;(simp;done)) | with_reducible refine dN ?_ _ | with_reducible refine In ?_ _ | (with_reducible refine ko ?_ ?_ _;rotate_left;omega))),by(repeat (first | with_reducible assumption | with_reducible refine AG ?_ _ | (with_reducible refine Hs ?_ ?_ _;rotate_left;omega))),IL (by(repeat (first | with_reducible assumption | (with_reducible refine Il ?_;(simp;done)) | with_reducible refine dN ?_ _ | with_reducible refine In ?_ _ | (with_reducible refine ko ?_ ?_ _;rotate_left;omega)))),by(repeat (first | with_reducible exact st1.below | with_reducible assumption | with_reducible refine Af ?_ | with_reducible refine yW ?_ _ | (with_reducible refine Ic ?_ ?_ _;rotate_left;omega))),?_,?_,?_,?_,?_,?_⟩
  all_goals omega
 case rest=>
  obtain⟨bS,bM,gS,gM,rfl,rfl,H7,qa,HU,qm,hb,pb,r5,zbS,zbM,zgS,zgM⟩:=hcut
  have qo:T.length=n:=by rw[HT.out];simp
  have s5:(T.map Prod.snd).Nodup:=by
   rw[HT.out,List.map_map]
   have:(Prod.snd ∘ fun i=>(f i,i))=id:=rfl
   rw[this,List.map_id]
   exact List.nodup_range
  have hG:=vm wc w.heap.size gS n T HU.row zgS (by omega) s5
  rw[qo]at hG
  have hS:=aa hG
  have cS:=ac H7 0
  have fS:=ae H7 0
  have cS':wc.cell? ⟨bS,0,none⟩=some (.slice (some ⟨gS,0,none⟩) n n):=cS
  have HL:=aa qa
  have HM:=aa H7
  have q4:=aa qm
  have q5:=aa HU
  have HB:=aa hb
  clear hG cS H7 qa HU qm hb p5 st1 HA
  go_wp2_with fail
  refine hS.out.mono ?_
  rintro e w3 ⟨rfl,LS,ha,hv,H2,hK⟩
  obtain⟨N,hN⟩:∃N,N=2*n - 1:=⟨_,rfl⟩
  have tt:(2:Int)*(n:Int) - 1=(N:Int):=by omega
  have tq:3≤N:=by omega
  have ts:N≤515:=by omega
  have p5:=bq w3 N (by omega)
  have r4:=a9 w3 w.heap.size N (by have:=HB.out.size;have:=hK.size;omega) (by omega)
  have HN:=aa hN
  have ps:=aa r4
  have hI:=aa hK
  have hQ:=aa H2
  have hs:=aa hv
  have hr:=aa ha
  have HW:Hid (((List.range n).map f).sum≤1099511627776):=aa (nK n f hn fun j hj=>(hf j hj).2)
  have H6:Hid (LS.length=n∧(∀ t∈LS,t.1≤1073741824∧t.2<n)):=aa (by
   refine⟨by rw[ha.length_eq,qo],fun t ht=> ?_⟩
   have h3:=ha.mem_iff.1 ht
   rw[HT.out]at h3
   obtain⟨i,hi,rfl⟩:=List.mem_map.1 h3
   exact⟨(hf i (List.mem_range.1 hi)).2,List.mem_range.1 hi⟩)
  have HJ:Hid (Ii w (w3.alloc (.cells (madeCells #[.int .i64 0] N) 3)) ((List.range n).map f) n bS bM gS gM w3.heap.size LS [] n 0 0 0 (some ⟨gS,0,none⟩) (fun j=>((List.range n).map f).getD j 0) (fun _=>0) (jp ((List.range n).map f)) (fun _=>0)):=aa (by
   have r7:∀b,Blk wc b 218 #[.slice (some ⟨gS,0,none⟩) n n]∨Blk wc b 218 #[.slice (some ⟨gM,0,none⟩) 0 n]→b∉ [gS]:=by
    rintro b hb hm
    rw[List.mem_singleton]at hm
    obtain⟨cs,h1,_⟩:=q5.out
    rcases hb with hb | hb <;>exact aI hb h1 (by decide) hm
   have H8:((List.range n).map f).length=n:=by simp
   constructor
   case boxS=>
    rw[H6.out.1]
    exact dN (hI.out.blk HM.out (r7 bS (.inl HM.out)) (by simp)) _
   case boxM=>exact dN (hI.out.blk HL.out (r7 bM (.inr HL.out)) (by simp)) _
   case rowS=>
    obtain⟨cs,h1,h3⟩:=hQ.out
    exact⟨cs,dN h1 _,h3⟩
   case rowM=>exact AG (hI.out.tcap q4.out (by rw[List.mem_singleton];exact r5.symm)) _
   case at_=>exact fun _=>rfl
   case hp=>exact Nat.zero_le _
   case hq=>exact Nat.zero_le _
   case hm=>simp
   case hk=>omega
   case two=>
    have h3:=DH ((List.range n).map f) LS (by
     rw[H8]
     refine hr.out.trans ?_
     rw[HT.out]
     have:((List.range n).map fun i=>(f i,i))=(List.range n).map fun i=>(((List.range n).map f).getD i 0,i):=List.map_congr_left fun i hi=>by rw[cI n f i (List.mem_range.1 hi)]
     rw[this]) hs.out
    rw[H8]at h3
    exact h3
   case grown=>
    have h3:=pA ((List.range n).map f) (by rw[H8];omega)
    rw[H8]at h3
    exact h3
   case row=>rw[← HN.out];exact ps.out
   case low=>exact fun t ht=>absurd ht (by simp)
   case below=>exact(HB.out.trans hI.out.below).alloc (by have:=HB.out.size;have:=hI.out.size;omega) _)
  generalize hWE:(List.range n).map f=W at*
  have s0:=aa hWE
  clear hWE
  clear hN r4 hK H2 hv ha
  go_wp2_with fail
  clear p5 ps hI hQ hs hr hS HB HM HL q4 q5
  go_loopw [7,8,9] (fun v s8 s9 wx=>∃(k p q b:Nat) (LM:List (Nat×Nat)) (AS:Option Addr) (ws ov:Nat→Nat) (act:List Tr) (len:Nat→Nat),v=.int .i64 k∧Ii w wx W n bS bM gS gM w3.heap.size LS LM k p q b AS ws ov act len) (fun v _ _ _=>N - (intOf v).toNat)
  case atStart=>exact⟨n,0,0,0, [],_,_,_,_,_,rfl,HJ.out⟩
  case round=>
   clear HJ
   rename World=>w4
   obtain⟨k,p,q,b,LM,AS,ws,ov,act,len,rfl,J⟩:=hrel
   have sn:=J.hk
   rw[← HN.out]at sn
   by_cases e:k<N
   ·have dk:decide ((k:Int)<(N:Int))=true:=aC (by omega)
    have r3:k+1<2*n:=by have:=HN.out;omega
    have s2:=H6.out.1
    have tv:=J.hm
    have ty:=J.hq
    obtain⟨a1,a2,HV,s7,s6,hB,HX⟩:=ou J.grown r3
    have pf:p<LS.length∨q<LM.length:=by
     rcases nu J.two HV hB with h | h
     ·have:=List.length_pos_of_mem h
      rw[List.length_drop]at this
      omega
     ·have:=List.length_pos_of_mem h
      rw[List.length_drop]at this
      omega
    have hw:∀t∈LM,t.1<4611686018427387904:=fun t ht=>by
     have:=(J.low t ht).1
     have:=HW.out
     omega
    have hA:∀t∈LS,t.1<4611686018427387904:=fun t ht=>by
     have:=(H6.out.2 t ht).1
     omega
    have HY:∀t∈LS,∀u∈LM,t.2≠u.2:=fun t ht u hu=>by
     have:=(H6.out.2 t ht).2
     have:=(J.low u hu).2
     omega
    have HF:=aa (sS w4 w.heap.size bS bM gS gM p q n AS LS LM J.boxS J.boxM J.rowS J.rowM.row J.at_ J.hp J.hq (by omega) (by omega) (by omega) (by omega) hA hw HY pf zbS zbM pb)
    have hR:Hid (∀ (w5:World) (x:Nat×Nat) (p1 q1:Nat) (A1:Option Addr),ai w.heap.size [bS,bM] [] w4 w5→jF (LS.drop p) (LM.drop q)=(x,LS.drop p1,LM.drop q1)→p1≤LS.length→q1≤LM.length→(p1<LS.length→A1=some ⟨gS,p1*2,none⟩)→Blk w5 bS 218 #[.slice A1 (LS.length - p1:Nat) (LS.length - p1:Nat)]→Blk w5 bM 218 #[.slice (some ⟨gM,q1*2,none⟩) (LM.length - q1:Nat) (n - q1:Nat)]→
     Calls Tryz.prog 256 #[.pointer (some ⟨bS,0,none⟩),.pointer (some ⟨bM,0,none⟩)] w5 fun e w'=>∃(y:Nat×Nat) (p2 q2:Nat) (A2:Option Addr),e=.returned (.agg #[.int .i64 y.1,.int .i64 y.2])∧ai w.heap.size [bS,bM] [] w5 w'∧
      jF (LS.drop p1) (LM.drop q1)=(y,LS.drop p2,LM.drop q2)∧p2≤LS.length∧q2≤LM.length∧(p2<LS.length→A2=some ⟨gS,p2*2,none⟩)∧Blk w' bS 218 #[.slice A2 (LS.length - p2:Nat) (LS.length - p2:Nat)]∧Blk w' bM 218 #[.slice (some ⟨gM,q2*2,none⟩) (LM.length - q2:Nat) (n - q2:Nat)]):=aa (by
     intro w5 x p1 q1 A1 hK sv h1 h3 h4 h5 h6
     have H1:gS∉ [bS,bM]:=by
      intro hm
      obtain⟨cs,hc,_⟩:=J.rowS
      rcases List.mem_cons.1 hm with hm | hm
      ·exact aI hc J.boxS (by decide) hm
      ·exact aI hc J.boxM (by decide) (List.mem_singleton.1 hm)
     have hJ:gM∉ [bS,bM]:=by
      intro hm
      obtain⟨cs,hc,_⟩:=J.rowM
      rcases List.mem_cons.1 hm with hm | hm
      ·exact aI hc J.boxS (by decide) hm
      ·exact aI hc J.boxM (by decide) (List.mem_singleton.1 hm)
     have sm:k≠0:=by omega
     have t0:=(rH J.two J.grown.ge sm HV hB sv rfl).2.2.2.1
     have pg:p1<LS.length∨q1<LM.length:=by
      obtain⟨i,hi,sl⟩:∃i,i<k∧(fun j=>if j=x.2 then k else ov j) i=0:=by
       by_cases ex:a1=x.2
       ·exact⟨a2,s7,by show(if a2=x.2 then k else ov a2)=0;rw[if_neg (by omega)];exact HX⟩
       ·exact⟨a1,HV,by show(if a1=x.2 then k else ov a1)=0;rw[if_neg ex];exact hB⟩
      rcases nu t0 hi sl with h | h
      ·have:=List.length_pos_of_mem h
       rw[List.length_drop]at this
       omega
      ·have:=List.length_pos_of_mem h
       rw[List.length_drop]at this
       omega
     exact sS w5 w.heap.size bS bM gS gM p1 q1 n A1 LS LM h5 h6 (hK.trow J.rowS H1) (hK.tcap J.rowM hJ).row h4 h1 h3 (by omega) (by omega) (by omega) (by omega) hA hw HY pg zbS zbM pb)
    have HJ:=aa J
    clear J hw hA HY
    go_wp2_with fail
    refine HF.out.mono ?_
    rintro e5 w5 ⟨x,p1,q1,A1,rfl,hH,hD,ss,sx,q8,hX,hV⟩
    have po:=aa (hR.out w5 x p1 q1 A1 hH hD ss sx q8 hX hV)
    have pv:=aa hD
    have hU:=aa hH
    clear hD hH q8 hX hV hR
    go_wp2_with fail
    refine po.out.mono ?_
    rintro e6 w6 ⟨y,p2,q2,A2,rfl,H4,hE,st,sT,q9,hY,hW⟩
    have hF:=Cj HJ.out.grown HJ.out.two r3 pv.out hE rfl rfl
    have h8:ai w.heap.size [bS,bM] [] w4 w6:=hU.out.trans H4
    have pj:w3.heap.size∉ [bS,bM]:=by
     have h1:=cJ HJ.out.row HJ.out.boxS (by decide) w3.heap.size rfl
     have h3:=cJ HJ.out.row HJ.out.boxM (by decide) w3.heap.size rfl
     simp[h1,h3]
    have he:aB w6 w.heap.size w3.heap.size N N ov:=by
     have:=HJ.out.row
     rw[← HN.out]at this
     exact h8.row this (fun g hg=>by simp[Value.ownBlock]at hg;rw[← hg];exact pj) (by simp)
    have H1:gS∉ [bS,bM]:=by
     intro hm
     obtain⟨cs,hc,_⟩:=HJ.out.rowS
     rcases List.mem_cons.1 hm with hm | hm
     ·exact aI hc HJ.out.boxS (by decide) hm
     ·exact aI hc HJ.out.boxM (by decide) (List.mem_singleton.1 hm)
    have hJ:gM∉ [bS,bM]:=by
     intro hm
     obtain⟨cs,hc,_⟩:=HJ.out.rowM
     rcases List.mem_cons.1 hm with hm | hm
     ·exact aI hc HJ.out.boxS (by decide) hm
     ·exact aI hc HJ.out.boxM (by decide) (List.mem_singleton.1 hm)
    have hC:w3.heap.size≠gM:=by
     obtain⟨cs,hc,_⟩:=HJ.out.rowM
     exact cJ HJ.out.row hc (by decide) w3.heap.size rfl
    have q3:=aa (h8.trow HJ.out.rowS H1)
    have pr:=aa (h8.tcap HJ.out.rowM hJ)
    have HK:=aa (HJ.out.below.trans h8.below)
    have z6:w.heap.size≤w6.heap.size:=HK.out.size
    have sa:w3.heap.size<w6.heap.size:=he.lt.2
    have H0:w.heap.size≤w3.heap.size:=he.lt.1
    obtain⟨⟨act2,len2,qs⟩,HE,hx,hy,t3,pk⟩:=hF
    have rb:x.2<N:=by omega
    have pm:y.2<N:=by omega
    have rv:=aa qs
    have rR:=aa HE
    have tn:=aa hE
    have hP:=aa hY
    have hO:=aa hW
    have rl:=aa q9
    have q0:=aa he
    clear qs HE hE hY hW q9 he h8 H4 hU pv HF po
    obtain⟨x0,x1⟩:=x
    obtain⟨y0,y1⟩:=y
    dsimp only at hx hy t3 pk rb pm
    have h7:aB ((w6.alloc (.cells #[.int .i64 x0,.int .i64 x1] 222)).alloc (.cells #[.int .i64 y0,.int .i64 y1] 222)) w.heap.size w3.heap.size N N ov:=(q0.out.alloc _).alloc _
    have b7:=Bb w6 (.int .i64 x0) (.int .i64 x1) (.int .i64 y0) (.int .i64 y1) 222
    have k0:=(ac b7.1 0).trans (rfl:_=some (Value.int .i64 x0))
    have k1:=(ac b7.1 1).trans (rfl:_=some (Value.int .i64 x1))
    have k2:=(ac b7.2 0).trans (rfl:_=some (Value.int .i64 y0))
    have k3:=(ac b7.2 1).trans (rfl:_=some (Value.int .i64 y1))
    have c1:=h7.cell x1 rb
    have c2:=h7.cell y1 pm
    have f1:=h7.frozen x1
    have f2:=h7.frozen y1
    have t1:(0:Int)≤(x1:Int):=by omega
    have t2:(x1:Int)<(N:Int):=by omega
    have t4:(0:Int)≤(y1:Int):=by omega
    have t5:(y1:Int)<(N:Int):=by omega
    have HP:=aa h7
    have B7:=aa b7
    clear h7 b7
    go_wp2_with fail
    have ST7:Hid (ai w.heap.size [] [] w6 ((w6.alloc (.cells #[.int .i64 x0,.int .i64 x1] 222)).alloc (.cells #[.int .i64 y0,.int .i64 y1] 222))):=aa (((ai.refl w.heap.size [] [] w6).alloc z6 _).alloc (by simp;omega) _)
    obtain⟨w7,pl⟩:∃w7,w7=(w6.alloc (.cells #[.int .i64 x0,.int .i64 x1] 222)).alloc (.cells #[.int .i64 y0,.int .i64 y1] 222):=⟨_,rfl⟩
    rw[← pl]at HP B7 k0 k1 k2 k3 c1 c2 f1 f2 ST7
    rw[← pl]
    clear pl
    have HD:=(HP.out.drew 1).set x1 k
    have r6:=HD.set y1 k
    have c2s:=HD.cell y1 pm
    have f2s:=HD.frozen y1
    have HS2:=aa r6
    clear HD r6
    change (w7.drew.setCell ⟨w3.heap.size,x1,none⟩ (.int .i64 (k:Nat))).cell? ⟨w3.heap.size,y1,none⟩=_ at c2s
    change (w7.drew.setCell ⟨w3.heap.size,x1,none⟩ (.int .i64 (k:Nat))).frozen? ⟨w3.heap.size,y1,none⟩=_ at f2s
    change Hid (aB ((w7.drew.setCell ⟨w3.heap.size,x1,none⟩ (.int .i64 (k:Nat))).setCell ⟨w3.heap.size,y1,none⟩ (.int .i64 (k:Nat))) w.heap.size w3.heap.size N N _)at HS2
    go_region
    obtain⟨w8,hM⟩:∃w8,w8=((w7.setCell ⟨w3.heap.size,x1,none⟩ (.int .i64 (k:Nat))).setCell ⟨w3.heap.size,y1,none⟩ (.int .i64 (k:Nat))).drew:=⟨_,rfl⟩
    have rO:Hid (aB w8 w.heap.size w3.heap.size N N fun j=>if j=y1 then k else if j=x1 then k else ov j):=aa (by rw[hM];exact HS2.out)
    have s1:bS≠w3.heap.size:=fun h=>by simp[h]at pj
    have qb:bM≠w3.heap.size:=fun h=>by simp[h]at pj
    have p0:gS≠w3.heap.size:=by
     obtain⟨cs,hc,_⟩:=HJ.out.rowS
     exact fun h=>cJ HJ.out.row hc (by decide) w3.heap.size rfl h.symm
    have h0:gS≠gM∧gS≠bM∧gM≠bM∧bS≠gM:=by
     simp only[List.mem_cons,az,or_false,not_or]at H1 hJ
     exact⟨r5,H1.2,hJ.2,fun h=>hJ.1 h.symm⟩
    have up8:∀{g:Nat} {t:TypeId} {cs:Array Value},Blk w6 g t cs→g≠w3.heap.size→Blk w8 g t cs:=fun h h3=>by
     rw[hM]
     exact jv (ko (ko (ST7.out.blk h (by simp) (by simp)) h3 _) h3 _)
    have up78:∀{g:Nat} {t:TypeId} {cs:Array Value},Blk w7 g t cs→g≠w3.heap.size→Blk w8 g t cs:=fun h h3=>by
     rw[hM]
     exact jv (ko (ko h h3 _) h3 _)
    have BS8:=aa (up8 hP.out s1)
    have bM8:=up8 hO.out qb
    have ba8:=up78 B7.out.1 (by omega)
    have bb8:=up78 B7.out.2 (by omega)
    have RS8:Hid (dV w8 gS LS):=aa (by
     obtain⟨cs,h1,h3⟩:=q3.out
     exact⟨cs,up8 h1 p0,h3⟩)
    have RM8:Hid (jr w8 gM n LM):=aa (by
     obtain⟨cs,h1,h3⟩:=pr.out
     exact⟨cs,up8 h1 hC.symm,h3⟩)
    have BE8:Hid (Below w.heap.size w w8):=aa (by
     rw[hM]
     exact(((HK.out.trans ST7.out.below).setCell (p:=⟨w3.heap.size,x1,none⟩) H0 _).setCell (p:=⟨w3.heap.size,y1,none⟩) H0 _).drew)
    rw[← hM]
    clear hM up8 up78 HS2 c2s f2s c1 c2 f1 f2 k0 k1 k2 k3 HP B7 ST7 HK q3 pr q0 hP hO
    obtain⟨lm,p4⟩:∃lm,lm=LM.length - q2:=⟨_,rfl⟩
    obtain⟨cm,HC⟩:∃cm,cm=n - q2:=⟨_,rfl⟩
    obtain⟨z,hz⟩:∃z,z=x0+y0:=⟨_,rfl⟩
    rw[← p4,←HC]at bM8
    have tS:(x0:Int)+(y0:Int)=(z:Int):=by omega
    have tM:z≤1099511627776:=by have:=HW.out;omega
    have so:lm+1≤cm:=by omega
    have hl:q2*2+lm*2=LM.length*2:=by omega
    have HS:LM.length<n:=by omega
    have r0:=(ac ba8 0).trans (rfl:_=some (Value.int .i64 x0))
    have r1:=(ac bb8 0).trans (rfl:_=some (Value.int .i64 y0))
    have r2:=(ac bM8 0).trans (rfl:_=some (Value.slice (some ⟨gM,q2*2,none⟩) lm cm))
    obtain⟨i3,h3,ta,H5,te⟩:=info_parts Tryz.infoTree
    have H3:(Builtin.append_ #[218,218] 218 #[.slice (some ⟨gM,q2*2,none⟩) lm cm,.slice (some ⟨w8.heap.size,0,none⟩) 1 1]).run Tryz.prog (w8.alloc (.cells #[.int .i64 z,.int .i64 k] 222))=.ok (.slice (some ⟨gM,q2*2,none⟩) (lm+1) cm) (((w8.alloc (.cells #[.int .i64 z,.int .i64 k] 222)).setCell ⟨gM,LM.length*2,none⟩ (.int .i64 z)).setCell ⟨gM,LM.length*2+1,none⟩ (.int .i64 k)):=by
     have ql:=AG RM8.out (.cells #[.int .i64 z,.int .i64 k] 222)
     have h9:=run_append_room_cells (P:=Tryz.prog) (w8.alloc (.cells #[.int .i64 z,.int .i64 k] 222)) 218 218 222 i3 Tryz.underlying218 h3 gM (q2*2) lm cm ⟨w8.heap.size,0,none⟩ 1 1 [.int .i64 z,.int .i64 k] (by rw[H5];rfl) (uE w8 _ _ _)
      (fun u hu=>by simp at hu;rcases hu with rfl | rfl <;>rfl) so
      (fun jj hj=>by rw[H5,hl];exact(ql.there _ (by simp at hj;omega)).1) (fun jj hj=>by rw[H5,hl];exact(ql.there _ (by simp at hj;omega)).2)
     rw[H5,hl]at h9
     exact h9
    have HQ:=aa H3
    have fM8:=ae bM8 0
    have BM8:=aa bM8
    have tm:=aa p4
    have tl:=aa HC
    have HZ:=aa hz
    have rM:=aa hl
    have ho:Blk (((w8.alloc (.cells #[.int .i64 z,.int .i64 k] 222)).setCell ⟨gM,LM.length*2,none⟩ (.int .i64 z)).setCell ⟨gM,LM.length*2+1,none⟩ (.int .i64 k)) bM 218 #[.slice (some ⟨gM,q2*2,none⟩) lm cm]:=ko (ko (dN bM8 _) h0.2.2.1.symm _) h0.2.2.1.symm _
    have m10:=(ac ho 0).trans (rfl:_=some (Value.slice (some ⟨gM,q2*2,none⟩) lm cm))
    have f10:=ae ho 0
    have HO:Hid (Ii w ((((w8.alloc (.cells #[.int .i64 z,.int .i64 k] 222)).setCell ⟨gM,LM.length*2,none⟩ (.int .i64 z)).setCell ⟨gM,LM.length*2+1,none⟩ (.int .i64 k)).setCell ⟨bM,0,none⟩ (.slice (some ⟨gM,q2*2,none⟩) (lm+1:Nat) cm)) W n bS bM gS gM w3.heap.size LS (LM++ [(z,k)]) (k+1) p2 q2 y0 A2 (fun j=>if j=k then x0+y0 else ws j) (fun j=>if j=y1 then k else if j=x1 then k else ov j) act2 len2):=aa (by
     have tg:=BE8.out.size
     have hZ:(LM++ [(z,k)]).drop q2=LM.drop q2++ [(z,k)]:=List.drop_append_of_le_length sT
     constructor
     case boxS=>exact ko (ko (ko (dN BS8.out _) h0.2.2.2 _) h0.2.2.2 _) pb _
     case boxM=>
      rw[show (LM++ [(z,k)]).length - q2=lm+1 by rw[List.length_append,List.length_singleton];omega,←HC]
      exact ay ho 0 _
     case rowS=>
      obtain⟨cs,h1,h4⟩:=RS8.out
      exact⟨cs,ko (ko (ko (dN h1 _) h0.1 _) h0.1 _) h0.2.1 _,h4⟩
     case rowM=>exact Hs ((AG RM8.out _).store (z,k) HS) h0.2.2.1 _
     case at_=>exact rl.out
     case hp=>exact st
     case hq=>rw[List.length_append,List.length_singleton];omega
     case hm=>rw[List.length_append,List.length_singleton];omega
     case hk=>omega
     case two=>rw[hZ,hz];exact rR.out
     case grown=>exact rv.out
     case row=>
      rw[← HN.out]
      exact(((rO.out.alloc _).other hC.symm _ _).other hC.symm _ _).other qb _ _
     case low=>
      intro t ht
      rcases List.mem_append.1 ht with ht | ht
      ·exact HJ.out.low t ht
      ·rw[List.mem_singleton.1 ht]
       exact⟨by show z≤_;omega,HJ.out.grown.ge⟩
     case below=>exact((((BE8.out.alloc tg _).setCell (p:=⟨gM,LM.length*2,none⟩) zgM _).setCell (p:=⟨gM,LM.length*2+1,none⟩) zgM _).setCell (p:=⟨bM,0,none⟩) zbM _))
    clear H3 ba8 bb8 bM8 ho p4 HC hz hl h3 ta H5 te
    go_wp2_with (at_builtin;refine Lib.wpList_append_run _ rfl (.tmp 45) (.tmp 53) 218 218 rfl (.slice (some ⟨gM,q2*2,none⟩) lm cm) (.slice (some ⟨w8.heap.size,0,none⟩) 1 1) rfl rfl _ _ HQ.out ?_)
    go_roundw
    case rel=>exact⟨k+1,p2,q2,y0,LM++ [(z,k)],A2,_,_,act2,len2,by go_num,HO.out⟩
    case measure=>simp[intOf];omega
   ·have p3:k=N:=by omega
    subst p3
    have dk:decide ((k:Int)<(k:Int))=false:=au (by omega)
    have HG:=aa J.grown
    have HR:=aa J.row
    have rs:=aa J.below
    clear J
    go_wp2_with fail
    go_ret
    rw[← HN.out]
    rw[← HN.out]at HR
    refine⟨w3.heap.size,ov,ws,act,len,rfl,?_,HR.out,rs.out⟩
    rw[s0.out]
    exact HG.out
theorem aB.cut{w:World}{B g c N n:Nat}{f:Nat→Nat}(h:aB w B g c N f)(hn:n≤N):aB w B g c n f:=by
 unfold aB at*
 rcases h.2 with⟨h',_⟩ | ⟨g',cap',cur,h',hB,h1,h3,hm,h2,h0⟩
 ·simp at h'
 ·simp only[Value.slice.injEq,Option.some.injEq,Addr.mk.injEq,and_true,true_and]at h'
  obtain⟨rfl,rfl⟩:=h'
  refine⟨by rw[dF,Nat.mul_one],.inr ⟨g,c,cur,rfl,hB,h1,by omega,hm,h2,?_⟩⟩
  rw[Nat.mul_one]at h0 ⊢
  have e:cur.toList.take n=(cur.toList.take N).take n:=by rw[List.take_take,Nat.min_eq_left hn]
  rw[e,h0]
  unfold bW
  rw[← List.map_take,List.take_range,Nat.min_eq_left hn]
theorem zW(w:World)(A:Option Addr)(n c:Nat)(f:Nat→Nat)(hL:aT w A n ((List.range n).map f))(h2:2≤n)(hn:n≤258)(hf:∀i,i<n→1≤f i∧f i≤1073741824):
 Calls Tryz.prog 206 #[.slice A n c] w fun e w'=>∃g c2 len,e=.returned (.slice (some ⟨g,0,none⟩) n c2)∧j8 ((List.range n).map f) len∧aB w' w.heap.size g c2 n len∧Below w.heap.size w w':=by
 have HJ:=aa (D3 w A n c f hL h2 hn hf)
 obtain⟨N,hN⟩:∃N,N=2*n - 1:=⟨_,rfl⟩
 rw[← hN]at HJ
 have HN:=aa hN
 have hI:3≤N:=by omega
 have hJ:N≤515:=by omega
 have hD:n≤N:=by omega
 clear hL hf hN
 go_enter Tryz.func206,Tryz.ntmps206
 go_wp2_with fail
 refine HJ.out.mono ?_
 rintro e w2 ⟨gI,ov,ws,act,len,rfl,hg,hr,hb⟩
 obtain⟨dd,hl,ht,hm,h1,hp⟩:=Bm (by rw[← HN.out];exact hg)
 have ha:=aa hl
 have hh:=aa ht
 have hc:=aa hm
 have h7:=aa h1
 have he:=aa hp
 have HR:=aa hr
 have HB:=aa hb
 have hC:=bq w2 N (by omega)
 have hk:=aa (a9 w2 w.heap.size N hb.size (by omega))
 have hA:gI<w2.heap.size:=hr.lt.2
 have hK:(N:Int) - 2=((N - 2:Nat):Int):=by omega
 clear hg hr hb HJ hl ht hm h1 hp
 go_wp2_with fail
 clear hC
 have h9:Hid (Below w2.heap.size w2 (w2.alloc (.cells (madeCells #[.int .i64 0] N) 3))):=aa ((Below.refl _ _).alloc (ah _) _)
 go_loopw [5] (fun x wx=>∃(q:Nat) (i:Int),q+1≤N∧i=(q:Int) - 1∧x=.int .i64 i∧aB wx w.heap.size w2.heap.size N N (fun j=>if q≤j then dd j else 0)∧Below w2.heap.size w2 wx) (fun x _=>(intOf x+1).toNat)
 case atStart=>
  refine⟨N - 1,_,by omega,?_,rfl,?_,h9.out⟩
  ·omega
  ·have h3:(w2.alloc (.cells (madeCells #[.int .i64 0] N) 3)).ownsRow w.heap.size 3 1 (.slice (some ⟨w2.heap.size,0,none⟩) N N) N (bW N fun _=>0):=hk.out
   rw[bJ N (fun _=>0) (fun j=>if N - 1≤j then dd j else 0) fun j hj=>by
    by_cases e:N - 1≤j
    ·rw[if_pos e,show j=2*n - 2 by have:=HN.out;omega,ha.out]
    ·rw[if_neg e]]at h3
   exact h3
 case round=>
  clear hk h9
  obtain⟨q,i,hq,hi,rfl,hf,h0⟩:=hrel
  rcases Nat.eq_zero_or_pos q with e0 | e0
  ·subst e0
   have di:decide ((0:Int)≤i)=false:=au (by omega)
   clear hi
   have h3:wr.ownsRow w.heap.size 3 1 (.slice (some ⟨w2.heap.size,0,none⟩) N N) N (bW N fun j=>if 0≤j then dd j else 0):=hf
   rw[bJ N _ dd fun j hj=>if_pos (Nat.zero_le j)]at h3
   have h4:aB wr w.heap.size w2.heap.size N N dd:=h3
   have h5:aB wr w.heap.size w2.heap.size N n len:=by
    have h6:wr.ownsRow w.heap.size 3 1 (.slice (some ⟨w2.heap.size,0,none⟩) n N) n (bW n dd):=h4.cut hD
    rw[bJ n dd len fun j hj=>(he.out j hj).symm]at h6
    exact h6
   have H5:=aa h5
   have hy:=aa (ao HB.out h0)
   have hM:(0:Int)≤(n:Int):=by omega
   have hE:(n:Int)≤(N:Int):=by omega
   clear hf h0 h3 h4 h5 hh hc he HR ha HB
   go_wp2_with fail
   go_ret
   exact⟨w2.heap.size,N,len,rfl,h7.out,H5.out,hy.out⟩
  ·obtain⟨r,rfl⟩:∃r,q=r+1:=⟨q - 1,by omega⟩
   have hB:i=(r:Int):=by omega
   subst hB
   have dr:decide ((0:Int)≤(r:Int))=true:=aC (by omega)
   have hw:r<N:=by omega
   have hP:(0:Int)≤(r:Int):=by omega
   have hH:(r:Int)<(N:Int):=by omega
   have hd:=hh.out r (by have:=HN.out;omega)
   have ci:=(HR.out.below h0 hA).cell r hw
   have h8:=hc.out (ov r)
   obtain⟨o,ho⟩:∃o,o=ov r:=⟨_,rfl⟩
   rw[← ho]at ci hd h8
   have hF:o<N:=by have:=HN.out;omega
   have hO:(0:Int)≤(o:Int):=by omega
   have hG:(o:Int)<(N:Int):=by omega
   have co:=hf.cell o hF
   rw[if_pos (by omega)]at co
   have cr:=hf.cell r hw
   have fr:=hf.frozen r
   obtain⟨v,hv⟩:∃v,v=dd o:=⟨_,rfl⟩
   rw[← hv]at co hd h8
   obtain⟨v1,hx⟩:∃v1,v1=v+1:=⟨_,rfl⟩
   have hR:(v:Int)+1=(v1:Int):=by omega
   have hQ:v1≤1000:=by omega
   have hs:=hf.set r v1
   have hu:(fun j=>if j=r then v1 else if r+1≤j then dd j else 0)=fun j=>if r≤j then dd j else 0:=by
    funext j
    by_cases ej:j=r
    ·rw[if_pos ej,if_pos (by omega),ej,hd.2.2,hx]
    ·rw[if_neg ej]
     by_cases ej2:r+1≤j
     ·rw[if_pos ej2,if_pos (by omega)]
     ·rw[if_neg ej2,if_neg (by omega)]
   rw[hu]at hs
   have HS:=aa hs
   have hz:=aa (h0.setCell (p:=⟨w2.heap.size,r,none⟩) (ah _) (.int .i64 (v1:Nat)))
   clear hf h0 hs hu hd ho hv hx h8 hi
   go_wp2_with fail
   go_roundw
   case rel=>exact⟨r,(r:Int) - 1,by omega,rfl,by go_num,HS.out,hz.out⟩
   case measure=>simp[intOf]
structure Hz (w wx:World) (W0:List Nat) (n most t gA cA gX cX:Nat) (len f:Nat→Nat):Prop where
 ht:t≤31
 rowW:aB wx w.heap.size gA cA n f
 rowL:aB wx w.heap.size gX cX n len
 half:cz W0 t=(List.range n).map f
 hlen:j8 (cz W0 t) len
 hf:∀j,j<n→1≤f j∧f j≤1073741824
 past:∀q,q<t→∃L1,j8 (cz W0 q) L1∧∃i,i<n∧most<L1 i
 below:Below w.heap.size w wx
theorem FB{w:World}{B g c n:Nat}{f:Nat→Nat}(h:aB w B g c n f):ZIn w (some ⟨g,0,none⟩) n (((List.range n).map f).map fun(x:Nat)=>(x:Int)):=dP h.ints
theorem sO(n:Nat)(f:Nat→Nat)(i:Nat)(h:i<n):(((List.range n).map f).map fun(x:Nat)=>(x:Int)).getD i 0=(f i:Int):=by
 rw[List.getD_eq_getElem?_getD,List.getElem?_map,List.getElem?_map,List.getElem?_range h]
 rfl
theorem Dd(w:World)(A:Option Addr)(n c:Nat)(L:List Int)(most:Nat)(hL:ZIn w A n L)(hM:iG L)(hT:12≤most)(hU:most≤20):Calls Tryz.prog 168 #[.slice A n c,.int .i64 most] w (jt w L most):=by
 have hv:=hL.1
 have hQ:2≤n:=by have:=hM.1;omega
 have hn:n≤258:=by have:=hM.2.1;omega
 have HM:=aa (tI w A n c L hL (by unfold maxLen;omega))
 rw[show decide (iG L)=true from decide_eq_true hM]at HM
 have HC:=aa (px w A n c L hL (fun x hx=>(hM.2.2 x hx).1) (by omega) (by omega))
 obtain⟨f0,hb⟩:∃f0,f0=qU L:=⟨_,rfl⟩
 rw[← hb]at HC
 have hu:∀j,j<n→1≤f0 j∧f0 j≤1073741824:=by
  intro j hj
  rw[hb]
  have:=(hM.2.2 _ (fb L j (by omega))).2
  unfold qU
  omega
 have ho:iS L=(List.range n).map f0:=by
  unfold iS
  rw[hv,hb]
 have hP:Hid (∀ (v:Value) (len:Nat→Nat) w',gn (iS L) most len→w'.ownsRow w.heap.size 3 1 v n (bW n len)→Below w.heap.size w w'→jt w L most (.returned (.tuple #[v,.int .i64 0])) w'):=aa fun v len w' h1 h2 h3=>
  .inr ⟨hM,by omega,by omega,v,len,by rw[Int.toNat_natCast];exact h1,rfl,by rw[hv];exact h2,h3⟩
 have m1:decide ((most:Int)<12)=false:=au (by omega)
 have m2:decide ((20:Int)<(most:Int))=false:=au (by omega)
 have hh:=aa hu
 have hl:=aa ho
 have hA:=aa fun(w1:World) (B g c1:Nat) (f:Nat→Nat) (h:aB w1 B g c1 n f) (hf:∀i,i<n→1≤f i∧f i≤1073741824)=>zW w1 (some ⟨g,0,none⟩) n c1 f h.ints hQ hn hf
 have hO:=aa fun(w1:World) (B g c1:Nat) (f:Nat→Nat) (h:aB w1 B g c1 n f)=>nC w1 (some ⟨g,0,none⟩) n c1 _ (FB h) (by omega) (by unfold maxLen;omega)
 have hK:=aa fun(w1:World) (B g c1:Nat) (f:Nat→Nat) (h:aB w1 B g c1 n f) (hf:∀j,j<n→f j≤1073741824)=>Cv w1 B g c1 n f h hf (by omega)
 have h9:Hid ((iS L).length=n∧∀x∈iS L,x≤2 ^ 30):=aa (by
  rw[ho]
  refine⟨by simp,fun x hx=> ?_⟩
  obtain⟨j,hj,rfl⟩:=List.mem_map.1 hx
  have:=hu j (List.mem_range.1 hj)
  have e30:(2:Nat) ^ 30=1073741824:=by decide
  omega)
 generalize jt w L most=PO at*
 generalize iS L=W0 at*
 clear hL hv hM hb hu ho
 go_enter Tryz.func168,Tryz.ntmps168
 go_wp2_with fail
 refine HM.out.mono ?_
 rintro e w ⟨rfl,rfl⟩
 clear HM
 go_wp2_with fail
 refine HC.out.mono ?_
 rintro e w1 ⟨gA,cA,rfl,ht,hC⟩
 have hy:=aa (hA.out w1 w.heap.size gA cA f0 ht hh.out)
 have hg:=aa ht
 have hc:=aa hC
 clear ht hC HC
 go_wp2_with fail
 refine hy.out.mono ?_
 rintro e w2 ⟨gX,cX,len,rfl,ha,hE,hp⟩
 have h4:Hid (Hz w w2 W0 n most 0 gA cA gX cX len f0):=aa
  ⟨by omega,hg.out.below hp hg.out.lt.2,hE.lower hc.out.size,hl.out,by rw[show cz W0 0=W0 from rfl,hl.out];exact ha,hh.out,(fun q hq=>by omega),ao hc.out hp⟩
 clear ha hE hp hy hg hc hh hl
 go_wp2_with fail
 go_loopg [6] 31 (fun g v wx=>∃(t gY cY:Nat) (len f:Nat→Nat),t+g=31∧v=.slice (some ⟨gY,0,none⟩) n cY∧Hz w wx W0 n most t gA cA gY cY len f)
 case atStart=>exact⟨0,gX,cX,len,f0,rfl,rfl,h4.out⟩
 case round=>
  clear h4
  obtain⟨t,gY,cY,len,f,hV,rfl,T⟩:=hrel
  have HG:=aa (hO.out wr w.heap.size gY cY len T.rowL)
  have HT:=aa T
  clear T
  go_wp2_with fail
  refine HG.out.mono ?_
  rintro e w7 ⟨g,rfl,h7,rfl⟩
  have hI:(∀ j,j<n→(len j:Int)≤g)∧∃j,j<n∧(len j:Int)=g:=by
   refine⟨fun j hj=> ?_,?_⟩
   ·have h3:=h7.1 j hj
    rwa [sO n len j hj]at h3
   ·obtain⟨j,hj,h⟩:=h7.2
    rw[sO n len j hj]at h
    exact⟨j,hj,h⟩
  have h6:=aa hI
  clear h7 hI HG
  by_cases e2:(most:Int)<g
  ·have dg:decide ((most:Int)<g)=true:=decide_eq_true e2
   obtain⟨jm,hG,hR⟩:=h6.out.2
   have hS:t<31:=by
    rcases Nat.lt_or_ge t 31 with h | h
    ·exact h
    ·have:=oY h9.out.2 (by rw[h9.out.1];exact hn) t h HT.out.hlen jm (by rw[h9.out.1];exact hG)
     omega
   have HH:=aa (hK.out w7 w.heap.size gA cA f HT.out.rowW fun j hj=>(HT.out.hf j hj).2)
   have hN:Hid (∃ i,i<n∧most<len i):=aa ⟨jm,hG,by omega⟩
   clear hR
   go_wp2_with fail
   refine HH.out.mono ?_
   rintro e w8 ⟨rfl,hw,hD⟩
   have hs:∀i,i<n→1≤f i / 2+1∧f i / 2+1≤1073741824:=fun i hi=>by
    have:=HT.out.hf i hi
    omega
   have hz:=aa (hA.out w8 w.heap.size gA cA (fun j=>f j / 2+1) hw hs)
   have hk:=aa hw
   have he:=aa hD
   have hB:=aa hs
   clear hw hD hs HH
   go_wp2_with fail
   refine hz.out.mono ?_
   rintro e w9 ⟨gZ,cZ,len2,rfl,h5,hF,hr⟩
   have h0:cz W0 (t+1)=(List.range n).map fun a=>f a / 2+1:=by rw[cz,HT.out.half,qw]
   have hJ:w.heap.size≤w8.heap.size:=(HT.out.below.trans he.out).size
   have h4:Hid (Hz w w9 W0 n most (t+1) gA cA gZ cZ len2 (fun j=>f j / 2+1)):=aa
    ⟨by omega,hk.out.below hr hk.out.lt.2,hF.lower hJ,h0,by rw[h0];exact h5,hB.out,(fun q hq=>by
      by_cases eq:q=t
      ·subst eq
       exact⟨len,HT.out.hlen,hN.out⟩
      ·exact HT.out.past q (by omega)),(HT.out.below.trans he.out).trans (hr.mono hJ)⟩
   clear h5 hF hr h0 hz hk he hB
   go_wp2_with fail
   go_roundg (gk - 1)
   case measure=>omega
   case rel=>exact⟨t+1,gZ,cZ,len2,_,by omega,by go_num,h4.out⟩
  ·have dg:decide ((most:Int)<g)=false:=decide_eq_false e2
   have hm:gn (cz W0 t) most len:=.done HT.out.hlen (by
    rw[dO,h9.out.1]
    intro i hi
    have:=h6.out.1 i hi
    omega)
   have hH:=mr (w:=W0) t (fun q hq2=>by rw[h9.out.1];exact HT.out.past q hq2) hm
   have h8:=aa (hP.out _ len w7 hH HT.out.rowL HT.out.below)
   clear hm hH HT h6 hP
   go_wp2_with fail
   exact h8.out
end Go.Proofs.YthakcjehhlpjnaaGreat
