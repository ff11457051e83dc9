import Derived.Test.YthakcjehhlpjnaaGreatB05
import Derived.Shelf.Small.Bits
import Derived.Lib.ItoaNum
set_option maxHeartbeats 6400000
set_option maxRecDepth 100000
namespace Go.Proofs.YthakcjehhlpjnaaGreat
open Go.RowKit
theorem J0(w:World):w.drew.heap.size=w.heap.size:=rfl
theorem Bb{w W:World}(h:Below w.heap.size w W):Below w.heap.size w W.drew:=h.drew
theorem AG{w W:World}(h:Below w.heap.size w W)(o:Obj):Below w.heap.size w (W.alloc o):=h.alloc h.size o
theorem Jv{w W:World}{b o:Nat}(h:Below w.heap.size w W)(hp:w.heap.size≤b)(v:Value):Below w.heap.size w (W.setCell ⟨b,o,none⟩ v):=h.setCell (p:=⟨b,o,none⟩) hp v
theorem Jg{w W W2:World}(h:Below w.heap.size w W)(hb:Below W.heap.size W W2):Below w.heap.size w W2:=ap h hb
theorem JC{W:World}{g:Nat}{t:TypeId}{cs:Array Value}(h:g=W.heap.size):Blk (W.alloc (.cells cs t)) g t cs:=by
 subst h
 exact ag W t cs
theorem JH{W:World}{g:Nat}{t:TypeId}(h:Blk W g t #[.slice none 0 0])(v:Value):Blk (W.setCell ⟨g,0,none⟩ v) g t #[v]:=au h 0 v
theorem kE{W:World}{g b o:Nat}{t:TypeId}{cs:Array Value}(h:Blk W g t cs)(h0:g≠b)(v:Value):Blk (W.setCell ⟨b,o,none⟩ v) g t cs:=(aC W v h0).trans h
theorem Bv{W:World}{g N:Nat}{T:List (Nat×Nat)}(h:jz W g N T)(o:Obj):jz (W.alloc o) g N T:=by
 obtain⟨cs,h1,h2⟩:=h
 exact⟨cs,dS h1 o,h2⟩
theorem I6{W:World}{g N b o:Nat}{T:List (Nat×Nat)}(h:jz W g N T)(h0:g≠b)(v:Value):jz (W.setCell ⟨b,o,none⟩ v) g N T:=by
 obtain⟨cs,h1,h2⟩:=h
 exact⟨cs,kE h1 h0 v,h2⟩
theorem JO{W:World}{g m:Nat}(h:Blk W g 222 (madeCells #[.int .i64 0,.int .i64 0] (m*2))):jz W g m []:=⟨_,h,by rw[size_madeCells],fun i hi=>absurd hi (by simp)⟩
theorem CD{W:World}{g:Nat}{t:TypeId}{v:Value}(h:Blk W g t #[v]):W.cell? ⟨g,0,none⟩=some v∧W.frozen? ⟨g,0,none⟩=false∧(∀ o:Obj,(W.alloc o).cell? ⟨g,0,none⟩=some v)∧(∀ o:Obj,(W.alloc o).frozen? ⟨g,0,none⟩=false)∧(∀ o o2:Obj,((W.alloc o).alloc o2).cell? ⟨g,0,none⟩=some v)∧∀o o2:Obj,((W.alloc o).alloc o2).frozen? ⟨g,0,none⟩=false:=
 ⟨(ac h 0).trans rfl,ae h 0,fun o=>(ac (dS h o) 0).trans rfl,fun o=>ae (dS h o) 0,fun o o2=>(ac (dS (dS h o) o2) 0).trans rfl,fun o o2=>ae (dS (dS h o) o2) 0⟩
theorem pJ{W:World}{g b:Nat}{t:TypeId}{u:Value}(h:Blk W g t #[u])(h0:g≠b):(∀ (v:Value) (o:Obj),((W.setCell ⟨b,0,none⟩ v).alloc o).cell? ⟨g,0,none⟩=some u)∧∀(v:Value) (o:Obj),((W.setCell ⟨b,0,none⟩ v).alloc o).frozen? ⟨g,0,none⟩=false:=
 ⟨fun v o=>(ac (dS (kE (b:=b) (o:=0) h h0 v) o) 0).trans rfl,fun v o=>ae (dS (kE (b:=b) (o:=0) h h0 v) o) 0⟩
def F3(w wx:World)(n:Nat)(T:List (Nat×Nat))(s3 s4:Value):Prop:=∃bS bM gS gM,s3=.pointer (some ⟨bS,0,none⟩)∧s4=.pointer (some ⟨bM,0,none⟩)∧Blk wx bS 218 #[.slice (some ⟨gS,0,none⟩) n n]∧Blk wx bM 218 #[.slice (some ⟨gM,0,none⟩) 0 n]∧
 jz wx gS n T∧jz wx gM n []∧Below w.heap.size w wx∧bS≠bM∧gS≠gM∧w.heap.size≤bS∧w.heap.size≤bM∧w.heap.size≤gS∧w.heap.size≤gM
theorem tK(w:World)(B bS bM gS gM p q N:Nat)(AS:Option Addr)(LS LM:List (Nat×Nat))
 (hS:Blk w bS 218 #[.slice AS (LS.length - p:Nat) (LS.length - p:Nat)]) (hM:Blk w bM 218 #[.slice (some ⟨gM,q*2,none⟩) (LM.length - q:Nat) (N - q:Nat)])
 (tS:ew w gS LS) (tM:ew w gM LM) (h0:p<LS.length→AS=some ⟨gS,p*2,none⟩) (hp:p≤LS.length) (hq:q≤LM.length) (hN:q+2≤N) (h9:LM.length≤N) (hL:LS.length≤1000000) (ha:N≤1000000)
 (hf:∀t∈LS,t.1<4611686018427387904) (hc:∀t∈LM,t.1<4611686018427387904) (hb:∀t∈LS,∀u∈LM,t.2≠u.2) (hh:p<LS.length∨q<LM.length) (h8:B≤bS) (h7:B≤bM) (hg:bS≠bM):
 Calls Tryz.prog 256 #[.pointer (some ⟨bS,0,none⟩),.pointer (some ⟨bM,0,none⟩)] w fun e w'=>∃(x:Nat×Nat) (p1 q1:Nat) (A1:Option Addr),e=.returned (.agg #[.int .i64 x.1,.int .i64 x.2])∧ak B [bS,bM] [] w w'∧
  jP (LS.drop p) (LM.drop q)=(x,LS.drop p1,LM.drop q1)∧p1≤LS.length∧q1≤LM.length∧(p1<LS.length→A1=some ⟨gS,p1*2,none⟩)∧Blk w' bS 218 #[.slice A1 (LS.length - p1:Nat) (LS.length - p1:Nat)]∧Blk w' bM 218 #[.slice (some ⟨gM,q1*2,none⟩) (LM.length - q1:Nat) (N - q1:Nat)]:=by
 refine(Cp w B bS bM gS gM p q N AS LS LM hS hM tS tM h0 hp hq hN h9 hL ha hf hc hb hh h8 h7 hg).mono ?_
 rintro e w' ⟨x,he,h6,⟨h1,h2,⟨A1,h3,h4⟩,h5⟩ | ⟨h1,h2,h3,h4⟩⟩
 ·exact⟨x,p+1,q,A1,he,h6,h2,h1,hq,h4,h3,h5⟩
 ·exact⟨x,p,q+1,AS,he,h6,h2,hp,h1,h0,h3,h4⟩
structure Js (w wx:World) (W:List Nat) (n bS bM gS gM gI:Nat) (LS LM:List (Nat×Nat)) (k p q b:Nat) (AS:Option Addr) (ws ov:Nat→Nat) (act:List Tr) (len:Nat→Nat):Prop where
 boxS:Blk wx bS 218 #[.slice AS (LS.length - p:Nat) (LS.length - p:Nat)]
 boxM:Blk wx bM 218 #[.slice (some ⟨gM,q*2,none⟩) (LM.length - q:Nat) (n - q:Nat)]
 rowS:ew wx gS LS
 rowM:jz wx gM n LM
 at_:p<LS.length→AS=some ⟨gS,p*2,none⟩
 hp:p≤LS.length
 hq:q≤LM.length
 hm:LM.length+n=k
 hk:k≤2*n - 1
 two:Two n k ws ov (LS.drop p) (LM.drop q) b
 grown:jq n W k ws ov act len
 row:aB wx w.heap.size gI (2*n - 1) (2*n - 1) ov
 low:∀t∈LM,t.1≤W.sum∧n≤t.2
 below:Below w.heap.size w wx
theorem GV(w:World)(A:Option Addr)(n c:Nat)(f:Nat→Nat)(hL:aw w A n ((List.range n).map f))(h2:2≤n)(hn:n≤258)(hf:∀i,i<n→1≤f i∧f i≤1073741824):
 Calls Tryz.prog 237 #[.slice A n c] w fun e w'=>∃g ov ws act len,e=.returned (.slice (some ⟨g,0,none⟩) (2*n - 1:Nat) (2*n - 1:Nat))∧jq n ((List.range n).map f) (2*n - 1) ws ov act len∧aB w' w.heap.size g (2*n - 1) (2*n - 1) ov∧Below w.heap.size w w':=by
 have HM:=fun(w1:World) (h:aw w1 A n ((List.range n).map f))=>uB w1 A n c f h (by omega) (by omega)
 obtain⟨T,hT⟩:∃T,T=(List.range n).map fun i=>(f i,i):=⟨_,rfl⟩
 rw[← hT]at HM
 have HA:=aa HM
 have HT:=aa hT
 have pg:∀w1:World,(Instr.makeSlice 218 (.int .i64 0) (.int .i64 n)).run Tryz.prog w1=.ok (.slice (some ⟨w1.heap.size,0,none⟩) 0 n) (w1.alloc (.cells (madeCells #[.int .i64 0,.int .i64 0] (n*2)) 222)):=fun w1=>sb w1 0 n (Nat.zero_le _) (by omega)
 have HI:=aa fun(w1:World) (hb:Below w.heap.size w w1)=>bF hL hb
 have st1:ak w.heap.size [] [] w w:=ak.refl _ _ _ _
 clear hL HM hT
 go_enter Tryz.func237,Tryz.ntmps237
 go_wp2_with fail
 go_cut [3,4]from 10 to 14 (fun s3 s4 wx=>F3 w wx n T s3 s4)
 case first=>
  go_region_held3 (fun w'=>True)
   (trivial)
   (first
     | (go_at_call 170;with_reducible refine(HA.out _ (HI.out _ (by repeat (first | with_reducible exact st1.below | with_reducible assumption | with_reducible refine Bb ?_ | with_reducible refine AG ?_ _)))).mono ?_;rintro e w2 ⟨rfl,HL,hh⟩
        have bl2:Below w.heap.size w w2:=Jg (by repeat (first | with_reducible exact st1.below | with_reducible assumption | with_reducible refine Bb ?_ | with_reducible refine AG ?_ _)) hh
        have z2:=HL.row.lt
        (first
          | ((first | with_reducible (have h1:=dV hh (ag _ _ _);have h2:=dV hh (dS (ag _ _ _) _);have h3:=dV hh (dS (dS (ag _ _ _) _) _)) | with_reducible (have h1:=dV hh (jH (ag _ _ _));have h2:=dV hh (jH (dS (ag _ _ _) _));have h3:=dV hh (jH (dS (dS (ag _ _ _) _) _))));(try obtain⟨c1,f1,ca1,fa1,cb1,fb1⟩:=CD h1);(try obtain⟨c2,f2,ca2,fa2,cb2,fb2⟩:=CD h2);(try obtain⟨c3,f3,ca3,fa3,cb3,fb3⟩:=CD h3);simp only[World.size_alloc,J0]at *;(try obtain⟨cp12,fp12⟩:=pJ (b:=w.heap.size+1) h1 (by omega));(try obtain⟨cp13,fp13⟩:=pJ (b:=w.heap.size) h1 (by omega));(try obtain⟨cp21,fp21⟩:=pJ (b:=w.heap.size+1+1) h2 (by omega));(try obtain⟨cp23,fp23⟩:=pJ (b:=w.heap.size) h2 (by omega));(try obtain⟨cp31,fp31⟩:=pJ (b:=w.heap.size+1+1) h3 (by omega));(try obtain⟨cp32,fp32⟩:=pJ (b:=w.heap.size+1) h3 (by omega)))
          | ((first | with_reducible (have h1:=dV hh (ag _ _ _);have h2:=dV hh (dS (ag _ _ _) _)) | with_reducible (have h1:=dV hh (jH (ag _ _ _));have h2:=dV hh (jH (dS (ag _ _ _) _))));(try obtain⟨c1,f1,ca1,fa1,cb1,fb1⟩:=CD h1);(try obtain⟨c2,f2,ca2,fa2,cb2,fb2⟩:=CD h2);simp only[World.size_alloc,J0]at *;(try obtain⟨cp12,fp12⟩:=pJ (b:=w.heap.size) h1 (by omega));(try obtain⟨cp21,fp21⟩:=pJ (b:=w.heap.size+1) h2 (by omega)))
          | ((first | with_reducible (have h1:=dV hh (ag _ _ _)) | with_reducible (have h1:=dV hh (jH (ag _ _ _))));(try obtain⟨c1,f1,ca1,fa1,cb1,fb1⟩:=CD h1);simp only[World.size_alloc,J0]at *)
          | (simp only[J0]at *)
          | skip)))
  all_goals go_wp2_with fail
  all_goals go_meet
  all_goals refine⟨_,_,_,_,rfl,rfl,by(repeat (first | with_reducible assumption | (with_reducible refine JC ?_;(simp;done)) | with_reducible refine dS ?_ _ | with_reducible refine JH ?_ _ | (with_reducible refine kE ?_ ?_ _;rotate_left;omega))),by(repeat (first | with_reducible assumption | (with_reducible refine JC ?_;(simp;done)) | with_reducible refine dS ?_ _ | with_reducible refine JH ?_ _ | (with_reducible refine kE ?_ ?_ _;rotate_left;omega))),by(repeat (first | with_reducible assumption | with_reducible refine Bv ?_ _ | (with_reducible refine I6 ?_ ?_ _;rotate_left;omega))),JO (by(repeat (first | with_reducible assumption | (with_reducible refine JC ?_;(simp;done)) | with_reducible refine dS ?_ _ | with_reducible refine JH ?_ _ | (with_reducible refine kE ?_ ?_ _;rotate_left;omega)))),by(repeat (first | with_reducible exact st1.below | with_reducible assumption | with_reducible refine Bb ?_ | with_reducible refine AG ?_ _ | (with_reducible refine Jv ?_ ?_ _;rotate_left;omega))),?_,?_,?_,?_,?_,?_⟩
  all_goals omega
 case rest=>
  obtain⟨bS,bM,gS,gM,rfl,rfl,HD,ql,HY,qs,hb,pj,rb,zbS,zbM,zgS,zgM⟩:=hcut
  have qv:T.length=n:=by rw[HT.out];simp
  have sl:(T.map Prod.snd).Nodup:=by
   rw[HT.out,List.map_map]
   have:(Prod.snd ∘ fun i=>(f i,i))=id:=rfl
   rw[this,List.map_id]
   exact List.nodup_range
  have hG:=yc wc w.heap.size gS n T HY.row zgS (by omega) sl
  rw[qv]at hG
  have hS:=aa hG
  have cS:=ac HD 0
  have fS:=ae HD 0
  have cS':wc.cell? ⟨bS,0,none⟩=some (.slice (some ⟨gS,0,none⟩) n n):=cS
  have HP:=aa ql
  have HQ:=aa HD
  have q8:=aa qs
  have q9:=aa HY
  have HB:=aa hb
  clear hG cS HD ql HY qs hb pg st1 HA
  go_wp2_with fail
  refine hS.out.mono ?_
  rintro e w3 ⟨rfl,LS,ha,hv,H3,hK⟩
  obtain⟨N,hN⟩:∃N,N=2*n - 1:=⟨_,rfl⟩
  have u0:(2:Int)*(n:Int) - 1=(N:Int):=by omega
  have tM:3≤N:=by omega
  have tS:N≤515:=by omega
  have pg:=bA w3 N (by omega)
  have r7:=a9 w3 w.heap.size N (by have:=HB.out.size;have:=hK.size;omega) (by omega)
  have HN:=aa hN
  have q3:=aa r7
  have hI:=aa hK
  have hQ:=aa H3
  have hs:=aa hv
  have hr:=aa ha
  have HW:Hid (((List.range n).map f).sum≤1099511627776):=aa (om n f hn fun j hj=>(hf j hj).2)
  have HC:Hid (LS.length=n∧(∀ t∈LS,t.1≤1073741824∧t.2<n)):=aa (by
   refine⟨by rw[ha.length_eq,qv],fun t ht=> ?_⟩
   have h3:=ha.mem_iff.1 ht
   rw[HT.out]at h3
   obtain⟨i,hi,rfl⟩:=List.mem_map.1 h3
   exact⟨(hf i (List.mem_range.1 hi)).2,List.mem_range.1 hi⟩)
  have HJ:Hid (Js w (w3.alloc (.cells (madeCells #[.int .i64 0] N) 3)) ((List.range n).map f) n bS bM gS gM w3.heap.size LS [] n 0 0 0 (some ⟨gS,0,none⟩) (fun j=>((List.range n).map f).getD j 0) (fun _=>0) (jw ((List.range n).map f)) (fun _=>0)):=aa (by
   have rv:∀b,Blk wc b 218 #[.slice (some ⟨gS,0,none⟩) n n]∨Blk wc b 218 #[.slice (some ⟨gM,0,none⟩) 0 n]→b∉ [gS]:=by
    rintro b hb hm
    rw[List.mem_singleton]at hm
    obtain⟨cs,h1,_⟩:=q9.out
    rcases hb with hb | hb <;>exact aI hb h1 (by decide) hm
   have HE:((List.range n).map f).length=n:=by simp
   constructor
   case boxS=>
    rw[HC.out.1]
    exact dS (hI.out.blk HQ.out (rv bS (.inl HQ.out)) (by simp)) _
   case boxM=>exact dS (hI.out.blk HP.out (rv bM (.inr HP.out)) (by simp)) _
   case rowS=>
    obtain⟨cs,h1,h3⟩:=hQ.out
    exact⟨cs,dS h1 _,h3⟩
   case rowM=>exact Bv (hI.out.tcap q8.out (by rw[List.mem_singleton];exact rb.symm)) _
   case at_=>exact fun _=>rfl
   case hp=>exact Nat.zero_le _
   case hq=>exact Nat.zero_le _
   case hm=>simp
   case hk=>omega
   case two=>
    have h3:=Cs ((List.range n).map f) LS (by
     rw[HE]
     refine hr.out.trans ?_
     rw[HT.out]
     have:((List.range n).map fun i=>(f i,i))=(List.range n).map fun i=>(((List.range n).map f).getD i 0,i):=List.map_congr_left fun i hi=>by rw[cH n f i (List.mem_range.1 hi)]
     rw[this]) hs.out
    rw[HE]at h3
    exact h3
   case grown=>
    have h3:=pQ ((List.range n).map f) (by rw[HE];omega)
    rw[HE]at h3
    exact h3
   case row=>rw[← HN.out];exact q3.out
   case low=>exact fun t ht=>absurd ht (by simp)
   case below=>exact(HB.out.trans hI.out.below).alloc (by have:=HB.out.size;have:=hI.out.size;omega) _)
  generalize hWE:(List.range n).map f=W at*
  have s6:=aa hWE
  clear hWE
  clear hN r7 hK H3 hv ha
  go_wp2_with fail
  clear pg q3 hI hQ hs hr hS HB HQ HP q8 q9
  go_loopw [7,8,9] (fun v s8 s9 wx=>∃(k p q b:Nat) (LM:List (Nat×Nat)) (AS:Option Addr) (ws ov:Nat→Nat) (act:List Tr) (len:Nat→Nat),v=.int .i64 k∧Js w wx W n bS bM gS gM w3.heap.size LS LM k p q b AS ws ov act len) (fun v _ _ _=>N - (intOf v).toNat)
  case atStart=>exact⟨n,0,0,0, [],_,_,_,_,_,rfl,HJ.out⟩
  case round=>
   clear HJ
   rename World=>w4
   obtain⟨k,p,q,b,LM,AS,ws,ov,act,len,rfl,J⟩:=hrel
   have sx:=J.hk
   rw[← HN.out]at sx
   by_cases e:k<N
   ·have dk:decide ((k:Int)<(N:Int))=true:=ar (by omega)
    have r6:k+1<2*n:=by have:=HN.out;omega
    have sa:=HC.out.1
    have u1:=J.hm
    have u2:=J.hq
    obtain⟨a1,a2,p0,so,sm,hB,p3⟩:=oR J.grown r6
    have pk:p<LS.length∨q<LM.length:=by
     rcases nQ J.two p0 hB with h | h
     ·have:=List.length_pos_of_mem h
      rw[List.length_drop]at this
      omega
     ·have:=List.length_pos_of_mem h
      rw[List.length_drop]at this
      omega
    have hw:∀t∈LM,t.1<4611686018427387904:=fun t ht=>by
     have:=(J.low t ht).1
     have:=HW.out
     omega
    have hA:∀t∈LS,t.1<4611686018427387904:=fun t ht=>by
     have:=(HC.out.2 t ht).1
     omega
    have p4:∀t∈LS,∀u∈LM,t.2≠u.2:=fun t ht u hu=>by
     have:=(HC.out.2 t ht).2
     have:=(J.low u hu).2
     omega
    have HF:=aa (tK w4 w.heap.size bS bM gS gM p q n AS LS LM J.boxS J.boxM J.rowS J.rowM.row J.at_ J.hp J.hq (by omega) (by omega) (by omega) (by omega) hA hw p4 pk zbS zbM pj)
    have hR:Hid (∀ (w5:World) (x:Nat×Nat) (p1 q1:Nat) (A1:Option Addr),ak w.heap.size [bS,bM] [] w4 w5→jP (LS.drop p) (LM.drop q)=(x,LS.drop p1,LM.drop q1)→p1≤LS.length→q1≤LM.length→(p1<LS.length→A1=some ⟨gS,p1*2,none⟩)→Blk w5 bS 218 #[.slice A1 (LS.length - p1:Nat) (LS.length - p1:Nat)]→Blk w5 bM 218 #[.slice (some ⟨gM,q1*2,none⟩) (LM.length - q1:Nat) (n - q1:Nat)]→
     Calls Tryz.prog 256 #[.pointer (some ⟨bS,0,none⟩),.pointer (some ⟨bM,0,none⟩)] w5 fun e w'=>∃(y:Nat×Nat) (p2 q2:Nat) (A2:Option Addr),e=.returned (.agg #[.int .i64 y.1,.int .i64 y.2])∧ak w.heap.size [bS,bM] [] w5 w'∧
      jP (LS.drop p1) (LM.drop q1)=(y,LS.drop p2,LM.drop q2)∧p2≤LS.length∧q2≤LM.length∧(p2<LS.length→A2=some ⟨gS,p2*2,none⟩)∧Blk w' bS 218 #[.slice A2 (LS.length - p2:Nat) (LS.length - p2:Nat)]∧Blk w' bM 218 #[.slice (some ⟨gM,q2*2,none⟩) (LM.length - q2:Nat) (n - q2:Nat)]):=aa (by
     intro w5 x p1 q1 A1 hK t2 h1 h3 h4 h5 h6
     have H2:gS∉ [bS,bM]:=by
      intro hm
      obtain⟨cs,hc,_⟩:=J.rowS
      rcases List.mem_cons.1 hm with hm | hm
      ·exact aI hc J.boxS (by decide) hm
      ·exact aI hc J.boxM (by decide) (List.mem_singleton.1 hm)
     have hJ:gM∉ [bS,bM]:=by
      intro hm
      obtain⟨cs,hc,_⟩:=J.rowM
      rcases List.mem_cons.1 hm with hm | hm
      ·exact aI hc J.boxS (by decide) hm
      ·exact aI hc J.boxM (by decide) (List.mem_singleton.1 hm)
     have sv:k≠0:=by omega
     have t5:=(rl J.two J.grown.ge sv p0 hB t2 rfl).2.2.2.1
     have pl:p1<LS.length∨q1<LM.length:=by
      obtain⟨i,hi,st⟩:∃i,i<k∧(fun j=>if j=x.2 then k else ov j) i=0:=by
       by_cases ex:a1=x.2
       ·exact⟨a2,so,by show(if a2=x.2 then k else ov a2)=0;rw[if_neg (by omega)];exact p3⟩
       ·exact⟨a1,p0,by show(if a1=x.2 then k else ov a1)=0;rw[if_neg ex];exact hB⟩
      rcases nQ t5 hi st with h | h
      ·have:=List.length_pos_of_mem h
       rw[List.length_drop]at this
       omega
      ·have:=List.length_pos_of_mem h
       rw[List.length_drop]at this
       omega
     exact tK w5 w.heap.size bS bM gS gM p1 q1 n A1 LS LM h5 h6 (hK.trow J.rowS H2) (hK.tcap J.rowM hJ).row h4 h1 h3 (by omega) (by omega) (by omega) (by omega) hA hw p4 pl zbS zbM pj)
    have HJ:=aa J
    clear J hw hA p4
    go_wp2_with fail
    refine HF.out.mono ?_
    rintro e5 w5 ⟨x,p1,q1,A1,rfl,hH,hD,t0,t3,qa,hY,hW⟩
    have pM:=aa (hR.out w5 x p1 q1 A1 hH hD t0 t3 qa hY hW)
    have q4:=aa hD
    have hV:=aa hH
    clear hD hH qa hY hW hR
    go_wp2_with fail
    refine pM.out.mono ?_
    rintro e6 w6 ⟨y,p2,q2,A2,rfl,H5,hE,t1,t4,qb,hZ,hX⟩
    have hF:=Ew HJ.out.grown HJ.out.two r6 q4.out hE rfl rfl
    have h8:ak w.heap.size [bS,bM] [] w4 w6:=hV.out.trans H5
    have pn:w3.heap.size∉ [bS,bM]:=by
     have h1:=cI HJ.out.row HJ.out.boxS (by decide) w3.heap.size rfl
     have h3:=cI HJ.out.row HJ.out.boxM (by decide) w3.heap.size rfl
     simp[h1,h3]
    have he:aB w6 w.heap.size w3.heap.size N N ov:=by
     have:=HJ.out.row
     rw[← HN.out]at this
     exact h8.row this (fun g hg=>by simp[Value.ownBlock]at hg;rw[← hg];exact pn) (by simp)
    have H2:gS∉ [bS,bM]:=by
     intro hm
     obtain⟨cs,hc,_⟩:=HJ.out.rowS
     rcases List.mem_cons.1 hm with hm | hm
     ·exact aI hc HJ.out.boxS (by decide) hm
     ·exact aI hc HJ.out.boxM (by decide) (List.mem_singleton.1 hm)
    have hJ:gM∉ [bS,bM]:=by
     intro hm
     obtain⟨cs,hc,_⟩:=HJ.out.rowM
     rcases List.mem_cons.1 hm with hm | hm
     ·exact aI hc HJ.out.boxS (by decide) hm
     ·exact aI hc HJ.out.boxM (by decide) (List.mem_singleton.1 hm)
    have hC:w3.heap.size≠gM:=by
     obtain⟨cs,hc,_⟩:=HJ.out.rowM
     exact cI HJ.out.row hc (by decide) w3.heap.size rfl
    have q7:=aa (h8.trow HJ.out.rowS H2)
    have q0:=aa (h8.tcap HJ.out.rowM hJ)
    have HO:=aa (HJ.out.below.trans h8.below)
    have z6:w.heap.size≤w6.heap.size:=HO.out.size
    have ss:w3.heap.size<w6.heap.size:=he.lt.2
    have H1:w.heap.size≤w3.heap.size:=he.lt.1
    obtain⟨⟨act2,len2,r3⟩,HL,hx,hy,tg,po⟩:=hF
    have rM:x.2<N:=by omega
    have pv:y.2<N:=by omega
    have s0:=aa r3
    have s5:=aa HL
    have ty:=aa hE
    have hP:=aa hZ
    have hO:=aa hX
    have rO:=aa qb
    have q5:=aa he
    clear r3 HL hE hZ hX qb he h8 H5 hV q4 HF pM
    obtain⟨x0,x1⟩:=x
    obtain⟨y0,y1⟩:=y
    dsimp only at hx hy tg po rM pv
    have h7:aB ((w6.alloc (.cells #[.int .i64 x0,.int .i64 x1] 222)).alloc (.cells #[.int .i64 y0,.int .i64 y1] 222)) w.heap.size w3.heap.size N N ov:=(q5.out.alloc _).alloc _
    have b7:=Bo w6 (.int .i64 x0) (.int .i64 x1) (.int .i64 y0) (.int .i64 y1) 222
    have k0:=(ac b7.1 0).trans (rfl:_=some (Value.int .i64 x0))
    have k1:=(ac b7.1 1).trans (rfl:_=some (Value.int .i64 x1))
    have k2:=(ac b7.2 0).trans (rfl:_=some (Value.int .i64 y0))
    have k3:=(ac b7.2 1).trans (rfl:_=some (Value.int .i64 y1))
    have c1:=h7.cell x1 rM
    have c2:=h7.cell y1 pv
    have f1:=h7.frozen x1
    have f2:=h7.frozen y1
    have ta:(0:Int)≤(x1:Int):=by omega
    have te:(x1:Int)<(N:Int):=by omega
    have tl:(0:Int)≤(y1:Int):=by omega
    have tm:(y1:Int)<(N:Int):=by omega
    have HU:=aa h7
    have B7:=aa b7
    clear h7 b7
    go_wp2_with fail
    have ST7:Hid (ak w.heap.size [] [] w6 ((w6.alloc (.cells #[.int .i64 x0,.int .i64 x1] 222)).alloc (.cells #[.int .i64 y0,.int .i64 y1] 222))):=aa (((ak.refl w.heap.size [] [] w6).alloc z6 _).alloc (by simp;omega) _)
    obtain⟨w7,ps⟩:∃w7,w7=(w6.alloc (.cells #[.int .i64 x0,.int .i64 x1] 222)).alloc (.cells #[.int .i64 y0,.int .i64 y1] 222):=⟨_,rfl⟩
    rw[← ps]at HU B7 k0 k1 k2 k3 c1 c2 f1 f2 ST7
    rw[← ps]
    clear ps
    have HK:=(HU.out.drew 1).set x1 k
    have rs:=HK.set y1 k
    have c2s:=HK.cell y1 pv
    have f2s:=HK.frozen y1
    have HS2:=aa rs
    clear HK rs
    change (w7.drew.setCell ⟨w3.heap.size,x1,none⟩ (.int .i64 (k:Nat))).cell? ⟨w3.heap.size,y1,none⟩=_ at c2s
    change (w7.drew.setCell ⟨w3.heap.size,x1,none⟩ (.int .i64 (k:Nat))).frozen? ⟨w3.heap.size,y1,none⟩=_ at f2s
    change Hid (aB ((w7.drew.setCell ⟨w3.heap.size,x1,none⟩ (.int .i64 (k:Nat))).setCell ⟨w3.heap.size,y1,none⟩ (.int .i64 (k:Nat))) w.heap.size w3.heap.size N N _)at HS2
    go_region
    obtain⟨w8,hM⟩:∃w8,w8=((w7.setCell ⟨w3.heap.size,x1,none⟩ (.int .i64 (k:Nat))).setCell ⟨w3.heap.size,y1,none⟩ (.int .i64 (k:Nat))).drew:=⟨_,rfl⟩
    have s2:Hid (aB w8 w.heap.size w3.heap.size N N fun j=>if j=y1 then k else if j=x1 then k else ov j):=aa (by rw[hM];exact HS2.out)
    have s7:bS≠w3.heap.size:=fun h=>by simp[h]at pn
    have qm:bM≠w3.heap.size:=fun h=>by simp[h]at pn
    have p5:gS≠w3.heap.size:=by
     obtain⟨cs,hc,_⟩:=HJ.out.rowS
     exact fun h=>cI HJ.out.row hc (by decide) w3.heap.size rfl h.symm
    have h0:gS≠gM∧gS≠bM∧gM≠bM∧bS≠gM:=by
     simp only[List.mem_cons,aq,or_false,not_or]at H2 hJ
     exact⟨rb,H2.2,hJ.2,fun h=>hJ.1 h.symm⟩
    have up8:∀{g:Nat} {t:TypeId} {cs:Array Value},Blk w6 g t cs→g≠w3.heap.size→Blk w8 g t cs:=fun h h3=>by
     rw[hM]
     exact jH (kE (kE (ST7.out.blk h (by simp) (by simp)) h3 _) h3 _)
    have up78:∀{g:Nat} {t:TypeId} {cs:Array Value},Blk w7 g t cs→g≠w3.heap.size→Blk w8 g t cs:=fun h h3=>by
     rw[hM]
     exact jH (kE (kE h h3 _) h3 _)
    have BS8:=aa (up8 hP.out s7)
    have bM8:=up8 hO.out qm
    have ba8:=up78 B7.out.1 (by omega)
    have bb8:=up78 B7.out.2 (by omega)
    have RS8:Hid (ew w8 gS LS):=aa (by
     obtain⟨cs,h1,h3⟩:=q7.out
     exact⟨cs,up8 h1 p5,h3⟩)
    have RM8:Hid (jz w8 gM n LM):=aa (by
     obtain⟨cs,h1,h3⟩:=q0.out
     exact⟨cs,up8 h1 hC.symm,h3⟩)
    have BE8:Hid (Below w.heap.size w w8):=aa (by
     rw[hM]
     exact(((HO.out.trans ST7.out.below).setCell (p:=⟨w3.heap.size,x1,none⟩) H1 _).setCell (p:=⟨w3.heap.size,y1,none⟩) H1 _).drew)
    rw[← hM]
    clear hM up8 up78 HS2 c2s f2s c1 c2 f1 f2 k0 k1 k2 k3 HU B7 ST7 HO q7 q0 q5 hP hO
    obtain⟨lm,pf⟩:∃lm,lm=LM.length - q2:=⟨_,rfl⟩
    obtain⟨cm,HH⟩:∃cm,cm=n - q2:=⟨_,rfl⟩
    obtain⟨z,hz⟩:∃z,z=x0+y0:=⟨_,rfl⟩
    rw[← pf,←HH]at bM8
    have u4:(x0:Int)+(y0:Int)=(z:Int):=by omega
    have u3:z≤1099511627776:=by have:=HW.out;omega
    have sT:lm+1≤cm:=by omega
    have hl:q2*2+lm*2=LM.length*2:=by omega
    have HX:LM.length<n:=by omega
    have r0:=(ac ba8 0).trans (rfl:_=some (Value.int .i64 x0))
    have r1:=(ac bb8 0).trans (rfl:_=some (Value.int .i64 y0))
    have r2:=(ac bM8 0).trans (rfl:_=some (Value.slice (some ⟨gM,q2*2,none⟩) lm cm))
    obtain⟨i3,h3,tn,H8,tq⟩:=info_parts Tryz.infoTree
    have H4:(Builtin.append_ #[218,218] 218 #[.slice (some ⟨gM,q2*2,none⟩) lm cm,.slice (some ⟨w8.heap.size,0,none⟩) 1 1]).run Tryz.prog (w8.alloc (.cells #[.int .i64 z,.int .i64 k] 222))=.ok (.slice (some ⟨gM,q2*2,none⟩) (lm+1) cm) (((w8.alloc (.cells #[.int .i64 z,.int .i64 k] 222)).setCell ⟨gM,LM.length*2,none⟩ (.int .i64 z)).setCell ⟨gM,LM.length*2+1,none⟩ (.int .i64 k)):=by
     have qo:=Bv RM8.out (.cells #[.int .i64 z,.int .i64 k] 222)
     have h9:=run_append_room_cells (P:=Tryz.prog) (w8.alloc (.cells #[.int .i64 z,.int .i64 k] 222)) 218 218 222 i3 Tryz.underlying218 h3 gM (q2*2) lm cm ⟨w8.heap.size,0,none⟩ 1 1 [.int .i64 z,.int .i64 k] (by rw[H8];rfl) (u7 w8 _ _ _)
      (fun u hu=>by simp at hu;rcases hu with rfl | rfl <;>rfl) sT
      (fun jj hj=>by rw[H8,hl];exact(qo.there _ (by simp at hj;omega)).1) (fun jj hj=>by rw[H8,hl];exact(qo.there _ (by simp at hj;omega)).2)
     rw[H8,hl]at h9
     exact h9
    have HV:=aa H4
    have fM8:=ae bM8 0
    have BM8:=aa bM8
    have tv:=aa pf
    have tt:=aa HH
    have HZ:=aa hz
    have s1:=aa hl
    have ho:Blk (((w8.alloc (.cells #[.int .i64 z,.int .i64 k] 222)).setCell ⟨gM,LM.length*2,none⟩ (.int .i64 z)).setCell ⟨gM,LM.length*2+1,none⟩ (.int .i64 k)) bM 218 #[.slice (some ⟨gM,q2*2,none⟩) lm cm]:=kE (kE (dS bM8 _) h0.2.2.1.symm _) h0.2.2.1.symm _
    have m10:=(ac ho 0).trans (rfl:_=some (Value.slice (some ⟨gM,q2*2,none⟩) lm cm))
    have f10:=ae ho 0
    have HS:Hid (Js w ((((w8.alloc (.cells #[.int .i64 z,.int .i64 k] 222)).setCell ⟨gM,LM.length*2,none⟩ (.int .i64 z)).setCell ⟨gM,LM.length*2+1,none⟩ (.int .i64 k)).setCell ⟨bM,0,none⟩ (.slice (some ⟨gM,q2*2,none⟩) (lm+1:Nat) cm)) W n bS bM gS gM w3.heap.size LS (LM++ [(z,k)]) (k+1) p2 q2 y0 A2 (fun j=>if j=k then x0+y0 else ws j) (fun j=>if j=y1 then k else if j=x1 then k else ov j) act2 len2):=aa (by
     have ts:=BE8.out.size
     have H0:(LM++ [(z,k)]).drop q2=LM.drop q2++ [(z,k)]:=List.drop_append_of_le_length t4
     constructor
     case boxS=>exact kE (kE (kE (dS BS8.out _) h0.2.2.2 _) h0.2.2.2 _) pj _
     case boxM=>
      rw[show (LM++ [(z,k)]).length - q2=lm+1 by rw[List.length_append,List.length_singleton];omega,←HH]
      exact au ho 0 _
     case rowS=>
      obtain⟨cs,h1,h4⟩:=RS8.out
      exact⟨cs,kE (kE (kE (dS h1 _) h0.1 _) h0.1 _) h0.2.1 _,h4⟩
     case rowM=>exact I6 ((Bv RM8.out _).store (z,k) HX) h0.2.2.1 _
     case at_=>exact rO.out
     case hp=>exact t1
     case hq=>rw[List.length_append,List.length_singleton];omega
     case hm=>rw[List.length_append,List.length_singleton];omega
     case hk=>omega
     case two=>rw[H0,hz];exact s5.out
     case grown=>exact s0.out
     case row=>
      rw[← HN.out]
      exact(((s2.out.alloc _).other hC.symm _ _).other hC.symm _ _).other qm _ _
     case low=>
      intro t ht
      rcases List.mem_append.1 ht with ht | ht
      ·exact HJ.out.low t ht
      ·rw[List.mem_singleton.1 ht]
       exact⟨by show z≤_;omega,HJ.out.grown.ge⟩
     case below=>exact((((BE8.out.alloc ts _).setCell (p:=⟨gM,LM.length*2,none⟩) zgM _).setCell (p:=⟨gM,LM.length*2+1,none⟩) zgM _).setCell (p:=⟨bM,0,none⟩) zbM _))
    clear H4 ba8 bb8 bM8 ho pf HH hz hl h3 tn H8 tq
    go_wp2_with (at_builtin;refine Lib.wpList_append_run _ rfl (.tmp 45) (.tmp 53) 218 218 rfl (.slice (some ⟨gM,q2*2,none⟩) lm cm) (.slice (some ⟨w8.heap.size,0,none⟩) 1 1) rfl rfl _ _ HV.out ?_)
    go_roundw
    case rel=>exact⟨k+1,p2,q2,y0,LM++ [(z,k)],A2,_,_,act2,len2,by go_num,HS.out⟩
    case measure=>simp[intOf];omega
   ·have pb:k=N:=by omega
    subst pb
    have dk:decide ((k:Int)<(k:Int))=false:=ao (by omega)
    have HG:=aa J.grown
    have HR:=aa J.row
    have rR:=aa J.below
    clear J
    go_wp2_with fail
    go_ret
    rw[← HN.out]
    rw[← HN.out]at HR
    refine⟨w3.heap.size,ov,ws,act,len,rfl,?_,HR.out,rR.out⟩
    rw[s6.out]
    exact HG.out
theorem aB.cut{w:World}{B g c N n:Nat}{f:Nat→Nat}(h:aB w B g c N f)(hn:n≤N):aB w B g c n f:=by
 unfold aB at*
 rcases h.2 with⟨h',_⟩ | ⟨g',cap',cur,h',hB,h1,h3,hm,h2,h0⟩
 ·simp at h'
 ·simp only[Value.slice.injEq,Option.some.injEq,Addr.mk.injEq,and_true,true_and]at h'
  obtain⟨rfl,rfl⟩:=h'
  refine⟨by rw[dO,Nat.mul_one],.inr ⟨g,c,cur,rfl,hB,h1,by omega,hm,h2,?_⟩⟩
  rw[Nat.mul_one]at h0 ⊢
  have e:cur.toList.take n=(cur.toList.take N).take n:=by rw[List.take_take,Nat.min_eq_left hn]
  rw[e,h0]
  unfold bY
  rw[← List.map_take,List.take_range,Nat.min_eq_left hn]
theorem Ad(w:World)(A:Option Addr)(n c:Nat)(f:Nat→Nat)(hL:aw w A n ((List.range n).map f))(h2:2≤n)(hn:n≤258)(hf:∀i,i<n→1≤f i∧f i≤1073741824):
 Calls Tryz.prog 206 #[.slice A n c] w fun e w'=>∃g c2 len,e=.returned (.slice (some ⟨g,0,none⟩) n c2)∧kL ((List.range n).map f) len∧aB w' w.heap.size g c2 n len∧Below w.heap.size w w':=by
 have HJ:=aa (GV w A n c f hL h2 hn hf)
 obtain⟨N,hN⟩:∃N,N=2*n - 1:=⟨_,rfl⟩
 rw[← hN]at HJ
 have HN:=aa hN
 have hI:3≤N:=by omega
 have hJ:N≤515:=by omega
 have hD:n≤N:=by omega
 clear hL hf hN
 go_enter Tryz.func206,Tryz.ntmps206
 go_wp2_with fail
 refine HJ.out.mono ?_
 rintro e w2 ⟨gI,ov,ws,act,len,rfl,hg,hr,hb⟩
 obtain⟨dd,hl,ht,hm,h1,hp⟩:=Ce (by rw[← HN.out];exact hg)
 have ha:=aa hl
 have hh:=aa ht
 have hc:=aa hm
 have h7:=aa h1
 have he:=aa hp
 have HR:=aa hr
 have HB:=aa hb
 have hC:=bA w2 N (by omega)
 have hk:=aa (a9 w2 w.heap.size N hb.size (by omega))
 have hA:gI<w2.heap.size:=hr.lt.2
 have hK:(N:Int) - 2=((N - 2:Nat):Int):=by omega
 clear hg hr hb HJ hl ht hm h1 hp
 go_wp2_with fail
 clear hC
 have h9:Hid (Below w2.heap.size w2 (w2.alloc (.cells (madeCells #[.int .i64 0] N) 3))):=aa ((Below.refl _ _).alloc (ah _) _)
 go_loopw [5] (fun x wx=>∃(q:Nat) (i:Int),q+1≤N∧i=(q:Int) - 1∧x=.int .i64 i∧aB wx w.heap.size w2.heap.size N N (fun j=>if q≤j then dd j else 0)∧Below w2.heap.size w2 wx) (fun x _=>(intOf x+1).toNat)
 case atStart=>
  refine⟨N - 1,_,by omega,?_,rfl,?_,h9.out⟩
  ·omega
  ·have h3:(w2.alloc (.cells (madeCells #[.int .i64 0] N) 3)).ownsRow w.heap.size 3 1 (.slice (some ⟨w2.heap.size,0,none⟩) N N) N (bY N fun _=>0):=hk.out
   rw[bN N (fun _=>0) (fun j=>if N - 1≤j then dd j else 0) fun j hj=>by
    by_cases e:N - 1≤j
    ·rw[if_pos e,show j=2*n - 2 by have:=HN.out;omega,ha.out]
    ·rw[if_neg e]]at h3
   exact h3
 case round=>
  clear hk h9
  obtain⟨q,i,hq,hi,rfl,hf,h0⟩:=hrel
  rcases Nat.eq_zero_or_pos q with e0 | e0
  ·subst e0
   have di:decide ((0:Int)≤i)=false:=ao (by omega)
   clear hi
   have h3:wr.ownsRow w.heap.size 3 1 (.slice (some ⟨w2.heap.size,0,none⟩) N N) N (bY N fun j=>if 0≤j then dd j else 0):=hf
   rw[bN N _ dd fun j hj=>if_pos (Nat.zero_le j)]at h3
   have h4:aB wr w.heap.size w2.heap.size N N dd:=h3
   have h5:aB wr w.heap.size w2.heap.size N n len:=by
    have h6:wr.ownsRow w.heap.size 3 1 (.slice (some ⟨w2.heap.size,0,none⟩) n N) n (bY n dd):=h4.cut hD
    rw[bN n dd len fun j hj=>(he.out j hj).symm]at h6
    exact h6
   have H5:=aa h5
   have hy:=aa (ap HB.out h0)
   have hM:(0:Int)≤(n:Int):=by omega
   have hE:(n:Int)≤(N:Int):=by omega
   clear hf h0 h3 h4 h5 hh hc he HR ha HB
   go_wp2_with fail
   go_ret
   exact⟨w2.heap.size,N,len,rfl,h7.out,H5.out,hy.out⟩
  ·obtain⟨r,rfl⟩:∃r,q=r+1:=⟨q - 1,by omega⟩
   have hB:i=(r:Int):=by omega
   subst hB
   have dr:decide ((0:Int)≤(r:Int))=true:=ar (by omega)
   have hw:r<N:=by omega
   have hP:(0:Int)≤(r:Int):=by omega
   have hH:(r:Int)<(N:Int):=by omega
   have hd:=hh.out r (by have:=HN.out;omega)
   have ci:=(HR.out.below h0 hA).cell r hw
   have h8:=hc.out (ov r)
   obtain⟨o,ho⟩:∃o,o=ov r:=⟨_,rfl⟩
   rw[← ho]at ci hd h8
   have hF:o<N:=by have:=HN.out;omega
   have hO:(0:Int)≤(o:Int):=by omega
   have hG:(o:Int)<(N:Int):=by omega
   have co:=hf.cell o hF
   rw[if_pos (by omega)]at co
   have cr:=hf.cell r hw
   have fr:=hf.frozen r
   obtain⟨v,hv⟩:∃v,v=dd o:=⟨_,rfl⟩
   rw[← hv]at co hd h8
   obtain⟨v1,hx⟩:∃v1,v1=v+1:=⟨_,rfl⟩
   have hR:(v:Int)+1=(v1:Int):=by omega
   have hQ:v1≤1000:=by omega
   have hs:=hf.set r v1
   have hu:(fun j=>if j=r then v1 else if r+1≤j then dd j else 0)=fun j=>if r≤j then dd j else 0:=by
    funext j
    by_cases ej:j=r
    ·rw[if_pos ej,if_pos (by omega),ej,hd.2.2,hx]
    ·rw[if_neg ej]
     by_cases ej2:r+1≤j
     ·rw[if_pos ej2,if_pos (by omega)]
     ·rw[if_neg ej2,if_neg (by omega)]
   rw[hu]at hs
   have HS:=aa hs
   have hz:=aa (h0.setCell (p:=⟨w2.heap.size,r,none⟩) (ah _) (.int .i64 (v1:Nat)))
   clear hf h0 hs hu hd ho hv hx h8 hi
   go_wp2_with fail
   go_roundw
   case rel=>exact⟨r,(r:Int) - 1,by omega,rfl,by go_num,HS.out,hz.out⟩
   case measure=>simp[intOf]
structure JB (w wx:World) (W0:List Nat) (n most t gA cA gX cX:Nat) (len f:Nat→Nat):Prop where
 ht:t≤31
 rowW:aB wx w.heap.size gA cA n f
 rowL:aB wx w.heap.size gX cX n len
 half:cB W0 t=(List.range n).map f
 hlen:kL (cB W0 t) len
 hf:∀j,j<n→1≤f j∧f j≤1073741824
 past:∀q,q<t→∃L1,kL (cB W0 q) L1∧∃i,i<n∧most<L1 i
 below:Below w.heap.size w wx
theorem FR{w:World}{B g c n:Nat}{f:Nat→Nat}(h:aB w B g c n f):ZIn w (some ⟨g,0,none⟩) n (((List.range n).map f).map fun(x:Nat)=>(x:Int)):=cR h.ints
theorem uC(n:Nat)(f:Nat→Nat)(i:Nat)(h:i<n):(((List.range n).map f).map fun(x:Nat)=>(x:Int)).getD i 0=(f i:Int):=by
 rw[List.getD_eq_getElem?_getD,List.getElem?_map,List.getElem?_map,List.getElem?_range h]
 rfl
theorem CG(w:World)(A:Option Addr)(n c:Nat)(L:List Int)(most:Nat)(hL:ZIn w A n L)(hM:iM L)(hT:12≤most)(hV:most≤20):Calls Tryz.prog 168 #[.slice A n c,.int .i64 most] w (jG w L most):=by
 have hv:=hL.1
 have hQ:2≤n:=by have:=hM.1;omega
 have hn:n≤258:=by have:=hM.2.1;omega
 have HM:=aa (tI w A n c L hL (by unfold maxLen;omega))
 rw[show decide (iM L)=true from decide_eq_true hM]at HM
 have HC:=aa (pC w A n c L hL (fun x hx=>(hM.2.2 x hx).1) (by omega) (by omega))
 obtain⟨f0,hb⟩:∃f0,f0=sH L:=⟨_,rfl⟩
 rw[← hb]at HC
 have hu:∀j,j<n→1≤f0 j∧f0 j≤1073741824:=by
  intro j hj
  rw[hb]
  have:=(hM.2.2 _ (dP L j (by omega))).2
  unfold sH
  omega
 have ho:ja L=(List.range n).map f0:=by
  unfold ja
  rw[hv,hb]
 have hP:Hid (∀ (v:Value) (len:Nat→Nat) w',gU (ja L) most len→w'.ownsRow w.heap.size 3 1 v n (bY n len)→Below w.heap.size w w'→jG w L most (.returned (.tuple #[v,.int .i64 0])) w'):=aa fun v len w' h1 h2 h3=>
  .inr ⟨hM,by omega,by omega,v,len,by rw[Int.toNat_natCast];exact h1,rfl,by rw[hv];exact h2,h3⟩
 have m1:decide ((most:Int)<12)=false:=ao (by omega)
 have m2:decide ((20:Int)<(most:Int))=false:=ao (by omega)
 have hh:=aa hu
 have hl:=aa ho
 have hA:=aa fun(w1:World) (B g c1:Nat) (f:Nat→Nat) (h:aB w1 B g c1 n f) (hf:∀i,i<n→1≤f i∧f i≤1073741824)=>Ad w1 (some ⟨g,0,none⟩) n c1 f h.ints hQ hn hf
 have hO:=aa fun(w1:World) (B g c1:Nat) (f:Nat→Nat) (h:aB w1 B g c1 n f)=>nD w1 (some ⟨g,0,none⟩) n c1 _ (FR h) (by omega) (by unfold maxLen;omega)
 have hK:=aa fun(w1:World) (B g c1:Nat) (f:Nat→Nat) (h:aB w1 B g c1 n f) (hf:∀j,j<n→f j≤1073741824)=>Dn w1 B g c1 n f h hf (by omega)
 have h9:Hid ((ja L).length=n∧∀x∈ja L,x≤2 ^ 30):=aa (by
  rw[ho]
  refine⟨by simp,fun x hx=> ?_⟩
  obtain⟨j,hj,rfl⟩:=List.mem_map.1 hx
  have:=hu j (List.mem_range.1 hj)
  have e30:(2:Nat) ^ 30=1073741824:=by decide
  omega)
 generalize jG w L most=PO at*
 generalize ja L=W0 at*
 clear hL hv hM hb hu ho
 go_enter Tryz.func168,Tryz.ntmps168
 go_wp2_with fail
 refine HM.out.mono ?_
 rintro e w ⟨rfl,rfl⟩
 clear HM
 go_wp2_with fail
 refine HC.out.mono ?_
 rintro e w1 ⟨gA,cA,rfl,ht,hC⟩
 have hy:=aa (hA.out w1 w.heap.size gA cA f0 ht hh.out)
 have hg:=aa ht
 have hc:=aa hC
 clear ht hC HC
 go_wp2_with fail
 refine hy.out.mono ?_
 rintro e w2 ⟨gX,cX,len,rfl,ha,hE,hp⟩
 have h4:Hid (JB w w2 W0 n most 0 gA cA gX cX len f0):=aa
  ⟨by omega,hg.out.below hp hg.out.lt.2,hE.lower hc.out.size,hl.out,by rw[show cB W0 0=W0 from rfl,hl.out];exact ha,hh.out,(fun q hq=>by omega),ap hc.out hp⟩
 clear ha hE hp hy hg hc hh hl
 go_wp2_with fail
 go_loopg [6] 31 (fun g v wx=>∃(t gY cY:Nat) (len f:Nat→Nat),t+g=31∧v=.slice (some ⟨gY,0,none⟩) n cY∧JB w wx W0 n most t gA cA gY cY len f)
 case atStart=>exact⟨0,gX,cX,len,f0,rfl,rfl,h4.out⟩
 case round=>
  clear h4
  obtain⟨t,gY,cY,len,f,hW,rfl,T⟩:=hrel
  have HG:=aa (hO.out wr w.heap.size gY cY len T.rowL)
  have HT:=aa T
  clear T
  go_wp2_with fail
  refine HG.out.mono ?_
  rintro e w7 ⟨g,rfl,h7,rfl⟩
  have hI:(∀ j,j<n→(len j:Int)≤g)∧∃j,j<n∧(len j:Int)=g:=by
   refine⟨fun j hj=> ?_,?_⟩
   ·have h3:=h7.1 j hj
    rwa [uC n len j hj]at h3
   ·obtain⟨j,hj,h⟩:=h7.2
    rw[uC n len j hj]at h
    exact⟨j,hj,h⟩
  have h6:=aa hI
  clear h7 hI HG
  by_cases e2:(most:Int)<g
  ·have dg:decide ((most:Int)<g)=true:=decide_eq_true e2
   obtain⟨jm,hG,hR⟩:=h6.out.2
   have hS:t<31:=by
    rcases Nat.lt_or_ge t 31 with h | h
    ·exact h
    ·have:=pW h9.out.2 (by rw[h9.out.1];exact hn) t h HT.out.hlen jm (by rw[h9.out.1];exact hG)
     omega
   have HH:=aa (hK.out w7 w.heap.size gA cA f HT.out.rowW fun j hj=>(HT.out.hf j hj).2)
   have hN:Hid (∃ i,i<n∧most<len i):=aa ⟨jm,hG,by omega⟩
   clear hR
   go_wp2_with fail
   refine HH.out.mono ?_
   rintro e w8 ⟨rfl,hw,hD⟩
   have hs:∀i,i<n→1≤f i / 2+1∧f i / 2+1≤1073741824:=fun i hi=>by
    have:=HT.out.hf i hi
    omega
   have hz:=aa (hA.out w8 w.heap.size gA cA (fun j=>f j / 2+1) hw hs)
   have hk:=aa hw
   have he:=aa hD
   have hB:=aa hs
   clear hw hD hs HH
   go_wp2_with fail
   refine hz.out.mono ?_
   rintro e w9 ⟨gZ,cZ,len2,rfl,h5,hF,hr⟩
   have h0:cB W0 (t+1)=(List.range n).map fun a=>f a / 2+1:=by rw[cB,HT.out.half,rZ]
   have hJ:w.heap.size≤w8.heap.size:=(HT.out.below.trans he.out).size
   have h4:Hid (JB w w9 W0 n most (t+1) gA cA gZ cZ len2 (fun j=>f j / 2+1)):=aa
    ⟨by omega,hk.out.below hr hk.out.lt.2,hF.lower hJ,h0,by rw[h0];exact h5,hB.out,(fun q hq=>by
      by_cases eq:q=t
      ·subst eq
       exact⟨len,HT.out.hlen,hN.out⟩
      ·exact HT.out.past q (by omega)),(HT.out.below.trans he.out).trans (hr.mono hJ)⟩
   clear h5 hF hr h0 hz hk he hB
   go_wp2_with fail
   go_roundg (gk - 1)
   case measure=>omega
   case rel=>exact⟨t+1,gZ,cZ,len2,_,by omega,by go_num,h4.out⟩
  ·have dg:decide ((most:Int)<g)=false:=decide_eq_false e2
   have hm:gU (cB W0 t) most len:=.done HT.out.hlen (by
    rw[dX,h9.out.1]
    intro i hi
    have:=h6.out.1 i hi
    omega)
   have hH:=mI (w:=W0) t (fun q hq2=>by rw[h9.out.1];exact HT.out.past q hq2) hm
   have h8:=aa (hP.out _ len w7 hH HT.out.rowL HT.out.below)
   clear hm hH HT h6 hP
   go_wp2_with fail
   exact h8.out
theorem ew.low{w w':World}{C g:Nat}{T:List (Nat×Nat)}(h:ew w g T)(hb:Below C w w')(hg:g<C):ew w' g T:=by
 obtain⟨cs,h1,h2⟩:=h
 exact⟨cs,(hb.block g hg).trans h1,h2⟩
theorem EZ(W:List Nat)(i j:Nat)(hi:i<W.length)(hj:j<W.length)(h:i≠j):ep W i≠ep W j:=by
 rcases Nat.lt_trichotomy (W.getD i 0) (W.getD j 0)with h1 | h1 | h1
 ·have:=gL W hj (.inl h1)
  omega
 ·rcases Nat.lt_or_ge i j with h2 | h2
  ·have:=gL W hi (.inr ⟨h1,h2⟩)
   omega
  ·have:=gL W hj (.inr ⟨h1.symm,by omega⟩)
   omega
 ·have:=gL W hi (.inl h1)
  omega
theorem C1(w:World)(A:Option Addr)(n c:Nat)(L:List Int)(hL:ZIn w A n L)(hM:iM L):Calls Tryz.prog 117 #[.slice A n c] w (qK w L):=by
 have ht:=hL.1
 have HE:2≤n:=by have:=hM.1;omega
 have hn:n≤258:=by have:=hM.2.1;omega
 have HM:=aa (tI w A n c L hL (by unfold maxLen;omega))
 rw[show decide (iM L)=true from decide_eq_true hM]at HM
 have HC:=aa (pC w A n c L hL (fun x hx=>(hM.2.2 x hx).1) (by omega) (by omega))
 obtain⟨f,hf⟩:∃f,f=sH L:=⟨_,rfl⟩
 rw[← hf]at HC
 have hS:ja L=(List.range n).map f:=by
  unfold ja
  rw[ht,hf]
 have hP:Hid (∀ (v:Value) (k:Nat) w',2 ^ k≤n→n<2 ^ (k+1)→w'.ownsRow w.heap.size 3 1 v n (bY n (bI k (2 ^ (k+1) - n) (ja L)))→Below w.heap.size w w'→qK w L (.returned (.tuple #[v,.int .i64 0])) w'):=aa fun v k w' h1 h2 h3 h4=>
  .inr ⟨hM,v,k,by rw[ht];exact h1,by rw[ht];exact h2,rfl,by rw[ht];exact h3,h4⟩
 generalize qK w L=PO at*
 generalize ja L=W at*
 have HA:=aa fun(w1:World) (B g c1:Nat) (h:aB w1 B g c1 n f)=>uB w1 (some ⟨g,0,none⟩) n c1 f h.ints (by omega) (by omega)
 obtain⟨k,hk⟩:∃k,k=Lib.bitLen n - 1:=⟨_,rfl⟩
 have hw:=Lib.bitLenAux_bounds 64 n (by omega) (by omega)
 have hh:1≤Lib.bitLen n:=hw.1
 have hm:2 ^ k≤n:=by rw[hk];exact hw.2.1
 have hY:n<2 ^ (k+1):=by rw[hk,Nat.sub_add_cancel hh];exact hw.2.2
 obtain⟨P,hF⟩:∃P:Nat,P=2 ^ (k+1):=⟨_,rfl⟩
 have H4:(2:Int)*(2:Int) ^ k=(P:Int):=by rw[hF,Nat.pow_succ];push_cast;omega
 have HI:k≤8:=by
  rcases Nat.lt_or_ge k 9 with h | h
  ·omega
  ·have:=Nat.pow_le_pow_right (show 0<2 by decide) h
   omega
 have HF:P≤512:=by
  rw[hF]
  have:2 ^ (k+1)≤2 ^ 9:=Nat.pow_le_pow_right (by decide) (by omega)
  exact this
 obtain⟨C,hC⟩:∃C,C=P - n:=⟨_,rfl⟩
 have H3:(P:Int) - (n:Int)=(C:Int):=by omega
 have hu:=aa fun w1:World=>Any.bits_Len Tryz.laysBits (n:Int) w1 (by omega) (by omega)
 rw[Int.toNat_natCast]at hu
 obtain⟨b,hb⟩:∃b,b=Lib.bitLen n:=⟨_,rfl⟩
 rw[← hb]at hu hk hh
 have hZ:(b:Int) - 1=(k:Int):=by omega
 have HK:=aa (show 2 ^ k≤n∧n<2 ^ (k+1)∧C=2 ^ (k+1) - n from⟨hm,hY,by omega⟩)
 have HW:=aa hS
 clear hL ht hM hf hS hk hw hh hm hY hF hC hb
 go_enter Tryz.func117,Tryz.ntmps117
 go_wp2_with fail
 refine HM.out.mono ?_
 rintro e w ⟨rfl,rfl⟩
 clear HM
 go_wp2_with fail
 refine HC.out.mono ?_
 rintro e w1 ⟨gA,cA,rfl,hX,hV⟩
 have hJ:=aa (HA.out w1 w.heap.size gA cA hX)
 have hA:=aa hV
 clear hX hV HC HA
 go_wp2_with fail
 refine hJ.out.mono ?_
 rintro e w2 ⟨rfl,hI,hW⟩
 obtain⟨T,hT⟩:∃T,T=(List.range n).map fun i=>(f i,i):=⟨_,rfl⟩
 rw[← hT]at hI
 have hQ:T.length=n:=by rw[hT];simp
 have hR:(T.map Prod.snd).Nodup:=by
  rw[hT,List.map_map]
  have:(Prod.snd ∘ fun i=>(f i,i))=id:=rfl
  rw[this,List.map_id]
  exact List.nodup_range
 have HT:=aa hT
 have zg:w.heap.size≤w1.heap.size:=hA.out.size
 have hl:=uP w2 w.heap.size w1.heap.size n T hI.row zg (by omega) hR
 rw[hQ]at hl
 have hr:=aa hl
 have hN:=aa (hA.out.trans (hW.mono zg))
 clear hI hW hT hQ hR hl hJ hA
 go_wp2_with fail
 refine hr.out.mono ?_
 rintro e w3 ⟨rfl,LS,hc,he,h0,H1⟩
 have h8:=aa hc
 have h9:=aa he
 have hq:=aa h0
 have hB:=aa (hN.out.trans H1.below)
 have zg3:w1.heap.size<w3.heap.size:=h0.lt
 have hp:=aa (hu.out w3)
 clear hc he h0 H1 hr hu hN
 go_wp2_with fail
 refine hp.out.mono ?_
 rintro e w4 ⟨rfl,rfl⟩
 have H8:=bA w4 n (by omega)
 have hO:=aa (a9 w4 w.heap.size n hB.out.size (by omega))
 have hK:Hid (Below w4.heap.size w4 (w4.alloc (.cells (madeCells #[.int .i64 0] n) 3))):=aa ((Below.refl w4.heap.size w4).alloc (ah _) (.cells (madeCells #[.int .i64 0] n) 3))
 go_wp2_with fail
 clear H8 H4 H3 hZ hp
 have hg:Hid (W.length=n):=aa (by rw[HW.out];simp)
 have hE:Hid (LS.length=n∧∀i x,LS[i]? =some x→x.2<n∧ep W x.2=i):=aa (by
  have H0:LS.Perm ((List.range W.length).map fun i=>(W.getD i 0,i)):=by
   rw[hg.out]
   refine h8.out.trans ?_
   rw[HT.out]
   have:((List.range n).map fun i=>(f i,i))=(List.range n).map fun i=>(W.getD i 0,i):=List.map_congr_left fun i hi=>by rw[HW.out,cH n f i (List.mem_range.1 hi)]
   rw[this]
  refine⟨by rw[H0.length_eq];simp[hg.out],fun i x hx=> ?_⟩
  have h3:=wJ W LS H0 h9.out i x hx
  rw[hg.out]at h3
  exact h3)
 clear h8 h9 HT
 go_loopw [8,9,33] (fun s8 s9 x wx=>∃i:Nat,i≤n∧x=.int .i64 i∧aB wx w.heap.size w4.heap.size n n (fun j=>if ep W j<i then bI k C W j else 0)∧Below w4.heap.size w4 wx) (fun _ _ x _=>n - (intOf x).toNat)
 case atStart=>
  refine⟨0,Nat.zero_le _,rfl,?_,hK.out⟩
  have e0:(fun j=>if ep W j<0 then bI k C W j else 0)=fun _=>0:=by
   funext j
   rw[if_neg (by omega)]
  rw[e0]
  exact hO.out
 case round=>
  clear hO hK
  obtain⟨i,hi,rfl,hf,hj⟩:=hrel
  by_cases e:i<n
  ·have di:decide ((i:Int)<(n:Int))=true:=ar (by omega)
   have HG:(0:Int)≤(i:Int):=by omega
   have hG:i<LS.length:=by rw[hE.out.1];exact e
   have hx:=hE.out.2 i (LS.getD i (0,0)) (by rw[List.getD_eq_getElem?_getD,List.getElem?_eq_getElem hG];rfl)
   have h0:=hq.out.low hj zg3
   have l0:=h0.cell0 hG
   have l1:=h0.cell1 hG
   generalize LS.getD i (0,0)=t at*
   obtain⟨t0,j⟩:=t
   dsimp only at l0 l1 hx
   have hH:=hx.1
   have hy:=hx.2
   have HH:(0:Int)≤(j:Int):=by omega
   have H5:(j:Int)<(n:Int):=by omega
   have HD:w4.heap.size≤wr.heap.size:=hj.size
   have HJ:w.heap.size≤w4.heap.size:=hB.out.size
   have hs:aB (wr.alloc (.cells #[.int .i64 t0,.int .i64 j] 222)) w.heap.size w4.heap.size n n _:=hf.alloc _
   have b1:=(ac (ag wr 222 #[.int .i64 t0,.int .i64 j]) 1).trans (rfl:_=some (Value.int .i64 j))
   have c1:=hs.cell j hH
   have g1:=hs.frozen j
   have ho:=hs.set j k
   have c2:=ho.cell j hH
   rw[if_pos rfl]at c2
   have g2:=ho.frozen j
   have HB:wr.heap.size≠w4.heap.size:=by have:=hf.lt.2;omega
   have b2:=(ac (kE (b:=w4.heap.size) (o:=j) (ag wr 222 #[.int .i64 t0,.int .i64 j]) HB (.int .i64 (k:Nat))) 1).trans (rfl:_=some (Value.int .i64 j))
   obtain⟨k1,hm⟩:∃k1,k1=k+1:=⟨_,rfl⟩
   have hZ:(k:Int)+1=(k1:Int):=by omega
   have hz:=ho.set j k1
   have h7:=((hj.alloc HD (.cells #[.int .i64 t0,.int .i64 j] 222)).setCell (p:=⟨w4.heap.size,j,none⟩) (ah _) (.int .i64 (k:Nat)))
   have h6:∀v:Nat,v=bI k C W j→∀w':World,aB w' w.heap.size w4.heap.size n n (fun a=>if a=j then v else if ep W a<i then bI k C W a else 0)→aB w' w.heap.size w4.heap.size n n (fun a=>if ep W a<i+1 then bI k C W a else 0):=by
    intro v hv w' h
    have h3:w'.ownsRow w.heap.size 3 1 (.slice (some ⟨w4.heap.size,0,none⟩) n n) n (bY n (fun a=>if a=j then v else if ep W a<i then bI k C W a else 0)):=h
    rw[bN n _ (fun a=>if ep W a<i+1 then bI k C W a else 0) fun a ha=>by
     by_cases ea:a=j
     ·rw[if_pos ea,if_pos (by rw[ea];omega),hv,ea]
     ·rw[if_neg ea]
      have:=EZ W a j (by rw[hg.out];exact ha) (by rw[hg.out];exact hH) ea
      by_cases e2:ep W a<i
      ·rw[if_pos e2,if_pos (by omega)]
      ·rw[if_neg e2,if_neg (by omega)]]at h3
    exact h3
   by_cases c:C≤i
   ·have d1:decide ((C:Int)≤(i:Int))=true:=ar (by omega)
    have hv:k1=bI k C W j:=by unfold bI;rw[hy,if_pos c];exact hm
    have e2:(fun a=>if a=j then k1 else if a=j then k else if ep W a<i then bI k C W a else 0)=fun a=>if a=j then k1 else if ep W a<i then bI k C W a else 0:=by
     funext a
     by_cases ea:a=j
     ·rw[if_pos ea,if_pos ea]
     ·rw[if_neg ea,if_neg ea,if_neg ea]
    rw[e2]at hz
    have HS:=aa (h6 k1 hv _ hz)
    have hD:=aa (h7.setCell (p:=⟨w4.heap.size,j,none⟩) (ah _) (.int .i64 (k1:Nat)))
    clear hf hj hx h0 hs ho hz h7 h6 hv e2 hm hy
    go_wp2_with fail
    go_roundw
    case rel=>exact⟨i+1,by omega,by go_num,HS.out,hD.out⟩
    case measure=>simp[intOf];omega
   ·have d1:decide ((C:Int)≤(i:Int))=false:=ao (by omega)
    have hv:k=bI k C W j:=by unfold bI;rw[hy,if_neg c]
    have HS:=aa (h6 k hv _ ho)
    have hD:=aa h7
    clear hf hj hx h0 hs ho hz h7 h6 hv hm hy
    go_wp2_with fail
    go_roundw
    case rel=>exact⟨i+1,by omega,by go_num,HS.out,hD.out⟩
    case measure=>simp[intOf];omega
  ·obtain rfl:i=n:=by omega
   have di:decide ((i:Int)<(i:Int))=false:=ao (by omega)
   have h3:wr.ownsRow w.heap.size 3 1 (.slice (some ⟨w4.heap.size,0,none⟩) i i) i (bY i fun a=>if ep W a<i then bI k C W a else 0):=hf
   rw[bN i _ (bI k C W) fun a ha=>by
    have:ep W a<i:=by
     have h5:=(rV W).mem_iff.1 (List.mem_map.2 ⟨a,List.mem_range.2 (by rw[hg.out];exact ha),rfl⟩)
     rw[hg.out]at h5
     exact List.mem_range.1 h5
    rw[if_pos this]]at h3
   rw[HK.out.2.2]at h3
   have H2:=aa (hP.out _ k wr HK.out.1 HK.out.2.1 h3 (ap hB.out hj))
   clear hf hj h3 hP hE hq
   go_wp2_with fail
   exact H2.out
end Go.Proofs.YthakcjehhlpjnaaGreat
