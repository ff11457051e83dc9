import Derived.Test.YtfhgikojdfblpaaGreatM06
set_option maxHeartbeats 6400000
set_option maxRecDepth 100000
namespace Go.Proofs.YtfhgikojdfblpaaGreat
open _root_.Go.Proofs.Tryz
open Go.RowKit
theorem nT(w:World):w.drew.heap.size=w.heap.size:=rfl
theorem Ck{w W:World}(h:Below w.heap.size w W):Below w.heap.size w W.drew:=h.drew
theorem Cj{w W:World}(h:Below w.heap.size w W)(o:Obj):Below w.heap.size w (W.alloc o):=h.alloc h.size o
theorem Mr{w W:World}{b o:Nat}(h:Below w.heap.size w W)(hp:w.heap.size<=b)(v:Value):Below w.heap.size w (W.setCell ⟨b,o,none⟩ v):=h.setCell (p:=⟨b,o,none⟩) hp v
theorem Mq{w W W2:World}(h:Below w.heap.size w W)(hb:Below W.heap.size W W2):Below w.heap.size w W2:=aq h hb
theorem Mt{W:World}{g:Nat}{t:TypeId}{cs:Array Value}(h:g=W.heap.size):Blk (W.alloc (.cells cs t)) g t cs:=by subst h;exact aj W t cs
theorem Mu{W:World}{g:Nat}{t:TypeId}(h:Blk W g t #[.slice none 0 0])(v:Value):Blk (W.setCell ⟨g,0,none⟩ v) g t #[v]:=ay h 0 v
theorem lQ{W:World}{g b o:Nat}{t:TypeId}{cs:Array Value}(h:Blk W g t cs)(h0:g≠b)(v:Value):Blk (W.setCell ⟨b,o,none⟩ v) g t cs:=(aF W v h0).trans h
theorem EN{W:World}{g N:Nat}{T:List (Nat×Nat)}(h:kN W g N T)(o:Obj):kN (W.alloc o) g N T:=by obtain⟨cs,h1,h2⟩:=h;exact⟨cs,eR h1 o,h2⟩
theorem Mg{W:World}{g N b o:Nat}{T:List (Nat×Nat)}(h:kN W g N T)(h0:g≠b)(v:Value):kN (W.setCell ⟨b,o,none⟩ v) g N T:=by obtain⟨cs,h1,h2⟩:=h;exact⟨cs,lQ h1 h0 v,h2⟩
theorem MZ{W:World}{g m:Nat}(h:Blk W g 192 (madeCells #[.int .i64 0,.int .i64 0] (m*2))):kN W g m []:=⟨_,h,by rw[Ro],fun i hi=>absurd hi (by simp)⟩
theorem Hg{W:World}{g:Nat}{t:TypeId}{v:Value}(h:Blk W g t #[v]):W.cell? ⟨g,0,none⟩=some v/\W.frozen? ⟨g,0,none⟩=false/\(∀ o:Obj,(W.alloc o).cell? ⟨g,0,none⟩=some v)/\(∀ o:Obj,(W.alloc o).frozen? ⟨g,0,none⟩=false)/\(∀ o o2:Obj,((W.alloc o).alloc o2).cell? ⟨g,0,none⟩=some v)/\∀o o2:Obj,((W.alloc o).alloc o2).frozen? ⟨g,0,none⟩=false:=
 ⟨(ac h 0).trans rfl,ae h 0,fun o=>(ac (eR h o) 0).trans rfl,fun o=>ae (eR h o) 0,fun o o2=>(ac (eR (eR h o) o2) 0).trans rfl,fun o o2=>ae (eR (eR h o) o2) 0⟩
theorem rY{W:World}{g b:Nat}{t:TypeId}{u:Value}(h:Blk W g t #[u])(h0:g≠b):(∀ (v:Value) (o:Obj),((W.setCell ⟨b,0,none⟩ v).alloc o).cell? ⟨g,0,none⟩=some u)/\∀(v:Value) (o:Obj),((W.setCell ⟨b,0,none⟩ v).alloc o).frozen? ⟨g,0,none⟩=false:=
 ⟨fun v o=>(ac (eR (lQ (b:=b) (o:=0) h h0 v) o) 0).trans rfl,fun v o=>ae (eR (lQ (b:=b) (o:=0) h h0 v) o) 0⟩
def Iv(w wx:World)(n:Nat)(T:List (Nat×Nat))(s3 s4:Value):Prop:=∃bS bM gS gM,s3=.pointer (some ⟨bS,0,none⟩)/\s4=.pointer (some ⟨bM,0,none⟩)/\Blk wx bS 188 #[.slice (some ⟨gS,0,none⟩) n n]/\Blk wx bM 188 #[.slice (some ⟨gM,0,none⟩) 0 n]/\
 kN wx gS n T/\kN wx gM n []/\Below w.heap.size w wx/\bS≠bM/\gS≠gM/\w.heap.size<=bS/\w.heap.size<=bM/\w.heap.size<=gS/\w.heap.size<=gM
theorem wE(w:World)(B bS bM gS gM p q N:Nat)(AS:Option Addr)(LS LM:List (Nat×Nat))
 (hS:Blk w bS 188 #[.slice AS (LS.length-p:Nat) (LS.length-p:Nat)]) (hM:Blk w bM 188 #[.slice (some ⟨gM,q*2,none⟩) (LM.length-q:Nat) (N-q:Nat)])
 (tS:fb w gS LS) (tM:fb w gM LM) (h0:p<LS.length->AS=some ⟨gS,p*2,none⟩) (hp:p<=LS.length) (hq:q<=LM.length) (hN:q+2<=N) (h9:LM.length<=N) (hL:LS.length<=1000000) (ha:N<=1000000)
 (hf:∀t∈LS,t.1<4611686018427387904) (hc:∀t∈LM,t.1<4611686018427387904) (hb:∀t∈LS,∀u∈LM,t.2≠u.2) (hh:p<LS.length\/q<LM.length) (h8:B<=bS) (h7:B<=bM) (hg:bS≠bM):
 Calls prog 234 #[.pointer (some ⟨bS,0,none⟩),.pointer (some ⟨bM,0,none⟩)] w fun e w'=>∃(x:Nat×Nat) (p1 q1:Nat) (A1:Option Addr),e=.returned (.agg #[.int .i64 x.1,.int .i64 x.2])/\ak B [bS,bM] [] w w'/\
  lq (LS.drop p) (LM.drop q)=(x,LS.drop p1,LM.drop q1)/\p1<=LS.length/\q1<=LM.length/\(p1<LS.length->A1=some ⟨gS,p1*2,none⟩)/\Blk w' bS 188 #[.slice A1 (LS.length-p1:Nat) (LS.length-p1:Nat)]/\Blk w' bM 188 #[.slice (some ⟨gM,q1*2,none⟩) (LM.length-q1:Nat) (N-q1:Nat)]:=by
 refine(FZ w B bS bM gS gM p q N AS LS LM hS hM tS tM h0 hp hq hN h9 hL ha hf hc hb hh h8 h7 hg).mono ?_;rintro e w' ⟨x,he,h6,⟨h1,h2,⟨A1,h3,h4⟩,h5⟩|⟨h1,h2,h3,h4⟩⟩;·exact⟨x,p+1,q,A1,he,h6,h2,h1,hq,h4,h3,h5⟩
 ·exact⟨x,p,q+1,AS,he,h6,h2,hp,h1,h0,h3,h4⟩
structure Mk (w wx:World) (W:List Nat) (n bS bM gS gM gI:Nat) (LS LM:List (Nat×Nat)) (k p q b:Nat) (AS:Option Addr) (ws ov:Nat->Nat) (act:List Tr) (len:Nat->Nat):Prop where
 boxS:Blk wx bS 188 #[.slice AS (LS.length-p:Nat) (LS.length-p:Nat)]
 boxM:Blk wx bM 188 #[.slice (some ⟨gM,q*2,none⟩) (LM.length-q:Nat) (n-q:Nat)]
 rowS:fb wx gS LS
 rowM:kN wx gM n LM
 at_:p<LS.length->AS=some ⟨gS,p*2,none⟩
 hp:p<=LS.length
 hq:q<=LM.length
 hm:LM.length+n=k
 hk:k<=2*n-1
 two:Two n k ws ov (LS.drop p) (LM.drop q) b
 grown:kr n W k ws ov act len
 row:az wx w.heap.size gI (2*n-1) (2*n-1) ov
 low:∀t∈LM,t.1<=W.sum/\n<=t.2
 below:Below w.heap.size w wx
theorem JD(w:World)(A:Option Addr)(n c:Nat)(f:Nat->Nat)(hL:aB w A n ((List.range n).map f))(h2:2<=n)(hn:n<=258)(hf:∀i,i<n->1<=f i/\f i<=1073741824):
 Calls prog 215 #[.slice A n c] w fun e w'=>∃g ov ws act len,e=.returned (.slice (some ⟨g,0,none⟩) (2*n-1:Nat) (2*n-1:Nat))/\kr n ((List.range n).map f) (2*n-1) ws ov act len/\az w' w.heap.size g (2*n-1) (2*n-1) ov/\Below w.heap.size w w':=by
 have HE:=fun(w1:World) (h:aB w1 A n ((List.range n).map f))=>vZ w1 A n c f h (by omega) (by omega);obtain⟨T,hT⟩:∃T,T=(List.range n).map fun i=>(f i,i):=⟨_,rfl⟩;rw[<- hT]at HE;have HA:=aa HE;have HT:=aa hT;have p4:∀w1:World,(Instr.makeSlice 188 (.int .i64 0) (.int .i64 n)).run prog w1=.ok (.slice (some ⟨w1.heap.size,0,none⟩) 0 n) (w1.alloc (.cells (madeCells #[.int .i64 0,.int .i64 0] (n*2)) 192)):=fun w1=>uu w1 0 n (Ng _) (by omega);have HI:=aa fun(w1:World) (hb:Below w.heap.size w w1)=>cF hL hb;have st1:ak w.heap.size [] [] w w:=ak.refl _ _ _ _;clear hL HE hT;go_enter func215,ntmps215;go_wp2_with fail;go_cut [3,4]from 10 to 14 (fun s3 s4 wx=>Iv w wx n T s3 s4)
 case first=>
  go_region_held3 (fun w'=>True)
   (trivial)
   (first
     | (go_at_call 143;with_reducible refine(HA.out _ (HI.out _ (by repeat (first | with_reducible exact st1.below | with_reducible assumption | with_reducible refine Ck ?_ | with_reducible refine Cj ?_ _)))).mono ?_;rintro e w2 ⟨rfl,HD,hh⟩
        have bl2:Below w.heap.size w w2:=Mq (by repeat (first|with_reducible exact st1.below|with_reducible assumption|with_reducible refine Ck ?_|with_reducible refine Cj ?_ _)) hh
        have z2:=HD.row.lt
        (first
          | ((first|with_reducible (have h1:=eS hh (aj _ _ _);have h2:=eS hh (eR (aj _ _ _) _);have h3:=eS hh (eR (eR (aj _ _ _) _) _))|with_reducible (have h1:=eS hh (li (aj _ _ _));have h2:=eS hh (li (eR (aj _ _ _) _));have h3:=eS hh (li (eR (eR (aj _ _ _) _) _))));(try obtain⟨c1,f1,ca1,fa1,cb1,fb1⟩:=Hg h1);(try obtain⟨c2,f2,ca2,fa2,cb2,fb2⟩:=Hg h2);(try obtain⟨c3,f3,ca3,fa3,cb3,fb3⟩:=Hg h3);simp only[Qf,nT]at *;(try obtain⟨cp12,fp12⟩:=rY (b:=w.heap.size+1) h1 (by omega));(try obtain⟨cp13,fp13⟩:=rY (b:=w.heap.size) h1 (by omega));(try obtain⟨cp21,fp21⟩:=rY (b:=w.heap.size+1+1) h2 (by omega));(try obtain⟨cp23,fp23⟩:=rY (b:=w.heap.size) h2 (by omega));(try obtain⟨cp31,fp31⟩:=rY (b:=w.heap.size+1+1) h3 (by omega));(try obtain⟨cp32,fp32⟩:=rY (b:=w.heap.size+1) h3 (by omega)))
          | ((first|with_reducible (have h1:=eS hh (aj _ _ _);have h2:=eS hh (eR (aj _ _ _) _))|with_reducible (have h1:=eS hh (li (aj _ _ _));have h2:=eS hh (li (eR (aj _ _ _) _))));(try obtain⟨c1,f1,ca1,fa1,cb1,fb1⟩:=Hg h1);(try obtain⟨c2,f2,ca2,fa2,cb2,fb2⟩:=Hg h2);simp only[Qf,nT]at *;(try obtain⟨cp12,fp12⟩:=rY (b:=w.heap.size) h1 (by omega));(try obtain⟨cp21,fp21⟩:=rY (b:=w.heap.size+1) h2 (by omega)))
          | ((first|with_reducible (have h1:=eS hh (aj _ _ _))|with_reducible (have h1:=eS hh (li (aj _ _ _))));(try obtain⟨c1,f1,ca1,fa1,cb1,fb1⟩:=Hg h1);simp only[Qf,nT]at *)
          | (simp only[nT]at *)
          | skip)))
  all_goals go_wp2_with fail
  all_goals go_meet
  all_goals refine⟨_,_,_,_,rfl,rfl,by(repeat (first|with_reducible assumption|(with_reducible refine Mt ?_;(simp;done))|with_reducible refine eR ?_ _|with_reducible refine Mu ?_ _|(with_reducible refine lQ ?_ ?_ _;rotate_left;omega))),by(repeat (first|with_reducible assumption|(with_reducible refine Mt ?_;(simp;done))|with_reducible refine eR ?_ _|with_reducible refine Mu ?_ _|(with_reducible refine lQ ?_ ?_ _;rotate_left;omega))),by(repeat (first|with_reducible assumption|with_reducible refine EN ?_ _|(with_reducible refine Mg ?_ ?_ _;rotate_left;omega))),MZ (by(repeat (first|with_reducible assumption|(with_reducible refine Mt ?_;(simp;done))|with_reducible refine eR ?_ _|with_reducible refine Mu ?_ _|(with_reducible refine lQ ?_ ?_ _;rotate_left;omega)))),by(repeat (first|with_reducible exact st1.below|with_reducible assumption|with_reducible refine Ck ?_|with_reducible refine Cj ?_ _|(with_reducible refine Mr ?_ ?_ _;rotate_left;omega))),?_,?_,?_,?_,?_,?_⟩
  all_goals omega
 case rest=>
  obtain⟨bS,bM,gS,gM,rfl,rfl,HQ,q0,HU,q5,hb,p5,qb,zbS,zbM,zgS,zgM⟩:=hcut;have q6:T.length=n:=by rw[HT.out];simp
  have r9:(T.map Prod.snd).Nodup:=by rw[HT.out,Ou];have:(Prod.snd ∘ fun i=>(f i,i))=id:=rfl;rw[this,QV];exact OD
  have hG:=BE wc w.heap.size gS n T HU.row zgS (by omega) r9;rw[q6]at hG;have hS:=aa hG;have cS:=ac HQ 0;have cS':wc.cell? ⟨bS,0,none⟩=some (.slice (some ⟨gS,0,none⟩) n n):=cS;have HK:=aa q0;have HL:=aa HQ;have po:=aa q5;have pr:=aa HU;have HB:=aa hb;clear hG cS HQ q0 HU q5 hb p4 st1 HA;go_wp2_with fail;refine hS.out.mono ?_;rintro e w3 ⟨rfl,LS,ha,hv,H3,hK⟩;obtain⟨N,hN⟩:∃N,N=2*n-1:=⟨_,rfl⟩;have t1:(2:Int)*(n:Int)-1=(N:Int):=by omega
  have sT:3<=N:=by omega
  have t0:N<=515:=by omega
  have p4:=bu w3 N (by omega);have qa:=bf w3 w.heap.size N (by have:=HB.out.size;have:=hK.size;omega) (by omega);have HN:=aa hN;have pk:=aa qa;have hI:=aa hK;have hQ:=aa H3;have hs:=aa hv;have hr:=aa ha;have HW:Hid (((List.range n).map f).sum<=1099511627776):=aa (rr n f hn fun j hj=>(hf j hj).2)
  have H7:Hid (LS.length=n/\(∀ t∈LS,t.1<=1073741824/\t.2<n)):=aa (by
   refine⟨by rw[ha.length_eq,q6],fun t ht=> ?_⟩
   have h3:=ha.mem_iff.1 ht
   rw[HT.out]at h3
   obtain⟨i,hi,rfl⟩:=List.mem_map.1 h3
   exact⟨(hf i (List.mem_range.1 hi)).2,List.mem_range.1 hi⟩)
  have HJ:Hid (Mk w (w3.alloc (.cells (madeCells #[.int .i64 0] N) 3)) ((List.range n).map f) n bS bM gS gM w3.heap.size LS [] n 0 0 0 (some ⟨gS,0,none⟩) (fun j=>((List.range n).map f).getD j 0) (fun _=>0) (kP ((List.range n).map f)) (fun _=>0)):=aa (by
   have qm:∀b,Blk wc b 188 #[.slice (some ⟨gS,0,none⟩) n n]\/Blk wc b 188 #[.slice (some ⟨gM,0,none⟩) 0 n]->b∉ [gS]:=by
    rintro b hb hm
    rw[Og]at hm
    obtain⟨cs,h1,_⟩:=pr.out
    rcases hb with hb|hb <;>exact aW hb h1 (by decide) hm
   have H8:((List.range n).map f).length=n:=by simp
   constructor
   case boxS=>
    rw[H7.out.1]
    exact eR (hI.out.blk HL.out (qm bS (.inl HL.out)) (by simp)) _
   case boxM=>exact eR (hI.out.blk HK.out (qm bM (.inr HK.out)) (by simp)) _
   case rowS=>
    obtain⟨cs,h1,h3⟩:=hQ.out
    exact⟨cs,eR h1 _,h3⟩
   case rowM=>exact EN (hI.out.tcap po.out (by rw[Og];exact qb.symm)) _
   case at_=>exact fun _=>rfl
   case hp=>exact Ng _
   case hq=>exact Ng _
   case hm=>simp
   case hk=>omega
   case two=>
    have h3:=Ii ((List.range n).map f) LS (by
     rw[H8]
     refine hr.out.trans ?_
     rw[HT.out]
     have:((List.range n).map fun i=>(f i,i))=(List.range n).map fun i=>(((List.range n).map f).getD i 0,i):=Oe fun i hi=>by rw[dE n f i (List.mem_range.1 hi)]
     rw[this]) hs.out
    rw[H8]at h3
    exact h3
   case grown=>
    have h3:=rP ((List.range n).map f) (by rw[H8];omega)
    rw[H8]at h3
    exact h3
   case row=>rw[<- HN.out];exact pk.out
   case low=>exact fun t ht=>absurd ht (by simp)
   case below=>exact(HB.out.trans hI.out.below).alloc (by have:=HB.out.size;have:=hI.out.size;omega) _)
  generalize hWE:(List.range n).map f=W at*;have r6:=aa hWE;clear hWE;clear hN qa hK H3 hv ha;go_wp2_with fail;clear p4 pk hI hQ hs hr hS HB HL HK po pr;go_loopw [7,8,9] (fun v s8 s9 wx=>∃(k p q b:Nat) (LM:List (Nat×Nat)) (AS:Option Addr) (ws ov:Nat->Nat) (act:List Tr) (len:Nat->Nat),v=.int .i64 k/\Mk w wx W n bS bM gS gM w3.heap.size LS LM k p q b AS ws ov act len) (fun v _ _ _=>N-(intOf v).toNat)
  case atStart=>exact⟨n,0,0,0, [],_,_,_,_,_,rfl,HJ.out⟩
  case round=>
   clear HJ;rename World=>w4;obtain⟨k,p,q,b,LM,AS,ws,ov,act,len,rfl,J⟩:=hrel;have rO:=J.hk;rw[<- HN.out]at rO;by_cases e:k<N
   ·have q8:k+1<2*n:=(by have:=HN.out;omega);have r8:=H7.out.1;have t2:=J.hm;have t3:=J.hq;obtain⟨a1,a2,HV,rl,rb,hB,HX⟩:=qX J.grown q8;have p6:p<LS.length\/q<LM.length:=by
     rcases qz J.two HV hB with h|h;·have:=PD h;rw[Ny]at this;omega
     ·have:=PD h;rw[Ny]at this;omega
    (have hw:∀t∈LM,t.1<4611686018427387904:=fun t ht=>by have:=(J.low t ht).1;have:=HW.out;omega);(have hA:∀t∈LS,t.1<4611686018427387904:=fun t ht=>by have:=(H7.out.2 t ht).1;omega);(have HY:∀t∈LS,∀u∈LM,t.2≠u.2:=fun t ht u hu=>by have:=(H7.out.2 t ht).2;have:=(J.low u hu).2;omega);have HF:=aa (wE w4 w.heap.size bS bM gS gM p q n AS LS LM J.boxS J.boxM J.rowS J.rowM.row J.at_ J.hp J.hq (by omega) (by omega) (by omega) (by omega) hA hw HY p6 zbS zbM p5)
    have hR:Hid (∀ (w5:World) (x:Nat×Nat) (p1 q1:Nat) (A1:Option Addr),ak w.heap.size [bS,bM] [] w4 w5->lq (LS.drop p) (LM.drop q)=(x,LS.drop p1,LM.drop q1)->p1<=LS.length->q1<=LM.length->(p1<LS.length->A1=some ⟨gS,p1*2,none⟩)->Blk w5 bS 188 #[.slice A1 (LS.length-p1:Nat) (LS.length-p1:Nat)]->Blk w5 bM 188 #[.slice (some ⟨gM,q1*2,none⟩) (LM.length-q1:Nat) (n-q1:Nat)]->
     Calls prog 234 #[.pointer (some ⟨bS,0,none⟩),.pointer (some ⟨bM,0,none⟩)] w5 fun e w'=>∃(y:Nat×Nat) (p2 q2:Nat) (A2:Option Addr),e=.returned (.agg #[.int .i64 y.1,.int .i64 y.2])/\ak w.heap.size [bS,bM] [] w5 w'/\
      lq (LS.drop p1) (LM.drop q1)=(y,LS.drop p2,LM.drop q2)/\p2<=LS.length/\q2<=LM.length/\(p2<LS.length->A2=some ⟨gS,p2*2,none⟩)/\Blk w' bS 188 #[.slice A2 (LS.length-p2:Nat) (LS.length-p2:Nat)]/\Blk w' bM 188 #[.slice (some ⟨gM,q2*2,none⟩) (LM.length-q2:Nat) (n-q2:Nat)]):=aa (by
     intro w5 x p1 q1 A1 hK s2 h1 h3 h4 h5 h6
     have H2:gS∉ [bS,bM]:=by
      intro hm
      obtain⟨cs,hc,_⟩:=J.rowS
      rcases List.mem_cons.1 hm with hm|hm
      ·exact aW hc J.boxS (by decide) hm
      ·exact aW hc J.boxM (by decide) (List.mem_singleton.1 hm)
     have hJ:gM∉ [bS,bM]:=by
      intro hm
      obtain⟨cs,hc,_⟩:=J.rowM
      rcases List.mem_cons.1 hm with hm|hm
      ·exact aW hc J.boxS (by decide) hm
      ·exact aW hc J.boxM (by decide) (List.mem_singleton.1 hm)
     have rM:k≠0:=by omega
     have s7:=(vr J.two J.grown.ge rM HV hB s2 rfl).2.2.2.1
     have p7:p1<LS.length\/q1<LM.length:=by
      obtain⟨i,hi,rv⟩:∃i,i<k/\(fun j=>if j=x.2 then k else ov j) i=0:=by
       by_cases ex:a1=x.2
       ·exact⟨a2,rl,by show(if a2=x.2 then k else ov a2)=0;rw[Nd];exact HX⟩
       ·exact⟨a1,HV,by show(if a1=x.2 then k else ov a1)=0;rw[Nd ex];exact hB⟩
      rcases qz s7 hi rv with h|h
      ·have:=PD h
       rw[Ny]at this
       omega
      ·have:=PD h
       rw[Ny]at this
       omega
     exact wE w5 w.heap.size bS bM gS gM p1 q1 n A1 LS LM h5 h6 (hK.trow J.rowS H2) (hK.tcap J.rowM hJ).row h4 h1 h3 (by omega) (by omega) (by omega) (by omega) hA hw HY p7 zbS zbM p5)
    have HJ:=aa J;clear J hw hA HY;go_wp2_with fail;refine HF.out.mono ?_;rintro e5 w5 ⟨x,p1,q1,A1,rfl,hH,hD,s0,s5,ps,hY,hW⟩;have pg:=aa (hR.out w5 x p1 q1 A1 hH hD s0 s5 ps hY hW);have pl:=aa hD;have hV:=aa hH;clear hD hH ps hY hW hR;go_wp2_with fail;refine pg.out.mono ?_;rintro e6 w6 ⟨y,p2,q2,A2,rfl,H5,hE,s1,s6,pv,hZ,hX⟩;have hF:=Ih HJ.out.grown HJ.out.two q8 pl.out hE rfl rfl;have h8:ak w.heap.size [bS,bM] [] w4 w6:=hV.out.trans H5;have p8:w3.heap.size∉ [bS,bM]:=(by have h1:=dV HJ.out.row HJ.out.boxS (by decide) w3.heap.size rfl;have h3:=dV HJ.out.row HJ.out.boxM (by decide) w3.heap.size rfl;simp[h1,h3]);have he:az w6 w.heap.size w3.heap.size N N ov:=(by have:=HJ.out.row;rw[<- HN.out]at this;exact h8.row this (fun g hg=>by simp[Value.ownBlock]at hg;rw[<- hg];exact p8) (by simp));have H2:gS∉ [bS,bM]:=by
     intro hm;obtain⟨cs,hc,_⟩:=HJ.out.rowS;rcases List.mem_cons.1 hm with hm|hm;·exact aW hc HJ.out.boxS (by decide) hm
     ·exact aW hc HJ.out.boxM (by decide) (List.mem_singleton.1 hm)
    have hJ:gM∉ [bS,bM]:=by
     intro hm;obtain⟨cs,hc,_⟩:=HJ.out.rowM;rcases List.mem_cons.1 hm with hm|hm;·exact aW hc HJ.out.boxS (by decide) hm
     ·exact aW hc HJ.out.boxM (by decide) (List.mem_singleton.1 hm)
    have hC:w3.heap.size≠gM:=(by obtain⟨cs,hc,_⟩:=HJ.out.rowM;exact dV HJ.out.row hc (by decide) w3.heap.size rfl);have pn:=aa (h8.trow HJ.out.rowS H2);have pj:=aa (h8.tcap HJ.out.rowM hJ);have HH:=aa (HJ.out.below.trans h8.below);have z6:w.heap.size<=w6.heap.size:=HH.out.size;have rs:w3.heap.size<w6.heap.size:=he.lt.2;have H1:w.heap.size<=w3.heap.size:=he.lt.1;obtain⟨⟨act2,len2,q7⟩,HD,hx,hy,sm,p9⟩:=hF;have qo:x.2<N:=(by omega);have pf:y.2<N:=(by omega);have r3:=aa q7;have r5:=aa HD;have sx:=aa hE;have hP:=aa hZ;have hO:=aa hX;have qs:=aa pv;have pm:=aa he;clear q7 HD hE hZ hX pv he h8 H5 hV pl HF pg;obtain⟨x0,x1⟩:=x;obtain⟨y0,y1⟩:=y;dsimp only at hx hy sm p9 qo pf;have h7:az ((w6.alloc (.cells #[.int .i64 x0,.int .i64 x1] 192)).alloc (.cells #[.int .i64 y0,.int .i64 y1] 192)) w.heap.size w3.heap.size N N ov:=(pm.out.alloc _).alloc _;have b7:=Ef w6 (.int .i64 x0) (.int .i64 x1) (.int .i64 y0) (.int .i64 y1) 192;have k0:=(ac b7.1 0).trans (rfl:_=some (Value.int .i64 x0));have k1:=(ac b7.1 1).trans (rfl:_=some (Value.int .i64 x1));have k2:=(ac b7.2 0).trans (rfl:_=some (Value.int .i64 y0));have k3:=(ac b7.2 1).trans (rfl:_=some (Value.int .i64 y1));have c1:=h7.cell x1 qo;have c2:=h7.cell y1 pf;have f1:=h7.frozen x1;have f2:=h7.frozen y1;have sa:(0:Int)<=(x1:Int):=(by omega);have sl:(x1:Int)<(N:Int):=(by omega);have sn:(0:Int)<=(y1:Int):=(by omega);have so:(y1:Int)<(N:Int):=(by omega);have HO:=aa h7;have B7:=aa b7;clear h7 b7;go_wp2_with fail;have ST7:Hid (ak w.heap.size [] [] w6 ((w6.alloc (.cells #[.int .i64 x0,.int .i64 x1] 192)).alloc (.cells #[.int .i64 y0,.int .i64 y1] 192))):=aa (((ak.refl w.heap.size [] [] w6).alloc z6 _).alloc (by simp;omega) _);obtain⟨w7,pb⟩:∃w7,w7=(w6.alloc (.cells #[.int .i64 x0,.int .i64 x1] 192)).alloc (.cells #[.int .i64 y0,.int .i64 y1] 192):=⟨_,rfl⟩;rw[<- pb]at HO B7 k0 k1 k2 k3 c1 c2 f1 f2 ST7;rw[<- pb];clear pb;have HC:=(HO.out.drew 1).set x1 k;have ql:=HC.set y1 k;have c2s:=HC.cell y1 pf;have f2s:=HC.frozen y1;have HS2:=aa ql;clear HC ql;change (w7.drew.setCell ⟨w3.heap.size,x1,none⟩ (.int .i64 (k:Nat))).cell? ⟨w3.heap.size,y1,none⟩=_ at c2s;change (w7.drew.setCell ⟨w3.heap.size,x1,none⟩ (.int .i64 (k:Nat))).frozen? ⟨w3.heap.size,y1,none⟩=_ at f2s;change Hid (az ((w7.drew.setCell ⟨w3.heap.size,x1,none⟩ (.int .i64 (k:Nat))).setCell ⟨w3.heap.size,y1,none⟩ (.int .i64 (k:Nat))) w.heap.size w3.heap.size N N _)at HS2;go_region;obtain⟨w8,hM⟩:∃w8,w8=((w7.setCell ⟨w3.heap.size,x1,none⟩ (.int .i64 (k:Nat))).setCell ⟨w3.heap.size,y1,none⟩ (.int .i64 (k:Nat))).drew:=⟨_,rfl⟩;have r4:Hid (az w8 w.heap.size w3.heap.size N N fun j=>if j=y1 then k else if j=x1 then k else ov j):=aa (by rw[hM];exact HS2.out);(have r7:bS≠w3.heap.size:=fun h=>by simp[h]at p8);(have q3:bM≠w3.heap.size:=fun h=>by simp[h]at p8);have p0:gS≠w3.heap.size:=(by obtain⟨cs,hc,_⟩:=HJ.out.rowS;exact fun h=>dV HJ.out.row hc (by decide) w3.heap.size rfl h.symm);have h0:gS≠gM/\gS≠bM/\gM≠bM/\bS≠gM:=(by simp only[PA,aw,or_false,not_or]at H2 hJ;exact⟨qb,H2.2,hJ.2,fun h=>hJ.1 h.symm⟩);(have up8:∀{g:Nat} {t:TypeId} {cs:Array Value},Blk w6 g t cs->g≠w3.heap.size->Blk w8 g t cs:=fun h h3=>by rw[hM];exact li (lQ (lQ (ST7.out.blk h (by simp) (by simp)) h3 _) h3 _));(have up78:∀{g:Nat} {t:TypeId} {cs:Array Value},Blk w7 g t cs->g≠w3.heap.size->Blk w8 g t cs:=fun h h3=>by rw[hM];exact li (lQ (lQ h h3 _) h3 _));have BS8:=aa (up8 hP.out r7);have bM8:=up8 hO.out q3;have ba8:=up78 B7.out.1 (by omega);have bb8:=up78 B7.out.2 (by omega)
    have RS8:Hid (fb w8 gS LS):=aa (by
     obtain⟨cs,h1,h3⟩:=pn.out
     exact⟨cs,up8 h1 p0,h3⟩)
    have RM8:Hid (kN w8 gM n LM):=aa (by
     obtain⟨cs,h1,h3⟩:=pj.out
     exact⟨cs,up8 h1 hC.symm,h3⟩)
    have BE8:Hid (Below w.heap.size w w8):=aa (by
     rw[hM]
     exact(((HH.out.trans ST7.out.below).setCell (p:=⟨w3.heap.size,x1,none⟩) H1 _).setCell (p:=⟨w3.heap.size,y1,none⟩) H1 _).drew)
    rw[<- hM];clear hM up8 up78 HS2 c2s f2s c1 c2 f1 f2 k0 k1 k2 k3 HO B7 ST7 HH pn pj pm hP hO;obtain⟨lm,q9⟩:∃lm,lm=LM.length-q2:=⟨_,rfl⟩;obtain⟨cm,HZ⟩:∃cm,cm=n-q2:=⟨_,rfl⟩;obtain⟨z,hz⟩:∃z,z=x0+y0:=⟨_,rfl⟩;rw[<- q9,<-HZ]at bM8;have t5:(x0:Int)+(y0:Int)=(z:Int):=(by omega);have t4:z<=1099511627776:=(by have:=HW.out;omega);have rR:lm+1<=cm:=(by omega);have ho:q2*2+lm*2=LM.length*2:=(by omega);have HS:LM.length<n:=(by omega);have r0:=(ac ba8 0).trans (rfl:_=some (Value.int .i64 x0));have r1:=(ac bb8 0).trans (rfl:_=some (Value.int .i64 y0));have r2:=(ac bM8 0).trans (rfl:_=some (Value.slice (some ⟨gM,q2*2,none⟩) lm cm));obtain⟨i3,h3,ss,H6,st⟩:=N4 Tryz.infoTree;have H4:(Builtin.append_ #[188,188] 188 #[.slice (some ⟨gM,q2*2,none⟩) lm cm,.slice (some ⟨w8.heap.size,0,none⟩) 1 1]).run prog (w8.alloc (.cells #[.int .i64 z,.int .i64 k] 192))=.ok (.slice (some ⟨gM,q2*2,none⟩) (lm+1) cm) (((w8.alloc (.cells #[.int .i64 z,.int .i64 k] 192)).setCell ⟨gM,LM.length*2,none⟩ (.int .i64 z)).setCell ⟨gM,LM.length*2+1,none⟩ (.int .i64 k)):=by
     have q4:=EN RM8.out (.cells #[.int .i64 z,.int .i64 k] 192)
     have h9:=run_append_room_cells (P:=prog) (w8.alloc (.cells #[.int .i64 z,.int .i64 k] 192)) 188 188 192 i3 underlying188 h3 gM (q2*2) lm cm ⟨w8.heap.size,0,none⟩ 1 1 [.int .i64 z,.int .i64 k] (by rw[H6];rfl) (yN w8 _ _ _)
      (fun u hu=>by simp at hu;rcases hu with rfl|rfl <;>rfl) rR
      (fun jj hj=>by rw[H6,ho];exact(q4.there _ (by simp at hj;omega)).1) (fun jj hj=>by rw[H6,ho];exact(q4.there _ (by simp at hj;omega)).2)
     rw[H6,ho]at h9;exact h9
    have HP:=aa H4;have hl:Blk (((w8.alloc (.cells #[.int .i64 z,.int .i64 k] 192)).setCell ⟨gM,LM.length*2,none⟩ (.int .i64 z)).setCell ⟨gM,LM.length*2+1,none⟩ (.int .i64 k)) bM 188 #[.slice (some ⟨gM,q2*2,none⟩) lm cm]:=lQ (lQ (eR bM8 _) h0.2.2.1.symm _) h0.2.2.1.symm _;have m10:=(ac hl 0).trans (rfl:_=some (Value.slice (some ⟨gM,q2*2,none⟩) lm cm));have f10:=ae hl 0
    have HM:Hid (Mk w ((((w8.alloc (.cells #[.int .i64 z,.int .i64 k] 192)).setCell ⟨gM,LM.length*2,none⟩ (.int .i64 z)).setCell ⟨gM,LM.length*2+1,none⟩ (.int .i64 k)).setCell ⟨bM,0,none⟩ (.slice (some ⟨gM,q2*2,none⟩) (lm+1:Nat) cm)) W n bS bM gS gM w3.heap.size LS (LM++ [(z,k)]) (k+1) p2 q2 y0 A2 (fun j=>if j=k then x0+y0 else ws j) (fun j=>if j=y1 then k else if j=x1 then k else ov j) act2 len2):=aa (by
     have sv:=BE8.out.size
     have H0:(LM++ [(z,k)]).drop q2=LM.drop q2++ [(z,k)]:=PT s6
     constructor
     case boxS=>exact lQ (lQ (lQ (eR BS8.out _) h0.2.2.2 _) h0.2.2.2 _) p5 _
     case boxM=>
      rw[show (LM++ [(z,k)]).length-q2=lm+1 by rw[Nb,NP];omega,<-HZ]
      exact ay hl 0 _
     case rowS=>
      obtain⟨cs,h1,h4⟩:=RS8.out
      exact⟨cs,lQ (lQ (lQ (eR h1 _) h0.1 _) h0.1 _) h0.2.1 _,h4⟩
     case rowM=>exact Mg ((EN RM8.out _).store (z,k) HS) h0.2.2.1 _
     case at_=>exact qs.out
     case hp=>exact s1
     case hq=>rw[Nb,NP];omega
     case hm=>rw[Nb,NP];omega
     case hk=>omega
     case two=>rw[H0,hz];exact r5.out
     case grown=>exact r3.out
     case row=>
      rw[<- HN.out]
      exact(((r4.out.alloc _).other hC.symm _ _).other hC.symm _ _).other q3 _ _
     case low=>
      intro t ht
      rcases List.mem_append.1 ht with ht|ht
      ·exact HJ.out.low t ht
      ·rw[List.mem_singleton.1 ht]
       exact⟨by show z<=_;omega,HJ.out.grown.ge⟩
     case below=>exact((((BE8.out.alloc sv _).setCell (p:=⟨gM,LM.length*2,none⟩) zgM _).setCell (p:=⟨gM,LM.length*2+1,none⟩) zgM _).setCell (p:=⟨bM,0,none⟩) zbM _))
    clear H4 ba8 bb8 bM8 hl q9 HZ hz ho h3 ss H6 st;(go_wp2_with (at_builtin;refine Lib.wpList_append_run _ rfl (.tmp 45) (.tmp 53) 188 188 rfl (.slice (some ⟨gM,q2*2,none⟩) lm cm) (.slice (some ⟨w8.heap.size,0,none⟩) 1 1) rfl rfl _ _ HP.out ?_));go_roundw;case rel=>exact⟨k+1,p2,q2,y0,LM++ [(z,k)],A2,_,_,act2,len2,by go_num,HM.out⟩
    case measure=>simp[intOf];omega
   ·have p3:k=N:=(by omega);subst p3;have HG:=aa J.grown;have HR:=aa J.row;have qx:=aa J.below;clear J;go_wp2_with fail;go_ret;rw[<- HN.out];rw[<- HN.out]at HR;refine⟨w3.heap.size,ov,ws,act,len,rfl,?_,HR.out,qx.out⟩;rw[r6.out];exact HG.out
theorem az.cut{w:World}{B g c N n:Nat}{f:Nat->Nat}(h:az w B g c N f)(hn:n<=N):az w B g c n f:=by
 unfold az at*;rcases h.2 with⟨h',_⟩|⟨g',cap',cur,h',hB,h1,h3,hm,h2,h0⟩;·simp at h'
 ·simp only[Ol,Oj,PR,and_true,true_and]at h';obtain⟨rfl,rfl⟩:=h';refine⟨by rw[eI,Oc],.inr ⟨g,c,cur,rfl,hB,h1,by omega,hm,h2,?_⟩⟩;rw[Oc]at h0 |-;have e:cur.toList.take n=(cur.toList.take N).take n:=(by rw[List.take_take,OJ hn]);rw[e,h0];unfold cN;rw[<- R4,List.take_range,OJ hn]
theorem CR(w:World)(A:Option Addr)(n c:Nat)(f:Nat->Nat)(hL:aB w A n ((List.range n).map f))(h2:2<=n)(hn:n<=258)(hf:∀i,i<n->1<=f i/\f i<=1073741824):
 Calls prog 182 #[.slice A n c] w fun e w'=>∃g c2 len,e=.returned (.slice (some ⟨g,0,none⟩) n c2)/\lH ((List.range n).map f) len/\az w' w.heap.size g c2 n len/\Below w.heap.size w w':=by
 have HJ:=aa (JD w A n c f hL h2 hn hf);obtain⟨N,hN⟩:∃N,N=2*n-1:=⟨_,rfl⟩;rw[<- hN]at HJ;have HN:=aa hN;have hI:3<=N:=by omega
 have hJ:N<=515:=by omega
 have hD:n<=N:=by omega
 clear hL hf hN;go_enter func182,ntmps182;go_wp2_with fail;refine HJ.out.mono ?_;rintro e w2 ⟨gI,ov,ws,act,len,rfl,hg,hr,hb⟩;obtain⟨dd,hl,ht,hm,h1,hp⟩:=FP (by rw[<- HN.out];exact hg);have ha:=aa hl;have hh:=aa ht;have hc:=aa hm;have h7:=aa h1;have he:=aa hp;have HR:=aa hr;have HB:=aa hb;have hC:=bu w2 N (by omega);have hk:=aa (bf w2 w.heap.size N hb.size (by omega));have hA:gI<w2.heap.size:=hr.lt.2;have hK:(N:Int)-2=((N-2:Nat):Int):=by omega
 clear hg hr hb HJ hl ht hm h1 hp;go_wp2_with fail;clear hC;have h9:Hid (Below w2.heap.size w2 (w2.alloc (.cells (madeCells #[.int .i64 0] N) 3))):=aa ((Nj _ _).alloc (ag _) _);go_loopw [5] (fun x wx=>∃(q:Nat) (i:Int),q+1<=N/\i=(q:Int)-1/\x=.int .i64 i/\az wx w.heap.size w2.heap.size N N (fun j=>if q<=j then dd j else 0)/\Below w2.heap.size w2 wx) (fun x _=>(intOf x+1).toNat)
 case atStart=>
  refine⟨N-1,_,by omega,?_,rfl,?_,h9.out⟩;·omega
  ·have h3:(w2.alloc (.cells (madeCells #[.int .i64 0] N) 3)).ownsRow w.heap.size 3 1 (.slice (some ⟨w2.heap.size,0,none⟩) N N) N (cN N fun _=>0):=hk.out
   rw[cw N (fun _=>0) (fun j=>if N-1<=j then dd j else 0) fun j hj=>by
    by_cases e:N-1<=j
    ·rw[Nf e,show j=2*n-2 by have:=HN.out;omega,ha.out]
    ·rw[Nd e]]at h3
   exact h3
 case round=>
  clear hk h9;obtain⟨q,i,hq,hi,rfl,hf,h0⟩:=hrel;rcases OL q with e0|e0;·subst e0;have di:decide ((0:Int)<=i)=false:=aR;clear hi;have h3:wr.ownsRow w.heap.size 3 1 (.slice (some ⟨w2.heap.size,0,none⟩) N N) N (cN N fun j=>if 0<=j then dd j else 0):=hf;rw[cw N _ dd fun j hj=>Nf (Ng j)]at h3;have h4:az wr w.heap.size w2.heap.size N N dd:=h3;have h5:az wr w.heap.size w2.heap.size N n len:=(by have h6:wr.ownsRow w.heap.size 3 1 (.slice (some ⟨w2.heap.size,0,none⟩) n N) n (cN n dd):=h4.cut hD;rw[cw n dd len fun j hj=>(he.out j hj).symm]at h6;exact h6);have H5:=aa h5;have hy:=aa (aq HB.out h0);have hM:(0:Int)<=(n:Int):=(by omega);have hE:(n:Int)<=(N:Int):=(by omega);clear hf h0 h3 h4 h5 hh hc he HR ha HB;go_wp2_with fail;go_ret;exact⟨w2.heap.size,N,len,rfl,h7.out,H5.out,hy.out⟩
  ·obtain⟨r,rfl⟩:∃r,q=r+1:=⟨q-1,by omega⟩;have hB:i=(r:Int):=(by omega);subst hB;have hw:r<N:=(by omega);have hP:(0:Int)<=(r:Int):=(by omega);have hH:(r:Int)<(N:Int):=(by omega);have hd:=hh.out r (by have:=HN.out;omega);have ci:=(HR.out.below h0 hA).cell r hw;have h8:=hc.out (ov r);obtain⟨o,ho⟩:∃o,o=ov r:=⟨_,rfl⟩;rw[<- ho]at ci hd h8;have hF:o<N:=(by have:=HN.out;omega);have hO:(0:Int)<=(o:Int):=(by omega);have hG:(o:Int)<(N:Int):=(by omega);have co:=hf.cell o hF;rw[Nf]at co;have cr:=hf.cell r hw;have fr:=hf.frozen r;obtain⟨v,hv⟩:∃v,v=dd o:=⟨_,rfl⟩;rw[<- hv]at co hd h8;obtain⟨v1,hx⟩:∃v1,v1=v+1:=⟨_,rfl⟩;have hR:(v:Int)+1=(v1:Int):=(by omega);have hQ:v1<=1000:=(by omega);have hs:=hf.set r v1;have hu:(fun j=>if j=r then v1 else if r+1<=j then dd j else 0)=fun j=>if r<=j then dd j else 0:=by
    funext j;by_cases ej:j=r;·rw[Nf ej,Nf,ej,hd.2.2,hx]
    ·rw[Nd ej];by_cases ej2:r+1<=j;·rw[Nf ej2,Nf]
     ·rw[Nd ej2,Nd]
   rw[hu]at hs;have HS:=aa hs;have hz:=aa (h0.setCell (p:=⟨w2.heap.size,r,none⟩) (ag _) (.int .i64 (v1:Nat)));clear hf h0 hs hu hd ho hv hx h8 hi;go_wp2_with fail;go_roundw;case rel=>exact⟨r,(r:Int)-1,by omega,rfl,by go_num,HS.out,hz.out⟩
   case measure=>simp[intOf]
structure Mm (w wx:World) (W0:List Nat) (n most t gA cA gX cX:Nat) (len f:Nat->Nat):Prop where
 ht:t<=31
 rowW:az wx w.heap.size gA cA n f
 rowL:az wx w.heap.size gX cX n len
 half:dL W0 t=(List.range n).map f
 hlen:lH (dL W0 t) len
 hf:∀j,j<n->1<=f j/\f j<=1073741824
 past:∀q,q<t->∃L1,lH (dL W0 q) L1/\∃i,i<n/\most<L1 i
 below:Below w.heap.size w wx
theorem K6{w:World}{B g c n:Nat}{f:Nat->Nat}(h:az w B g c n f):ZIn w (some ⟨g,0,none⟩) n (((List.range n).map f).map fun(x:Nat)=>(x:Int)):=dw h.ints
theorem wI(n:Nat)(f:Nat->Nat)(i:Nat)(h:i<n):(((List.range n).map f).map fun(x:Nat)=>(x:Int)).getD i 0=(f i:Int):=by rw[Na,Np,Np,NJ h];rfl
theorem Fz(w:World)(A:Option Addr)(n c:Nat)(L:List Int)(most:Nat)(hL:ZIn w A n L)(hM:gU L)(hT:12<=most)(hV:most<=20):Calls prog 141 #[.slice A n c,.int .i64 most] w (la w L most):=by
 have hv:=hL.1;have hQ:2<=n:=by have:=hM.1;omega
 have hn:n<=258:=by have:=hM.2.1;omega
 have HM:=aa (wS w A n c L hL (by unfold maxLen;omega));rw[show decide (gU L)=true from Nn hM]at HM;have HC:=aa (rL w A n c L hL (fun x hx=>(hM.2.2 x hx).1) (by omega) (by omega));obtain⟨f0,hb⟩:∃f0,f0=rg L:=⟨_,rfl⟩;rw[<- hb]at HC;have hu:∀j,j<n->1<=f0 j/\f0 j<=1073741824:=by intro j hj;rw[hb];have:=(hM.2.2 _ (dK L j (by omega))).2;unfold rg;omega
 have ho:gK L=(List.range n).map f0:=by unfold gK;rw[hv,hb]
 have hP:Hid (∀ (v:Value) (len:Nat->Nat) w',iG (gK L) most len->w'.ownsRow w.heap.size 3 1 v n (cN n len)->Below w.heap.size w w'->la w L most (.returned (.tuple #[v,.int .i64 0])) w'):=aa fun v len w' h1 h2 h3=>.inr ⟨hM,by omega,by omega,v,len,by rw[Nv];exact h1,rfl,by rw[hv];exact h2,h3⟩;have m1:decide ((most:Int)<12)=false:=aR;have m2:decide ((20:Int)<(most:Int))=false:=aR;have hh:=aa hu;have hl:=aa ho;have hA:=aa fun(w1:World) (B g c1:Nat) (f:Nat->Nat) (h:az w1 B g c1 n f) (hf:∀i,i<n->1<=f i/\f i<=1073741824)=>CR w1 (some ⟨g,0,none⟩) n c1 f h.ints hQ hn hf;have hO:=aa fun(w1:World) (B g c1:Nat) (f:Nat->Nat) (h:az w1 B g c1 n f)=>pV w1 (some ⟨g,0,none⟩) n c1 _ (K6 h) (by omega) (by unfold maxLen;omega);have hK:=aa fun(w1:World) (B g c1:Nat) (f:Nat->Nat) (h:az w1 B g c1 n f) (hf:∀j,j<n->f j<=1073741824)=>Gd w1 B g c1 n f h hf (by omega)
 have h9:Hid ((gK L).length=n/\∀x∈gK L,x<=2^30):=aa (by
  rw[ho]
  refine⟨by simp,fun x hx=> ?_⟩
  obtain⟨j,hj,rfl⟩:=List.mem_map.1 hx
  have:=hu j (List.mem_range.1 hj)
  omega)
 generalize la w L most=PO at*;generalize gK L=W0 at*;clear hL hv hM hb hu ho;go_enter func141,ntmps141;go_wp2_with fail;refine HM.out.mono ?_;rintro e w ⟨rfl,rfl⟩;clear HM;go_wp2_with fail;refine HC.out.mono ?_;rintro e w1 ⟨gA,cA,rfl,ht,hC⟩;have hy:=aa (hA.out w1 w.heap.size gA cA f0 ht hh.out);have hg:=aa ht;have hc:=aa hC;clear ht hC HC;go_wp2_with fail;refine hy.out.mono ?_;rintro e w2 ⟨gX,cX,len,rfl,ha,hE,hp⟩
 have h4:Hid (Mm w w2 W0 n most 0 gA cA gX cX len f0):=aa
  ⟨by omega,hg.out.below hp hg.out.lt.2,hE.lower hc.out.size,hl.out,by rw[show dL W0 0=W0 from rfl,hl.out];exact ha,hh.out,(fun q hq=>by omega),aq hc.out hp⟩
 clear ha hE hp hy hg hc hh hl;go_wp2_with fail;go_loopg [6] 31 (fun g v wx=>∃(t gY cY:Nat) (len f:Nat->Nat),t+g=31/\v=.slice (some ⟨gY,0,none⟩) n cY/\Mm w wx W0 n most t gA cA gY cY len f)
 case atStart=>exact⟨0,gX,cX,len,f0,rfl,rfl,h4.out⟩
 case round=>
  clear h4;obtain⟨t,gY,cY,len,f,hW,rfl,T⟩:=hrel;have HG:=aa (hO.out wr w.heap.size gY cY len T.rowL);have HT:=aa T;clear T;go_wp2_with fail;refine HG.out.mono ?_;rintro e w7 ⟨g,rfl,h7,rfl⟩;have hI:(∀ j,j<n->(len j:Int)<=g)/\∃j,j<n/\(len j:Int)=g:=by
   refine⟨fun j hj=> ?_,?_⟩;·have h3:=h7.1 j hj;rwa [wI n len j hj]at h3
   ·obtain⟨j,hj,h⟩:=h7.2;rw[wI n len j hj]at h;exact⟨j,hj,h⟩
  have h6:=aa hI;clear h7 hI HG;by_cases e2:(most:Int)<g
  ·have dg:decide ((most:Int)<g)=true:=Nn e2;obtain⟨jm,hG,hR⟩:=h6.out.2;have hS:t<31:=by
    rcases N1 t 31 with h|h;·exact h
    ·have:=rT h9.out.2 (by rw[h9.out.1];exact hn) t h HT.out.hlen jm (by rw[h9.out.1];exact hG);omega
   have HH:=aa (hK.out w7 w.heap.size gA cA f HT.out.rowW fun j hj=>(HT.out.hf j hj).2);have hN:Hid (∃ i,i<n/\most<len i):=aa ⟨jm,hG,by omega⟩;clear hR;go_wp2_with fail;refine HH.out.mono ?_;rintro e w8 ⟨rfl,hw,hD⟩;(have hs:∀i,i<n->1<=f i/2+1/\f i/2+1<=1073741824:=fun i hi=>by have:=HT.out.hf i hi;omega);have hz:=aa (hA.out w8 w.heap.size gA cA (fun j=>f j/2+1) hw hs);have hk:=aa hw;have he:=aa hD;have hB:=aa hs;clear hw hD hs HH;go_wp2_with fail;refine hz.out.mono ?_;rintro e w9 ⟨gZ,cZ,len2,rfl,h5,hF,hr⟩;have h0:dL W0 (t+1)=(List.range n).map fun a=>f a/2+1:=(by rw[dL,HT.out.half,uc]);have hJ:w.heap.size<=w8.heap.size:=(HT.out.below.trans he.out).size
   have h4:Hid (Mm w w9 W0 n most (t+1) gA cA gZ cZ len2 (fun j=>f j/2+1)):=aa
    ⟨by omega,hk.out.below hr hk.out.lt.2,hF.lower hJ,h0,by rw[h0];exact h5,hB.out,(fun q hq=>by
      by_cases eq:q=t
      ·subst eq
       exact⟨len,HT.out.hlen,hN.out⟩
      ·exact HT.out.past q (by omega)),(HT.out.below.trans he.out).trans (hr.mono hJ)⟩
   clear h5 hF hr h0 hz hk he hB;go_wp2_with fail;(go_roundg (gk-1));case measure=>omega
   case rel=>exact⟨t+1,gZ,cZ,len2,_,by omega,by go_num,h4.out⟩
  ·have dg:decide ((most:Int)<g)=false:=Nl e2
   have hm:iG (dL W0 t) most len:=.done HT.out.hlen (by
    rw[eV,h9.out.1]
    intro i hi
    have:=h6.out.1 i hi
    omega)
   have hH:=oL (w:=W0) t (fun q hq2=>by rw[h9.out.1];exact HT.out.past q hq2) hm;have h8:=aa (hP.out _ len w7 hH HT.out.rowL HT.out.below);clear hm hH HT h6 hP;go_wp2_with fail;exact h8.out
