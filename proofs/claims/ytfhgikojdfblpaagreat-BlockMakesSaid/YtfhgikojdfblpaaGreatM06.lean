import Derived.Test.YtfhgikojdfblpaaGreatM05
set_option maxHeartbeats 3200000
set_option maxRecDepth 100000
namespace Go.Proofs.YtfhgikojdfblpaaGreat
open _root_.Go.Proofs.Tryz
open Go.RowKit
def mP(S M:List (Nat×Nat)):Prop:=Fst (hd M) (hd S)
theorem GL{S M:List (Nat×Nat)}(hS:∀t∈S,t.1<4611686018427387904)(h:mP S M):M≠ []/\lq S M=(hd M,S,M.drop 1):=by
 unfold mP Fst at h
 match S,M,hS,h with
 | [], [],_,h=>simp[hd]at h
 | s::S, [],hS,h=>have:=hS s Nh;simp[hd]at h;omega
 | [],m::M,_,_=>exact⟨by simp,rfl⟩
 | s::S,m::M,_,h=>refine⟨by simp,?_⟩;have h2:m.1<s.1\/(m.1=s.1/\m.2<s.2):=h;show(if m.1<s.1\/(m.1=s.1/\m.2<s.2)then(m,s::S,M)else(s,S,m::M))=_;rw[Nf h2];rfl
theorem Bh{S M:List (Nat×Nat)}(hM:∀t∈M,t.1<4611686018427387904)(hS:∀t∈S,t.1<4611686018427387904)(h0:S≠ []\/M≠ [])(h1:∀t∈S,∀u∈M,t.2≠u.2)(h:¬mP S M):
 S≠ []/\lq S M=(hd S,S.drop 1,M)/\¬((hd S).1=(hd M).1/\(hd S).2=(hd M).2):=by
 unfold mP Fst at h
 match S,M,hS,hM,h0,h1,h with
 | [], [],_,_,h0,_,_=>simp at h0
 | s::S, [],hS,_,_,_,h=>have:=hS s Nh;refine⟨by simp,rfl,?_⟩;show ¬(s.1=9223372036854775807/\s.2=0);omega
 | [],m::M,_,hM,_,_,h=>have:=hM m Nh;exfalso;simp[hd]at h;omega
 | s::S,m::M,_,_,_,h1,h=>have h0:=h1 s Nh m Nh;refine⟨by simp,?_,fun hc=>h0 hc.2⟩;have h2:¬(m.1<s.1\/(m.1=s.1/\m.2<s.2)):=h;show(if m.1<s.1\/(m.1=s.1/\m.2<s.2)then(m,s::S,M)else(s,S,m::M))=_;rw[Nd h2];rfl
theorem sk{w1 W:World}(h:ak w1.heap.size [] [] w1 W)(o:Obj):ak w1.heap.size [] [] w1 (W.alloc o):=h.alloc h.size o
theorem fK{w1 W:World}(h:ak w1.heap.size [] [] w1 W):ak w1.heap.size [] [] w1 W.drew:=h.drew
theorem KA{w1 W:World}{b o:Nat}(h:ak w1.heap.size [] [] w1 W)(hp:w1.heap.size<=b)(v:Value):ak w1.heap.size [] [] w1 (W.setCell ⟨b,o,none⟩ v):=
 h.after ((ak.refl w1.heap.size [b] [] W).set (p:=⟨b,o,none⟩) hp (by simp) v) (ag _) (fun i hi=>.inr (by rw[List.mem_singleton.1 hi];exact hp)) (fun t ht=>absurd ht (by simp))
theorem BF{w1 W W2:World}(h:ak w1.heap.size [] [] w1 W)(hb:Below W.heap.size W W2):ak w1.heap.size [] [] w1 W2:=h.after (an hb) h.size (fun i hi=>absurd hi (by simp)) (fun t ht=>absurd ht (by simp))
theorem eR{W:World}{g:Nat}{t:TypeId}{cs:Array Value}(h:Blk W g t cs)(o:Obj):Blk (W.alloc o) g t cs:=(RU W o (aA h)).trans h
theorem li{W:World}{g:Nat}{t:TypeId}{cs:Array Value}(h:Blk W g t cs):Blk W.drew g t cs:=h
theorem eS{W W2:World}(hb:Below W.heap.size W W2){g:Nat}{t:TypeId}{cs:Array Value}(h:Blk W g t cs):Blk W2 g t cs:=(hb.block g (aA h)).trans h
theorem aF(w:World){b g o:Nat}(v:Value)(h:b≠g):(w.setCell ⟨g,o,none⟩ v).heap[b]? =w.heap[b]? :=OK w ⟨g,o,none⟩ v b h
theorem aW{W:World}{g g2:Nat}{t t2:TypeId}{cs cs2:Array Value}(h:Blk W g t cs)(k:Blk W g2 t2 cs2)(ht:t≠t2)(e:g=g2):False:=by
 subst e;unfold Blk at h k;rw[h]at k;injection k with k
 injection k with _ k2
 exact ht k2
theorem Me:prog.stoodInHeld 192=false:=by kernel_rfl
theorem Er:prog.underlying 192=some (.struct (prog.fieldsOf 192)):=by simp[Program.fieldsOf,underlying192]
theorem Ie(a b:Int)(w:World):(binOp .eql 192 (.agg #[.int .i64 a,.int .i64 b]) (.agg #[.int .i64 a,.int .i64 b])).run prog w=.ok (.bool true) w:=by rw[run_eql_struct,run_equalIn_agg w 9999 192 _ _ Er Me];simp[Program.fieldsOf,underlying192,Op.eqFields,part,go_sem]
theorem D2(a b c d:Int)(h:¬(a=c/\b=d))(w:World):(binOp .eql 192 (.agg #[.int .i64 a,.int .i64 b]) (.agg #[.int .i64 c,.int .i64 d])).run prog w=.ok (.bool false) w:=by
 rw[run_eql_struct,run_equalIn_agg w 9999 192 _ _ Er Me];by_cases e:a=c;·have e2:b≠d:=fun e2=>h ⟨e,e2⟩;simp[Program.fieldsOf,underlying192,Op.eqFields,part,go_sem,e,e2]
 ·simp[Program.fieldsOf,underlying192,Op.eqFields,part,go_sem,e]
theorem jo{W:World}{g:Nat}(h:Blk W g 192 #[.int .i64 0,.int .i64 0]):Blk W g 192 #[.int .i64 0,.int .i64 0]:=h
theorem Jp{W:World}{g:Nat}{t:TypeId}{u v:Value}(h:Blk W g t #[u,v]):W.cell? ⟨g,0,none⟩=some u/\W.cell? ⟨g,1,none⟩=some v/\W.frozen? ⟨g,0,none⟩=false/\W.frozen? ⟨g,1,none⟩=false:=
 ⟨(ac h 0).trans rfl,(ac h 1).trans rfl,ae h 0,ae h 1⟩
theorem FZ(w:World)(B bS bM gS gM p q N:Nat)(AS:Option Addr)(LS LM:List (Nat×Nat))
 (hS:Blk w bS 188 #[.slice AS (LS.length-p:Nat) (LS.length-p:Nat)]) (hM:Blk w bM 188 #[.slice (some ⟨gM,q*2,none⟩) (LM.length-q:Nat) (N-q:Nat)])
 (tS:fb w gS LS) (tM:fb w gM LM) (hP:p<LS.length->AS=some ⟨gS,p*2,none⟩) (hp:p<=LS.length) (hq:q<=LM.length) (hN:q+2<=N) (H0:LM.length<=N) (hL:LS.length<=1000000) (H1:N<=1000000)
 (hQ:∀t∈LS,t.1<4611686018427387904) (hV:∀t∈LM,t.1<4611686018427387904) (hR:∀t∈LS,∀u∈LM,t.2≠u.2) (hZ:p<LS.length\/q<LM.length) (hD:B<=bS) (hC:B<=bM) (hE:bS≠bM):
 Calls prog 234 #[.pointer (some ⟨bS,0,none⟩),.pointer (some ⟨bM,0,none⟩)] w fun e w'=>∃x:Nat×Nat,e=.returned (.agg #[.int .i64 x.1,.int .i64 x.2])/\ak B [bS,bM] [] w w'/\
  ((p<LS.length/\lq (LS.drop p) (LM.drop q)=(x,LS.drop (p+1),LM.drop q)/\(∃ A,Blk w' bS 188 #[.slice A (LS.length-(p+1):Nat) (LS.length-(p+1):Nat)]/\(p+1<LS.length->A=some ⟨gS,(p+1)*2,none⟩))/\Blk w' bM 188 #[.slice (some ⟨gM,q*2,none⟩) (LM.length-q:Nat) (N-q:Nat)])\/
   (q<LM.length/\lq (LS.drop p) (LM.drop q)=(x,LS.drop p,LM.drop (q+1))/\Blk w' bS 188 #[.slice AS (LS.length-p:Nat) (LS.length-p:Nat)]/\Blk w' bM 188 #[.slice (some ⟨gM,(q+1)*2,none⟩) (LM.length-(q+1):Nat) (N-(q+1):Nat)])):=by
 have hy:=aa fun(w1:World) (h:fb w1 gS LS)=>Az w1 AS gS p (LS.length-p) LS h hP hp hL;have hk:=aa fun(w1:World) (h:fb w1 gM LM)=>Az w1 (some ⟨gM,q*2,none⟩) gM q (N-q) LM h (fun _=>rfl) hq (by omega);have hl:=aa fun(w1:World) (b:Nat)=>Dj w1 b 2 (hd (LS.drop p)) (hd (LM.drop q));obtain⟨s,hs⟩:∃s,s=hd (LS.drop p):=⟨_,rfl⟩;obtain⟨m,hm⟩:∃m,m=hd (LM.drop q):=⟨_,rfl⟩;obtain⟨z,hz⟩:∃z,z=mW s m:=⟨_,rfl⟩;obtain⟨kS,hJ⟩:∃k,k=LS.length-p:=⟨_,rfl⟩;obtain⟨kM,hI⟩:∃k,k=LM.length-q:=⟨_,rfl⟩;obtain⟨cM,hF⟩:∃k,k=N-q:=⟨_,rfl⟩;rw[<- hs]at hy hl;rw[<- hm]at hk hl;rw[<- hz]at hl;rw[<- hJ]at hy hS;rw[<- hI,<-hF]at hk hM;have TS:=aa tS;have TM:=aa tM;have HS:=aa hS;have HM:=aa hM;have sl0:w.cell? ⟨bS,0,none⟩=some (.slice AS kS kS):=ac hS 0;have ml0:w.cell? ⟨bM,0,none⟩=some (.slice (some ⟨gM,q*2,none⟩) kM cM):=ac hM 0;have zS:=aA hS;have zM:=aA hM;have hB:Hid (∀ (w1:World) (b:Nat),w1.cell? ⟨b,0,none⟩=some (.int .i64 s.1)->w1.cell? ⟨b,1,none⟩=some (.int .i64 s.2)->w1.cell? ⟨b,2,none⟩=some (.int .i64 m.1)->w1.cell? ⟨b,3,none⟩=some (.int .i64 m.2)->Calls prog 235 #[.slice (some ⟨b,0,none⟩) 2 2,.func (.func 233) #[] #[]] w1 fun e w'=>e=.returned (.agg #[.int .i64 z.1,.int .i64 z.2])/\Below w1.heap.size w1 w'):=aa fun w1 b=>hl.out w1 b;have EQ:Hid (s=hd (LS.drop p)/\m=hd (LM.drop q)/\z=mW s m/\kS=LS.length-p/\kM=LM.length-q/\cM=N-q):=aa ⟨hs,hm,hz,hJ,hI,hF⟩;clear hS hM tS tM hl hs hm hz hJ hI hF;go_enter func234,ntmps234;go_wp2_with fail;obtain⟨w1,hx⟩:∃w1,w1=w.alloc (.cells #[.int .i64 0,.int .i64 0] 192):=⟨_,rfl⟩;have st0:ak w.heap.size [] [] w w1:=by rw[hx];exact(ak.refl w.heap.size [] [] w).alloc (ag _) _
 have hO:Hid (Blk w1 w.heap.size 192 #[.int .i64 0,.int .i64 0]):=aa (dW hx);have ST0:=aa st0;have st1:ak w1.heap.size [] [] w1 w1:=ak.refl _ _ _ _;have z1:w.heap.size<w1.heap.size:=aA hO.out;have CS:Hid (∀ W,ak w1.heap.size [] [] w1 W->W.cell? ⟨bS,0,none⟩=some (.slice AS kS kS)):=aa fun W h=>(h.below.cell (p:=⟨bS,0,none⟩) (Nat.lt_trans zS z1)).trans ((st0.below.cell (p:=⟨bS,0,none⟩) zS).trans sl0);have CM:Hid (∀ W,ak w1.heap.size [] [] w1 W->W.cell? ⟨bM,0,none⟩=some (.slice (some ⟨gM,q*2,none⟩) kM cM)):=aa fun W h=>(h.below.cell (p:=⟨bM,0,none⟩) (Nat.lt_trans zM z1)).trans ((st0.below.cell (p:=⟨bM,0,none⟩) zM).trans ml0);have RS:Hid (∀ W,ak w1.heap.size [] [] w1 W->fb W gS LS):=aa fun W h=>h.trow (st0.trow TS.out (by simp)) (by simp);have RM:Hid (∀ W,ak w1.heap.size [] [] w1 W->fb W gM LM):=aa fun W h=>h.trow (st0.trow TM.out (by simp)) (by simp);rw[<- hx];clear hx st0 sl0 ml0;go_cut [3]from 4 to 9 (fun s3 wx=>∃h,s3=.pointer (some ⟨h,0,none⟩)/\Blk wx h 192 #[.int .i64 z.1,.int .i64 z.2]/\ak w1.heap.size [] [] w1 wx)
 case first=>
  go_region_held3 (fun w'=>w'.cell? ⟨bS,0,none⟩=some (.slice AS kS kS)/\w'.cell? ⟨bM,0,none⟩=some (.slice (some ⟨gM,q*2,none⟩) kM cM))
   (exact⟨CS.out _ (by repeat (first|with_reducible assumption|with_reducible refine fK ?_|with_reducible refine sk ?_ _|with_reducible refine KA ?_ ?_ _|omega)),CM.out _ (by repeat (first|with_reducible assumption|with_reducible refine fK ?_|with_reducible refine sk ?_ _|with_reducible refine KA ?_ ?_ _|omega))⟩)
   (first
     | (go_at_call 236;with_reducible refine(hy.out _ (RS.out _ (by repeat (first | with_reducible assumption | with_reducible refine fK ?_ | with_reducible refine sk ?_ _)))).mono ?_;rintro e w2 ⟨rfl,hb⟩
        have st2:ak w1.heap.size [] [] w1 w2:=BF (by repeat (first|with_reducible assumption|with_reducible refine fK ?_|with_reducible refine sk ?_ _)) hb
        have z2:=st2.size
        (try ((first|with_reducible have hT:=jo (eS hb (aj _ _ _))|with_reducible have hT:=jo (eS hb (li (aj _ _ _)))|with_reducible have hT:=jo (eS hb (eR (aj _ _ _) _))|with_reducible have hT:=jo (eS hb (li (eR (aj _ _ _) _)))|with_reducible have hT:=jo (eS hb (hT))|with_reducible have hT:=jo (eS hb (li hT))|with_reducible have hT:=jo (eS hb (eR hT _))|with_reducible have hT:=jo (eS hb (li (eR hT _))));obtain⟨hn,ho,h7,h8⟩:=Jp hT;(try rw[Qf]at hn ho h7 h8))))
     | (go_at_call 236;with_reducible refine(hk.out _ (RM.out _ (by repeat (first | with_reducible assumption | with_reducible refine fK ?_ | with_reducible refine sk ?_ _)))).mono ?_;rintro e w3 ⟨rfl,hc⟩
        have st3:ak w1.heap.size [] [] w1 w3:=BF (by repeat (first|with_reducible assumption|with_reducible refine fK ?_|with_reducible refine sk ?_ _)) hc
        have z3:=st3.size
        (try ((first|with_reducible have hT:=jo (eS hc (aj _ _ _))|with_reducible have hT:=jo (eS hc (li (aj _ _ _)))|with_reducible have hT:=jo (eS hc (eR (aj _ _ _) _))|with_reducible have hT:=jo (eS hc (li (eR (aj _ _ _) _)))|with_reducible have hT:=jo (eS hc (hT))|with_reducible have hT:=jo (eS hc (li hT))|with_reducible have hT:=jo (eS hc (eR hT _))|with_reducible have hT:=jo (eS hc (li (eR hT _))));obtain⟨hn,ho,h7,h8⟩:=Jp hT;(try rw[Qf]at hn ho h7 h8))))
     | (go_at_call 235;refine(hB.out _ _ (by simp) (by simp) (by simp) (by simp)).mono ?_;rintro e w4 ⟨rfl,he⟩
        have st4:ak w1.heap.size [] [] w1 w4:=BF (by repeat (first|with_reducible assumption|with_reducible refine fK ?_|with_reducible refine sk ?_ _)) he
        (try ((first|with_reducible have hT:=jo (eS he (aj _ _ _))|with_reducible have hT:=jo (eS he (li (aj _ _ _)))|with_reducible have hT:=jo (eS he (eR (aj _ _ _) _))|with_reducible have hT:=jo (eS he (li (eR (aj _ _ _) _)))|with_reducible have hT:=jo (eS he (hT))|with_reducible have hT:=jo (eS he (li hT))|with_reducible have hT:=jo (eS he (eR hT _))|with_reducible have hT:=jo (eS he (li (eR hT _))));obtain⟨hn,ho,h7,h8⟩:=Jp hT;(try rw[Qf]at hn ho h7 h8)))))
  all_goals go_wp2_with fail
  all_goals go_meet
  all_goals refine⟨_,rfl,?_,(by repeat (first|with_reducible assumption|with_reducible refine fK ?_|with_reducible refine sk ?_ _|with_reducible refine KA ?_ ?_ _|omega))⟩
  all_goals (first|exact aj _ _ _|exact ay (ay hT 0 _) 1 _|(have h9:=ay (ay hT 0 (.int .i64 z.1)) 1 (.int .i64 z.2);simp only[Qf]at h9;exact h9))
 case rest=>
  obtain⟨h,rfl,ht,hr⟩:=hcut;have hv:wc.cell? ⟨h,0,none⟩=some (.int .i64 z.1):=ac ht 0;have hw:wc.cell? ⟨h,1,none⟩=some (.int .i64 z.2):=ac ht 1;have mlc:=CM.out wc hr;have hh:wc.drew.cell? ⟨h,0,none⟩=some (.int .i64 z.1):=hv;have hj:wc.drew.cell? ⟨h,1,none⟩=some (.int .i64 z.2):=hw;have mld:wc.drew.cell? ⟨bM,0,none⟩=some (.slice (some ⟨gM,q*2,none⟩) kM cM):=mlc;have zh:=aA ht;have zMc:bM<wc.heap.size:=OA (Nat.lt_trans zM z1) hr.size;have HT:=aa ht;have rMd:fb wc.drew gM LM:=RM.out _ (fK hr);clear ht;obtain⟨e1,e2,e3,e4,e5,e6⟩:=EQ.out;by_cases hf:mP (LS.drop p) (LM.drop q)
  ·have hz:z=m:=(by rw[e3];unfold mW;rw[Nf ((uT m s).2 (by rw[e1,e2];exact hf))]);subst hz;have hg:=GL (fun t ht=>hQ t (OS ht)) hf;have q13:=Ie (z.1:Int) (z.2:Int);have hY:q<LM.length:=by
    rcases N1 q LM.length with h1|h1;·exact h1
    ·exact absurd (Pp h1) hg.1
   have H3:1<=kM:=(by omega);have hW:2<=cM:=(by omega);have PK:=aa hg;have EQ2:Hid (kS=LS.length-p/\kM=LM.length-q/\cM=N-q):=aa ⟨e4,e5,e6⟩;have E0:=aa e2;clear hg hf e1 e2 e3 e4 e5 e6;go_wp2_with fail
   go_region_held3 (fun w'=>w'.cell? ⟨h,0,none⟩=some (.int .i64 z.1)/\w'.cell? ⟨h,1,none⟩=some (.int .i64 z.2)/\w'.cell? ⟨bM,0,none⟩=some (.slice (some ⟨gM,q*2,none⟩) kM cM))
    (first|with_reducible exact⟨hv,hw,mlc⟩|with_reducible exact⟨hh,hj,mld⟩|with_reducible exact⟨hG,hH,mle⟩)
    (first
      | (go_at_call 236;with_reducible refine(hk.out _ rMd).mono ?_;rintro e w5 ⟨rfl,h6⟩
         have hG:w5.cell? ⟨h,0,none⟩=some (.int .i64 z.1):=(h6.cell (p:=⟨h,0,none⟩) zh).trans hh
         have hH:w5.cell? ⟨h,1,none⟩=some (.int .i64 z.2):=(h6.cell (p:=⟨h,1,none⟩) zh).trans hj
         have mle:w5.cell? ⟨bM,0,none⟩=some (.slice (some ⟨gM,q*2,none⟩) kM cM):=(h6.cell (p:=⟨bM,0,none⟩) zMc).trans mld
         have st5:ak w1.heap.size [] [] w1 w5:=BF (fK hr) h6))
   have M5:Blk w5 bM 188 #[.slice (some ⟨gM,q*2,none⟩) kM cM]:=st5.blk (ST0.out.blk HM.out (by simp) (by simp)) (by simp) (by simp);have S5:Blk w5 bS 188 #[.slice AS kS kS]:=st5.blk (ST0.out.blk HS.out (by simp) (by simp)) (by simp) (by simp);have R5:Blk w5 w.heap.size 192 #[.int .i64 0,.int .i64 0]:=st5.blk hO.out (by simp) (by simp);have T5:Blk w5 h 192 #[.int .i64 z.1,.int .i64 z.2]:=eS h6 HT.out;have fM5:=ae M5 0;clear h6 mlc mld hh hj hv hw;obtain⟨w6,h0⟩:∃w6,w6=w5.setCell ⟨bM,0,none⟩ (.slice (some ⟨gM,q*2+2,none⟩) (kM-1) (cM-1)):=⟨_,rfl⟩;have st6:ak B [bS,bM] [] w5 w6:=(by rw[h0];exact(ak.refl B [bS,bM] [] w5).set (p:=⟨bM,0,none⟩) (by first|exact hD|exact hC) (by simp) _);have N6:Blk w6 bM 188 #[(.slice (some ⟨gM,q*2+2,none⟩) (kM-1) (cM-1))]:=(by rw[h0];exact ay M5 0 _);have O6:Blk w6 bS 188 #[.slice AS kS kS]:=(by rw[h0];exact(aF w5 _ hE).trans S5);have ha:h≠bM:=fun e=>aW T5 M5 (by decide) e;have h4:w.heap.size≠bM:=fun e=>aW R5 M5 (by decide) e;have T6:Blk w6 h 192 #[.int .i64 z.1,.int .i64 z.2]:=(by rw[h0];exact(aF w5 _ ha).trans T5);have R6:Blk w6 w.heap.size 192 #[.int .i64 0,.int .i64 0]:=(by rw[h0];exact(aF w5 _ h4).trans R5);have c60:(w5.setCell ⟨bM,0,none⟩ (.slice (some ⟨gM,q*2+2,none⟩) (kM-1) (cM-1))).cell? ⟨h,0,none⟩=some (.int .i64 z.1):=(by rw[<- h0];exact ac T6 0);have c61:(w5.setCell ⟨bM,0,none⟩ (.slice (some ⟨gM,q*2+2,none⟩) (kM-1) (cM-1))).cell? ⟨h,1,none⟩=some (.int .i64 z.2):=(by rw[<- h0];exact ac T6 1);have r60:(w5.setCell ⟨bM,0,none⟩ (.slice (some ⟨gM,q*2+2,none⟩) (kM-1) (cM-1))).cell? ⟨w.heap.size,0,none⟩=some (.int .i64 0):=(by rw[<- h0];exact ac R6 0);have r61:(w5.setCell ⟨bM,0,none⟩ (.slice (some ⟨gM,q*2+2,none⟩) (kM-1) (cM-1))).cell? ⟨w.heap.size,1,none⟩=some (.int .i64 0):=(by rw[<- h0];exact ac R6 1);have f60:(w5.setCell ⟨bM,0,none⟩ (.slice (some ⟨gM,q*2+2,none⟩) (kM-1) (cM-1))).frozen? ⟨w.heap.size,0,none⟩=false:=(by rw[<- h0];exact ae R6 0);have f61:(w5.setCell ⟨bM,0,none⟩ (.slice (some ⟨gM,q*2+2,none⟩) (kM-1) (cM-1))).frozen? ⟨w.heap.size,1,none⟩=false:=(by rw[<- h0];exact ae R6 1);have R7:=ay (ay R6 0 (.int .i64 z.1)) 1 (.int .i64 z.2)
   have ST:Hid (ak B [bS,bM] [] w ((w6.setCell ⟨w.heap.size,0,none⟩ (.int .i64 z.1)).setCell ⟨w.heap.size,1,none⟩ (.int .i64 z.2))):=aa (by
    have a1:ak B [bS,bM] [] w w1:=ST0.out.mono (by omega) (by simp) (by simp)
    have a2:ak B [bS,bM] [] w w5:=a1.after st5 (by omega) (by simp) (by simp)
    have a3:ak B [bS,bM] [] w w6:=a2.trans st6
    exact a3.after (((ak.refl B [w.heap.size] [] w6).set (p:=⟨w.heap.size,0,none⟩) (by show B<=w.heap.size;omega) (by simp) _).set (p:=⟨w.heap.size,1,none⟩) (by show B<=w.heap.size;omega) (by simp) _) (ag _) (by intro i hi;rw[List.mem_singleton.1 hi];exact .inr (ag _)) (by simp))
   have N7:Hid (Blk ((w6.setCell ⟨w.heap.size,0,none⟩ (.int .i64 z.1)).setCell ⟨w.heap.size,1,none⟩ (.int .i64 z.2)) bM 188 #[(.slice (some ⟨gM,q*2+2,none⟩) (kM-1) (cM-1))]):=aa ((aF _ _ h4.symm).trans ((aF _ _ h4.symm).trans N6));have h5:bS≠w.heap.size:=fun e=>aW R6 O6 (by decide) e.symm;have O7:Hid (Blk ((w6.setCell ⟨w.heap.size,0,none⟩ (.int .i64 z.1)).setCell ⟨w.heap.size,1,none⟩ (.int .i64 z.2)) bS 188 #[.slice AS kS kS]):=aa ((aF _ _ h5).trans ((aF _ _ h5).trans O6));have q0:=(ac R7 0).trans (rfl:_=some (Value.int .i64 z.1));have q1:=(ac R7 1).trans (rfl:_=some (Value.int .i64 z.2));rw[h0]at ST N7 O7 q0 q1;clear R7 R6 T6 O6 N6 st6 h0 M5 S5 R5 T5;go_wp2_with fail;(try simp only[Exit.inBlock,Exit.then]);refine NH (v:=.agg #[.int .i64 z.1,.int .i64 z.2]) ?_ rfl ?_;·simp[results,results234,go_sem,q0,q1]
   ·obtain⟨e1,e2,e3⟩:=EQ2.out;refine⟨z,rfl,ST.out,.inr ⟨hY,?_,?_,?_⟩⟩;·rw[PK.out.2,Qw,<-E0.out]
    ·rw[<- e1];exact O7.out
    ·rw[show LM.length-(q+1)=kM-1 by omega,show N-(q+1)=cM-1 by omega,show(q+1)*2=q*2+2 by omega];exact N7.out
  ·have hz:z=s:=(by rw[e3];unfold mW;rw[Nd (mt (uT m s).1 (by rw[e1,e2];exact hf))]);subst hz
   have hg:=Bh (fun t ht=>hV t (OS ht)) (fun t ht=>hQ t (OS ht)) (by
    rcases hZ with h1|h1
    ·left
     intro h2
     have:=congrArg List.length h2
     rw[Ny,Ox]at this
     omega
    ·right
     intro h2
     have:=congrArg List.length h2
     rw[Ny,Ox]at this
     omega) (fun t ht u hu=>hR t (OS ht) u (OS hu)) hf
   have hK:p<LS.length:=by
    rcases N1 p LS.length with h1|h1;·exact h1
    ·exact absurd (Pp h1) hg.1
   have hA:=hP hK;subst hA
   have q13:=D2 (z.1:Int) (z.2:Int) (m.1:Int) (m.2:Int) (by
    have h3:=hg.2.2
    rw[<- e1,<-e2]at h3
    omega)
   have H4:1<=kS:=(by omega);have PK:=aa hg;have EQ2:Hid (kS=LS.length-p/\kM=LM.length-q/\cM=N-q):=aa ⟨e4,e5,e6⟩;have E0:=aa e1;clear hg hf e1 e2 e3 e4 e5 e6;go_wp2_with fail
   go_region_held3 (fun w'=>w'.cell? ⟨h,0,none⟩=some (.int .i64 z.1)/\w'.cell? ⟨h,1,none⟩=some (.int .i64 z.2)/\w'.cell? ⟨bM,0,none⟩=some (.slice (some ⟨gM,q*2,none⟩) kM cM))
    (first|with_reducible exact⟨hv,hw,mlc⟩|with_reducible exact⟨hh,hj,mld⟩|with_reducible exact⟨hG,hH,mle⟩)
    (first
      | (go_at_call 236;with_reducible refine(hk.out _ rMd).mono ?_;rintro e w5 ⟨rfl,h6⟩
         have hG:w5.cell? ⟨h,0,none⟩=some (.int .i64 z.1):=(h6.cell (p:=⟨h,0,none⟩) zh).trans hh
         have hH:w5.cell? ⟨h,1,none⟩=some (.int .i64 z.2):=(h6.cell (p:=⟨h,1,none⟩) zh).trans hj
         have mle:w5.cell? ⟨bM,0,none⟩=some (.slice (some ⟨gM,q*2,none⟩) kM cM):=(h6.cell (p:=⟨bM,0,none⟩) zMc).trans mld
         have st5:ak w1.heap.size [] [] w1 w5:=BF (fK hr) h6))
   have M5:Blk w5 bM 188 #[.slice (some ⟨gM,q*2,none⟩) kM cM]:=st5.blk (ST0.out.blk HM.out (by simp) (by simp)) (by simp) (by simp);have S5:Blk w5 bS 188 #[.slice (some ⟨gS,p*2,none⟩) kS kS]:=st5.blk (ST0.out.blk HS.out (by simp) (by simp)) (by simp) (by simp);have R5:Blk w5 w.heap.size 192 #[.int .i64 0,.int .i64 0]:=st5.blk hO.out (by simp) (by simp);have T5:Blk w5 h 192 #[.int .i64 z.1,.int .i64 z.2]:=eS h6 HT.out;have fS5:=ae S5 0;have sl5:w5.cell? ⟨bS,0,none⟩=some (.slice (some ⟨gS,p*2,none⟩) kS kS):=ac S5 0;clear h6 mlc mld hh hj hv hw;by_cases hX:kS=1
   ·subst hX;obtain⟨w6,h0⟩:∃w6,w6=w5.setCell ⟨bS,0,none⟩ (.slice (some ⟨gS,p*2,none⟩) 0 0):=⟨_,rfl⟩;have st6:ak B [bS,bM] [] w5 w6:=(by rw[h0];exact(ak.refl B [bS,bM] [] w5).set (p:=⟨bS,0,none⟩) (by first|exact hD|exact hC) (by simp) _);have N6:Blk w6 bS 188 #[(.slice (some ⟨gS,p*2,none⟩) 0 0)]:=(by rw[h0];exact ay S5 0 _);have O6:Blk w6 bM 188 #[.slice (some ⟨gM,q*2,none⟩) kM cM]:=(by rw[h0];exact(aF w5 _ hE.symm).trans M5);have ha:h≠bS:=fun e=>aW T5 S5 (by decide) e;have h4:w.heap.size≠bS:=fun e=>aW R5 S5 (by decide) e;have T6:Blk w6 h 192 #[.int .i64 z.1,.int .i64 z.2]:=(by rw[h0];exact(aF w5 _ ha).trans T5);have R6:Blk w6 w.heap.size 192 #[.int .i64 0,.int .i64 0]:=(by rw[h0];exact(aF w5 _ h4).trans R5);have c60:(w5.setCell ⟨bS,0,none⟩ (.slice (some ⟨gS,p*2,none⟩) 0 0)).cell? ⟨h,0,none⟩=some (.int .i64 z.1):=(by rw[<- h0];exact ac T6 0);have c61:(w5.setCell ⟨bS,0,none⟩ (.slice (some ⟨gS,p*2,none⟩) 0 0)).cell? ⟨h,1,none⟩=some (.int .i64 z.2):=(by rw[<- h0];exact ac T6 1);have r60:(w5.setCell ⟨bS,0,none⟩ (.slice (some ⟨gS,p*2,none⟩) 0 0)).cell? ⟨w.heap.size,0,none⟩=some (.int .i64 0):=(by rw[<- h0];exact ac R6 0);have r61:(w5.setCell ⟨bS,0,none⟩ (.slice (some ⟨gS,p*2,none⟩) 0 0)).cell? ⟨w.heap.size,1,none⟩=some (.int .i64 0):=(by rw[<- h0];exact ac R6 1);have f60:(w5.setCell ⟨bS,0,none⟩ (.slice (some ⟨gS,p*2,none⟩) 0 0)).frozen? ⟨w.heap.size,0,none⟩=false:=(by rw[<- h0];exact ae R6 0);have f61:(w5.setCell ⟨bS,0,none⟩ (.slice (some ⟨gS,p*2,none⟩) 0 0)).frozen? ⟨w.heap.size,1,none⟩=false:=(by rw[<- h0];exact ae R6 1);have R7:=ay (ay R6 0 (.int .i64 z.1)) 1 (.int .i64 z.2)
    have ST:Hid (ak B [bS,bM] [] w ((w6.setCell ⟨w.heap.size,0,none⟩ (.int .i64 z.1)).setCell ⟨w.heap.size,1,none⟩ (.int .i64 z.2))):=aa (by
     have a1:ak B [bS,bM] [] w w1:=ST0.out.mono (by omega) (by simp) (by simp)
     have a2:ak B [bS,bM] [] w w5:=a1.after st5 (by omega) (by simp) (by simp)
     have a3:ak B [bS,bM] [] w w6:=a2.trans st6
     exact a3.after (((ak.refl B [w.heap.size] [] w6).set (p:=⟨w.heap.size,0,none⟩) (by show B<=w.heap.size;omega) (by simp) _).set (p:=⟨w.heap.size,1,none⟩) (by show B<=w.heap.size;omega) (by simp) _) (ag _) (by intro i hi;rw[List.mem_singleton.1 hi];exact .inr (ag _)) (by simp))
    have N7:Hid (Blk ((w6.setCell ⟨w.heap.size,0,none⟩ (.int .i64 z.1)).setCell ⟨w.heap.size,1,none⟩ (.int .i64 z.2)) bS 188 #[(.slice (some ⟨gS,p*2,none⟩) 0 0)]):=aa ((aF _ _ h4.symm).trans ((aF _ _ h4.symm).trans N6));have h5:bM≠w.heap.size:=fun e=>aW R6 O6 (by decide) e.symm;have O7:Hid (Blk ((w6.setCell ⟨w.heap.size,0,none⟩ (.int .i64 z.1)).setCell ⟨w.heap.size,1,none⟩ (.int .i64 z.2)) bM 188 #[.slice (some ⟨gM,q*2,none⟩) kM cM]):=aa ((aF _ _ h5).trans ((aF _ _ h5).trans O6));have q0:=(ac R7 0).trans (rfl:_=some (Value.int .i64 z.1));have q1:=(ac R7 1).trans (rfl:_=some (Value.int .i64 z.2));rw[h0]at ST N7 O7 q0 q1;clear R7 R6 T6 O6 N6 st6 h0 M5 S5 R5 T5;go_wp2_with fail;(try simp only[Exit.inBlock,Exit.then]);refine NH (v:=.agg #[.int .i64 z.1,.int .i64 z.2]) ?_ rfl ?_;·simp[results,results234,go_sem,q0,q1]
    ·obtain⟨e1,e2,e3⟩:=EQ2.out;refine⟨z,rfl,ST.out,.inl ⟨hK,?_,⟨some ⟨gS,p*2,none⟩,?_,fun h=>by omega⟩,?_⟩⟩;·rw[PK.out.2.1,Qw,<-E0.out]
     ·rw[show LS.length-(p+1)=0 by omega];exact N7.out
     ·rw[<- e2,<-e3];exact O7.out
   ·have H2:2<=kS:=(by omega);obtain⟨w6,h0⟩:∃w6,w6=w5.setCell ⟨bS,0,none⟩ (.slice (some ⟨gS,p*2+2,none⟩) (kS-1) (kS-1)):=⟨_,rfl⟩;have st6:ak B [bS,bM] [] w5 w6:=(by rw[h0];exact(ak.refl B [bS,bM] [] w5).set (p:=⟨bS,0,none⟩) (by first|exact hD|exact hC) (by simp) _);have N6:Blk w6 bS 188 #[(.slice (some ⟨gS,p*2+2,none⟩) (kS-1) (kS-1))]:=(by rw[h0];exact ay S5 0 _);have O6:Blk w6 bM 188 #[.slice (some ⟨gM,q*2,none⟩) kM cM]:=(by rw[h0];exact(aF w5 _ hE.symm).trans M5);have ha:h≠bS:=fun e=>aW T5 S5 (by decide) e;have h4:w.heap.size≠bS:=fun e=>aW R5 S5 (by decide) e;have T6:Blk w6 h 192 #[.int .i64 z.1,.int .i64 z.2]:=(by rw[h0];exact(aF w5 _ ha).trans T5);have R6:Blk w6 w.heap.size 192 #[.int .i64 0,.int .i64 0]:=(by rw[h0];exact(aF w5 _ h4).trans R5);have c60:(w5.setCell ⟨bS,0,none⟩ (.slice (some ⟨gS,p*2+2,none⟩) (kS-1) (kS-1))).cell? ⟨h,0,none⟩=some (.int .i64 z.1):=(by rw[<- h0];exact ac T6 0);have c61:(w5.setCell ⟨bS,0,none⟩ (.slice (some ⟨gS,p*2+2,none⟩) (kS-1) (kS-1))).cell? ⟨h,1,none⟩=some (.int .i64 z.2):=(by rw[<- h0];exact ac T6 1);have r60:(w5.setCell ⟨bS,0,none⟩ (.slice (some ⟨gS,p*2+2,none⟩) (kS-1) (kS-1))).cell? ⟨w.heap.size,0,none⟩=some (.int .i64 0):=(by rw[<- h0];exact ac R6 0);have r61:(w5.setCell ⟨bS,0,none⟩ (.slice (some ⟨gS,p*2+2,none⟩) (kS-1) (kS-1))).cell? ⟨w.heap.size,1,none⟩=some (.int .i64 0):=(by rw[<- h0];exact ac R6 1);have f60:(w5.setCell ⟨bS,0,none⟩ (.slice (some ⟨gS,p*2+2,none⟩) (kS-1) (kS-1))).frozen? ⟨w.heap.size,0,none⟩=false:=(by rw[<- h0];exact ae R6 0);have f61:(w5.setCell ⟨bS,0,none⟩ (.slice (some ⟨gS,p*2+2,none⟩) (kS-1) (kS-1))).frozen? ⟨w.heap.size,1,none⟩=false:=(by rw[<- h0];exact ae R6 1);have R7:=ay (ay R6 0 (.int .i64 z.1)) 1 (.int .i64 z.2)
    have ST:Hid (ak B [bS,bM] [] w ((w6.setCell ⟨w.heap.size,0,none⟩ (.int .i64 z.1)).setCell ⟨w.heap.size,1,none⟩ (.int .i64 z.2))):=aa (by
     have a1:ak B [bS,bM] [] w w1:=ST0.out.mono (by omega) (by simp) (by simp)
     have a2:ak B [bS,bM] [] w w5:=a1.after st5 (by omega) (by simp) (by simp)
     have a3:ak B [bS,bM] [] w w6:=a2.trans st6
     exact a3.after (((ak.refl B [w.heap.size] [] w6).set (p:=⟨w.heap.size,0,none⟩) (by show B<=w.heap.size;omega) (by simp) _).set (p:=⟨w.heap.size,1,none⟩) (by show B<=w.heap.size;omega) (by simp) _) (ag _) (by intro i hi;rw[List.mem_singleton.1 hi];exact .inr (ag _)) (by simp))
    have N7:Hid (Blk ((w6.setCell ⟨w.heap.size,0,none⟩ (.int .i64 z.1)).setCell ⟨w.heap.size,1,none⟩ (.int .i64 z.2)) bS 188 #[(.slice (some ⟨gS,p*2+2,none⟩) (kS-1) (kS-1))]):=aa ((aF _ _ h4.symm).trans ((aF _ _ h4.symm).trans N6));have h5:bM≠w.heap.size:=fun e=>aW R6 O6 (by decide) e.symm;have O7:Hid (Blk ((w6.setCell ⟨w.heap.size,0,none⟩ (.int .i64 z.1)).setCell ⟨w.heap.size,1,none⟩ (.int .i64 z.2)) bM 188 #[.slice (some ⟨gM,q*2,none⟩) kM cM]):=aa ((aF _ _ h5).trans ((aF _ _ h5).trans O6));have q0:=(ac R7 0).trans (rfl:_=some (Value.int .i64 z.1));have q1:=(ac R7 1).trans (rfl:_=some (Value.int .i64 z.2));rw[h0]at ST N7 O7 q0 q1;clear R7 R6 T6 O6 N6 st6 h0 M5 S5 R5 T5;go_wp2_with fail;(try simp only[Exit.inBlock,Exit.then]);refine NH (v:=.agg #[.int .i64 z.1,.int .i64 z.2]) ?_ rfl ?_;·simp[results,results234,go_sem,q0,q1]
    ·obtain⟨e1,e2,e3⟩:=EQ2.out;refine⟨z,rfl,ST.out,.inl ⟨hK,?_,⟨some ⟨gS,(p+1)*2,none⟩,?_,fun _=>rfl⟩,?_⟩⟩;·rw[PK.out.2.1,Qw,<-E0.out]
     ·rw[show LS.length-(p+1)=kS-1 by omega,show(p+1)*2=p*2+2 by omega];exact N7.out
     ·rw[<- e2,<-e3];exact O7.out
