import Derived.Test.YthakcjehhlpjnaaGreatA37
set_option maxHeartbeats 6400000
set_option maxRecDepth 100000
namespace Go.Proofs.YthakcjehhlpjnaaGreat
open Go.RowKit
theorem FA(w:World)(v:Value)(T:List (List Int))(P:List Int)(h:aZ w v T P)(A':Option Addr)(n' c':Nat)(L:List Int)(hL:L.length=n')(hq:n'≤2000000)(hP:cB T P)(hM:¬EK T P L):
 Calls Tryz.prog 23 #[v,.slice A' n' c'] w (aW w (bw T P L)):=by
 rw[show bw T P L=([],110)from if_neg hM]
 obtain⟨A,q,c,B,m,d,rfl,_,_,_,hi,_,ho⟩:=id h
 have hj:=hi.1
 have h7:Below w.heap.size w (w.alloc (.cells #[.slice A q c,.slice B m d] 52)):=(Below.refl _ _).alloc (ah _) _
 have h9:=ag w 52 #[.slice A q c,.slice B m d]
 obtain⟨w1,h5⟩:∃w1,w1=w.alloc (.cells #[.slice A q c,.slice B m d] 52):=⟨_,rfl⟩
 have hl:w1.heap.size=w.heap.size+1:=by rw[h5];simp
 rw[← h5]at h7 h9
 have h8:Below w1.heap.size w1 (w1.alloc (.cells #[.string ⟨#[]⟩,.int .i64 0] 24)):=(Below.refl _ _).alloc (ah _) _
 have hk:=aM h8 h9
 have hc:=ag w1 24 #[.string ⟨#[]⟩,.int .i64 0]
 rw[hl]at hc
 have h0:=ao h7 h8
 have hh:=aa h5.symm
 have hf:Hid (∀ w2,w2=w1.alloc (.cells #[.string ⟨#[]⟩,.int .i64 0] 24)→Calls Tryz.prog 65 #[.agg #[.slice A q c,.slice B m d]] w2.drew fun e w'=>e=.returned (.bool true)∧Below w2.heap.size w2.drew w'):=aa fun w2 e2=>by
  have h3:=cG w2.drew _ T P (h.below (by rw[e2];exact h0.drew))
  rw[decide_eq_true hP]at h3
  exact h3
 have he:=aa fun(wx:World)=>ja wx n' (by omega)
 have h4:¬(cB T P∧aP n'≤m):=by rw[← hL,←hj];exact hM
 obtain⟨z,hz⟩:∃z,z=aP n':=⟨_,rfl⟩
 have hr:z≤50000:=by rw[hz];unfold aP;omega
 rw[← hz]at h4 he
 unfold maxLen at ho
 have d0:decide ((m:Int)<(z:Int))=true:=decide_eq_true (by have:¬z≤m:=fun k=>h4 ⟨hP,k⟩;omega)
 have hp:m<z:=by have:¬z≤m:=fun k=>h4 ⟨hP,k⟩;omega
 have h6:=aa hk
 have hg:=aa hc
 have hm:=aa h0
 clear h hM h7 h9 h8 hk hc h0 hl h5 h4 hP hz hL hj hi
 go_enter Tryz.func23,Tryz.ntmps23
 go_upto_region 1 with fail
 rw[hh.out]
 have HM:=aa (hf.out _ rfl)
 generalize w1.alloc (.cells #[.string ⟨#[]⟩,.int .i64 0] 24)=w2 at*
 clear hh hf
 have p0:w2.cell? ⟨w.heap.size,0,none⟩=some (.slice A q c):=(ac h6.out 0).trans rfl
 have p1:w2.cell? ⟨w.heap.size,1,none⟩=some (.slice B m d):=(ac h6.out 1).trans rfl
 have ha:w.heap.size<w2.heap.size:=aA h6.out
 have hb:w.heap.size+1<w2.heap.size:=aA hg.out
 go_region_held3 (fun w'=>w'.cell? ⟨w.heap.size,0,none⟩=some (.slice A q c)∧w'.cell? ⟨w.heap.size,1,none⟩=some (.slice B m d))
  (first | exact⟨p0,p1⟩ | exact⟨s0,s1⟩ | go_keep)
  (first
    | (go_at_call 65;refine HM.out.mono ?_;rintro e w3 ⟨rfl,h1⟩
       have s0:w3.cell? ⟨w.heap.size,0,none⟩=some (.slice A q c):=(h1.cell (p:=⟨w.heap.size,0,none⟩) ha).trans p0
       have s1:w3.cell? ⟨w.heap.size,1,none⟩=some (.slice B m d):=(h1.cell (p:=⟨w.heap.size,1,none⟩) ha).trans p1)
    | (go_at_call 68;refine(he.out _).mono ?_;rintro e w4 ⟨rfl,rfl⟩))
 have h2:Blk w3 (w.heap.size+1) 24 #[.string ⟨#[]⟩,.int .i64 0]:=(h1.block (w.heap.size+1) hb).trans hg.out
 have g0:=(ac h2 0).trans (rfl:_=some (Value.string ⟨#[]⟩))
 have g1:=(ac h2 1).trans (rfl:_=some (Value.int .i64 0))
 have f0:=ae h2 0
 have f1:=ae h2 1
 have hn:=aa (hm.out.drew.trans (h1.mono (Nat.le_of_lt ha)))
 clear h1 h2
 go_wp2_with fail
 refine bodyPost_ret (v:=.tuple #[.agg #[.string ⟨#[]⟩,.int .i64 0],.int .i64 110]) ?_ rfl ⟨rfl,(hn.out.setCell (p:=⟨w.heap.size+1,0,none⟩) (Nat.le_succ _) _).setCell (p:=⟨w.heap.size+1,1,none⟩) (Nat.le_succ _) _⟩
 simp[results,Tryz.results23,go_sem,g0,g1]
theorem F5(w:World)(v:Value)(T:List (List Int))(P:List Int)(h:aZ w v T P)(A':Option Addr)(n' c':Nat)(L:List Int)(hP:¬cB T P):
 Calls Tryz.prog 23 #[v,.slice A' n' c'] w (aW w (bw T P L)):=by
 rw[show bw T P L=([],110)from if_neg (fun k=>hP k.1)]
 obtain⟨A,q,c,B,m,d,rfl,_⟩:=id h
 have h6:Below w.heap.size w (w.alloc (.cells #[.slice A q c,.slice B m d] 52)):=(Below.refl _ _).alloc (ah _) _
 have h8:=ag w 52 #[.slice A q c,.slice B m d]
 obtain⟨w1,h4⟩:∃w1,w1=w.alloc (.cells #[.slice A q c,.slice B m d] 52):=⟨_,rfl⟩
 have hj:w1.heap.size=w.heap.size+1:=by rw[h4];simp
 rw[← h4]at h6 h8
 have h7:Below w1.heap.size w1 (w1.alloc (.cells #[.string ⟨#[]⟩,.int .i64 0] 24)):=(Below.refl _ _).alloc (ah _) _
 have hh:=aM h7 h8
 have hb:=ag w1 24 #[.string ⟨#[]⟩,.int .i64 0]
 rw[hj]at hb
 have h0:=ao h6 h7
 have hf:=aa h4.symm
 have hc:Hid (∀ w2,w2=w1.alloc (.cells #[.string ⟨#[]⟩,.int .i64 0] 24)→Calls Tryz.prog 65 #[.agg #[.slice A q c,.slice B m d]] w2.drew fun e w'=>e=.returned (.bool false)∧Below w2.heap.size w2.drew w'):=aa fun w2 e2=>by
  have h3:=cG w2.drew _ T P (h.below (by rw[e2];exact h0.drew))
  rw[decide_eq_false hP]at h3
  exact h3
 have h5:=aa hh
 have he:=aa hb
 have hk:=aa h0
 clear h h6 h8 h7 hh hb h0 hj h4 hP
 go_enter Tryz.func23,Tryz.ntmps23
 go_upto_region 1 with fail
 rw[hf.out]
 have HM:=aa (hc.out _ rfl)
 generalize w1.alloc (.cells #[.string ⟨#[]⟩,.int .i64 0] 24)=w2 at*
 clear hf hc
 have q0:w2.cell? ⟨w.heap.size,0,none⟩=some (.slice A q c):=(ac h5.out 0).trans rfl
 have q1:w2.cell? ⟨w.heap.size,1,none⟩=some (.slice B m d):=(ac h5.out 1).trans rfl
 have h9:w.heap.size<w2.heap.size:=aA h5.out
 have ha:w.heap.size+1<w2.heap.size:=aA he.out
 refine wp_region_held_drew (S:=fun w'=>w'.cell? ⟨w.heap.size,0,none⟩=some (.slice A q c)∧w'.cell? ⟨w.heap.size,1,none⟩=some (.slice B m d)) (by kernel_rfl) ⟨q0,q1⟩ (fun hHeld=> ?_)
 refine wpAnyH_take (i:=0) (v:=.agg #[.slice A q c,.slice B m d]) rfl (by kernel_rfl) (by kernel_rfl) (by kernel_rfl) (fun _ _ _ h=>h) (Or.inl ⟨by rfl,?hy⟩) (by assumption) ?_
 case hy=>
  intro w hg
  (try dsimp only at hg)
  obtain⟨s0,s1⟩:=hg
  go_simp
 (try simp only[List.getElem_toArray,List.getElem_cons_zero,Act.put,List.setIfInBounds_toArray,List.set_cons_zero,List.set_cons_succ])
 refine wpAnyH_ready (rs:= [1]) (by kernel_rfl) (by simp) (AllReadyH.cons rfl (fun K hK=> ?_) AllReadyH.nil)
 go_simp
 go_at_call 65
 refine HM.out.mono ?_
 rintro e w3 ⟨rfl,h1⟩
 have p0:w3.cell? ⟨w.heap.size,0,none⟩=some (.slice A q c):=(h1.cell (p:=⟨w.heap.size,0,none⟩) h9).trans q0
 have p1:w3.cell? ⟨w.heap.size,1,none⟩=some (.slice B m d):=(h1.cell (p:=⟨w.heap.size,1,none⟩) h9).trans q1
 have hi:Blk w3 (w.heap.size+1) 24 #[.string ⟨#[]⟩,.int .i64 0]:=(h1.block (w.heap.size+1) ha).trans he.out
 have hl:=aa (hk.out.drew.trans (h1.mono (Nat.le_of_lt h9)))
 have h2:=aa hi
 dsimp only
 refine hK.out _ _ ⟨p0,p1⟩ (fun hHeld2=> ?_)
 clear hK K h1 HM hHeld hi
 (try simp only[List.getElem_toArray,List.getElem_cons_succ,List.getElem_cons_zero,Act.put,List.setIfInBounds_toArray,List.set_cons_zero,List.set_cons_succ])
 refine wpAnyH_take (i:=2) (v:=.bool true) rfl (by kernel_rfl) (by kernel_rfl) (by kernel_rfl) (fun _ _ _ h=>h) (Or.inl ⟨by rfl,fun w _=>by go_simp⟩) (by assumption) ?_
 (try simp only[List.getElem_toArray,List.getElem_cons_succ,List.getElem_cons_zero,Act.put,List.setIfInBounds_toArray,List.set_cons_zero,List.set_cons_succ])
 refine wpAnyH_take (i:=3) (v:=.bool true) rfl (by kernel_rfl) (by kernel_rfl) (by kernel_rfl) (fun _ _ _ h=>h) (Or.inl ⟨by rfl,fun w _=>by go_simp⟩) (by assumption) ?_
 (try simp only[List.getElem_toArray,List.getElem_cons_succ,List.getElem_cons_zero,Act.put,List.setIfInBounds_toArray,List.set_cons_zero,List.set_cons_succ])
 refine wpAnyH_take (i:=4) (v:=undef) rfl (by kernel_rfl) (by kernel_rfl) (by kernel_rfl) (fun _ _ _ h=>h) (Or.inr ⟨by rfl,rfl⟩) (by assumption) ?_
 (try simp only[List.getElem_toArray,List.getElem_cons_succ,List.getElem_cons_zero,Act.put,List.setIfInBounds_toArray,List.set_cons_zero,List.set_cons_succ])
 refine wpAnyH_take (i:=5) (v:=undef) rfl (by kernel_rfl) (by kernel_rfl) (by kernel_rfl) (fun _ _ _ h=>h) (Or.inr ⟨by rfl,rfl⟩) (by assumption) ?_
 (try simp only[List.getElem_toArray,List.getElem_cons_succ,List.getElem_cons_zero,Act.put,List.setIfInBounds_toArray,List.set_cons_zero,List.set_cons_succ])
 refine wpAnyH_take (i:=6) (v:=undef) rfl (by kernel_rfl) (by kernel_rfl) (by kernel_rfl) (fun _ _ _ h=>h) (Or.inr ⟨by rfl,rfl⟩) (by assumption) ?_
 (try simp only[List.getElem_toArray,List.getElem_cons_succ,List.getElem_cons_zero,Act.put,List.setIfInBounds_toArray,List.set_cons_zero,List.set_cons_succ])
 refine wpAnyH_take (i:=7) (v:=undef) rfl (by kernel_rfl) (by kernel_rfl) (by kernel_rfl) (fun _ _ _ h=>h) (Or.inr ⟨by rfl,rfl⟩) (by assumption) ?_
 (try simp only[List.getElem_toArray,List.getElem_cons_succ,List.getElem_cons_zero,Act.put,List.setIfInBounds_toArray,List.set_cons_zero,List.set_cons_succ])
 refine wpAnyH_take (i:=8) (v:=undef) rfl (by kernel_rfl) (by kernel_rfl) (by kernel_rfl) (fun _ _ _ h=>h) (Or.inr ⟨by rfl,rfl⟩) (by assumption) ?_
 (try simp only[List.getElem_toArray,List.getElem_cons_succ,List.getElem_cons_zero,Act.put,List.setIfInBounds_toArray,List.set_cons_zero,List.set_cons_succ])
 refine wpAnyH_take (i:=9) (v:=undef) rfl (by kernel_rfl) (by kernel_rfl) (by kernel_rfl) (fun _ _ _ h=>h) (Or.inr ⟨by rfl,rfl⟩) (by assumption) ?_
 (try simp only[List.getElem_toArray,List.getElem_cons_succ,List.getElem_cons_zero,Act.put,List.setIfInBounds_toArray,List.set_cons_zero,List.set_cons_succ])
 refine wpAnyH_take (i:=10) (v:=undef) rfl (by kernel_rfl) (by kernel_rfl) (by kernel_rfl) (fun _ _ _ h=>h) (Or.inr ⟨by rfl,rfl⟩) (by assumption) ?_
 (try simp only[List.getElem_toArray,List.getElem_cons_succ,List.getElem_cons_zero,Act.put,List.setIfInBounds_toArray,List.set_cons_zero,List.set_cons_succ])
 refine wpAnyH_take (i:=11) (v:=.bool true) rfl (by kernel_rfl) (by kernel_rfl) (by kernel_rfl) (fun _ _ _ h=>h) (Or.inl ⟨by rfl,fun w _=>by go_simp⟩) (by assumption) ?_
 (try simp only[List.getElem_toArray,List.getElem_cons_succ,List.getElem_cons_zero,Act.put,List.setIfInBounds_toArray,List.set_cons_zero,List.set_cons_succ])
 refine wpAnyH_done (by kernel_rfl) ?_ _
 have g0:=(ac h2.out 0).trans (rfl:_=some (Value.string ⟨#[]⟩))
 have g1:=(ac h2.out 1).trans (rfl:_=some (Value.int .i64 0))
 have f0:=ae h2.out 0
 have f1:=ae h2.out 1
 go_wp2_with fail
 refine bodyPost_ret (v:=.tuple #[.agg #[.string ⟨#[]⟩,.int .i64 0],.int .i64 110]) ?_ rfl ⟨rfl,(hl.out.setCell (p:=⟨w.heap.size+1,0,none⟩) (Nat.le_succ _) _).setCell (p:=⟨w.heap.size+1,1,none⟩) (Nat.le_succ _) _⟩
 simp[results,Tryz.results23,go_sem,g0,g1]
theorem FS(w:World)(A:Option Addr)(n c:Nat)(L:List Int)(k:Nat)(hL:ZIn w A n L)(he:n≤c)(hn:n≤2000000)(hk:50*k<n):
 Calls Tryz.prog 70 #[.slice A n c,.int .i64 k] w fun e w'=>∃c2,e=.returned (.slice (A.map fun x=>x.add (50*k)) (bD L k).length c2)∧(bD L k).length≤c2∧w'=w:=by
 have h0:=hL.1
 obtain⟨m,hm⟩:∃m,m=(bD L k).length:=⟨_,rfl⟩
 have h5:m=min 50 (n - 50*k):=by rw[hm,fq,h0]
 obtain⟨b,off,rfl,_⟩:=hL.2 (by omega)
 obtain⟨lo,h1⟩:∃lo,lo=50*k:=⟨_,rfl⟩
 have hf:(k:Int)*50=(lo:Int):=by omega
 rw[← hm,←h1,Option.map_some,Addr.add_lit]
 obtain⟨hi,h3⟩:∃hi,hi=lo+50:=⟨_,rfl⟩
 have hg:(lo:Int)+50=(hi:Int):=by omega
 have h8:lo≤3000000:=by omega
 have h6:hi≤3000000:=by omega
 by_cases e:n<hi
 ·have d1:decide ((hi:Int)<(n:Int))=false:=au (by omega)
  have d2:decide ((n:Int)<(hi:Int))=true:=aC (by omega)
  have d3:¬((hi:Int)<(n:Int)):=by omega
  have d4:((n:Int)<(hi:Int)):=by omega
  have d5:¬(hi<n):=by omega
  have ha:(n:Int) - (lo:Int)=(m:Int):=by omega
  have hb:n - lo=m:=by omega
  have h2:(0:Int)≤(lo:Int):=by omega
  have h9:(lo:Int)≤(n:Int):=by omega
  have hc:(n:Int)≤(c:Int):=by omega
  clear hL hm h5 h1 h0 h3
  go_enter Tryz.func70,Tryz.ntmps70
  go_wp2_with fail
  go_ret
  exact⟨_,rfl,by omega,rfl⟩
 ·have d1:decide ((hi:Int)<(n:Int))=decide (hi<n):=decide_eq_decide.2 (by omega)
  have d2:decide ((n:Int)<(hi:Int))=false:=au (by omega)
  have d4:¬((n:Int)<(hi:Int)):=by omega
  have d5:(hi:Int)≤(n:Int):=by omega
  have ha:(hi:Int) - (lo:Int)=(m:Int):=by omega
  have hb:hi - lo=m:=by omega
  have h2:(0:Int)≤(lo:Int):=by omega
  have h4:(lo:Int)≤(hi:Int):=by omega
  have h7:(hi:Int)≤(c:Int):=by omega
  clear hL hm h5 h1 h0 h3
  go_enter Tryz.func70,Tryz.ntmps70
  go_wp2_with fail
  go_ret
  exact⟨_,rfl,by omega,rfl⟩
theorem D1{w:World}{A:Option Addr}{n k:Nat}{L:List Int}(h:ZIn w A n L)(hk:50*k<n):ZIn w (A.map fun x=>x.add (50*k)) (bD L k).length (bD L k):=by
 have hl:=fq L k
 rw[h.1]at hl
 have hc:=ZIn.cut (k:=(bD L k).length) (a:=50*k) h (by omega)
 have e:(L.drop (50*k)).take (bD L k).length=bD L k:=by
  have h2:(bD L k).length=min 50 (L.drop (50*k)).length:=by unfold bD;rw[List.length_take]
  rw[h2]
  unfold bD
  by_cases e:50≤(L.drop (50*k)).length
  ·rw[Nat.min_eq_left e]
  ·rw[Nat.min_eq_right (by omega),List.take_of_length_le (ah _),List.take_of_length_le (by omega)]
 rw[e]at hc
 exact hc
def iH(T:List (List Int))(P L:List Int)(k:Nat):List Nat:=kH (nl (T.getD (P.getD k 0).toNat [])) (bD L k)
theorem t9(P:List Int)(k:Nat):(nl P).getD k 0=(P.getD k 0).toNat:=by
 unfold nl
 rw[List.getD_eq_getElem?_getD,List.getD_eq_getElem?_getD,List.getElem?_map]
 cases P[k]? <;>rfl
theorem Dm(T:List (List Int))(k:Nat):(T.map nl).getD k []=nl (T.getD k []):=by
 rw[List.getD_eq_getElem?_getD,List.getD_eq_getElem?_getD,List.getElem?_map]
 cases T[k]? <;>rfl
theorem m3(T:List (List Int))(P L:List Int)(k:Nat):∀m,m≤50→50*k+m≤L.length→
 cQ (T.map nl) (nl P) (nl L) (50*k+m)=cQ (T.map nl) (nl P) (nl L) (50*k)++kH (nl (T.getD (P.getD k 0).toNat [])) ((L.drop (50*k)).take m)
 | 0,_,_=>by simp[kH]
 | m+1,hm,hl=>by
   rw[← Nat.add_assoc,k5,m3 T P L k m (by omega) (by omega),show(50*k+m) / 50=k by omega,t9,Dm,t9]
   have e:(L.drop (50*k)).take (m+1)=(L.drop (50*k)).take m++ [L.getD (50*k+m) 0]:=by
    rw[List.take_succ_eq_append_getElem (by rw[List.length_drop];omega),List.getElem_drop,List.getD_eq_getElem?_getD,List.getElem?_eq_getElem (by omega)]
    rfl
   rw[e]
   unfold kH
   rw[List.flatMap_append,List.append_assoc]
   simp
theorem lY(T:List (List Int))(P L:List Int):∀k,cQ (T.map nl) (nl P) (nl L) (min (50*k) L.length)=((List.range k).map (iH T P L)).flatten
 | 0=>by simp[cQ]
 | k+1=>by
   rw[List.range_succ,List.map_append,List.flatten_append,←lY T P L k]
   simp only[List.map_cons,List.map_nil,List.flatten_cons,List.flatten_nil,List.append_nil]
   by_cases h:50*k≤L.length
   ·obtain⟨m,hm⟩:∃m,m=min 50 (L.length - 50*k):=⟨_,rfl⟩
    rw[Nat.min_eq_left h,show min (50*(k+1)) L.length=50*k+m by omega,m3 T P L k m (by omega) (by omega)]
    congr 2
    unfold bD
    by_cases e:m=50
    ·rw[e]
    ·rw[List.take_of_length_le (by rw[List.length_drop];omega),List.take_of_length_le (by rw[List.length_drop];omega)]
   ·have e:iH T P L k= []:=by
     unfold iH bD kH
     rw[List.drop_eq_nil_of_le (by omega)]
     rfl
    rw[e,List.append_nil,Nat.min_eq_right (by omega),Nat.min_eq_right (by omega)]
theorem Db(l:List Nat)(list:List Int):aw (kH l list):=by
 unfold kH
 intro b hb
 obtain⟨x,_,hx⟩:=List.mem_flatMap.1 hb
 exact aJ _ _ b hx
theorem zP{t:List Int}(ht:bL t)(list:List Int):(kH (nl t) list).length≤20*list.length:=by
 induction list with
 | nil=>simp[kH]
 | cons x list ih=>
   have e:kH (nl t) (x :: list)=dU (nl t) x.toNat++kH (nl t) list:=rfl
   have hc:(dU (nl t) x.toNat).length≤20:=by
    unfold dU
    rw[af,t9]
    by_cases hx:x.toNat<t.length
    ·have:=(ht.2.2.1 (t.getD x.toNat 0) (by
      rw[List.getD_eq_getElem?_getD,List.getElem?_eq_getElem hx]
      exact List.getElem_mem _)).2
     omega
    ·rw[List.getD_eq_getElem?_getD,List.getElem?_eq_none (by omega)]
     exact Nat.zero_le _
   rw[e,List.length_append,List.length_cons]
   omega
theorem q7(T:List (List Int))(P L:List Int)(hT:∀k,bL (T.getD (P.getD k 0).toNat [])∨bD L k= []):∀k,((List.range k).map (iH T P L)).flatten.length≤1000*k
 | 0=>by simp
 | k+1=>by
   rw[List.range_succ,List.map_append,List.flatten_append,List.length_append]
   have ih:=q7 T P L hT k
   have:(iH T P L k).length≤1000:=by
    unfold iH
    rcases hT k with h | h
    ·have h2:=zP h (bD L k)
     have h3:=fq L k
     omega
    ·rw[h]
     simp[kH]
   simp only[List.map_cons,List.map_nil,List.flatten_cons,List.flatten_nil,List.append_nil]
   omega
theorem Ec{L:List Int}{x:Int}(hx:x∈L):∃k,k<aP L.length∧x∈bD L k:=by
 obtain⟨i,hi,rfl⟩:=List.getElem_of_mem hx
 refine⟨i / 50,by unfold aP;omega,?_⟩
 unfold bD
 refine List.mem_take_iff_getElem.2 ⟨i % 50,by rw[List.length_drop];omega,?_⟩
 rw[List.getElem_drop]
 congr 1
 omega
theorem Ex{L:List Int}{k:Nat}{x:Int}(hx:x∈bD L k):x∈L:=List.mem_of_mem_drop (List.mem_of_mem_take hx)
theorem FP(w:World)(v:Value)(T:List (List Int))(P:List Int)(h:aZ w v T P)(A':Option Addr)(n' c':Nat)(L:List Int)(hL:ZIn w A' n' L)(pg:n'≤c')(pf:n'≤2000000)(hF:EK T P L):
 Calls Tryz.prog 23 #[v,.slice A' n' c'] w (aW w (bw T P L)):=by
 have hP:=hF.1
 obtain⟨A,q,c,B,m,d,rfl,hT,q3,hq,H6,q2,pb⟩:=id h
 have HV:=hT.1
 have HU:=H6.1
 have hU:=hL.1
 have pj:2≤q∧q≤6:=by have h1:=hP.1;have h2:=hP.2.1;omega
 have q1:1≤m∧m≤32767:=by have h1:=hP.2.2.1;have h2:=hP.2.2.2.1;omega
 obtain⟨z,hz⟩:∃z,z=aP n':=⟨_,rfl⟩
 have q5:z≤m:=by have:=hF.2;rw[hU,HU,←hz]at this;exact this
 have q8:n'≤50*z∧50*z<n'+50:=by rw[hz];unfold aP;omega
 obtain⟨tb,tq,rfl,HX⟩:=hT.2 (by omega)
 obtain⟨b,off,rfl,ht⟩:=H6.2 (by omega)
 have HQ:∀i,i<m→0≤P.getD i 0∧(P.getD i 0).toNat<q:=fun i hi=>by
  have:=hP.2.2.2.2.2.1 (P.getD i 0) (by
   rw[List.getD_eq_getElem?_getD,List.getElem?_eq_getElem (by omega)]
   exact List.getElem_mem _)
  rw[HV]at this
  omega
 have ho:∀i,i<q→(T.getD i []).length=(T.getD 0 []).length∧bL (T.getD i []):=fun i hi=>hP.2.2.2.2.1 _ (lT T i (by omega))
 obtain⟨m0,HC⟩:∃m0,m0=(T.getD 0 []).length:=⟨_,rfl⟩
 rw[← HC]at ho
 have hA:bw T P L=if ∀x∈L,0≤x∧x<(m0:Int)then(((List.range z).map (iH T P L)).flatten,0)else([],60):=by
  unfold bw
  rw[if_pos hF,←lY T P L z,Nat.min_eq_right (by omega),HC]
 rw[hA]
 have H8:Below w.heap.size w (w.alloc (.cells #[.slice (some ⟨tb,tq,none⟩) q c,.slice (some ⟨b,off,none⟩) m d] 52)):=(Below.refl _ _).alloc (ah _) _
 have HB:=ag w 52 #[.slice (some ⟨tb,tq,none⟩) q c,.slice (some ⟨b,off,none⟩) m d]
 obtain⟨w1,hW⟩:∃w1,w1=w.alloc (.cells #[.slice (some ⟨tb,tq,none⟩) q c,.slice (some ⟨b,off,none⟩) m d] 52):=⟨_,rfl⟩
 have HZ:w1.heap.size=w.heap.size+1:=by rw[hW];simp
 rw[← hW]at H8 HB
 have HA:Below w1.heap.size w1 (w1.alloc (.cells #[.string ⟨#[]⟩,.int .i64 0] 24)):=(Below.refl _ _).alloc (ah _) _
 have HT:=aM HA HB
 have HF:=ag w1 24 #[.string ⟨#[]⟩,.int .i64 0]
 rw[HZ]at HF
 have hp:=ao H8 HA
 have HO:=aa hW.symm
 have HK:Hid (∀ w2,w2=w1.alloc (.cells #[.string ⟨#[]⟩,.int .i64 0] 24)→Calls Tryz.prog 65 #[.agg #[.slice (some ⟨tb,tq,none⟩) q c,.slice (some ⟨b,off,none⟩) m d]] w2.drew fun e w'=>e=.returned (.bool true)∧Below w2.heap.size w2.drew w'):=aa fun w2 e2=>by
  have h3:=cG w2.drew _ T P (h.below (by rw[e2];exact hp.drew))
  rw[decide_eq_true hP]at h3
  exact h3
 have hM:=aa fun(wx:World)=>ja wx n' (by omega)
 rw[← hz]at hM
 unfold maxLen at pb
 have d0:decide ((m:Int)<(z:Int))=false:=au (by omega)
 have dn:¬m<z:=by omega
 have HN:=aa HX
 have H0:=aa ht
 have H2:=aa HQ
 have hn:=aa ho
 have HL:=aa hL
 have p3:=aa hU
 have pr:=aa hz
 have hN:=aa HT
 have H3:=aa HF
 have HI:=aa hp
 have hl:Hid (∀ i,i<z→(¬ ∀x∈bD L i,0≤x∧x<(m0:Int))→∀w',Below w.heap.size w w'→aW w (if ∀x∈L,0≤x∧x<(m0:Int)then(((List.range z).map (iH T P L)).flatten,0)else([],60)) (.returned (.tuple #[.agg #[.string ⟨#[]⟩,.int .i64 0],.int .i64 60])) w'):=aa fun i _ hno w' hb=>by
  rw[if_neg fun h0=>hno fun x hx=>h0 x (Ex hx)]
  exact⟨rfl,hb⟩
 have ha:Hid ((∀ j,j<z→∀x∈bD L j,0≤x∧x<(m0:Int))→∀w' X,X=((List.range z).map (iH T P L)).flatten→Below w.heap.size w w'→aW w (if ∀x∈L,0≤x∧x<(m0:Int)then(((List.range z).map (iH T P L)).flatten,0)else([],60)) (.returned (.tuple #[.agg #[.string ⟨(aG X).toArray⟩,.int .i64 X.length],.int .i64 0])) w'):=aa fun h0 w' X hX hb=>by
  have:∀x∈L,0≤x∧x<(m0:Int):=fun x hx=>by
   obtain⟨k,hk,pk⟩:=Ec hx
   exact h0 k (by rw[hz,←hU];exact hk) x pk
  rw[if_pos this,hX]
  exact⟨rfl,hb⟩
 generalize aW w (if ∀x∈L,0≤x∧x<(m0:Int)then(((List.range z).map (iH T P L)).flatten,0)else([],60))=PO at*
 clear h hF H8 HB HA HT HF hp HZ hW hP hz hL HU H6 hT HX ht HQ ho hA hU HC HV
 go_enter Tryz.func23,Tryz.ntmps23
 go_upto_region 1 with fail
 rw[HO.out]
 have HM:=aa (HK.out _ rfl)
 generalize w1.alloc (.cells #[.string ⟨#[]⟩,.int .i64 0] 24)=w2 at*
 clear HO HK
 have p0:w2.cell? ⟨w.heap.size,0,none⟩=some (.slice (some ⟨tb,tq,none⟩) q c):=(ac hN.out 0).trans rfl
 have p1:w2.cell? ⟨w.heap.size,1,none⟩=some (.slice (some ⟨b,off,none⟩) m d):=(ac hN.out 1).trans rfl
 have hV:w.heap.size<w2.heap.size:=aA hN.out
 have hH:w.heap.size+1<w2.heap.size:=aA H3.out
 go_region_held3 (fun w'=>w'.cell? ⟨w.heap.size,0,none⟩=some (.slice (some ⟨tb,tq,none⟩) q c)∧w'.cell? ⟨w.heap.size,1,none⟩=some (.slice (some ⟨b,off,none⟩) m d))
  (first | exact⟨p0,p1⟩ | exact⟨s0,s1⟩ | go_keep)
  (first
    | (go_at_call 65;refine HM.out.mono ?_;rintro e w3 ⟨rfl,hB⟩
       have s0:w3.cell? ⟨w.heap.size,0,none⟩=some (.slice (some ⟨tb,tq,none⟩) q c):=(hB.cell (p:=⟨w.heap.size,0,none⟩) hV).trans p0
       have s1:w3.cell? ⟨w.heap.size,1,none⟩=some (.slice (some ⟨b,off,none⟩) m d):=(hB.cell (p:=⟨w.heap.size,1,none⟩) hV).trans p1)
    | (go_at_call 68;refine(hM.out _).mono ?_;rintro e w4 ⟨rfl,rfl⟩))
 have H4:Hid (Blk w3 (w.heap.size+1) 24 #[.string ⟨#[]⟩,.int .i64 0]):=aa ((hB.block (w.heap.size+1) hH).trans H3.out)
 have hK:=aa (HI.out.drew.trans (hB.mono (Nat.le_of_lt hV)))
 clear hB hN H3 HI HM p0 p1 hV hH
 go_wp2_with fail
 refine(hM.out _).mono ?_
 rintro e w3 ⟨rfl,rfl⟩
 clear hM
 have he:=hK.out.size
 have hh:=aA H4.out
 go_wp2_with fail
 go_loopw [6,7,8,9,26] (fun pv s7 s8 s9 iv' wx=>∃(i:Nat) (A9:Option Addr) (c9:Nat),i≤z∧iv'=.int .i64 i∧pv=.slice A9 i c9∧Pcs wx w3.heap.size (.slice A9 i c9) ((List.range i).map (iH T P L))∧Below w3.heap.size w3 wx∧Hid (∀ j,j<i→∀x∈bD L j,0≤x∧x<(m0:Int))) (fun _ _ _ _ iv' _=>z - (intOf iv').toNat)
 case atStart=>exact⟨0,none,0,Nat.zero_le _,rfl,rfl,F8 _ _,Below.refl _ _,fun j hj=>absurd hj (Nat.not_lt_zero _)⟩
 case round=>
  rename World=>wx
  obtain⟨i,A9,c9,hi,rfl,rfl,ht,hg,hS⟩:=hrel
  by_cases e:i<z
  ·have di:decide ((i:Int)<(z:Int))=true:=aC (by omega)
   have ps:(0:Int)≤(i:Int):=by omega
   have q0:(i:Int)<(m:Int):=by omega
   have H5:50*i<n':=by omega
   obtain⟨pm,HH⟩:=H2.out i (by omega)
   obtain⟨y,hy⟩:∃y,y=(P.getD i 0).toNat:=⟨_,rfl⟩
   have HY:P.getD i 0=(y:Int):=by omega
   rw[← hy]at HH
   obtain⟨A2,c2,h1,h2,_,h4⟩:=HN.out y HH
   obtain⟨htl,HW⟩:=hn.out y HH
   have hD:∀W,Below wx.heap.size wx W→Below w.heap.size w W:=fun W hb=>(hK.out.trans (hg.mono he)).trans (hb.mono (Nat.le_trans he hg.size))
   have hs:=hD wx (Below.refl _ _)
   have c0:wx.cell? ⟨w.heap.size,0,none⟩=some (.slice (some ⟨tb,tq,none⟩) q c):=(hg.cell (p:=⟨w.heap.size,0,none⟩) (World.block_lt_of_cell? w3 _ s0)).trans s0
   have c1:wx.cell? ⟨w.heap.size,1,none⟩=some (.slice (some ⟨b,off,none⟩) m d):=(hg.cell (p:=⟨w.heap.size,1,none⟩) (World.block_lt_of_cell? w3 _ s1)).trans s1
   have c2':wx.cell? ⟨b,off+i,none⟩=some (.int .i64 (y:Int)):=by
    rw[← HY]
    exact(hs.cell (p:=⟨b,off+i,none⟩) (World.block_lt_of_cell? w _ (H0.out i (by omega)))).trans (H0.out i (by omega))
   have c3:wx.cell? ⟨tb,tq+y,none⟩=some (.slice A2 m0 c2):=by
    rw[← htl]
    exact(hs.cell (p:=⟨tb,tq+y,none⟩) (World.block_lt_of_cell? w _ h1)).trans h1
   have h5:=aa fun(W:World) (hb:Below wx.heap.size wx W)=>FS W A' n' c' L i (HL.out.below (hD W hb)) pg pf H5
   have h6:=aa fun(W:World) (hb:Below wx.heap.size wx W) (cc:Nat) (hR:(bD L i).length≤cc)=>iu W A2 (A'.map fun x=>x.add (50*i)) m0 c2 (bD L i).length cc (T.getD y []) (bD L i) (by rw[← htl];exact h2.below (hD W hb)) (by rw[← htl];exact h4) (D1 (HL.out.below (hD W hb)) H5) hR (by rw[fq];omega)
   have hI:kX (T.getD y []) (bD L i)=if ∀x∈bD L i,0≤x∧x<(m0:Int)then(iH T P L i,0)else([],60):=by
    unfold kX iH
    rw[if_pos HW,htl,hy]
   rw[hI]at h6
   obtain⟨⟨X,zz⟩,H7⟩:∃r:List Nat×Nat,r=if ∀x∈bD L i,0≤x∧x<(m0:Int)then(iH T P L i,0)else([],60):=⟨_,rfl⟩
   rw[← H7]at h6
   have hO:=aa H7
   have hm:=aa ht
   have hf:=aa hg
   have hw:=aa hS
   have q4:(0:Int)≤(y:Int):=by omega
   have po:(y:Int)<(q:Int):=by omega
   have bd:Below wx.heap.size wx wx.drew:=(Below.refl _ _).drew
   have ba:Below wx.heap.size wx (wx.alloc (.cells #[.string ⟨#[]⟩,.int .i64 0] 24)).drew:=((Below.refl _ _).alloc (ah _) _).drew
   have ka:Blk (wx.alloc (.cells #[.string ⟨#[]⟩,.int .i64 0] 24)).drew wx.heap.size 24 #[.string ⟨#[]⟩,.int .i64 0]:=ag wx _ _
   have l0:=World.block_lt_of_cell? wx _ c0
   have l2:=World.block_lt_of_cell? wx _ c2'
   have l3:=World.block_lt_of_cell? wx _ c3
   generalize (bD L i).length=pl at*
   generalize (A'.map fun x=>x.add (50*i))=AP at*
   clear ht hg hS hI H7 h1 h2 h4 htl HW hD hs hy HY pm s0 s1 H5
   go_upto_region 7 with fail
   go_cut [8,9]from 29 to 44 (fun s8 s9 wy=>∃b8,s8=.pointer (some ⟨b8,0,none⟩)∧s9=.int .i64 (zz:Nat)∧Blk wy b8 24 #[.string ⟨(aG X).toArray⟩,.int .i64 (X.length:Nat)]∧wx.heap.size≤b8∧Below wx.heap.size wx wy)
   case first=>
    go_region_held3 (fun w'=>w'.cell? ⟨w.heap.size,0,none⟩=some (.slice (some ⟨tb,tq,none⟩) q c)∧w'.cell? ⟨w.heap.size,1,none⟩=some (.slice (some ⟨b,off,none⟩) m d)∧w'.cell? ⟨b,off+i,none⟩=some (.int .i64 (y:Int))∧w'.cell? ⟨tb,tq+y,none⟩=some (.slice A2 m0 c2))
     (first | exact⟨c0,c1,c2',c3⟩ | exact⟨t0,t1,t2,t3⟩ | exact⟨u0,u1,u2,u3⟩ | go_keep)
     (first
       | (go_at_call 70;(first | with_reducible refine(h5.out _ bd).mono ?_ | with_reducible refine(h5.out _ ba).mono ?_);rintro e w7 ⟨cc,rfl,hR,rfl⟩)
       | (go_at_call 69;(with_reducible refine(h6.out _ bd cc hR).mono ?_);rintro e w9 ⟨rfl,h8⟩
          have t0:w9.cell? ⟨w.heap.size,0,none⟩=some (.slice (some ⟨tb,tq,none⟩) q c):=(h8.cell (p:=⟨w.heap.size,0,none⟩) l0).trans c0
          have t1:w9.cell? ⟨w.heap.size,1,none⟩=some (.slice (some ⟨b,off,none⟩) m d):=(h8.cell (p:=⟨w.heap.size,1,none⟩) l0).trans c1
          have t2:w9.cell? ⟨b,off+i,none⟩=some (.int .i64 (y:Int)):=(h8.cell (p:=⟨b,off+i,none⟩) l2).trans c2'
          have t3:w9.cell? ⟨tb,tq+y,none⟩=some (.slice A2 m0 c2):=(h8.cell (p:=⟨tb,tq+y,none⟩) l3).trans c3
          have h9:Below wx.heap.size wx w9:=bd.trans h8)
       | (go_at_call 69;(with_reducible refine(h6.out _ ba cc hR).mono ?_);rintro e w9 ⟨rfl,h8⟩
          have h9:Below wx.heap.size wx w9:=ao ba h8
          have t0:w9.cell? ⟨w.heap.size,0,none⟩=some (.slice (some ⟨tb,tq,none⟩) q c):=(h9.cell (p:=⟨w.heap.size,0,none⟩) l0).trans c0
          have t1:w9.cell? ⟨w.heap.size,1,none⟩=some (.slice (some ⟨b,off,none⟩) m d):=(h9.cell (p:=⟨w.heap.size,1,none⟩) l0).trans c1
          have t2:w9.cell? ⟨b,off+i,none⟩=some (.int .i64 (y:Int)):=(h9.cell (p:=⟨b,off+i,none⟩) l2).trans c2'
          have t3:w9.cell? ⟨tb,tq+y,none⟩=some (.slice A2 m0 c2):=(h9.cell (p:=⟨tb,tq+y,none⟩) l3).trans c3
          have k9:Blk w9 wx.heap.size 24 #[.string ⟨#[]⟩,.int .i64 0]:=(h8.block wx.heap.size (aA ka)).trans ka
          have x0:=(ac k9 0).trans (rfl:_=some (Value.string ⟨#[]⟩))
          have x1:=(ac k9 1).trans (rfl:_=some (Value.int .i64 0))
          have y0:=ae k9 0
          have y1:=ae k9 1
          have hC:Below wx.heap.size wx ((w9.setCell ⟨wx.heap.size,0,none⟩ (.string ⟨(aG X).toArray⟩)).setCell ⟨wx.heap.size,1,none⟩ (.int .i64 (X.length:Nat))):=(h9.setCell (p:=⟨wx.heap.size,0,none⟩) (ah _) _).setCell (p:=⟨wx.heap.size,1,none⟩) (ah _) _
          have u0:=(hC.cell (p:=⟨w.heap.size,0,none⟩) l0).trans c0
          have u1:=(hC.cell (p:=⟨w.heap.size,1,none⟩) l0).trans c1
          have u2:=(hC.cell (p:=⟨b,off+i,none⟩) l2).trans c2'
          have u3:=(hC.cell (p:=⟨tb,tq+y,none⟩) l3).trans c3))
    all_goals go_wp2_with fail
    all_goals go_meet
    all_goals first
     | exact⟨_,rfl,rfl,ag w9 _ _,h9.size,h9.alloc h9.size _⟩
     | exact⟨_,rfl,rfl,ay (ay k9 0 _) 1 _,Nat.le_refl _,hC⟩
   case rest=>
    obtain⟨b8,rfl,rfl,hG,HS,hQ⟩:=hcut
    have h7:=ao hf.out hQ
    have hu:w3.heap.size≤wc.heap.size:=h7.size
    by_cases h0:∀x∈bD L i,0≤x∧x<(m0:Int)
    ·have hv:=hO.out
     rw[if_pos h0]at hv
     obtain⟨rfl,rfl⟩:X=iH T P L i∧zz=0:=by
      injection hv with e1 e2
      exact⟨e1,e2⟩
     have hY:Hid (aw (iH T P L i)):=aa (Db _ _)
     have hE:∀j,j<i+1→∀x∈bD L j,0≤x∧x<(m0:Int):=fun j hj=>by
      by_cases ej:j=i
      ·rw[ej];exact h0
      ·exact hw.out j (by omega)
     have HD:(List.range (i+1)).map (iH T P L)=(List.range i).map (iH T P L)++ [iH T P L i]:=by rw[List.range_succ,List.map_append];rfl
     obtain⟨X,hX⟩:∃X,X=iH T P L i:=⟨_,rfl⟩
     rw[← hX]at hG hY HD
     obtain⟨v5,w5,HG,hc,HR⟩:=rS wc w3.heap.size (.slice A9 i c9) _ X (hm.out.below hQ) hu (by simp;omega) hY.out
     rw[← HD]at hc
     obtain⟨A5,c5,rfl,_,_,_⟩:=aq hc.own
     rw[List.length_map,List.length_range]at hc HG
     have x0:=(ac hG 0).trans (rfl:_=some (Value.string ⟨(aG X).toArray⟩))
     have x1:=(ac hG 1).trans (rfl:_=some (Value.int .i64 X.length))
     have p4:=aa HG
     have H1:=aa hc
     have p2:=aa (h7.trans HR)
     have hZ:=aa hE
     clear hG HS hQ h7 hu h0 hv hE HD hX HG hc HR hY hO hm hf hw h5 h6 c0 c1 c2' c3 bd ba ka l0 l2 l3
     go_wp2_with (at_builtin;refine Lib.wpList_append_run _ rfl (.tmp 49) (.tmp 51) 111 111 rfl (.slice A9 i c9) (.slice (some ⟨wc.heap.size,0,none⟩) 1 1) rfl rfl _ w5 p4.out ?_)
     go_roundw
     case rel=>exact⟨i+1,A5,c5,by omega,by go_num,rfl,H1.out,p2.out,hZ.out⟩
     case measure=>simp[intOf];omega
    ·have hv:=hO.out
     rw[if_neg h0]at hv
     obtain⟨rfl,rfl⟩:X= []∧zz=60:=by
      injection hv with e1 e2
      exact⟨e1,e2⟩
     have hr:=(h7.block (w.heap.size+1) hh).trans H4.out
     have g0:=(ac (show Blk wc (w.heap.size+1) _ _ from hr) 0).trans (rfl:_=some (Value.string ⟨#[]⟩))
     have g1:=(ac (show Blk wc (w.heap.size+1) _ _ from hr) 1).trans (rfl:_=some (Value.int .i64 0))
     have f0:=ae (show Blk wc (w.heap.size+1) _ _ from hr) 0
     have f1:=ae (show Blk wc (w.heap.size+1) _ _ from hr) 1
     have HE:=aa (hl.out i e h0 _ (((hK.out.trans (h7.mono he)).setCell (p:=⟨w.heap.size+1,0,none⟩) (Nat.le_succ _) (.string ⟨#[]⟩)).setCell (p:=⟨w.heap.size+1,1,none⟩) (Nat.le_succ _) (.int .i64 0)))
     clear hG HS hQ h7 hu h0 hv hr hO hm hf hw h5 h6 c0 c1 c2' c3 bd ba ka l0 l2 l3 hl ha
     go_wp2_with fail
     refine bodyPost_ret (v:=.tuple #[.agg #[.string ⟨#[]⟩,.int .i64 0],.int .i64 60]) ?_ rfl HE.out
     simp[results,Tryz.results23,go_sem,g0,g1]
  ·obtain rfl:i=z:=by omega
   have di:decide ((i:Int)<(i:Int))=false:=au (by omega)
   have p5:((List.range i).map (iH T P L)).flatten.length≤1000*i:=q7 T P L (fun k=>by
    by_cases hk:k<m
    ·exact .inl (hn.out _ (H2.out k hk).2).2
    ·right
     unfold bD
     rw[List.drop_eq_nil_of_le (by have:=p3.out;omega)]
     rfl) i
   have HJ:=aa (rz wx w3.heap.size (.slice A9 i c9) _ ht (by simp;omega) (by omega))
   obtain⟨X,hX⟩:∃X,X=((List.range i).map (iH T P L)).flatten:=⟨_,rfl⟩
   rw[← hX]at HJ
   have HP:=aa hX
   have hf:=aa hg
   have hw:=aa hS
   clear ht hg hS p5 hX hl HN H0 H2 hn HL
   go_wp2_with fail
   refine HJ.out.mono ?_
   rintro e w9 ⟨rfl,h8⟩
   have hJ:=(an h8).blk ((hf.out.block (w.heap.size+1) hh).trans H4.out) az az
   have g0:=(ac hJ 0).trans (rfl:_=some (Value.string ⟨#[]⟩))
   have g1:=(ac hJ 1).trans (rfl:_=some (Value.int .i64 0))
   have f0:=ae hJ 0
   have f1:=ae hJ 1
   have h9:=(hK.out.trans (hf.out.mono he)).trans (h8.mono (Nat.le_trans he hf.out.size))
   have HE:=aa (ha.out hw.out _ X HP.out ((h9.setCell (p:=⟨w.heap.size+1,0,none⟩) (Nat.le_succ _) (.string ⟨(aG X).toArray⟩)).setCell (p:=⟨w.heap.size+1,1,none⟩) (Nat.le_succ _) (.int .i64 X.length)))
   clear hJ h8 h9 HJ hf hw ha HP
   go_wp2_with fail
   refine bodyPost_ret (v:=.tuple #[.agg #[.string ⟨(aG X).toArray⟩,.int .i64 X.length],.int .i64 0]) ?_ rfl HE.out
   simp[results,Tryz.results23,go_sem,g0,g1]
theorem vF(w:World)(v:Value)(T:List (List Int))(P:List Int)(h:aZ w v T P)(A':Option Addr)(n' c':Nat)(L:List Int)(hL:ZIn w A' n' L)(h1:n'≤c')(h0:n'≤2000000):
 Calls Tryz.prog 23 #[v,.slice A' n' c'] w (aW w (bw T P L)):=by
 by_cases hP:cB T P
 ·by_cases hM:EK T P L
  ·exact FP w v T P h A' n' c' L hL h1 h0 hM
  ·exact FA w v T P h A' n' c' L hL.1 h0 hP hM
 ·exact F5 w v T P h A' n' c' L hP
end Go.Proofs.YthakcjehhlpjnaaGreat
