import Derived.Test.YthakcjehhlpjnaaGreatB00
set_option maxRecDepth 100000
namespace Go.Proofs.YthakcjehhlpjnaaGreat
open Go.RowKit
def oG(w:World)(x n:Nat)(e:Ending)(w':World):Prop:=
 ∃g cap,e=.returned (.tuple #[.slice (some ⟨g,0,none⟩) n cap,.bool (decide (x<2 ^ n))])∧w'.ownsRow w.heap.size 3 1 (.slice (some ⟨g,0,none⟩) n cap) n ((ai x n).map iv)∧Below w.heap.size w w'
theorem pi(x k:Nat):ai x (k+1)=(x / 2 ^ k % 2) :: ai x k:=by
 rw[Nat.add_comm k 1,ix]
 rfl
theorem Cn(q k x:Nat):((List.replicate (q+1) 0++ai x k).map iv).set q (.int .i64 (x / 2 ^ k % 2:Nat))=(List.replicate q 0++ai x (k+1)).map iv:=by
 have h1:(List.replicate (q+1) 0++ai x k).map iv=List.replicate q (iv 0)++(iv 0 :: (ai x k).map iv):=by
  rw[List.replicate_succ',List.append_assoc,List.map_append,List.map_replicate]
  rfl
 rw[h1,List.set_append,if_neg (by simp),List.length_replicate,Nat.sub_self,pi,List.map_append,List.map_replicate]
 rfl
theorem o7(w:World)(x n:Nat)(hx:x<2 ^ 64)(hn:n≤64):Calls Tryz.prog 79 #[.int .u64 x,.int .i64 n] w (oG w x n):=by
 obtain⟨i3,hi,hf,hg,hh⟩:=info_parts Tryz.info3
 have HX:=aa hx
 clear hx
 go_enter Tryz.func79,Tryz.ntmps79
 go_wp2_with (refine wpList_make_full w rfl _ _ 36 rfl w.heap.size 3 i3 (.int .i64 0) 1 Tryz.underlying36 hi hf hg .i64 .i64 _ _ n rfl rfl rfl rfl ?b2 ?b3 ?b4 ?_)
 case b2=>rw[hh];omega
 case b3=>unfold maxLen;omega
 case b4=>exact Nat.le_refl _
 intro w1 h6 h3
 have hc:Below w.heap.size w w1:=(Below.refl _ _).grown h3 (ah _) (fun k hk=>by cases hk)
 have h8:w1.ownsRow w.heap.size 3 1 (.slice (some ⟨w.heap.size,0,none⟩) n n) n ((List.replicate n 0).map iv):=by
  have e:(madeCells #[Value.int .i64 0] n).toList=(List.replicate n 0).map iv:=by
   rw[toList_madeCells_one,List.map_replicate]
   rfl
  rw[← e]
  exact h6
 clear h6 h3
 go_wp2
 go_loopw [0,7] (fun v i wr=>∃r:Nat,r≤n∧i=.int .i64 ((r:Int) - 1)∧v=.int .u64 (x / 2 ^ (n - r):Nat)∧wr.ownsRow w.heap.size 3 1 (.slice (some ⟨w.heap.size,0,none⟩) n n) n ((List.replicate r 0++ai x (n - r)).map iv)∧Below w.heap.size w wr) (fun _ i _=>(intOf i+1).toNat)
 case atStart=>exact⟨n,Nat.le_refl _,rfl,by simp,by simpa [ai]using h8,hc⟩
 case round=>
  obtain⟨r,hr,rfl,rfl,h4,hb⟩:=hrel
  have hy:x / 2 ^ (n - r)<18446744073709551616:=Nat.lt_of_le_of_lt (Nat.div_le_self _ _) HX.out
  cases r with
  | zero=>
    have e1:((0:Nat):Int) - 1= -1:=rfl
    rw[e1]
    clear e1
    simp only[Nat.sub_zero,List.replicate_zero,List.nil_append]at h4 hy ⊢
    have h7:((x / 2 ^ n:Nat):Int)=0↔x<2 ^ n:=by
     rw[← Nat.div_eq_zero_iff_lt (Nat.two_pow_pos n)]
     omega
    generalize x / 2 ^ n=y at*
    have HD:=aa h7
    clear h7
    go_wp2
    go_ret2
    refine⟨w.heap.size,n,?_,h4,hb⟩
    show Ending.returned (Value.tuple #[_,.bool ((y:Int)==0)])=_
    have he:((y:Int)==0)=decide (x<2 ^ n):=by
     rw[Bool.eq_iff_iff,beq_iff_eq,decide_eq_true_iff]
     exact HD.out
    rw[he]
    rfl
  | succ q=>
    have e1:((q+1:Nat):Int) - 1=(q:Int):=by omega
    rw[e1]
    clear e1
    have h1:=h4.cellAt q (by omega)
    have h2:=h4.frozenAt q
    rw[List.getElem?_map,List.getElem?_append_left (by rw[List.length_replicate];omega),List.getElem?_replicate,if_pos (by omega)]at h1
    simp[iv]at h1
    have h5:x / 2 ^ (n - (q+1)) / 2=x / 2 ^ (n - q):=by rw[Nat.div_div_eq_div_mul,←Nat.pow_succ,Nat.succ_eq_add_one,show n - (q+1)+1=n - q by omega]
    have ha:=(h4.stored q (.int .i64 (x / 2 ^ (n - (q+1)) % 2:Nat))).1
    have h9:((List.replicate (q+1) 0++ai x (n - (q+1))).map iv).set q (.int .i64 (x / 2 ^ (n - (q+1)) % 2:Nat))=(List.replicate q 0++ai x (n - q)).map iv:=by
     rw[show n - q=n - (q+1)+1 by omega]
     exact Cn q _ x
    rw[h9]at ha
    generalize x / 2 ^ (n - (q+1))=y at*
    have HN:=aa h5
    clear h5 h9
    have h0:((y % 2:Nat):Int)=(y:Int) % 2:=by omega
    rw[h0]at ha
    have HC:=aa h0
    clear h0
    go_wp2
    go_roundw
    case rel=>exact⟨q,by omega,rfl,by rw[← HN.out,Int.natCast_ediv];rfl,ha,hb.setCell (p:=⟨w.heap.size,q,none⟩) (ah _) _⟩
    case measure=>simp[intOf]
theorem fO{w:World}{B:Nat}{v:Value}{l:List UInt8}(h:w.ownsRow B 5 1 v l.length (l.map bv)):(convert 43 9 v).run Tryz.prog w=.ok (.string ⟨l.toArray⟩) w:=by
 rcases h.2 with⟨rfl,h0⟩ | ⟨g,cap,cur,rfl,_⟩
 ·have:l= []:=List.eq_nil_of_length_eq_zero h0
  subst this
  exact run_convert_bytes_nil w 43 5 Tryz.underlying43 Tryz.underlying5 0 0 9 Tryz.underlying9
 ·have hn:∀j (hj:j<l.length),w.cell? ((⟨g,0,none⟩:Addr).add j)=some (.int .u8 (l[j].toNat:Int)):=by
   intro j hj
   have h1:=h.cells (g:=g) rfl j (.int .u8 (l[j].toNat:Int))
   exact h1 (by rw[List.getElem?_map,List.getElem?_eq_getElem hj];rfl)
  exact run_convert_bytes_back w 43 9 5 ⟨g,0,none⟩ cap l Tryz.underlying43 Tryz.underlying5 Tryz.underlying9 hn
theorem kz(w:World)(A:Option Addr)(n c:Nat)(L:List Nat)(h:aw w A n L)(hb:an L)(hn:n≤64):
 Calls Tryz.prog 156 #[.slice A n c] w fun e w'=>e=.returned (.int .u64 (val L))∧w=w':=by
 have HI:=aa h
 clear h
 go_enter Tryz.func156,Tryz.ntmps156
 go_wp2
 go_loop [3,4] (fun v i=>∃j x:Nat,j≤n∧i=.int .i64 j∧v=.int .u64 x∧x=val (L.take j)) (fun _ i=>n - (intOf i).toNat)
 case atStart=>exact⟨0,0,Nat.zero_le _,rfl,rfl,by simp[val]⟩
 case round=>
  obtain⟨j,x,hj,rfl,rfl,hx⟩:=hrel
  by_cases h:j<n
  ·obtain⟨hl,hc⟩:=HI.out
   have HL:=aa hl
   clear hl
   obtain⟨b,off,rfl,h0⟩:=hc (by omega)
   have h1:=h0 j h
   have h2:x<9223372036854775808:=by
    rw[hx]
    refine Nat.lt_of_lt_of_le (eD _ (hb.take j)) (Nat.le_trans (Nat.pow_le_pow_right (by omega) (show(L.take j).length≤63 by rw[List.length_take];omega)) (by decide))
   obtain⟨y,hy⟩:∃y,y=L.getD j 0:=⟨_,rfl⟩
   rw[← hy]at h1
   have h3:y<2:=by
    rw[hy,List.getD_eq_getElem?_getD,List.getElem?_eq_getElem (by rw[HL.out];exact h)]
    exact hb _ (List.getElem_mem _)
   have HX:=aa hx;clear hx
   have HY:=aa hy;clear hy
   clear hc h0
   go_wp2
   go_round
   case rel=>
    refine⟨j+1,2*x+y,h,rfl,?_,?_⟩
    ·congr 1;omega
    ·rw[HX.out,HY.out,List.take_succ_eq_append_getElem (by rw[HL.out];exact h),i9,List.getD_eq_getElem?_getD,List.getElem?_eq_getElem (by rw[HL.out];exact h)]
     rfl
   case measure=>simp[intOf];omega
  ·obtain rfl:j=n:=by omega
   have HX:=aa hx;clear hx
   go_wp2
   go_ret
   refine⟨?_,rfl⟩
   rw[HX.out,List.take_of_length_le (by rw[HI.out.1];exact Nat.le_refl _)]
   rfl
theorem Fs(w:World)(s:ByteArray)(hs:s.size≤1000000):
 Calls Tryz.prog 13 #[.string s] w fun e w'=>∃v,e=.returned v∧w'.ownsRow w.heap.size 3 1 v (8*s.size) ((al s.data.toList).map iv)∧Below w.heap.size w w':=by
 obtain⟨i3,hi,hl,hm,hn⟩:=info_parts Tryz.info3
 go_enter Tryz.func13,Tryz.ntmps13
 go_wp2
 go_loopw [3,4] (fun v i wr=>∃j:Nat,j≤s.size∧i=.int .i64 j∧wr.ownsRow w.heap.size 3 1 v (8*j) ((al (s.data.toList.take j)).map iv)∧Below w.heap.size w wr) (fun _ i _=>s.size - (intOf i).toNat)
 case atStart=>exact⟨0,Nat.zero_le _,rfl,World.ownsRow_nil _ _ _ _,Below.refl _ _⟩
 case round=>
  obtain⟨j,hj,rfl,h4,hb⟩:=hrel
  rename_i v0 _
  have hc:=hb.size
  by_cases h:j<s.size
  ·go_wp2
   obtain⟨wo,ho⟩:∃wo:World,wo=wr:=⟨_,rfl⟩
   have HO:=aa ho
   clear ho
   go_loopw [3,5] (fun v k wx=>∃m r:Nat,m+r=8∧k=.int .i64 ((r:Int) - 1)∧wx.ownsRow w.heap.size 3 1 v (8*j+m) ((al (s.data.toList.take j)++(ai (s[j]).toNat 8).take m).map iv)∧Below w.heap.size w wx) (fun _ k _=>(intOf k+1).toNat)
   case atStart=>exact⟨0,8,rfl,rfl,by simpa using h4,hb⟩
   case round=>
    obtain⟨m,r,h8,rfl,h0,h7⟩:=hrel
    have hh:m≤8:=by omega
    have h5:=h7.size
    match r,h8 with
    | 0,h8=>
      obtain rfl:m=8:=by omega
      have e1:((0:Nat):Int) - 1= -1:=rfl
      rw[e1]
      clear e1
      have h3:=h0
      rw[List.take_of_length_le (show(ai (s[j]).toNat 8).length≤8 by rw[af];exact Nat.le_refl _)]at h3
      have HT:Hid (s.data.toList.take (j+1)=s.data.toList.take j++ [s[j]]):=by
       have hf:j<s.data.toList.length:=by simpa using h
       exact List.take_succ_eq_append_getElem hf
      go_wp2
      go_roundw
      case rel=>
       refine⟨j+1,h,by go_num,?_,h7⟩
       rw[HT.out,kC,eC,pa,List.append_nil]
       exact h3
      case measure=>simp[intOf];omega
    | q+1,h8=>
      have e1:((q+1:Nat):Int) - 1=(q:Int):=by omega
      rw[e1]
      clear e1
      have hq:(q:Int)≤7:=by omega
      obtain⟨xs,h9⟩:∃xs,xs=(al (s.data.toList.take j)++(ai (s[j]).toNat 8).take m).map iv:=⟨_,rfl⟩
      rw[← h9]at h0
      have HX:=aa h9
      clear h9
      have ha:(s[j].toNat:Int)<256:=by have:=s[j].toNat_lt;omega
      go_wp2_with (at_builtin;refine wpList_append_own _ rfl _ _ 36 rfl w.heap.size 3 i3 (.int .i64 0) 1 8 Tryz.underlying36 hi hl hm hn rfl (by decide) _ _ _ rfl (h0.alloc _) ⟨wr.heap.size,0,none⟩ 1 1 [.int .i64 (bits BinOp.and IntKind.i64 (s[j].toNat / 2 ^ q) 1)] rfl rfl ?c1 ?c2 ?c3 ?c4 ?c5 ?_)
      case c1=>exact cell_one_new _ _ _
      case c2=>intro u hu;simp at hu;subst hu;rfl
      case c3=>unfold maxLen;omega
      case c4=>omega
      case c5=>simp;omega
      intro v2 w2 h2 h1 _
      have he:Below w.heap.size w w2:=(h7.alloc h5 _).grown h1 (by simp;omega) (fun k hk=>(h0.lt k hk).1)
      have HE:=I3 _ q s[j].toNat_lt
      rw[HE]at h2
      clear HE
      have h6:w2.ownsRow w.heap.size 3 1 v2 (8*j+(m+1)) ((al (s.data.toList.take j)++(ai (s[j]).toNat 8).take (m+1)).map iv):=by
       have hg:=lY 8 (s[j]).toNat m (by omega)
       rw[List.take_add_one,hg,←List.append_assoc,List.map_append,←HX.out,show 8 - 1 - m=q by omega,←Nat.add_assoc]
       exact h2
      clear h2 h1 h0 h7
      go_wp2
      go_roundw
      case rel=>exact⟨m+1,q,by omega,rfl,h6,he⟩
      case measure=>simp[intOf]
  ·obtain rfl:j=s.size:=by omega
   go_wp2
   go_ret
   refine⟨_,rfl,?_,hb⟩
   rw[List.take_of_length_le (by simp)]at h4
   exact h4
end Go.Proofs.YthakcjehhlpjnaaGreat
