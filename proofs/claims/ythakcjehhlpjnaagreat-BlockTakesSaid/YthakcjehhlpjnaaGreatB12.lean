import Derived.Test.YthakcjehhlpjnaaGreatB11
set_option maxHeartbeats 3200000
set_option maxRecDepth 100000
namespace Go.Proofs.YthakcjehhlpjnaaGreat
open Go.RowKit
def Pre(b c:List Nat):Prop:=b.length≤c.length∧c.take b.length=b
theorem uw{l:List Nat}{i:Nat}(hi:i<l.length){b:List Nat}(hb:an b)(h:eu l):Pre b (bf l i)↔jZ l b.length (val b) i:=by
 have h0:=ct l i
 have hc:=pH l i
 have hv:val (bf l i)=cP l i:=by rw[bf,cV,Nat.mod_eq_of_lt (nM h hi)]
 have key:b.length≤l.getD i 0→val ((bf l i).take b.length)=cP l i / 2 ^ (l.getD i 0 - b.length):=by
  intro h3
  have:=qt (bf l i) hc (k:=b.length) (n:=l.getD i 0) h3 (by rw[h0];exact Nat.le_refl _)
  rw[List.take_of_length_le (by rw[h0];exact Nat.le_refl _),hv]at this
  exact this.symm
 constructor
 ·rintro⟨h1,h2⟩
  rw[h0]at h1
  refine⟨hi,h1,?_⟩
  rw[← key h1,h2]
 ·rintro⟨_,h1,h2⟩
  refine⟨by rw[h0];exact h1,?_⟩
  have e1:=eQ b hb
  have e2:=eQ ((bf l i).take b.length) (hc.take _)
  rw[List.length_take,h0,Nat.min_eq_left h1,key h1,h2,e1]at e2
  exact e2.symm
theorem Bu{l:List Nat}{i:Nat}(hi:i<l.length){b:List Nat}(hb:an b)(h:eu l):bf l i=b↔Is l b.length (val b) i:=by
 have h0:=ct l i
 have hv:val (bf l i)=cP l i:=by rw[bf,cV,Nat.mod_eq_of_lt (nM h hi)]
 constructor
 ·intro e
  refine⟨hi,by rw[← e,h0],by rw[← e,hv]⟩
 ·rintro⟨_,h1,h2⟩
  have e1:=eQ b hb
  rw[← h1,←h2]at e1
  exact e1
theorem Jo{b c:List Nat}{q:Nat}(hq:q<b.length)(h1:b.length≤c.length)(h:c.take q=b.take q)(he:c.getD q 0=b.getD q 0):c.take (q+1)=b.take (q+1):=by
 rw[List.take_succ_eq_append_getElem hq,List.take_succ_eq_append_getElem (by omega:q<c.length),h]
 rw[List.getD_eq_getElem?_getD,List.getD_eq_getElem?_getD,List.getElem?_eq_getElem hq,List.getElem?_eq_getElem (by omega)]at he
 have h0:c[q]=b[q]:=he
 rw[h0]
theorem H9{b c:List Nat}{q:Nat}(hq:q<b.length)(he:c.getD q 0≠b.getD q 0):¬Pre b c:=by
 rintro⟨h1,h2⟩
 apply he
 rw[← h2,List.getD_eq_getElem?_getD,List.getD_eq_getElem?_getD,List.getElem?_take,if_pos hq]
def Ar:Value→Nat
 | .bool true=>1
 | _=>0
def Iy(w:World)(n:Nat)(C:Nat→List Nat)(b:List Nat)(e:Ending)(w':World):Prop:=
 ∃(k:Nat) (is:Int),e=.returned (.tuple #[.int .i64 k,.int .i64 is])∧k≤n∧(k=0↔∀j,j<n→¬Pre b (C j))∧((is= -1∧∀j,j<n→C j≠b)∨∃j:Nat,j<n∧is=j∧C j=b)∧∃m,w'=w.drewN m
theorem Bk{C:Nat→List Nat}{b:List Nat}{i k:Nat}(h:k=0↔∀j,j<i→¬Pre b (C j))(hn:¬Pre b (C i)):k=0↔∀j,j<i+1→¬Pre b (C j):=by
 rw[h]
 constructor
 ·intro h2 j hj
  by_cases e:j=i
  ·rw[e];exact hn
  ·exact h2 j (by omega)
 ·intro h2 j hj
  exact h2 j (by omega)
theorem BM{C:Nat→List Nat}{b:List Nat}{i k:Nat}(hn:Pre b (C i)):k+1=0↔∀j,j<i+1→¬Pre b (C j):=by
 constructor
 ·intro h;omega
 ·intro h2
  exact absurd hn (h2 i (by omega))
theorem zi(w:World)(g n:Nat)(C:Nat→List Nat)(hT:qV w g n C)(hn:n≤258)(B:Option Addr)(m c:Nat)(b:List Nat)(hb:aw w B m b)(hm:m≤20)(h1:1≤m)(hC:∀j,j<n→(C j).length≤20):Calls Tryz.prog 159 #[.slice (some ⟨g,0,none⟩) n n,.slice B m c] w (Iy w n C b):=by
 have HT:=aa hT
 have hv:=hb.1
 have h5:=aa hv
 obtain⟨bb,ob,rfl,hu⟩:=hb.2 (by omega)
 have hB:=aa hu
 have hD:=aa hC
 clear hT hb hv hu hC
 go_enter Tryz.func159,Tryz.ntmps159
 go_wp2_with fail
 go_loopw [6,7,8] (fun cnt isv iv' wx=>∃(i k:Nat) (is:Int),i≤n∧k≤i∧iv'=.int .i64 i∧cnt=.int .i64 k∧isv=.int .i64 is∧Hid (k=0↔∀j,j<i→¬Pre b (C j))∧Hid ((is= -1∧∀j,j<i→C j≠b)∨∃j:Nat,j<i∧is=j∧C j=b)∧∃d,wx=w.drewN d) (fun _ _ iv' _=>n - (intOf iv').toNat)
 case atStart=>exact⟨0,0,-1,Nat.zero_le _,Nat.le_refl _,rfl,rfl,rfl,aa (by simp),aa (.inl ⟨rfl,by simp⟩),0,rfl⟩
 case round=>
  obtain⟨i,k,is,hi,hk,rfl,rfl,rfl,h9,hl,hd⟩:=hrel
  have HD:=aa hd
  by_cases e:i<n
  ·have d0:decide ((i:Int)<(n:Int))=true:=ar (by omega)
   obtain⟨A5,k5,hh,hp,hJ⟩:=HT.out i e
   have hI:=hD.out i e
   obtain⟨s5,hs⟩:∃s5,s5=(C i).length:=⟨_,rfl⟩
   rw[← hs]at hh hp hJ hI
   have he:=aa hs
   have hf:∀d,(w.drewN d).cell? ⟨g,i,none⟩=some (.slice A5 s5 k5):=fun d=>hh
   have h8:wr.cell? ⟨g,i,none⟩=some (.slice A5 s5 k5):=by
    obtain⟨d,rfl⟩:=hd
    exact hh
   have hF:=aa hp
   have ht:=aa hf
   clear hs hp hh hd hf
   by_cases el:m≤s5
   ·have d1:decide ((m:Int)≤(s5:Int))=true:=ar (by omega)
    go_wp2_with fail
    go_loopw [9,10] (fun sv qv wx=>∃(q:Nat) (s:Bool),q≤m∧qv=.int .i64 q∧sv=.bool s∧Hid (s=true→(C i).take q=b.take q)∧Hid (s=false→¬Pre b (C i))∧∃d,wx=w.drewN d) (fun sv qv _=>Ar sv*(m+1 - (intOf qv).toNat))
    case atStart=>exact⟨0,true,Nat.zero_le _,rfl,rfl,aa (by simp),aa (by simp),HD.out⟩
    case round=>
     rename World=>wi
     obtain⟨q,s,hq,rfl,rfl,ho,hr,hd⟩:=hrel
     have ha:=aa hd
     cases s with
     | true=>
       by_cases eq:q<m
       ·have d2:decide ((q:Int)<(m:Int))=true:=ar (by omega)
        obtain⟨b5,o5,rfl,h0⟩:=hF.out.2 (by omega)
        have x1:wi.cell? ⟨b5,o5+q,none⟩=some (.int .i64 ((C i).getD q 0:Nat)):=by
         obtain⟨d,rfl⟩:=hd
         exact h0 q (by omega)
        have x2:wi.cell? ⟨bb,ob+q,none⟩=some (.int .i64 (b.getD q 0:Nat)):=by
         obtain⟨d,rfl⟩:=hd
         exact hB.out q eq
        have x3:wi.cell? ⟨g,i,none⟩=some (.slice (some ⟨b5,o5,none⟩) s5 k5):=by
         obtain⟨d,rfl⟩:=hd
         exact ht.out d
        obtain⟨x,hx⟩:∃x,x=(C i).getD q 0:=⟨_,rfl⟩
        obtain⟨y,hy⟩:∃y,y=b.getD q 0:=⟨_,rfl⟩
        rw[← hx]at x1
        rw[← hy]at x2
        have HX:=aa hx
        have HY:=aa hy
        have hK:q<s5:=by omega
        clear hd h0 hx hy h8
        by_cases exy:x=y
        ·have d3:((x:Int)==(y:Int))=true:=by rw[exy];exact beq_self_eq_true _
         have h4:(C i).take (q+1)=b.take (q+1):=Jo (by rw[h5.out];exact eq) (by rw[h5.out,←he.out];exact el) (ho.out rfl) (by rw[← HX.out,←HY.out,exy])
         have h6:=aa h4
         clear h4 exy
         go_wp2_with fail
         go_quiet (fail)
         go_wp2_with fail
         go_roundw
         case rel=>
          obtain⟨d,hd⟩:=ha.out
          exact⟨q+1,true,by omega,by go_num,rfl,aa fun _=>h6.out,aa (by simp),d+nq,by rw[hd];simp⟩
         case measure=>simp[intOf,Ar];omega
        ·have d3:((x:Int)==(y:Int))=false:=by
          rw[beq_eq_false_iff_ne]
          omega
         have h4:¬Pre b (C i):=H9 (q:=q) (by rw[h5.out];exact eq) (by rw[← HX.out,←HY.out];exact exy)
         have h6:=aa h4
         clear h4 exy
         go_wp2_with fail
         go_quiet (fail)
         go_wp2_with fail
         go_roundw
         case rel=>
          obtain⟨d,hd⟩:=ha.out
          exact⟨q+1,false,by omega,by go_num,rfl,aa (by simp),aa fun _=>h6.out,d+nq,by rw[hd];simp⟩
         case measure=>simp[intOf,Ar];omega
       ·obtain rfl:q=m:=by omega
        have d2:decide ((q:Int)<(q:Int))=false:=ao (by omega)
        have hg:Pre b (C i):=by
         have h:=ho.out rfl
         refine⟨by rw[h5.out,←he.out];exact el,?_⟩
         rw[h5.out,h,List.take_of_length_le (Nat.le_of_eq h5.out)]
        have h7:=aa hg
        have hH:wi.cell? ⟨g,i,none⟩=some (.slice A5 s5 k5):=by
         obtain⟨d,rfl⟩:=hd
         exact ht.out d
        clear hd hg ho hr h8
        by_cases es:s5=q
        ·have d3:((s5:Int)==(q:Int))=true:=by rw[es];exact beq_self_eq_true _
         have hw:C i=b:=by
          have h:=h7.out.2
          rw[h5.out,List.take_of_length_le (by rw[← he.out,es];exact Nat.le_refl _)]at h
          exact h
         have hE:=aa hw
         clear hw es
         go_wp2_with fail
         go_roundw
         case rel=>exact⟨i+1,k+1,(i:Int),by omega,by omega,by go_num,by go_num,rfl,aa (BM h7.out),aa (.inr ⟨i,by omega,rfl,hE.out⟩),ha.out⟩
         case measure=>simp[intOf];omega
        ·have d3:((s5:Int)==(q:Int))=false:=by
          rw[beq_eq_false_iff_ne]
          omega
         have hz:C i≠b:=by
          intro h
          apply es
          rw[he.out,h,h5.out]
         have hG:=aa hz
         clear hz es
         go_wp2_with fail
         go_roundw
         case rel=>
          refine⟨i+1,k+1,is,by omega,by omega,by go_num,by go_num,rfl,aa (BM h7.out),aa ?_,ha.out⟩
          rcases hl.out with⟨h1,h2⟩ | ⟨j,h1,h2,h3⟩
          ·refine .inl ⟨h1,fun j hj=> ?_⟩
           by_cases ej:j=i
           ·rw[ej];exact hG.out
           ·exact h2 j (by omega)
          ·exact .inr ⟨j,by omega,h2,h3⟩
         case measure=>simp[intOf];omega
     | false=>
       have hc:=aa (hr.out rfl)
       clear hd ho hr h8
       go_wp2_with fail
       go_roundw
       case rel=>
        refine⟨i+1,k,is,by omega,by omega,by go_num,rfl,rfl,aa (Bk h9.out hc.out),aa ?_,ha.out⟩
        rcases hl.out with⟨h1,h2⟩ | ⟨j,h1,h2,h3⟩
        ·refine .inl ⟨h1,fun j hj=> ?_⟩
         by_cases ej:j=i
         ·rw[ej]
          intro h
          exact hc.out ⟨by rw[h];exact Nat.le_refl _,by rw[h,List.take_length]⟩
         ·exact h2 j (by omega)
        ·exact .inr ⟨j,by omega,h2,h3⟩
       case measure=>simp[intOf];omega
   ·have d1:decide ((m:Int)≤(s5:Int))=false:=ao (by omega)
    have hA:¬Pre b (C i):=by
     rintro⟨h,_⟩
     rw[h5.out,←he.out]at h
     exact el h
    have hc:=aa hA
    clear hA
    go_wp2_with fail
    go_loopw [9,10] (fun sv qv wx=>sv=.bool false∧wx=wr) (fun _ _ _=>0)
    case atStart=>exact⟨rfl,rfl⟩
    case round=>
     obtain⟨rfl,rfl⟩:=hrel
     go_wp2_with fail
     go_roundw
     case rel=>
      refine⟨i+1,k,is,by omega,by omega,by go_num,rfl,rfl,aa (Bk h9.out hc.out),aa ?_,HD.out⟩
      rcases hl.out with⟨h1,h2⟩ | ⟨j,h1,h2,h3⟩
      ·refine .inl ⟨h1,fun j hj=> ?_⟩
       by_cases ej:j=i
       ·rw[ej]
        intro h
        exact hc.out ⟨by rw[h];exact Nat.le_refl _,by rw[h,List.take_length]⟩
       ·exact h2 j (by omega)
      ·exact .inr ⟨j,by omega,h2,h3⟩
     case measure=>simp[intOf];omega
  ·obtain rfl:i=n:=by omega
   have d0:decide ((i:Int)<(i:Int))=false:=ao (by omega)
   clear hd
   go_wp2_with fail
   go_ret2
   exact⟨k,is,rfl,hk,h9.out,hl.out,HD.out⟩
def pe(l:List Nat)(at':Nat):Nx→Nat×Nat×Nat
 | .hit i=>(i,at'+l.getD i 0,0)
 | .short=>(0,0,10)
 | .code=>(0,0,90)
def sN(w:World)(a:Nat×Nat×Nat)(e:Ending)(w':World):Prop:=e=.returned (.tuple #[.int .i64 a.1,.int .i64 a.2.1,.int .i64 a.2.2])∧∃d,w'=w.drewN d
theorem ph{l bs:List Nat}{q k:Nat}(h:bs.length<q):fG l bs (k+1) q=.short:=by
 rw[fG,if_pos h]
theorem wX{l bs:List Nat}{q k i:Nat}(h:¬bs.length<q)(hi:kZ l q (val (bs.take q))=some i):fG l bs (k+1) q=.hit i:=by
 rw[fG,if_neg h,hi]
theorem mD{l bs:List Nat}{q k:Nat}(h:¬bs.length<q)(hi:kZ l q (val (bs.take q))=none):fG l bs (k+1) q=if val (bs.take q)*pw q<jD l then fG l bs k (q+1)else .code:=by
 rw[fG,if_neg h,hi]
theorem Hn{w:World}{b off m k a:Nat}{L:List Nat}(h:aw w (some ⟨b,off,none⟩) m L)(h0:a+k≤m)(n:Nat)(hn:n=k):aw w (some ⟨b,off+a,none⟩) n ((L.drop a).take k):=by
 subst hn
 have:=h.cut (a:=a) (k:=n) h0
 simp only[Option.map_some,Addr.add_lit]at this
 exact this
theorem r5(w:World)(g n:Nat)(l:List Nat)(hT:qV w g n (bf l))(hf:eu l)(hD:l.length=n)(hn:n≤258)(B:Option Addr)(m c:Nat)(bits:List Nat)(hb:aw w B m bits)(H2:m≤c)(hm:m≤1000000)(_hc:c≤maxLen)(hI:an bits)(at':Nat)(H0:at'≤m):
 Calls Tryz.prog 99 #[.slice (some ⟨g,0,none⟩) n n,.slice B m c,.int .i64 at'] w (sN w (pe l at' (fg l (bits.drop at')))):=by
 have HT:=aa hT
 have HF:=aa hf
 have hv:=aa hD
 have hG:=aa hb
 obtain⟨bs,hl⟩:∃bs,bs=bits.drop at':=⟨_,rfl⟩
 have ho:bs.length=m - at':=by rw[hl,List.length_drop,hb.1]
 have hg:=aa ho
 have hh:an bs:=by rw[hl];exact hI.drop _
 have h5:=aa hh
 have hQ:=aa hl
 have hR:Hid (∀ j,j<n→(bf l j).length≤20):=aa fun j hj=>by
  rw[ct]
  exact(hf.one (by rw[hD];exact hj)).2
 have hz:=aa zi
 have HP:Hid (∀ (x:Nx) (d:Nat),fg l bs=x→sN w (pe l at' (fg l bs)) (.returned (.tuple #[.int .i64 (pe l at' x).1,.int .i64 (pe l at' x).2.1,.int .i64 (pe l at' x).2.2])) (w.drewN d)):=aa fun x d h=>⟨by rw[h],d,rfl⟩
 rw[← hl]
 clear hT hf hD hb hl ho hI hh
 generalize sN w (pe l at' (fg l bs))=PO at*
 go_enter Tryz.func99,Tryz.ntmps99
 go_wp2_with fail
 go_loopw [9] (fun nv wx=>∃q:Nat,1≤q∧q≤21∧nv=.int .i64 q∧Hid (sj l bs q)∧Hid (fg l bs=fG l bs (21 - q) q)∧∃d,wx=w.drewN d) (fun nv _=>22 - (intOf nv).toNat)
 case atStart=>exact⟨1,Nat.le_refl _,by omega,rfl,aa (fun k h1 h2=>by omega),aa rfl,0,rfl⟩
 case round=>
  obtain⟨q,HA,HB,rfl,h3,hs,hd⟩:=hrel
  have HD:=aa hd
  by_cases e:q≤20
  ·have d0:decide ((q:Int)≤20)=true:=ar (by omega)
   have h4:=hs.out
   rw[show 21 - q=(20 - q)+1 by omega]at h4
   obtain⟨p,hp⟩:∃p,p=at'+q:=⟨_,rfl⟩
   have H8:(at':Int)+(q:Int)=(p:Int):=by omega
   have H3:p≤1000020:=by omega
   by_cases es:m<p
   ·have d1:decide ((m:Int)<(p:Int))=true:=ar (by omega)
    rw[ph (by rw[hg.out];omega)]at h4
    obtain⟨d,rfl⟩:=hd
    have h6:=aa (HP.out _ d h4)
    clear h4 hs h3 hp
    go_wp2_with fail
    first | exact h6.out | (go_ret3;exact h6.out)
   ·have d1:decide ((m:Int)<(p:Int))=false:=ao (by omega)
    have hr:¬bs.length<q:=by rw[hg.out];omega
    obtain⟨b,off,rfl,he⟩:=hG.out.2 (by omega)
    have H1:¬c=at':=by omega
    have HC:at'<p:=by omega
    have H5:p≤m:=by omega
    have H4:p≤c:=by omega
    have htl:(bs.take q).length=q:=by rw[List.length_take];omega
    have hw:=aa htl
    have hc:=aa hr
    have hH:=aa h4
    have hC:=aa hp
    have hP:=aa fun(wi:World) (hO:∃d,wi=w.drewN d) (k c':Nat) (hk:k=q)=>hz.out wi g n (bf l) (by
     obtain⟨d,rfl⟩:=hO
     exact HT.out) hn (some ⟨b,off+at',none⟩) k c' (bs.take q) (by
     obtain⟨d,rfl⟩:=hO
     have h:=Hn hG.out (a:=at') (k:=q) (by have:=hC.out;omega) k hk
     rw[← hQ.out]at h
     exact h) (by omega) (by omega) hR.out
    have hV:(at':Int)≤(p:Int):=by omega
    have hZ:(p:Int)≤(c:Int):=by omega
    clear he hd hr htl h4 hs hp
    go_wp2_with fail
    refine(hP.out wr HD.out _ _ (by have:=hC.out;omega)).mono ?_
    rintro e w3 ⟨k,is,rfl,hk,hq,h8,hJ⟩
    have hK:∃d,w3=w.drewN d:=by
     obtain⟨d,rfl⟩:=hJ
     obtain⟨d2,hW⟩:=HD.out
     exact⟨d2+d,by rw[hW];simp⟩
    have hA:=aa hK
    clear hJ hK
    rcases h8 with⟨rfl,h7⟩ | ⟨j,hj,rfl,ha⟩
    ·have h9:kZ l q (val (bs.take q))=none:=by
      cases hx:kZ l q (val (bs.take q))with
      | none=>rfl
      | some j=>
        have h8:=jb hx
        exfalso
        have hY:j<n:=by have:=h8.1;rw[hv.out]at this;exact this
        refine h7 j hY ((Bu h8.1 (h5.out.take q) HF.out).2 ?_)
        rw[hw.out]
        exact h8
     have h0:=hH.out
     rw[mD hc.out h9]at h0
     have hy:=lj HF.out h5.out (n:=q) (by have:=hc.out;omega) e h3.out
     by_cases ek:k=0
     ·have hL:¬∃i,jZ l q (val (bs.take q)) i:=by
       rintro⟨i,hi⟩
       have hX:i<n:=by have:=hi.1;rw[hv.out]at this;exact this
       refine hq.1 ek i hX ((uw hi.1 (h5.out.take q) HF.out).2 ?_)
       rw[hw.out]
       exact hi
      rw[if_neg (fun h=>hL (hy.2 h))]at h0
      have d2:((k:Int)==0)=true:=by rw[ek];rfl
      obtain⟨d,rfl⟩:=hA.out
      have h6:=aa (HP.out _ d h0)
      clear h0 hy hL hq ek h7 h9
      go_wp2_with fail
      first | exact h6.out | (go_ret3;exact h6.out)
     ·have hu:∃i,jZ l q (val (bs.take q)) i:=by
       rcases Classical.em (∃ i,jZ l q (val (bs.take q)) i)with h | h
       ·exact h
       ·exfalso
        apply ek
        rw[hq]
        intro j hj hF
        refine h ⟨j,?_⟩
        have:=(uw (l:=l) (i:=j) (by rw[hv.out];exact hj) (h5.out.take q) HF.out).1 hF
        rw[hw.out]at this
        exact this
      rw[if_pos (hy.1 hu)]at h0
      have d2:((k:Int)==0)=false:=by
       rw[beq_eq_false_iff_ne]
       omega
      have hN:=h3.out.up h9
      have hS:=aa hN
      have hB:=aa h0
      clear h0 hy hu hq ek h7 h9 hN
      go_wp2_with fail
      go_roundw
      case rel=>exact⟨q+1,by omega,by omega,by go_num,hS,aa (by rw[hB.out,show 21 - (q+1)=20 - q by omega]),hA.out⟩
      case measure=>simp[intOf];omega
    ·have h8:=(Bu (l:=l) (i:=j) (by rw[hv.out];exact hj) (h5.out.take q) HF.out).1 ha
     rw[hw.out]at h8
     have h0:=hH.out
     rw[wX hc.out (oy HF.out h8)]at h0
     obtain⟨d,rfl⟩:=hA.out
     have hE:=HP.out _ d h0
     have hM:(pe l at' (.hit j)).2.1=p:=by
      show at'+l.getD j 0=p
      rw[h8.2.1,hC.out]
     rw[hM]at hE
     have ht:PO (.returned (.tuple #[.int .i64 (j:Nat),.int .i64 (p:Nat),.int .i64 0])) (w.drewN d):=hE
     have h6:=aa ht
     clear h0 h8 ha hq hE ht hM
     go_wp2_with fail
     first | exact h6.out | (go_ret3;exact h6.out)
  ·obtain rfl:q=21:=by omega
   have h4:fg l bs=.code:=hs.out
   obtain⟨d,rfl⟩:=hd
   have h6:=aa (HP.out _ d h4)
   clear h4 hs h3
   go_wp2_with fail
   first | exact h6.out | (go_ret3;exact h6.out)
theorem sI{l:List Nat}(h:eu l){i:Nat}(hi:i<l.length):cP l i<1048576:=by
 have h1:=nM h hi
 have h2:=(h.one hi).2
 have h3:2 ^ l.getD i 0≤2 ^ 20:=Nat.pow_le_pow_right (by decide) h2
 have h4:(2:Nat) ^ 20=1048576:=by decide
 omega
theorem oj(l bs:List Nat)(en:Int)(k a:Nat)(o:List Nat):fQ l bs en (k+1) a o=match fg l (bs.drop a)with
 | .hit i=>if(i:Int)=en then(o++ [i],a+l.getD i 0,0)else fQ l bs en k (a+l.getD i 0) (o++ [i])
 | .short=>([],0,10)
 | .code=>([],0,90):=rfl
end Go.Proofs.YthakcjehhlpjnaaGreat
