import Derived.Test.YthakcjehhlpjnaaGreatB14
import Derived.Test.YthakcjehhlpjnaaGreatB12
set_option maxHeartbeats 6400000
set_option maxRecDepth 100000
namespace Go.Proofs.YthakcjehhlpjnaaGreat
open Go.RowKit
theorem Dx(w:World)(v:Value)(T:List (List Int))(P:List Int)(h:aN w v T P)(A':Option Addr)(m' c':Nat)(bits:List Nat)(a0:Nat)(H2:aw w A' m' bits)(HO:m'≤c')(s4:m'≤1000000)(pj:c'≤maxLen)(pb:an bits)(rM:a0≤m')(hM:aR T P):
 Calls Tryz.prog 39 #[v,.slice A' m' c',.int .i64 a0] w (aH w (eK T P bits a0)):=by
 have q5:=h
 obtain⟨A,n,c,B,m,d,rfl,hT,sm,hn,hP,s7,hm⟩:=h
 have HK:=hT.1
 have HJ:=hP.1
 obtain⟨w1,hW⟩:∃w1,w1=w.alloc (.cells #[.slice A n c,.slice B m d] 52):=⟨_,rfl⟩
 have H4:Blk w1 w.heap.size 52 #[.slice A n c,.slice B m d]:=ee hW
 have hD:Below w.heap.size w w1:=bR hW
 have H8:w.heap.size<w1.heap.size:=ay H4
 have q0:w1.cell? ⟨w.heap.size,0,none⟩=some (.slice A n c):=(ac H4 0).trans rfl
 have q1:w1.cell? ⟨w.heap.size,1,none⟩=some (.slice B m d):=(ac H4 1).trans rfl
 have HQ:Hid (∀ wx,Below w1.heap.size w1 wx→wx.cell? ⟨w.heap.size,0,none⟩=some (.slice A n c)∧wx.cell? ⟨w.heap.size,1,none⟩=some (.slice B m d)):=aa fun wx h=>
  ⟨(h.cell (p:=⟨w.heap.size,0,none⟩) H8).trans q0,(h.cell (p:=⟨w.heap.size,1,none⟩) H8).trans q1⟩
 have hA:=aa (yG w1 _ T P (q5.below hD))
 rw[show decide (aR T P)=true from decide_eq_true hM]at hA
 obtain⟨n0,hO⟩:∃n0,n0=(T.getD 0 []).length:=⟨_,rfl⟩
 obtain⟨pn,H3⟩:∃pn,pn=nl P:=⟨_,rfl⟩
 have s8:=hM
 obtain⟨sa,sl,s5,s6,hI,H0,HP⟩:=s8
 rw[HK]at sa sl H0
 rw[HJ]at s5 s6
 rw[← hO]at hI HP
 have hQ:=(hI _ (ii (T:=T) (q:=0) (by omega))).2
 have HR:n0≤258:=by rw[hO];exact hQ.2.1
 have hE:aw w1 B m pn:=by rw[H3];exact eA (hP.below hD) fun x hx=>(H0 x hx).1
 have hR:∀x∈pn,x<n:=by
  intro x hx
  rw[H3]at hx
  obtain⟨y,hy,rfl⟩:=List.mem_map.1 hx
  have:=H0 y hy
  omega
 have h8:eK T P bits a0=kA (T.map nl) pn bits n0 (50*m) 0 a0 []:=by
  rw[eK,if_pos hM,if_neg (by rw[H2.1];omega),←hO,←H3,HJ,Int.toNat_natCast]
 have hY:Hid (∀ (v:Value) (a:List Nat×Nat×Nat) w',eK T P bits a0=a→w'.ownsRow w1.heap.size 3 1 v a.1.length (a.1.map iv)→Below w1.heap.size w1 w'→aH w (eK T P bits a0) (.returned (.tuple #[v,.int .i64 a.2.1,.int .i64 a.2.2])) w'):=aa fun v a w' h1 h2 h3=>by
  rw[h1]
  exact⟨v,rfl,World.ownsRow.mono h2 (Nat.le_of_lt H8),hD.trans (h3.mono (Nat.le_of_lt H8))⟩
 have HT:=aa (hT.below hD)
 have ql:=aa (bF H2 hD)
 have HC:=aa H2.1
 have q8:=aa pb
 have qs:=aa hE
 have r2:=aa hR
 have rs:=aa hI
 have r7:=aa HK
 have r3:Hid (pn.length=m):=aa hE.1
 have r1:=aa hO
 have HZ:Hid (∀ t,t<n→eu ((T.map nl).getD t [])∧((T.map nl).getD t []).length=n0∧(T.map nl).getD t []=nl (T.getD t [])):=aa fun t ht=>by
  have h1:=hI _ (ii (T:=T) (q:=t) (by omega))
  have h2:(T.map nl).getD t []=nl (T.getD t []):=by
   rw[List.getD_eq_getElem?_getD,List.getElem?_map,List.getD_eq_getElem?_getD,List.getElem?_eq_getElem (by omega)]
   rfl
  rw[h2,bz]
  exact⟨fq h1.2,h1.1,rfl⟩
 generalize aH w (eK T P bits a0)=PO at*
 generalize eK T P bits a0=ans at*
 have hF:=aa h8
 have d0:decide ((a0:Int)<0)=false:=ao (by omega)
 have d1:decide ((m':Int)<(a0:Int))=false:=ao (by omega)
 have dn:decide (m'<a0)=false:=ao (by omega)
 have qo:=aa pj
 obtain⟨i3,h3,sx,HW,sT⟩:=info_parts Tryz.info3
 rw[hW]at q0 q1
 clear hT hP H2 HK HJ hE q5 hR hI H0 H3 h8 hM sm hn s7 hm H4 hD hQ hO pb pj
 go_enter Tryz.func39,Tryz.ntmps39
 go_wp2_with fail
 rw[← hW]
 clear hW q0 q1
 refine hA.out.mono ?_
 rintro e w2 ⟨rfl,pf⟩
 have HY:=aa pf
 clear pf hA
 go_wp2_with fail
 clear d0 d1 dn
 go_loopw [9,10] (fun tv iv' wx=>∃(t:Nat) (G:Nat→Nat),t≤n∧iv'=.int .i64 t∧vK w1 wx tv t n0 G fun j=>bf ((T.map nl).getD j [])) (fun _ iv' _=>n - (intOf iv').toNat)
 case atStart=>exact⟨0,fun _=>0,Nat.zero_le _,rfl,vK.nil _ _ _ _ _ HY.out⟩
 case round=>
  clear HY
  obtain⟨t,G,ht,rfl,hz⟩:=hrel
  have p5:=aa hz
  obtain⟨p0,p1⟩:=HQ.out _ hz.below
  obtain⟨A5,c5,rfl,_,_,_⟩:=aj hz.row
  by_cases et:t<n
  ·have d1:decide ((t:Int)<(n:Int))=true:=ar (by omega)
   have sv:(0:Int)≤(t:Int):=by omega
   have tl:(t:Int)<(n:Int):=by omega
   obtain⟨b,off,rfl,hc⟩:=(HT.out.below hz.below).2 (by omega)
   obtain⟨A2,c2,h1,h2,HH,h4⟩:=hc t et
   have hi:=HZ.out t et
   have H5:=rs.out _ (ii (T:=T) (q:=t) (by rw[r7.out];exact et))
   obtain⟨K,hK⟩:∃K,K=T.getD t []:=⟨_,rfl⟩
   rw[← hK]at h1 h2 HH h4 hi H5
   rw[H5.1]at h1 h2 HH h4
   have rb:=aa (En _ A2 n0 c2 K h2 H5.2)
   have HD:Hid (bf ((T.map nl).getD t [])=bf (nl K)):=aa (by rw[hi.2.2])
   clear hz hc h2 HH h4 hi H5 hK
   go_wp2_with fail
   refine rb.out.mono ?_
   rintro e w5 ⟨g,rfl,hg,pg⟩
   obtain⟨A6,c6,w6,q7,hV⟩:=p5.out.push hg pg (by omega) HD.out
   have r6:=aa q7
   have HG:=aa hV
   clear hg pg q7 hV
   go_wp2_with (at_builtin;refine Lib.wpList_append_run _ rfl (.tmp 34) (.tmp 41) 142 142 rfl (.slice A5 t c5) (.slice (some ⟨w5.heap.size,0,none⟩) 1 1) rfl rfl _ _ r6.out ?_)
   go_roundw
   case rel=>exact⟨t+1,_,by omega,by go_num,HG.out⟩
   case measure=>simp[intOf];omega
  ·obtain rfl:t=n:=by omega
   have d1:decide ((t:Int)<(t:Int))=false:=ao (by omega)
   rename World=>w6
   obtain⟨bv,cv,hv,ha⟩:=hz.read (by omega)
   simp only[Value.slice.injEq]at hv
   obtain⟨rfl,_,rfl⟩:=hv
   have HB:=aa hz.below
   have qm:Hid (∀ wx,Below w6.heap.size w6 wx→∀j,j<t→∃g,wx.cell? ⟨bv,j,none⟩=some (.slice (some ⟨g,0,none⟩) n0 n0)∧qV wx g n0 (bf ((T.map nl).getD j []))):=aa fun wx hb j hj=>by
    obtain⟨g,h1,h2⟩:=ha j hj
    exact⟨g,(hb.cell (p:=⟨bv,j,none⟩) (World.block_lt_of_cell? w6 _ h1)).trans h1,h2.below hb⟩
   obtain⟨M,HI⟩:∃M,M=50*m:=⟨_,rfl⟩
   have t2:(50:Int)*(m:Int)=(M:Int):=by omega
   have t3:M≤1638350:=by omega
   have r0:=aa HI
   have h8:=hF.out
   rw[← HI]at h8
   have hG:=aa h8
   clear hz p5 ha HI h8 hF
   go_wp2_with fail
   go_loopw [2,11,12] (fun av ov iv' wx=>∃(q a:Nat) (o:List Nat),q≤M∧iv'=.int .i64 q∧av=.int .i64 a∧a≤m'∧o.length≤a∧Hid (ans=kA (T.map nl) pn bits n0 (M - q) q a o)∧wx.ownsRow w6.heap.size 3 1 ov o.length (o.map iv)∧Below w6.heap.size w6 wx) (fun _ _ iv' _=>M - (intOf iv').toNat)
   case atStart=>exact⟨0,a0, [],Nat.zero_le _,rfl,rfl,rM,Nat.zero_le _,hG,World.ownsRow_nil _ _ _ _,Below.refl _ _⟩
   case round=>
    clear p0 p1
    rename World=>wy
    obtain⟨q,a,o,hq,rfl,rfl,rO,so,hs,hh,hJ⟩:=hrel
    have hr:=ap HB.out hJ
    obtain⟨p0,p1⟩:=HQ.out _ hr
    have t1:=hJ.size
    obtain⟨A8,c8,rfl,_,_,_⟩:=aj hh
    obtain⟨N,hN⟩:∃N,N=o.length:=⟨_,rfl⟩
    rw[← hN]at hh so ⊢
    have hB:=aa hh
    have HE:=aa hJ
    have h6:=aa hr
    have HN:=aa hN
    by_cases e:q<M
    ·have d0:decide ((q:Int)<(M:Int))=true:=ar (by omega)
     have st:(0:Int)≤(q:Int):=by omega
     obtain⟨k,hk⟩:∃k,k=q / 50:=⟨_,rfl⟩
     have pM:(q:Int) / 50=(k:Int):=by omega
     have s1:(q:Int).tdiv 50=(k:Int):=by rw[Int.tdiv_eq_ediv_of_nonneg st];exact pM
     have pv:IntKind.i64.wrap (k:Int)=(k:Int):=by rw[IntKind.wrap_i64];omega
     have s2:IntKind.i64.wrap ((q:Int).tdiv 50)=(k:Int):=by rw[s1,pv]
     have s3:IntKind.i64.wrap ((q:Int) / 50)=(k:Int):=by rw[pM,pv]
     have ps:k<m:=by have:=r0.out;omega
     have t5:(0:Int)≤(k:Int):=by omega
     have s0:(k:Int)<(m:Int):=by omega
     obtain⟨bp,op,rfl,po⟩:=(bF qs.out h6.out).2 (by omega)
     have hL:=po k ps
     have HU:=r2.out _ (nA (L:=pn) (j:=k) (by rw[r3.out];exact ps))
     have h0:=hs.out
     rw[show M - q=(M - q - 1)+1 by omega,lV,←hk]at h0
     obtain⟨pk,q4⟩:∃pk,pk=pn.getD k 0:=⟨_,rfl⟩
     rw[← q4]at hL HU h0
     have tg:(0:Int)≤(pk:Int):=by omega
     have ss:(pk:Int)<(t:Int):=by omega
     obtain⟨g,rR,HV⟩:=qm.out _ HE.out pk HU
     have hi:=HZ.out pk HU
     obtain⟨l,hl⟩:∃l,l=(T.map nl).getD pk []:=⟨_,rfl⟩
     rw[← hl]at HV hi h0
     have ho:=aa (r5 wy g n0 l HV hi.1 hi.2.1 HR A' m' c' bits (bF ql.out h6.out) HO s4 qo.out q8.out a rO)
     have HF:=aa hi.1
     have qv:=aa hi.2.1
     obtain⟨X,hX⟩:∃X,X=o.map iv:=⟨_,rfl⟩
     rw[← hX]at hB
     have HX:=aa hX
     clear hk po q4 HV hi hl hh hJ hr hN hX hs
     cases hx:fg l (bits.drop a)with
     | hit x=>
       rw[hx]at ho h0
       have HM:=nF 20 1 (show fG l (bits.drop a) 20 1=.hit x from hx)
       have hE:=HM.2.1
       have HS:=HF.out.one hE
       have q2:a+l.getD x 0≤m':=by
        have:=HM.1
        rw[List.length_drop,HC.out]at this
        omega
       rw[qv.out]at hE
       obtain⟨a2,H1⟩:∃a2,a2=a+l.getD x 0:=⟨_,rfl⟩
       have h7:Hid (Calls Tryz.prog 99 #[.slice (some ⟨g,0,none⟩) n0 n0,.slice A' m' c',.int .i64 a] wy fun e w'=>e=.returned (.tuple #[.int .i64 (x:Nat),.int .i64 (a2:Nat),.int .i64 0])∧∃d,w'=wy.drewN d):=aa (by
        have h:=ho.out
        rw[show pe l a (.hit x)=(x,a2,0) by rw[H1];rfl]at h
        exact h)
       have hS:ans=if x+1=n0 then(o++ [x],a2,0)else kA (T.map nl) pn bits n0 (M - q - 1) (q+1) a2 (o++ [x]):=by rw[h0,H1]
       rw[← H1]at q2
       have t4:a<a2:=by omega
       have hZ:=aa hS
       obtain⟨n1,q3⟩:∃n1,n1=n0 - 1:=⟨_,rfl⟩
       have s9:(n0:Int) - 1=(n1:Int):=by omega
       have p2:=aa q3
       clear h0 hS hx HM HS H1 ho q3
       go_wp2_with fail
       refine h7.out.mono ?_
       rintro e w7 ⟨rfl,dd,rfl⟩
       have p3:Hid ((wy.drewN dd).ownsRow w6.heap.size 3 1 (.slice A8 N c8) N X):=hB
       have qa:=aa (az HE.out dd)
       have t0:w6.heap.size≤(wy.drewN dd).heap.size:=t1
       clear p0 p1 hL rR hB HE h6 h7
       generalize wy.drewN dd=w8 at*
       go_wp2_with (at_builtin;refine wpList_append_own _ rfl _ _ 36 rfl w6.heap.size 3 i3 (.int .i64 0) 1 8 Tryz.underlying36 h3 sx HW sT rfl (by decide) _ _ _ rfl (p3.out.alloc _) ⟨w8.heap.size,0,none⟩ 1 1 [.int .i64 x] rfl rfl ?c1 ?c2 ?c3 ?c4 ?c5 ?_)
       case c1=>exact bi _ _ _
       case c2=>intro u hu;simp at hu;subst hu;rfl
       case c3=>unfold maxLen;omega
       case c4=>omega
       case c5=>simp;omega
       intro v9 w9 hf he _
       have HL:Below w6.heap.size w6 w9:=(qa.out.alloc t0 _).grown he (by simp;omega) (fun k hk=>(p3.out.lt k hk).1)
       obtain⟨A9,c9,rfl,te,ta,_⟩:=aj hf
       have p4:=aa hf
       have qb:=aa HL
       have hp:=ap HB.out HL
       have HA:=aa hp
       obtain⟨p0,p1⟩:=HQ.out _ hp
       obtain⟨b0,o0,rfl,pl⟩:=(HT.out.below hp).2 (by omega)
       obtain⟨A0,c0,hH,_⟩:=pl 0 (by omega)
       rw[← r1.out]at hH
       have rv:=hH
       rw[Nat.add_zero]at rv
       have sv:(0:Int)<(t:Int):=by omega
       clear hf he HL hp pl
       by_cases ex:x+1=n0
       ·have d4:((x:Int)==(n1:Int))=true:=by
         have:=p2.out
         rw[beq_iff_eq]
         omega
        have h5:=hZ.out
        rw[if_pos ex]at h5
        have h9:=aa (hY.out (.slice A9 (N+1) c9) (o++ [x],a2,0) w9 h5 (by
         rw[List.length_append,←HN.out,List.map_append,←HX.out]
         exact World.ownsRow.mono p4.out HB.out.size) HA.out)
        clear h5 hZ ex
        go_wp2_with fail
        first | exact h9.out | (go_ret3;exact h9.out)
       ·have d4:((x:Int)==(n1:Int))=false:=by
         have:=p2.out
         rw[beq_eq_false_iff_ne]
         omega
        have h5:=hZ.out
        rw[if_neg ex]at h5
        have q9:=aa h5
        clear h5 hZ ex
        go_wp2_with fail
        go_roundw
        case rel=>
         refine⟨q+1,a2,o++ [x],by omega,by go_num,rfl,q2,by rw[List.length_append,←HN.out];show N+1≤a2;omega,aa ?_,?_,qb.out⟩
         ·rw[show M - (q+1)=M - q - 1 by omega]
          exact q9.out
         ·rw[List.length_append,←HN.out,List.map_append,←HX.out]
          exact p4.out
        case measure=>simp[intOf];omega
     | short=>
       rw[hx]at ho h0
       have h9:=aa fun d=>hY.out (.slice none 0 0) _ (wy.drewN d) h0 (World.ownsRow_nil _ _ _ _) (az h6.out d)
       have h7:Hid (Calls Tryz.prog 99 #[.slice (some ⟨g,0,none⟩) n0 n0,.slice A' m' c',.int .i64 a] wy fun e w'=>e=.returned (.tuple #[.int .i64 0,.int .i64 0,.int .i64 10])∧∃d,w'=wy.drewN d):=ho
       clear h0 hx ho
       go_wp2_with fail
       refine h7.out.mono ?_
       rintro e w7 ⟨rfl,dd,rfl⟩
       go_wp2_with fail
       first | exact h9.out _ | (go_ret3;exact h9.out _)
     | code=>
       rw[hx]at ho h0
       have h9:=aa fun d=>hY.out (.slice none 0 0) _ (wy.drewN d) h0 (World.ownsRow_nil _ _ _ _) (az h6.out d)
       have h7:Hid (Calls Tryz.prog 99 #[.slice (some ⟨g,0,none⟩) n0 n0,.slice A' m' c',.int .i64 a] wy fun e w'=>e=.returned (.tuple #[.int .i64 0,.int .i64 0,.int .i64 90])∧∃d,w'=wy.drewN d):=ho
       clear h0 hx ho
       go_wp2_with fail
       refine h7.out.mono ?_
       rintro e w7 ⟨rfl,dd,rfl⟩
       go_wp2_with fail
       first | exact h9.out _ | (go_ret3;exact h9.out _)
    ·have d0:decide ((q:Int)<(M:Int))=false:=ao (by omega)
     have hC:=hs.out
     rw[show M - q=0 by omega]at hC
     have hw:ans=([],0,110):=hC
     have h9:=aa (hY.out (.slice none 0 0) _ wy hw (World.ownsRow_nil _ _ _ _) h6.out)
     clear hC hw hs hh hJ hN hr
     go_wp2_with fail
     first | exact h9.out | (go_ret3;exact h9.out)
theorem C6(w:World)(v:Value)(T:List (List Int))(P:List Int)(h:aN w v T P)(A':Option Addr)(m' c':Nat)(bits:List Nat)(at':Int)(h1:aw w A' m' bits)(h0:m'≤c')(h2:m'≤1000000)(h4:c'≤maxLen)(h3:an bits):
 Calls Tryz.prog 39 #[v,.slice A' m' c',.int .i64 at'] w (aH w (eK T P bits at')):=by
 by_cases hM:aR T P∧0≤at'∧at'≤(m':Int)
 ·obtain⟨a0,rfl⟩:∃a0:Nat,at'=a0:=⟨at'.toNat,by omega⟩
  exact Dx w v T P h A' m' c' bits a0 h1 h0 h2 h4 h3 (by omega) hM.1
 ·exact DT w v T P h A' m' c' bits at' h1.1 h2 hM
end Go.Proofs.YthakcjehhlpjnaaGreat
