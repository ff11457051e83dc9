import Derived.Test.YthakcjehhlpjnaaGreatA46
import Derived.Sort.LotD3
set_option maxHeartbeats 16000000
set_option maxRecDepth 100000
namespace Go.Proofs.YthakcjehhlpjnaaGreat.S05
open Go.RowKit
theorem BU(k:Nat)(r:Value)(cf:Fin (k+1)→Fin (k+1)→Int)(blk off cap a b pv:Nat)(d0 d:Array (Fin (k+1)))(w0 w:World)
 (C:i8 r cf blk off d0.size w0) (R:Row1 aK w0 blk off d0) (hs:d0.size=d.size) (S:SW aK w0 blk off d w) (hC:a+12<b) (hb:b≤d.size) (_:a≤pv) (hL:pv<b) (hM:d.size≤1000000000):
 Calls Tryz.prog 233 #[.slice (some ⟨blk,off,none⟩) d.size cap,.int .i64 a,.int .i64 b,.int .i64 pv,.func (.func 164) #[r] #[]] w fun e w'=>e=.returned (.int .i64 (Go.Sort.partitionEqual (ltOf cf) d a b pv).1)∧SW aK w0 blk off (Go.Sort.partitionEqual (ltOf cf) d a b pv).2 w':=by
 have HC:=aa C
 have HR:=aa R
 have HS:=aa S
 clear C R S
 obtain⟨bm,hr⟩:∃x,x=b - 1:=⟨_,rfl⟩
 have zb:(b:Int) - 1=(bm:Int):=by omega
 have hD:bm+1≤b:=by omega
 have hE:b≤bm+1:=by omega
 obtain⟨T,hT⟩:∃T,T=Go.Sort.partitionEqual (ltOf cf) d a b pv:=⟨_,rfl⟩
 rw[← hT]
 unfold Go.Sort.partitionEqual at hT
 rw[← hr]at hT
 have hq:=aa hT.symm
 clear hT hr
 have hj:a<d.size:=by omega
 have hk:pv<d.size:=by omega
 have hz:d.size=d0.size:=by omega
 clear hs
 go_enter Tryz.func233,Tryz.ntmps233
 go_wp2_with fail
 obtain⟨x1,x2,g1,g2,f1,f2,⟨u,g3⟩,h6⟩:=IZ HS HR hz a pv hj hk
 clear HS
 go_wp2_with fail
 go_region
 clear g1 g2 g3 f1 f2
 generalize ((w.setCell ⟨blk,off+a,none⟩ (.int .i64 (x2.val:Nat))).setCell ⟨blk,off+pv,none⟩ (.int .i64 (x1.val:Nat))).drew=w3 at h6 ⊢
 have hm:(Go.Sort.swp d a pv).size=d.size:=by rw[Go.Sort.size_swp]
 go_wp2_with fail
 go_loopw [11,12] (fun x y wr=>∃(i j:Nat) (dk:Array (Fin (k+1))),x=.int .i64 i∧y=.int .i64 j∧a<i∧i≤j+1∧j<b∧dk.size=d.size∧SW aK w0 blk off dk wr∧Go.Sort.partEqLoop (ltOf cf) a i j dk=T) (fun x y _=>(intOf y+1 - intOf x).toNat)
 case atStart=>exact⟨a+1,bm,Go.Sort.swp d a pv,by go_num,rfl,by omega,by omega,by omega,hm,h6.out,hq.out⟩
 case round=>
  clear h6 hq
  obtain⟨i0,j0,dm,rfl,rfl,hF,hv,hI,hB,SM,ho⟩:=hrel
  have hp:=aa SM
  have hf:=aa ho
  clear SM ho
  have hc:dm.size=d0.size:=by omega
  have hi:a<dm.size:=by omega
  go_wp2_with fail
  go_loopw [11] (fun x wr=>∃(i:Nat),x=.int .i64 i∧i0≤i∧i≤j0+1∧SW aK w0 blk off dm wr∧Go.Sort.scanUp (fun x=> !ltOf cf dm[a]! x) dm j0 i=Go.Sort.scanUp (fun x=> !ltOf cf dm[a]! x) dm j0 (i0)) (fun x _=>j0+1 - (intOf x).toNat)
  case atStart=>exact⟨i0,by go_num,Nat.le_refl _,by omega,hp.out,rfl⟩
  case round=>
   clear hp
   obtain⟨i,rfl,hG,hH,SI,hn⟩:=hrel
   have h4:=aa SI
   have HI:=aa hn
   clear SI hn
   by_cases ht:i≤j0
   ·have d2:decide ((i:Int)≤(j0:Int))=true:=aC (by omega)
    have hu:i<dm.size:=by omega
    have hK:i<d.size:=by omega
    obtain⟨x1,x2,Vx1,Vx2,g1,g2,h2⟩:=IY HC h4 HR hc a i hi hu
    cases hl:ltOf cf x1 x2 with
    | true=>
      have d3:=b4 hl
      rw[Vx1.out,Vx2.out]at hl
      have HL:=aa hl
      clear hl
      generalize cf x1 x2=c at*
      go_wp2_with fail
      go_quiet ((go_at_call 164;exact Calls.quiet_of (h2.out _)))
      have HS2:=aa (h4.out.drewN nq)
      clear g1 g2 h2 h4
      generalize wr.drewN nq=w2 at HS2 ⊢
      have h5:Hid (i=Go.Sort.scanUp (fun x=> !ltOf cf dm[a]! x) dm j0 (i0)):=by
       show _=_
       rw[← HI.out,scanUp_end (fun x=> !ltOf cf dm[a]! x) dm j0 i (Or.inr (by rw[HL.out];rfl))]
      clear HL Vx1 Vx2 d3 HI
      go_wp2_with fail
      go_loopw [12] (fun y wr=>∃(j:Nat),y=.int .i64 j∧j≤j0∧a≤j∧SW aK w0 blk off dm wr∧Go.Sort.scanDown (fun x=>ltOf cf dm[a]! x) dm i j=Go.Sort.scanDown (fun x=>ltOf cf dm[a]! x) dm i j0) (fun y _=>(intOf y).toNat)
      case atStart=>exact⟨j0,rfl,Nat.le_refl _,by omega,HS2.out,rfl⟩
      case round=>
       clear HS2
       obtain⟨j,rfl,hw,hx,SJ,h7⟩:=hrel
       have h0:=aa SJ
       have HJ:=aa h7
       clear SJ h7
       by_cases h1:i≤j
       ·have d4:decide ((i:Int)≤(j:Int))=true:=aC (by omega)
        obtain⟨jm,h9⟩:∃x,x=j - 1:=⟨_,rfl⟩
        have ha:=aa h9
        have zj:(j:Int) - 1=(jm:Int):=by omega
        have hy:jm+1≤j:=by omega
        have hh:j≤jm+1:=by omega
        have he:j<dm.size:=by omega
        have hA:j<d.size:=by omega
        clear h9
        obtain⟨x1,x2,Vx1,Vx2,g1,g2,h2⟩:=IY HC h0 HR hc a j hi he
        cases hl:ltOf cf x1 x2 with
        | true=>
          have d3:=b4 hl
          rw[Vx1.out,Vx2.out]at hl
          have HL:=aa hl
          clear hl
          generalize cf x1 x2=c at*
          go_wp2_with fail
          go_quiet ((go_at_call 164;exact Calls.quiet_of (h2.out _)))
          have HS2:=aa (h0.out.drewN nq)
          clear g1 g2 h2 h0
          generalize wr.drewN nq=w2 at HS2 ⊢
          go_wp2_with fail
          go_roundw
          case rel=>exact⟨jm,rfl,by omega,by omega,HS2.out,by rw[← HJ.out,ha.out,←scanDown_go (fun x=>ltOf cf dm[a]! x) dm i j h1 (by omega) HL.out]⟩
          case measure=>(simp [intOf] <;>omega)
        | false=>
          have d3:=bC hl
          rw[Vx1.out,Vx2.out]at hl
          have HL:=aa hl
          clear hl
          generalize cf x1 x2=c at*
          go_wp2_with fail
          go_quiet ((go_at_call 164;exact Calls.quiet_of (h2.out _)))
          have HS2:=aa (h0.out.drewN nq)
          clear g1 g2 h2 h0
          generalize wr.drewN nq=w2 at HS2 ⊢
          have h3:Hid (j=Go.Sort.scanDown (fun x=>ltOf cf dm[a]! x) dm i j0):=by
           show _=_
           rw[← HJ.out,scanDown_end (fun x=>ltOf cf dm[a]! x) dm i j (Or.inr HL.out)]
          clear HL Vx1 Vx2 d3 HJ
          have hJ:=scans_lt (ltOf cf) a i0 j0 dm (by omega) h5.out h3.out h1
          have e1:decide ((j:Int)<(i:Int))=false:=au (by omega)
          have h8:¬j<i:=by omega
          have HG:=aa ((partEq_go (ltOf cf) a i0 j0 dm h5.out h3.out h8).symm.trans hf.out)
          rw[← ha.out]at HG
          clear h5 h3
          go_wp2_with fail
          obtain⟨x1,x2,g1,g2,f1,f2,⟨u,g3⟩,h6⟩:=IZ HS2 HR hc i j hu he
          clear HS2
          go_wp2_with fail
          go_region
          clear g1 g2 g3 f1 f2
          generalize ((w2.setCell ⟨blk,off+i,none⟩ (.int .i64 (x2.val:Nat))).setCell ⟨blk,off+j,none⟩ (.int .i64 (x1.val:Nat))).drew=w3 at h6 ⊢
          go_wp2_with fail
          go_roundw
          case rel=>exact⟨i+1,jm,Go.Sort.swp dm i j,by go_num,rfl,by omega,by omega,by omega,by rw[Go.Sort.size_swp];exact hB,h6.out,HG.out⟩
          case measure=>(simp [intOf] <;>omega)
       ·have d4:decide ((i:Int)≤(j:Int))=false:=au (by omega)
        have h3:Hid (j=Go.Sort.scanDown (fun x=>ltOf cf dm[a]! x) dm i j0):=by
         show _=_
         rw[← HJ.out,scanDown_end (fun x=>ltOf cf dm[a]! x) dm i j (Or.inl h1)]
        clear HJ
        go_wp2_with fail
        go_quiet (fail)
        have HS2:=aa (h0.out.drewN nq)
        clear h0
        generalize wr.drewN nq=w2 at HS2 ⊢
        have e1:decide ((j:Int)<(i:Int))=true:=aC (by omega)
        have h8:j<i:=by omega
        have hg:Hid (T=(i,dm)):=by
         show _=_
         rw[← hf.out,partEq_break (ltOf cf) a i0 j0 dm h5.out h3.out h8]
        go_wp2_with fail
        go_ret
        rw[hg.out]
        exact⟨rfl,HS2.out⟩
    | false=>
      have d3:=bC hl
      rw[Vx1.out,Vx2.out]at hl
      have HL:=aa hl
      clear hl
      generalize cf x1 x2=c at*
      go_wp2_with fail
      go_quiet ((go_at_call 164;exact Calls.quiet_of (h2.out _)))
      have HS2:=aa (h4.out.drewN nq)
      clear g1 g2 h2 h4
      generalize wr.drewN nq=w2 at HS2 ⊢
      go_wp2_with fail
      go_roundw
      case rel=>exact⟨i+1,by go_num,by omega,by omega,HS2.out,by rw[← HI.out,scanUp_go (fun x=> !ltOf cf dm[a]! x) dm j0 i ht (by rw[HL.out];rfl)]⟩
      case measure=>(simp [intOf] <;>omega)
   ·have d2:decide ((i:Int)≤(j0:Int))=false:=au (by omega)
    have h5:Hid (i=Go.Sort.scanUp (fun x=> !ltOf cf dm[a]! x) dm j0 (i0)):=by
     show _=_
     rw[← HI.out,scanUp_end (fun x=> !ltOf cf dm[a]! x) dm j0 i (Or.inl ht)]
    clear HI
    go_wp2_with fail
    go_quiet (fail)
    have HS2:=aa (h4.out.drewN nq)
    clear h4
    generalize wr.drewN nq=w2 at HS2 ⊢
    go_wp2_with fail
    go_loopw [12] (fun y wr=>∃(j:Nat),y=.int .i64 j∧j≤j0∧a≤j∧SW aK w0 blk off dm wr∧Go.Sort.scanDown (fun x=>ltOf cf dm[a]! x) dm i j=Go.Sort.scanDown (fun x=>ltOf cf dm[a]! x) dm i j0) (fun y _=>(intOf y).toNat)
    case atStart=>exact⟨j0,rfl,Nat.le_refl _,by omega,HS2.out,rfl⟩
    case round=>
     clear HS2
     obtain⟨j,rfl,hw,hx,SJ,h7⟩:=hrel
     have h0:=aa SJ
     have HJ:=aa h7
     clear SJ h7
     by_cases h1:i≤j
     ·have d4:decide ((i:Int)≤(j:Int))=true:=aC (by omega)
      obtain⟨jm,h9⟩:∃x,x=j - 1:=⟨_,rfl⟩
      have ha:=aa h9
      have zj:(j:Int) - 1=(jm:Int):=by omega
      have hy:jm+1≤j:=by omega
      have hh:j≤jm+1:=by omega
      have he:j<dm.size:=by omega
      have hA:j<d.size:=by omega
      clear h9
      obtain⟨x1,x2,Vx1,Vx2,g1,g2,h2⟩:=IY HC h0 HR hc a j hi he
      cases hl:ltOf cf x1 x2 with
      | true=>
        have d3:=b4 hl
        rw[Vx1.out,Vx2.out]at hl
        have HL:=aa hl
        clear hl
        generalize cf x1 x2=c at*
        go_wp2_with fail
        go_quiet ((go_at_call 164;exact Calls.quiet_of (h2.out _)))
        have HS2:=aa (h0.out.drewN nq)
        clear g1 g2 h2 h0
        generalize wr.drewN nq=w2 at HS2 ⊢
        go_wp2_with fail
        go_roundw
        case rel=>exact⟨jm,rfl,by omega,by omega,HS2.out,by rw[← HJ.out,ha.out,←scanDown_go (fun x=>ltOf cf dm[a]! x) dm i j h1 (by omega) HL.out]⟩
        case measure=>(simp [intOf] <;>omega)
      | false=>
        have d3:=bC hl
        rw[Vx1.out,Vx2.out]at hl
        have HL:=aa hl
        clear hl
        generalize cf x1 x2=c at*
        go_wp2_with fail
        go_quiet ((go_at_call 164;exact Calls.quiet_of (h2.out _)))
        have HS2:=aa (h0.out.drewN nq)
        clear g1 g2 h2 h0
        generalize wr.drewN nq=w2 at HS2 ⊢
        have h3:Hid (j=Go.Sort.scanDown (fun x=>ltOf cf dm[a]! x) dm i j0):=by
         show _=_
         rw[← HJ.out,scanDown_end (fun x=>ltOf cf dm[a]! x) dm i j (Or.inr HL.out)]
        clear HL Vx1 Vx2 d3 HJ
        exact absurd h1 (by omega)
     ·have d4:decide ((i:Int)≤(j:Int))=false:=au (by omega)
      have h3:Hid (j=Go.Sort.scanDown (fun x=>ltOf cf dm[a]! x) dm i j0):=by
       show _=_
       rw[← HJ.out,scanDown_end (fun x=>ltOf cf dm[a]! x) dm i j (Or.inl h1)]
      clear HJ
      go_wp2_with fail
      go_quiet (fail)
      have HS2:=aa (h0.out.drewN nq)
      clear h0
      generalize wr.drewN nq=w2 at HS2 ⊢
      have e1:decide ((j:Int)<(i:Int))=true:=aC (by omega)
      have h8:j<i:=by omega
      have hg:Hid (T=(i,dm)):=by
       show _=_
       rw[← hf.out,partEq_break (ltOf cf) a i0 j0 dm h5.out h3.out h8]
      go_wp2_with fail
      go_ret
      rw[hg.out]
      exact⟨rfl,HS2.out⟩
theorem wB(n:Nat)(w:World)(h:n≤1000000000):Calls Tryz.prog 174 #[.int .u64 n] w fun e w'=>e=.returned (.int .i64 (Lib.bitLen n:Nat))∧w=w':=by
 have h1:=Any.bits_Len Tryz.laysBits (n:Int) w (by omega) (by omega)
 rw[Int.toNat_natCast]at h1
 exact Calls.mono h1 fun e w' hh=>⟨hh.1,hh.2.symm⟩
theorem G3(k:Nat)(r:Value)(cf:Fin (k+1)→Fin (k+1)→Int)(hO:Go.Sort.SWO (ltOf cf))(blk off cap:Nat)(d0:Array (Fin (k+1)))(w0:World)
 (C:i8 r cf blk off d0.size w0) (R:Row1 aK w0 blk off d0):
 ∀(N a b lim0:Nat) (d:Array (Fin (k+1))) (w:World),b - a<N→d0.size=d.size→SW aK w0 blk off d w→a≤b→b≤d.size→d.size≤1000000000→lim0≤1000000000→Go.Sort.Below (ltOf cf) a b d→
 Calls Tryz.prog 203 #[.slice (some ⟨blk,off,none⟩) d.size cap,.int .i64 a,.int .i64 b,.int .i64 lim0,.func (.func 164) #[r] #[]] w fun e w'=>e=.returned (.tuple #[])∧∃d':Array (Fin (k+1)),Go.Sort.PermIn a b d d'∧Go.Sort.SortedIn (ltOf cf) a b d'∧SW aK w0 blk off d' w':=by
 have HC:=aa C
 have HR:=aa R
 clear C R
 intro N
 induction N with
 | zero=>intro _ _ _ _ _ h;exact absurd h (Nat.not_lt_zero _)
 | succ N ih=>
   intro a b lim0 d w hN hs S HF hb p1 hF hc
   have HS:=aa S
   have HB:=aa hc
   clear S hc
   go_enter Tryz.func203,Tryz.ntmps203
   go_wp2_with fail
   go_loopg [1,2,3,10,11] (b - a) (fun g s1 s2 s3 s10 s11 wr=>∃(a' b' lim:Nat) (wb wp:Bool) (dk:Array (Fin (k+1))),s1=.int .i64 a'∧s2=.int .i64 b'∧s3=.int .i64 lim∧s10=.bool wb∧s11=.bool wp∧a'≤b'∧b'≤d.size∧b' - a'≤g∧g≤b - a∧lim≤1000000000∧dk.size=d.size∧Go.Sort.Below (ltOf cf) a' b' dk∧SW aK w0 blk off dk wr∧Hid (∀ R,Go.Sort.PermIn a' b' dk R→Go.Sort.SortedIn (ltOf cf) a' b' R→Go.Sort.PermIn a b d R∧Go.Sort.SortedIn (ltOf cf) a b R))
   case atStart=>exact⟨a,b,lim0,true,true,d,rfl,rfl,rfl,rfl,rfl,HF,hb,Nat.le_refl _,Nat.le_refl _,hF,rfl,HB.out,HS.out,fun R h1 h2=>⟨h1,h2⟩⟩
   case round=>
    clear HS HB
    obtain⟨a',b',lim,wb,wp,dk,rfl,rfl,rfl,rfl,rfl,h8,hR,hg,HW,hS,ho,hC,SK,FIN⟩:=hrel
    have hp:=aa hC
    have hB:=aa SK
    clear hC SK
    have hk:d0.size=dk.size:=by omega
    obtain⟨n,hn⟩:∃x,x=b' - a':=⟨_,rfl⟩
    have z1:(b':Int) - (a':Int)=(n:Int):=by omega
    have HY:a'+n≤b':=by omega
    have HZ:b'≤a'+n:=by omega
    clear hn
    by_cases HV:n≤12
    ·have d1:decide ((n:Int)≤12)=true:=aC (by omega)
     have HI:=aa (sC k r cf blk off cap a' b' d0 dk w0 wr HC.out HR.out hk hB.out h8 (by omega) (by omega))
     rw[ho]at HI
     have HX:=aa (Go.Sort.insertionSort_holds (lt:=ltOf cf) hO dk a' b' h8 (by omega))
     clear hk
     go_wp2_with fail
     refine HI.out.mono ?_
     rintro e w1 ⟨rfl,S1⟩
     have hz:=aa S1
     clear S1
     go_wp2_with fail
     (try simp only[Exit.inBlock,Exit.then])
     refine bodyPost_ret (results_none rfl _ _ _) rfl ?_
     exact⟨rfl,_,(FIN.out _ HX.out.1 HX.out.2).1,(FIN.out _ HX.out.1 HX.out.2).2,hz.out⟩
    ·have d1:decide ((n:Int)≤12)=false:=au (by omega)
     by_cases HJ:lim=0
     ·subst HJ
      have HI:=aa (Em k r cf blk off cap a' b' d0 dk w0 wr HC.out HR.out hk hB.out (by omega) (by omega) (by omega))
      rw[ho]at HI
      have HX:=aa (Go.Sort.heapSort_holds (lt:=ltOf cf) hO dk a' b' h8 (by omega))
      clear hk
      go_wp2_with fail
      refine HI.out.mono ?_
      rintro e w1 ⟨rfl,S1⟩
      have hz:=aa S1
      clear S1
      go_wp2_with fail
      (try simp only[Exit.inBlock,Exit.then])
      refine bodyPost_ret (results_none rfl _ _ _) rfl ?_
      exact⟨rfl,_,(FIN.out _ HX.out.1 HX.out.2).1,(FIN.out _ HX.out.1 HX.out.2).2,hz.out⟩
     ·have d2:((lim:Int)==0)=false:=by simp;omega
      have hi:a'+12<b':=by omega
      obtain⟨lm,HK⟩:∃x,x=lim - 1:=⟨_,rfl⟩
      have z2:(lim:Int) - 1=(lm:Int):=by omega
      have hU:lm≤1000000000:=by omega
      obtain⟨q,hq⟩:∃x,x=n / 8:=⟨_,rfl⟩
      have z3:(n:Int) / 8=(q:Int):=by omega
      have p0:q≤n:=by omega
      clear HK hq
      have hP:=aa (vc k (.func (.func 164) #[r] #[]) blk off cap a' b' d0 dk w0 wr HR.out hk hB.out hi (by omega) (by omega))
      rw[ho]at hP
      clear hk
      go_upto_if 39 with fail
      go_cut [3]from 21 (fun s3 wx=>∃(lim1:Nat) (d1:Array (Fin (k+1))),s3=.int .i64 lim1∧lim1≤1000000000∧d1.size=d.size∧Go.Sort.PermIn a' b' dk d1∧SW aK w0 blk off d1 wx)
      case first=>
       cases wb
       ·go_wp2_with fail
        refine hP.out.mono ?_
        rintro e w1 ⟨rfl,d1,hI,hG,S1⟩
        have hz:=aa S1
        have hv:=aa hG
        clear S1 hG
        go_wp2_with fail
        go_meet
        case rel=>exact⟨lm,d1,rfl,hU,hI,hv.out,hz.out⟩
       ·go_wp2_with fail
        go_meet
        case rel=>exact⟨lim,dk,rfl,hS,ho,Go.Sort.permIn_refl _ _ _,hB.out⟩
      case rest=>
       clear hP hB
       obtain⟨lim1,d1,rfl,hE,hI,hG,S1⟩:=hcut
       have hQ:=aa (Ct (cap:=cap) HC.out HR.out (show d0.size=d1.size by omega) S1 a' b' hi (by omega) (by omega))
       rw[hI]at hQ
       have hv:=aa hG
       clear hG S1
       go_upto_if 56 with((go_at_call 230;refine hQ.out.mono ?_;rintro e w2 ⟨pv,h,rfl,hH,HN,S2⟩))
       have HS2:=aa S2
       clear S2
       go_cut [13,14]from 21 (fun s13 s14 wx=>∃(pv2 h2:Nat) (d2:Array (Fin (k+1))),s13=.int .i64 pv2∧s14=.int .i64 h2∧a'≤pv2∧pv2<b'∧d2.size=d.size∧Go.Sort.PermIn a' b' dk d2∧SW aK w0 blk off d2 wx)
       case first=>
        by_cases hh:h=2
        ·subst hh
         have H0:=aa (wG k (.func (.func 164) #[r] #[]) blk off cap a' b' d0 d1 w0 w2 HR.out (by omega) HS2.out (by omega) (by omega) (by omega))
         rw[hI]at H0
         have HX:=aa (Go.Sort.permIn_trans dk d1 _ a' b' hv.out (Go.Sort.reverseRange_holds d1 a' b' h8 (by omega)))
         obtain⟨bm,HG⟩:∃x,x=b' - 1:=⟨_,rfl⟩
         obtain⟨t,ht⟩:∃x,x=pv - a':=⟨_,rfl⟩
         obtain⟨pw,HO⟩:∃x,x=bm - t:=⟨_,rfl⟩
         have z4:(b':Int) - 1=(bm:Int):=by omega
         have z5:(pv:Int) - (a':Int)=(t:Int):=by omega
         have z6:(bm:Int) - (t:Int)=(pw:Int):=by omega
         have HQ:a'≤pw:=by omega
         have HT:pw<b':=by omega
         clear HG ht HO
         go_wp2_with fail
         refine H0.out.mono ?_
         rintro e w3 ⟨rfl,S3⟩
         have hA:=aa S3
         clear S3
         go_wp2_with fail
         go_meet
         case rel=>exact⟨pw,1,_,rfl,rfl,HQ,HT,HX.out.1.trans ho,HX.out,hA.out⟩
        ·have e1:((h:Int)==2)=false:=by simp;omega
         go_wp2_with fail
         go_meet
         case rel=>exact⟨pv,h,d1,rfl,rfl,hH,HN,hI,hv.out,HS2.out⟩
       case rest=>
        clear hQ hv HS2
        obtain⟨pv2,h2,d2,rfl,rfl,h6,h7,HA,H8,S2⟩:=hcut
        have HS2:=aa S2
        have hK:=aa H8
        clear S2 H8
        go_upto_region 15 with fail
        go_cut [75]from 21 (fun s75 wx=>∃bb:Bool,s75=.bool bb∧SW aK w0 blk off d2 wx)
        case first=>
         by_cases hh:h2=1
         ·subst hh
          cases wb <;>cases wp <;>(go_wp2_with fail;go_meet;exact⟨_,rfl,HS2.out⟩)
         ·have e1:((h2:Int)==1)=false:=by simp;omega
          cases wb <;>cases wp <;>(go_wp2_with fail;go_meet;exact⟨_,rfl,HS2.out⟩)
        case rest=>
         clear HS2
         obtain⟨bb,rfl,S2⟩:=hcut
         have hy:=aa (vH k r cf blk off cap a' b' d0 d2 w0 wc HC.out HR.out (by omega) S2 hi (by omega) (by omega))
         have HX:=aa (Go.Sort.partialInsertionSort_holds (lt:=ltOf cf) hO d2 a' b' (by omega) (by omega) (hp.out.perm (by omega) hK.out))
         rw[HA]at hy
         obtain⟨X,hX⟩:∃X,X=Go.Sort.partialInsertionSort (ltOf cf) d2 a' b':=⟨_,rfl⟩
         rw[← hX]at hy HX
         clear hX
         have HS2:=aa S2
         clear S2
         go_upto_if 75 with fail
         go_cut []from 21 (fun wx=>∃(d3:Array (Fin (k+1))),d3.size=d.size∧Go.Sort.PermIn a' b' dk d3∧SW aK w0 blk off d3 wx)
         case first=>
          cases bb
          ·go_wp2_with fail
           go_meet
           case rel=>exact⟨d2,HA,hK.out,HS2.out⟩
          ·obtain⟨X1,ok⟩:=X
           have hL:=aa (Go.Sort.permIn_trans dk d2 X1 a' b' hK.out HX.out.1)
           cases ok
           ·go_wp2_with fail
            refine hy.out.mono ?_
            rintro e w3 ⟨rfl,S3⟩
            have hA:=aa S3
            clear S3
            go_wp2_with fail
            go_meet
            case rel=>exact⟨X1,hL.out.1.trans ho,hL.out,hA.out⟩
           ·go_wp2_with fail
            refine hy.out.mono ?_
            rintro e w3 ⟨rfl,S3⟩
            have hA:=aa S3
            clear S3
            go_wp2_with fail
            (try simp only[Exit.inBlock,Exit.then])
            refine bodyPost_ret (results_none rfl _ _ _) rfl ?_
            exact⟨rfl,X1,(FIN.out X1 hL.out (HX.out.2 trivial)).1,(FIN.out X1 hL.out (HX.out.2 trivial)).2,hA.out⟩
         case rest=>
          clear hy HX HS2 hK
          obtain⟨d3,hm,hH,S3⟩:=hcut
          have hM:=aa (hp.out.perm (show b'≤dk.size by omega) hH)
          have hw:=aa hH
          have h0:=aa S3
          clear hH S3
          have HH:d3.size=d0.size:=by omega
          rcases Nat.eq_zero_or_pos a' with hD | hD
          ·have e3:decide ((0:Int)<(a':Int))=false:=au (by omega)
           have e4:decide (0<a')=false:=au (by omega)
           have e5:¬0<a':=by omega
           have HU:=aa hD
           clear hD
           go_wp2_with fail
           go_quiet (fail)
           have ha:=aa (h0.out.drewN nq)
           clear h0
           generalize wc.drewN nq=w6 at ha ⊢
           obtain⟨mid,ap,d4,hx⟩:∃mid ap d4,Go.Sort.partition (ltOf cf) d3 a' b' pv2=(mid,ap,d4):=⟨_,_,_,rfl⟩
           obtain⟨r1,r2,r3,r4,r5,r6,r7⟩:=Go.Sort.round_part hO (Go.Sort.partition_holds (ltOf cf)) h6 h7 (show b'≤d3.size by omega) hM.out hx
           have HP:=aa (l6 k r cf blk off cap a' b' pv2 d0 d3 w0 w6 HC.out HR.out (by omega) ha.out (by omega) (by omega) h6 h7 (by omega))
           rw[hx,hm]at HP
           have h9:d4.size=d.size:=r3.trans hm
           obtain⟨ll,hT⟩:∃x,x=mid - a':=⟨_,rfl⟩
           obtain⟨rl,hZ⟩:∃x,x=b' - mid:=⟨_,rfl⟩
           obtain⟨mid1,h5⟩:∃x,x=mid+1:=⟨_,rfl⟩
           have y1:(mid:Int) - (a':Int)=(ll:Int):=by omega
           have y2:(b':Int) - (mid:Int)=(rl:Int):=by omega
           have y3:(mid:Int)+1=(mid1:Int):=by omega
           rw[← h5]at r5 r6 r7
           have HM:mid<mid1:=by omega
           have hV:mid1≤b':=by omega
           have H4:=aa r4
           have H5:=aa r5
           have H6:=aa r6
           have H7:=aa r7
           have hr:=aa fun w7 S7=>ih a' mid lim1 d4 w7 (by omega) (by omega) S7 (by omega) (by omega) (by omega) (by omega) r4
           have hu:=aa fun w7 S7=>ih mid1 b' lim1 d4 w7 (by omega) (by omega) S7 (by omega) (by omega) (by omega) (by omega) r5
           rw[h9]at hr hu
           clear hx r3 r4 r5 r6 r7 hT hZ h5
           by_cases h4:ll<rl
           ·have d6:decide ((ll:Int)<(rl:Int))=true:=aC (by omega)
            go_wp2_with fail
            refine HP.out.mono ?_
            rintro e w7 ⟨rfl,S7⟩
            have he:=aa (hr.out w7 S7)
            clear S7
            go_wp2_with fail
            refine he.out.mono ?_
            rintro e w8 ⟨rfl,d5,p5,s5,S8⟩
            have hf:=aa S8
            have h3:=aa p5
            have h0:=aa s5
            clear S8 p5 s5
            have hj:d5.size=d.size:=h3.out.1.trans h9
            go_wp2_with fail
            go_roundg (b' - mid1)
            case measure=>omega
            case rel=>exact⟨mid1,b',lim1,_,ap,d5,rfl,rfl,rfl,rfl,rfl,hV,hR,Nat.le_refl _,by omega,hE,hj,(H6.out d5 h3.out h0.out).1,hf.out,fun R h1 h2=>FIN.out R (Go.Sort.permIn_trans dk d3 R a' b' hw.out ((H6.out d5 h3.out h0.out).2 R h1 h2).1) ((H6.out d5 h3.out h0.out).2 R h1 h2).2⟩
           ·have d6:decide ((ll:Int)<(rl:Int))=false:=au (by omega)
            go_wp2_with fail
            refine HP.out.mono ?_
            rintro e w7 ⟨rfl,S7⟩
            have he:=aa (hu.out w7 S7)
            clear S7
            go_wp2_with fail
            refine he.out.mono ?_
            rintro e w8 ⟨rfl,d5,p5,s5,S8⟩
            have hf:=aa S8
            have h3:=aa p5
            have h0:=aa s5
            clear S8 p5 s5
            have hj:d5.size=d.size:=h3.out.1.trans h9
            go_wp2_with fail
            go_roundg (mid - a')
            case measure=>omega
            case rel=>exact⟨a',mid,lim1,_,ap,d5,rfl,rfl,rfl,rfl,rfl,r1,by omega,Nat.le_refl _,by omega,hE,hj,(H7.out d5 h3.out h0.out).1,hf.out,fun R h1 h2=>FIN.out R (Go.Sort.permIn_trans dk d3 R a' b' hw.out ((H7.out d5 h3.out h0.out).2 R h1 h2).1) ((H7.out d5 h3.out h0.out).2 R h1 h2).2⟩
          ·have e3:decide ((0:Int)<(a':Int))=true:=aC (by omega)
           have e4:decide (0<a')=true:=decide_eq_true hD
           obtain⟨am,H1⟩:∃x,x=a' - 1:=⟨_,rfl⟩
           have HE:=aa H1
           have z7:(a':Int) - 1=(am:Int):=by omega
           have hW:am<d3.size:=by omega
           have hY:pv2<d3.size:=by omega
           have H2:am<d.size:=by omega
           have H3:pv2<d.size:=by omega
           clear H1
           obtain⟨x1,x2,Vx1,Vx2,g1,g2,hJ⟩:=IY HC h0 HR HH am pv2 hW hY
           cases hl:ltOf cf x1 x2 with
           | true=>
             have d5:=b4 hl
             clear hl
             generalize cf x1 x2=c at*
             go_wp2_with fail
             go_quiet ((go_at_call 164;exact Calls.quiet_of (hJ.out _)))
             have ha:=aa (h0.out.drewN nq)
             clear g1 g2 hJ h0
             generalize wc.drewN nq=w6 at ha ⊢
             clear Vx1 Vx2 hW hY H2 H3
             obtain⟨mid,ap,d4,hx⟩:∃mid ap d4,Go.Sort.partition (ltOf cf) d3 a' b' pv2=(mid,ap,d4):=⟨_,_,_,rfl⟩
             obtain⟨r1,r2,r3,r4,r5,r6,r7⟩:=Go.Sort.round_part hO (Go.Sort.partition_holds (ltOf cf)) h6 h7 (show b'≤d3.size by omega) hM.out hx
             have HP:=aa (l6 k r cf blk off cap a' b' pv2 d0 d3 w0 w6 HC.out HR.out (by omega) ha.out (by omega) (by omega) h6 h7 (by omega))
             rw[hx,hm]at HP
             have h9:d4.size=d.size:=r3.trans hm
             obtain⟨ll,hT⟩:∃x,x=mid - a':=⟨_,rfl⟩
             obtain⟨rl,hZ⟩:∃x,x=b' - mid:=⟨_,rfl⟩
             obtain⟨mid1,h5⟩:∃x,x=mid+1:=⟨_,rfl⟩
             have y1:(mid:Int) - (a':Int)=(ll:Int):=by omega
             have y2:(b':Int) - (mid:Int)=(rl:Int):=by omega
             have y3:(mid:Int)+1=(mid1:Int):=by omega
             rw[← h5]at r5 r6 r7
             have HM:mid<mid1:=by omega
             have hV:mid1≤b':=by omega
             have H4:=aa r4
             have H5:=aa r5
             have H6:=aa r6
             have H7:=aa r7
             have hr:=aa fun w7 S7=>ih a' mid lim1 d4 w7 (by omega) (by omega) S7 (by omega) (by omega) (by omega) (by omega) r4
             have hu:=aa fun w7 S7=>ih mid1 b' lim1 d4 w7 (by omega) (by omega) S7 (by omega) (by omega) (by omega) (by omega) r5
             rw[h9]at hr hu
             clear hx r3 r4 r5 r6 r7 hT hZ h5
             by_cases h4:ll<rl
             ·have d6:decide ((ll:Int)<(rl:Int))=true:=aC (by omega)
              go_wp2_with fail
              refine HP.out.mono ?_
              rintro e w7 ⟨rfl,S7⟩
              have he:=aa (hr.out w7 S7)
              clear S7
              go_wp2_with fail
              refine he.out.mono ?_
              rintro e w8 ⟨rfl,d5,p5,s5,S8⟩
              have hf:=aa S8
              have h3:=aa p5
              have h0:=aa s5
              clear S8 p5 s5
              have hj:d5.size=d.size:=h3.out.1.trans h9
              go_wp2_with fail
              go_roundg (b' - mid1)
              case measure=>omega
              case rel=>exact⟨mid1,b',lim1,_,ap,d5,rfl,rfl,rfl,rfl,rfl,hV,hR,Nat.le_refl _,by omega,hE,hj,(H6.out d5 h3.out h0.out).1,hf.out,fun R h1 h2=>FIN.out R (Go.Sort.permIn_trans dk d3 R a' b' hw.out ((H6.out d5 h3.out h0.out).2 R h1 h2).1) ((H6.out d5 h3.out h0.out).2 R h1 h2).2⟩
             ·have d6:decide ((ll:Int)<(rl:Int))=false:=au (by omega)
              go_wp2_with fail
              refine HP.out.mono ?_
              rintro e w7 ⟨rfl,S7⟩
              have he:=aa (hu.out w7 S7)
              clear S7
              go_wp2_with fail
              refine he.out.mono ?_
              rintro e w8 ⟨rfl,d5,p5,s5,S8⟩
              have hf:=aa S8
              have h3:=aa p5
              have h0:=aa s5
              clear S8 p5 s5
              have hj:d5.size=d.size:=h3.out.1.trans h9
              go_wp2_with fail
              go_roundg (mid - a')
              case measure=>omega
              case rel=>exact⟨a',mid,lim1,_,ap,d5,rfl,rfl,rfl,rfl,rfl,r1,by omega,Nat.le_refl _,by omega,hE,hj,(H7.out d5 h3.out h0.out).1,hf.out,fun R h1 h2=>FIN.out R (Go.Sort.permIn_trans dk d3 R a' b' hw.out ((H7.out d5 h3.out h0.out).2 R h1 h2).1) ((H7.out d5 h3.out h0.out).2 R h1 h2).2⟩
           | false=>
             have d5:=bC hl
             rw[Vx1.out,Vx2.out,HE.out]at hl
             have HL:=aa hl
             clear hl
             generalize cf x1 x2=c at*
             go_wp2_with fail
             go_quiet ((go_at_call 164;exact Calls.quiet_of (hJ.out _)))
             have ha:=aa (h0.out.drewN nq)
             clear g1 g2 hJ h0
             generalize wc.drewN nq=w6 at ha ⊢
             clear Vx1 Vx2 hW hY H2 H3
             obtain⟨mid,d4,hx⟩:∃mid d4,Go.Sort.partitionEqual (ltOf cf) d3 a' b' pv2=(mid,d4):=⟨_,_,rfl⟩
             obtain⟨r1,r2,r3,r4,r5⟩:=Go.Sort.round_eq hO (Go.Sort.partitionEqual_holds (ltOf cf)) hD h6 h7 (show b'≤d3.size by omega) hM.out HL.out hx
             have HP:=aa (BU k r cf blk off cap a' b' pv2 d0 d3 w0 w6 HC.out HR.out (by omega) ha.out (by omega) (by omega) h6 h7 (by omega))
             rw[hx,hm]at HP
             have h9:d4.size=d.size:=r3.trans hm
             have H4:=aa r4
             have H5:=aa r5
             clear hx r3 r4 r5
             go_wp2_with fail
             refine HP.out.mono ?_
             rintro e w7 ⟨rfl,S7⟩
             have HD:=aa S7
             clear S7
             go_wp2_with fail
             go_roundg (b' - mid)
             case measure=>omega
             case rel=>exact⟨mid,b',lim1,wb,wp,d4,rfl,rfl,rfl,rfl,rfl,r2,hR,Nat.le_refl _,by omega,hE,h9,H4.out,HD.out,fun R h1 h2=>FIN.out R (Go.Sort.permIn_trans dk d3 R a' b' hw.out (H5.out R h1 h2).1) (H5.out R h1 h2).2⟩
theorem Bo(n:Nat)(h:n≤1000000000):Lib.bitLen n≤1000000000:=by
 have hh:Lib.bitLen n=Go.Sort.bitsLen n:=bitLen_eq n (by omega)
 rw[hh]
 unfold Go.Sort.bitsLen
 split
 ·omega
 ·rename_i hn
  have h2:n.log2<30:=(Nat.log2_lt hn).2 (by omega)
  omega
theorem np:mq 1000000000:=by
 intro k r cf blk off cap d w hO C hH h0 _ h1
 have R:Row1 aK w blk off d:=⟨fun _=>rfl,hH,h0⟩
 have HL:=aa fun w1:World=>wB d.size w1 h1
 obtain⟨l,hl⟩:∃x,x=Lib.bitLen d.size:=⟨_,rfl⟩
 have h3:l≤1000000000:=by rw[hl];exact Bo _ h1
 rw[← hl]at HL
 clear hl
 have HP:=aa (G3 k r cf hO blk off cap d w C R (d.size+1) 0 d.size l d w (by omega) rfl (SW.start hH) (Nat.zero_le _) (ah _) h1 h3 (Or.inl rfl))
 have wr:IntKind.u64.wrap (d.size:Int)=d.size:=by simp[IntKind.wrap,IntKind.bits,IntKind.signed];omega
 clear C R hH hO
 go_enter Tryz.func163,Tryz.ntmps163
 go_wp2_with fail
 refine(HL.out _).mono ?_
 rintro e w1 ⟨rfl,rfl⟩
 go_wp2_with fail
 refine HP.out.mono ?_
 rintro e w1 ⟨rfl,d',hp,hs,S1⟩
 have HS:=aa S1
 have h2:=aa hp
 have HS2:=aa hs
 clear S1 hp hs
 go_wp2_with fail
 go_end0
 exact⟨rfl,d',h2.out,HS2.out,HS.out⟩
end Go.Proofs.YthakcjehhlpjnaaGreat.S05
