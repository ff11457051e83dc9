import Derived.Test.YthakcjehhlpjnaaGreatA45
import Derived.Sort.WalkA6
import Derived.Sort.WalkC4
set_option maxHeartbeats 16000000
set_option maxRecDepth 100000
namespace Go.Proofs.YthakcjehhlpjnaaGreat.S05
open Go.RowKit
theorem vH(k:Nat)(r:Value)(cf:Fin (k+1)→Fin (k+1)→Int)(blk off cap a b:Nat)(d0 d:Array (Fin (k+1)))(w0 w:World)
 (C:i8 r cf blk off d0.size w0) (R:Row1 aK w0 blk off d0) (hs:d0.size=d.size) (S:SW aK w0 blk off d w) (hO:a+12<b) (hb:b≤d.size) (H0:d.size≤1000000000):
 Calls Tryz.prog 232 #[.slice (some ⟨blk,off,none⟩) d.size cap,.int .i64 a,.int .i64 b,.func (.func 164) #[r] #[]] w fun e w'=>e=.returned (.bool (Go.Sort.partialInsertionSort (ltOf cf) d a b).2)∧SW aK w0 blk off (Go.Sort.partialInsertionSort (ltOf cf) d a b).1 w':=by
 have HC:=aa C
 have HR:=aa R
 have HS:=aa S
 clear C R S
 obtain⟨n,hn⟩:∃x,x=b - a:=⟨_,rfl⟩
 have z1:(b:Int) - (a:Int)=(n:Int):=by omega
 have hS:a+n≤b:=by omega
 have hU:b≤a+n:=by omega
 clear hn
 unfold Go.Sort.partialInsertionSort
 obtain⟨T,hT⟩:∃T,T=Go.Sort.partialIns (ltOf cf) a b 5 (a+1) d:=⟨_,rfl⟩
 rw[← hT]
 have hz:=aa hT.symm
 clear hT
 go_enter Tryz.func232,Tryz.ntmps232
 go_wp2_with fail
 go_loopw [9,10] (fun x y wr=>∃(i s:Nat) (dk:Array (Fin (k+1))),x=.int .i64 i∧y=.int .i64 s∧s≤5∧a<i∧i≤b∧dk.size=d.size∧SW aK w0 blk off dk wr∧Go.Sort.partialIns (ltOf cf) a b (5 - s) i dk=T) (fun _ y _=>5 - (intOf y).toNat)
 case atStart=>exact⟨a+1,0,d,by go_num,rfl,by omega,by omega,by omega,rfl,HS.out,hz.out⟩
 case round=>
  obtain⟨i,s,dk,rfl,rfl,hZ,hP,hJ,hM,S1,hx⟩:=hrel
  have HO:=aa hx
  have ht:=aa S1
  clear hx S1 hz HS
  have hC:dk.size=d0.size:=by omega
  by_cases ha:s<5
  ·have d1:decide ((s:Int)<5)=true:=aC (by omega)
   go_wp2_with fail
   go_loopw [9] (fun x wr=>∃(p:Nat),x=.int .i64 p∧i≤p∧p≤b∧SW aK w0 blk off dk wr∧Go.Sort.scanSorted (ltOf cf) dk b p=Go.Sort.scanSorted (ltOf cf) dk b i) (fun x _=>b - (intOf x).toNat)
   case atStart=>exact⟨i,rfl,Nat.le_refl _,hJ,ht.out,rfl⟩
   case round=>
    clear ht
    obtain⟨p,rfl,hQ,hL,SP,hy⟩:=hrel
    have hi:=aa SP
    have HP:=aa hy
    clear SP hy
    by_cases hH:p<b
    ·have d2:decide ((p:Int)<(b:Int))=true:=aC (by omega)
     obtain⟨pm,hI⟩:∃x,x=p - 1:=⟨_,rfl⟩
     have h5:=aa hI
     have zp:(p:Int) - 1=(pm:Int):=by omega
     have hF:p<dk.size:=by omega
     have hG:pm<dk.size:=by omega
     have hW:p<d.size:=by omega
     have hX:pm<d.size:=by omega
     clear hI
     obtain⟨x1,x2,Vx1,Vx2,g1,g2,h0⟩:=IY HC hi HR hC p pm hF hG
     cases hl:ltOf cf x1 x2 with
     | true=>
       have d3:=b4 hl
       rw[Vx1.out,Vx2.out]at hl
       have HL:=aa hl
       clear hl
       generalize cf x1 x2=c at*
       go_wp2_with fail
       go_quiet ((go_at_call 164;exact Calls.quiet_of (h0.out _)))
       have HS2:=aa (hi.out.drewN nq)
       clear g1 g2 h0 hi
       generalize wr.drewN nq=w2 at HS2 ⊢
       have HK:Hid (Go.Sort.scanSorted (ltOf cf) dk b i=p):=by
        show _=_
        rw[← HP.out,scanSorted_stop (ltOf cf) dk b p (Or.inr (by rw[← h5.out];exact HL.out))]
       have hV:((p:Int)==(b:Int))=false:=by simp;omega
       have hK:(p==b)=false:=by simp;omega
       by_cases hN:n<50
       ·have d5:decide ((n:Int)<50)=true:=aC (by omega)
        have HT:Hid (T=(dk,false)):=by
         show _=_
         rw[← HO.out,pi_short (ltOf cf) a b s i dk ha (by rw[HK.out];omega) (by omega)]
        go_wp2_with fail
        go_ret
        rw[HT.out]
        exact⟨rfl,HS2.out⟩
       ·have d5:decide ((n:Int)<50)=false:=au (by omega)
        obtain⟨q,hq⟩:∃x,x=p - a:=⟨_,rfl⟩
        obtain⟨m,hm⟩:∃x,x=b - p:=⟨_,rfl⟩
        have zq:(p:Int) - (a:Int)=(q:Int):=by omega
        have zm:(b:Int) - (p:Int)=(m:Int):=by omega
        clear hq hm
        go_wp2_with fail
        obtain⟨g1,g2,f1,f2,⟨u,g3⟩,h2⟩:=I0 HS2 HR hC p pm hF hG Vx1 Vx2
        clear HS2
        go_wp2_with fail
        go_region
        clear g1 g2 g3 f1 f2
        generalize ((w2.setCell ⟨blk,off+p,none⟩ (.int .i64 (x2.val:Nat))).setCell ⟨blk,off+pm,none⟩ (.int .i64 (x1.val:Nat))).drew=w3 at h2 ⊢
        have hv:(Go.Sort.swp dk p pm).size=d.size:=by rw[Go.Sort.size_swp];exact hM
        clear HL Vx1 Vx2 d3
        by_cases hY:2≤q
        ·have e1:decide ((2:Int)≤(q:Int))=true:=aC (by omega)
         go_wp2_with fail
         go_loopw [11] (fun y wr=>∃(j:Nat) (dj:Array (Fin (k+1))),y=.int .i64 j∧j≤pm∧dj.size=d.size∧SW aK w0 blk off dj wr∧Go.Sort.shiftDown (ltOf cf) j dj=Go.Sort.shiftDown (ltOf cf) pm (Go.Sort.swp dk p pm)) (fun y _=>(intOf y).toNat)
         case atStart=>exact⟨pm,Go.Sort.swp dk p pm,rfl,Nat.le_refl _,hv,h2.out,rfl⟩
         case round=>
          clear h2
          obtain⟨jd,dd,rfl,hR,hk,SD,hw⟩:=hrel
          have hf:=aa SD
          have HD:=aa hw
          clear SD hw
          have hD:dd.size=d0.size:=by omega
          by_cases hj:1≤jd
          ·have e3:decide ((1:Int)≤(jd:Int))=true:=aC (by omega)
           have ho:0<jd:=hj
           obtain⟨jm,h9⟩:∃x,x=jd - 1:=⟨_,rfl⟩
           have h4:=aa h9
           have zj:(jd:Int) - 1=(jm:Int):=by omega
           have h6:jd<dd.size:=by omega
           have h7:jm<dd.size:=by omega
           have hp:jd<d.size:=by omega
           have hr:jm<d.size:=by omega
           have hB:jm+1=jd:=by omega
           have hu:=aa hB
           clear h9 hB
           obtain⟨x1,x2,Vx1,Vx2,g1,g2,h0⟩:=IY HC hf HR hD jd jm h6 h7
           cases hl:ltOf cf x1 x2 with
           | true=>
             have d3:=b4 hl
             rw[Vx1.out,Vx2.out]at hl
             have HL:=aa hl
             clear hl
             generalize cf x1 x2=c at*
             go_wp2_with fail
             go_quiet ((go_at_call 164;exact Calls.quiet_of (h0.out _)))
             have HS2:=aa (hf.out.drewN nq)
             clear g1 g2 h0 hf
             generalize wr.drewN nq=w2 at HS2 ⊢
             have HG:Hid (Go.Sort.shiftDown (ltOf cf) jm (Go.Sort.swp dd jd jm)=Go.Sort.shiftDown (ltOf cf) pm (Go.Sort.swp dk p pm)):=by
              show _=_
              rw[← HD.out,shiftDown_go (ltOf cf) jd dd hj (by rw[← h4.out];exact HL.out),h4.out]
             obtain⟨g1,g2,f1,f2,⟨u,g3⟩,h2⟩:=I0 HS2 HR hD jd jm h6 h7 Vx1 Vx2
             clear HS2
             go_wp2_with fail
             go_region
             clear g1 g2 g3 f1 f2
             generalize ((w2.setCell ⟨blk,off+jd,none⟩ (.int .i64 (x2.val:Nat))).setCell ⟨blk,off+jm,none⟩ (.int .i64 (x1.val:Nat))).drew=w3 at h2 ⊢
             go_wp2_with fail
             go_roundw
             case rel=>exact⟨jm,Go.Sort.swp dd jd jm,rfl,by have:=hu.out;omega,by rw[Go.Sort.size_swp];exact hk,h2.out,HG.out⟩
             case measure=>(have:=hu.out;simp[intOf] <;>omega)
           | false=>
             have d3:=bC hl
             rw[Vx1.out,Vx2.out]at hl
             have HL:=aa hl
             clear hl
             generalize cf x1 x2=c at*
             go_wp2_with fail
             go_quiet ((go_at_call 164;exact Calls.quiet_of (h0.out _)))
             have HS2:=aa (hf.out.drewN nq)
             clear g1 g2 h0 hf
             generalize wr.drewN nq=w2 at HS2 ⊢
             have h8:Hid (Go.Sort.fixDown (ltOf cf) a p (Go.Sort.swp dk p pm)=dd):=by
              show _=_
              unfold Go.Sort.fixDown
              rw[if_pos (show p - a≥2 by omega),←h5.out,←HD.out,shiftDown_stop (ltOf cf) jd dd (Or.inr (by rw[← h4.out];exact HL.out))]
             clear h4 hu HL Vx1 Vx2 d3 zj h6 h7 hp hr e3 hj ho
             by_cases hE:2≤m
             ·have e2:decide ((2:Int)≤(m:Int))=true:=aC (by omega)
              go_wp2_with fail
              go_loopw [12] (fun y wr=>∃(j:Nat) (dj:Array (Fin (k+1))),y=.int .i64 j∧p+1≤j∧j≤b∧dj.size=d.size∧SW aK w0 blk off dj wr∧Go.Sort.shiftUp (ltOf cf) b j dj=Go.Sort.shiftUp (ltOf cf) b (p+1) (dd)) (fun y _=>b - (intOf y).toNat)
              case atStart=>exact⟨p+1,dd,by go_num,by omega,by omega,hk,HS2.out,rfl⟩
              case round=>
               clear HS2
               obtain⟨j,dj,rfl,hj,hA,hc,SJ,he⟩:=hrel
               have h1:=aa SJ
               have HJ:=aa he
               clear SJ he
               have hh:dj.size=d0.size:=by omega
               by_cases hg:j<b
               ·have e3:decide ((j:Int)<(b:Int))=true:=aC (by omega)
                obtain⟨jm,h9⟩:∃x,x=j - 1:=⟨_,rfl⟩
                have h4:=aa h9
                have zj:(j:Int) - 1=(jm:Int):=by omega
                have h6:j<dj.size:=by omega
                have h7:jm<dj.size:=by omega
                have hp:j<d.size:=by omega
                have hr:jm<d.size:=by omega
                clear h9
                obtain⟨x1,x2,Vx1,Vx2,g1,g2,h0⟩:=IY HC h1 HR hh j jm h6 h7
                cases hl:ltOf cf x1 x2 with
                | true=>
                  have d3:=b4 hl
                  rw[Vx1.out,Vx2.out]at hl
                  have HL:=aa hl
                  clear hl
                  generalize cf x1 x2=c at*
                  go_wp2_with fail
                  go_quiet ((go_at_call 164;exact Calls.quiet_of (h0.out _)))
                  have HS2:=aa (h1.out.drewN nq)
                  clear g1 g2 h0 h1
                  generalize wr.drewN nq=w2 at HS2 ⊢
                  have HG:Hid (Go.Sort.shiftUp (ltOf cf) b (j+1) (Go.Sort.swp dj j jm)=Go.Sort.shiftUp (ltOf cf) b (p+1) (dd)):=by
                   show _=_
                   rw[← HJ.out,shiftUp_go (ltOf cf) b j dj hg (by rw[← h4.out];exact HL.out),h4.out]
                  obtain⟨g1,g2,f1,f2,⟨u,g3⟩,h2⟩:=I0 HS2 HR hh j jm h6 h7 Vx1 Vx2
                  clear HS2
                  go_wp2_with fail
                  go_region
                  clear g1 g2 g3 f1 f2
                  generalize ((w2.setCell ⟨blk,off+j,none⟩ (.int .i64 (x2.val:Nat))).setCell ⟨blk,off+jm,none⟩ (.int .i64 (x1.val:Nat))).drew=w3 at h2 ⊢
                  go_wp2_with fail
                  go_roundw
                  case rel=>exact⟨j+1,Go.Sort.swp dj j jm,by go_num,by omega,by omega,by rw[Go.Sort.size_swp];exact hc,h2.out,HG.out⟩
                  case measure=>(simp [intOf] <;>omega)
                | false=>
                  have d3:=bC hl
                  rw[Vx1.out,Vx2.out]at hl
                  have HL:=aa hl
                  clear hl
                  generalize cf x1 x2=c at*
                  go_wp2_with fail
                  go_quiet ((go_at_call 164;exact Calls.quiet_of (h0.out _)))
                  have HS2:=aa (h1.out.drewN nq)
                  clear g1 g2 h0 h1
                  generalize wr.drewN nq=w2 at HS2 ⊢
                  have h3:Hid (Go.Sort.fixUp (ltOf cf) b p (dd)=dj):=by
                   show _=_
                   unfold Go.Sort.fixUp
                   rw[if_pos (show b - p≥2 by omega),←HJ.out,shiftUp_stop (ltOf cf) b j dj (Or.inr (by rw[← h4.out];exact HL.out))]
                  go_wp2_with fail
                  go_roundw
                  case rel=>exact⟨p,s+1,dj,rfl,by go_num,by omega,by omega,by omega,hc,HS2.out,by rw[← HO.out,pi_go (ltOf cf) a b s i p dk ha HK.out (by omega) (by omega),←h5.out,h8.out,h3.out]⟩
                  case measure=>(simp [intOf] <;>omega)
               ·have e3:decide ((j:Int)<(b:Int))=false:=au (by omega)
                have h3:Hid (Go.Sort.fixUp (ltOf cf) b p (dd)=dj):=by
                 show _=_
                 unfold Go.Sort.fixUp
                 rw[if_pos (show b - p≥2 by omega),←HJ.out,shiftUp_stop (ltOf cf) b j dj (Or.inl hg)]
                go_wp2_with fail
                go_roundw
                case rel=>exact⟨p,s+1,dj,rfl,by go_num,by omega,by omega,by omega,hc,h1.out,by rw[← HO.out,pi_go (ltOf cf) a b s i p dk ha HK.out (by omega) (by omega),←h5.out,h8.out,h3.out]⟩
                case measure=>(simp [intOf] <;>omega)
             ·have e2:decide ((2:Int)≤(m:Int))=false:=au (by omega)
              have h3:Hid (Go.Sort.fixUp (ltOf cf) b p (dd)=dd):=by
               show _=_
               unfold Go.Sort.fixUp
               rw[if_neg (show ¬b - p≥2 by omega)]
              go_wp2_with fail
              go_roundw
              case rel=>exact⟨p,s+1,dd,rfl,by go_num,by omega,by omega,by omega,hk,HS2.out,by rw[← HO.out,pi_go (ltOf cf) a b s i p dk ha HK.out (by omega) (by omega),←h5.out,h8.out,h3.out]⟩
              case measure=>(simp [intOf] <;>omega)
          ·have e3:decide ((1:Int)≤(jd:Int))=false:=au (by omega)
           have ho:jd=0:=by omega
           have h8:Hid (Go.Sort.fixDown (ltOf cf) a p (Go.Sort.swp dk p pm)=dd):=by
            show _=_
            unfold Go.Sort.fixDown
            rw[if_pos (show p - a≥2 by omega),←h5.out,←HD.out,shiftDown_stop (ltOf cf) jd dd (Or.inl ho)]
           subst ho
           by_cases hE:2≤m
           ·have e2:decide ((2:Int)≤(m:Int))=true:=aC (by omega)
            go_wp2_with fail
            go_loopw [12] (fun y wr=>∃(j:Nat) (dj:Array (Fin (k+1))),y=.int .i64 j∧p+1≤j∧j≤b∧dj.size=d.size∧SW aK w0 blk off dj wr∧Go.Sort.shiftUp (ltOf cf) b j dj=Go.Sort.shiftUp (ltOf cf) b (p+1) (dd)) (fun y _=>b - (intOf y).toNat)
            case atStart=>exact⟨p+1,dd,by go_num,by omega,by omega,hk,hf.out,rfl⟩
            case round=>
             clear hf
             obtain⟨j,dj,rfl,hj,hA,hc,SJ,he⟩:=hrel
             have h1:=aa SJ
             have HJ:=aa he
             clear SJ he
             have hh:dj.size=d0.size:=by omega
             by_cases hg:j<b
             ·have e3:decide ((j:Int)<(b:Int))=true:=aC (by omega)
              obtain⟨jm,h9⟩:∃x,x=j - 1:=⟨_,rfl⟩
              have h4:=aa h9
              have zj:(j:Int) - 1=(jm:Int):=by omega
              have h6:j<dj.size:=by omega
              have h7:jm<dj.size:=by omega
              have hp:j<d.size:=by omega
              have hr:jm<d.size:=by omega
              clear h9
              obtain⟨x1,x2,Vx1,Vx2,g1,g2,h0⟩:=IY HC h1 HR hh j jm h6 h7
              cases hl:ltOf cf x1 x2 with
              | true=>
                have d3:=b4 hl
                rw[Vx1.out,Vx2.out]at hl
                have HL:=aa hl
                clear hl
                generalize cf x1 x2=c at*
                go_wp2_with fail
                go_quiet ((go_at_call 164;exact Calls.quiet_of (h0.out _)))
                have HS2:=aa (h1.out.drewN nq)
                clear g1 g2 h0 h1
                generalize wr.drewN nq=w2 at HS2 ⊢
                have HG:Hid (Go.Sort.shiftUp (ltOf cf) b (j+1) (Go.Sort.swp dj j jm)=Go.Sort.shiftUp (ltOf cf) b (p+1) (dd)):=by
                 show _=_
                 rw[← HJ.out,shiftUp_go (ltOf cf) b j dj hg (by rw[← h4.out];exact HL.out),h4.out]
                obtain⟨g1,g2,f1,f2,⟨u,g3⟩,h2⟩:=I0 HS2 HR hh j jm h6 h7 Vx1 Vx2
                clear HS2
                go_wp2_with fail
                go_region
                clear g1 g2 g3 f1 f2
                generalize ((w2.setCell ⟨blk,off+j,none⟩ (.int .i64 (x2.val:Nat))).setCell ⟨blk,off+jm,none⟩ (.int .i64 (x1.val:Nat))).drew=w3 at h2 ⊢
                go_wp2_with fail
                go_roundw
                case rel=>exact⟨j+1,Go.Sort.swp dj j jm,by go_num,by omega,by omega,by rw[Go.Sort.size_swp];exact hc,h2.out,HG.out⟩
                case measure=>(simp [intOf] <;>omega)
              | false=>
                have d3:=bC hl
                rw[Vx1.out,Vx2.out]at hl
                have HL:=aa hl
                clear hl
                generalize cf x1 x2=c at*
                go_wp2_with fail
                go_quiet ((go_at_call 164;exact Calls.quiet_of (h0.out _)))
                have HS2:=aa (h1.out.drewN nq)
                clear g1 g2 h0 h1
                generalize wr.drewN nq=w2 at HS2 ⊢
                have h3:Hid (Go.Sort.fixUp (ltOf cf) b p (dd)=dj):=by
                 show _=_
                 unfold Go.Sort.fixUp
                 rw[if_pos (show b - p≥2 by omega),←HJ.out,shiftUp_stop (ltOf cf) b j dj (Or.inr (by rw[← h4.out];exact HL.out))]
                go_wp2_with fail
                go_roundw
                case rel=>exact⟨p,s+1,dj,rfl,by go_num,by omega,by omega,by omega,hc,HS2.out,by rw[← HO.out,pi_go (ltOf cf) a b s i p dk ha HK.out (by omega) (by omega),←h5.out,h8.out,h3.out]⟩
                case measure=>(simp [intOf] <;>omega)
             ·have e3:decide ((j:Int)<(b:Int))=false:=au (by omega)
              have h3:Hid (Go.Sort.fixUp (ltOf cf) b p (dd)=dj):=by
               show _=_
               unfold Go.Sort.fixUp
               rw[if_pos (show b - p≥2 by omega),←HJ.out,shiftUp_stop (ltOf cf) b j dj (Or.inl hg)]
              go_wp2_with fail
              go_roundw
              case rel=>exact⟨p,s+1,dj,rfl,by go_num,by omega,by omega,by omega,hc,h1.out,by rw[← HO.out,pi_go (ltOf cf) a b s i p dk ha HK.out (by omega) (by omega),←h5.out,h8.out,h3.out]⟩
              case measure=>(simp [intOf] <;>omega)
           ·have e2:decide ((2:Int)≤(m:Int))=false:=au (by omega)
            have h3:Hid (Go.Sort.fixUp (ltOf cf) b p (dd)=dd):=by
             show _=_
             unfold Go.Sort.fixUp
             rw[if_neg (show ¬b - p≥2 by omega)]
            go_wp2_with fail
            go_roundw
            case rel=>exact⟨p,s+1,dd,rfl,by go_num,by omega,by omega,by omega,hk,hf.out,by rw[← HO.out,pi_go (ltOf cf) a b s i p dk ha HK.out (by omega) (by omega),←h5.out,h8.out,h3.out]⟩
            case measure=>(simp [intOf] <;>omega)
        ·have e1:decide ((2:Int)≤(q:Int))=false:=au (by omega)
         have h8:Hid (Go.Sort.fixDown (ltOf cf) a p (Go.Sort.swp dk p pm)=Go.Sort.swp dk p pm):=by
          show _=_
          unfold Go.Sort.fixDown
          rw[if_neg (show ¬p - a≥2 by omega)]
         by_cases hE:2≤m
         ·have e2:decide ((2:Int)≤(m:Int))=true:=aC (by omega)
          go_wp2_with fail
          go_loopw [12] (fun y wr=>∃(j:Nat) (dj:Array (Fin (k+1))),y=.int .i64 j∧p+1≤j∧j≤b∧dj.size=d.size∧SW aK w0 blk off dj wr∧Go.Sort.shiftUp (ltOf cf) b j dj=Go.Sort.shiftUp (ltOf cf) b (p+1) (Go.Sort.swp dk p pm)) (fun y _=>b - (intOf y).toNat)
          case atStart=>exact⟨p+1,Go.Sort.swp dk p pm,by go_num,by omega,by omega,hv,h2.out,rfl⟩
          case round=>
           clear h2
           obtain⟨j,dj,rfl,hj,hA,hc,SJ,he⟩:=hrel
           have h1:=aa SJ
           have HJ:=aa he
           clear SJ he
           have hh:dj.size=d0.size:=by omega
           by_cases hg:j<b
           ·have e3:decide ((j:Int)<(b:Int))=true:=aC (by omega)
            obtain⟨jm,h9⟩:∃x,x=j - 1:=⟨_,rfl⟩
            have h4:=aa h9
            have zj:(j:Int) - 1=(jm:Int):=by omega
            have h6:j<dj.size:=by omega
            have h7:jm<dj.size:=by omega
            have hp:j<d.size:=by omega
            have hr:jm<d.size:=by omega
            clear h9
            obtain⟨x1,x2,Vx1,Vx2,g1,g2,h0⟩:=IY HC h1 HR hh j jm h6 h7
            cases hl:ltOf cf x1 x2 with
            | true=>
              have d3:=b4 hl
              rw[Vx1.out,Vx2.out]at hl
              have HL:=aa hl
              clear hl
              generalize cf x1 x2=c at*
              go_wp2_with fail
              go_quiet ((go_at_call 164;exact Calls.quiet_of (h0.out _)))
              have HS2:=aa (h1.out.drewN nq)
              clear g1 g2 h0 h1
              generalize wr.drewN nq=w2 at HS2 ⊢
              have HG:Hid (Go.Sort.shiftUp (ltOf cf) b (j+1) (Go.Sort.swp dj j jm)=Go.Sort.shiftUp (ltOf cf) b (p+1) (Go.Sort.swp dk p pm)):=by
               show _=_
               rw[← HJ.out,shiftUp_go (ltOf cf) b j dj hg (by rw[← h4.out];exact HL.out),h4.out]
              obtain⟨g1,g2,f1,f2,⟨u,g3⟩,h2⟩:=I0 HS2 HR hh j jm h6 h7 Vx1 Vx2
              clear HS2
              go_wp2_with fail
              go_region
              clear g1 g2 g3 f1 f2
              generalize ((w2.setCell ⟨blk,off+j,none⟩ (.int .i64 (x2.val:Nat))).setCell ⟨blk,off+jm,none⟩ (.int .i64 (x1.val:Nat))).drew=w3 at h2 ⊢
              go_wp2_with fail
              go_roundw
              case rel=>exact⟨j+1,Go.Sort.swp dj j jm,by go_num,by omega,by omega,by rw[Go.Sort.size_swp];exact hc,h2.out,HG.out⟩
              case measure=>(simp [intOf] <;>omega)
            | false=>
              have d3:=bC hl
              rw[Vx1.out,Vx2.out]at hl
              have HL:=aa hl
              clear hl
              generalize cf x1 x2=c at*
              go_wp2_with fail
              go_quiet ((go_at_call 164;exact Calls.quiet_of (h0.out _)))
              have HS2:=aa (h1.out.drewN nq)
              clear g1 g2 h0 h1
              generalize wr.drewN nq=w2 at HS2 ⊢
              have h3:Hid (Go.Sort.fixUp (ltOf cf) b p (Go.Sort.swp dk p pm)=dj):=by
               show _=_
               unfold Go.Sort.fixUp
               rw[if_pos (show b - p≥2 by omega),←HJ.out,shiftUp_stop (ltOf cf) b j dj (Or.inr (by rw[← h4.out];exact HL.out))]
              go_wp2_with fail
              go_roundw
              case rel=>exact⟨p,s+1,dj,rfl,by go_num,by omega,by omega,by omega,hc,HS2.out,by rw[← HO.out,pi_go (ltOf cf) a b s i p dk ha HK.out (by omega) (by omega),←h5.out,h8.out,h3.out]⟩
              case measure=>(simp [intOf] <;>omega)
           ·have e3:decide ((j:Int)<(b:Int))=false:=au (by omega)
            have h3:Hid (Go.Sort.fixUp (ltOf cf) b p (Go.Sort.swp dk p pm)=dj):=by
             show _=_
             unfold Go.Sort.fixUp
             rw[if_pos (show b - p≥2 by omega),←HJ.out,shiftUp_stop (ltOf cf) b j dj (Or.inl hg)]
            go_wp2_with fail
            go_roundw
            case rel=>exact⟨p,s+1,dj,rfl,by go_num,by omega,by omega,by omega,hc,h1.out,by rw[← HO.out,pi_go (ltOf cf) a b s i p dk ha HK.out (by omega) (by omega),←h5.out,h8.out,h3.out]⟩
            case measure=>(simp [intOf] <;>omega)
         ·have e2:decide ((2:Int)≤(m:Int))=false:=au (by omega)
          have h3:Hid (Go.Sort.fixUp (ltOf cf) b p (Go.Sort.swp dk p pm)=Go.Sort.swp dk p pm):=by
           show _=_
           unfold Go.Sort.fixUp
           rw[if_neg (show ¬b - p≥2 by omega)]
          go_wp2_with fail
          go_roundw
          case rel=>exact⟨p,s+1,Go.Sort.swp dk p pm,rfl,by go_num,by omega,by omega,by omega,hv,h2.out,by rw[← HO.out,pi_go (ltOf cf) a b s i p dk ha HK.out (by omega) (by omega),←h5.out,h8.out,h3.out]⟩
          case measure=>(simp [intOf] <;>omega)
     | false=>
       have d3:=bC hl
       rw[Vx1.out,Vx2.out]at hl
       have HL:=aa hl
       clear hl
       generalize cf x1 x2=c at*
       go_wp2_with fail
       go_quiet ((go_at_call 164;exact Calls.quiet_of (h0.out _)))
       have HS2:=aa (hi.out.drewN nq)
       clear g1 g2 h0 hi
       generalize wr.drewN nq=w2 at HS2 ⊢
       go_wp2_with fail
       go_roundw
       case rel=>exact⟨p+1,by go_num,by omega,by omega,HS2.out,by rw[← HP.out,scanSorted_go (ltOf cf) dk b p hH (by rw[← h5.out];exact HL.out)]⟩
       case measure=>(simp [intOf] <;>omega)
    ·have d2:decide ((p:Int)<(b:Int))=false:=au (by omega)
     obtain rfl:p=b:=by omega
     have HT:Hid (T=(dk,true)):=by
      show _=_
      rw[← HO.out,pi_true (ltOf cf) a p s i dk ha (by rw[← HP.out,scanSorted_stop (ltOf cf) dk p p (Or.inl hH)])]
     go_wp2_with fail
     go_quiet (fail)
     have HS2:=aa (hi.out.drewN nq)
     generalize wr.drewN nq=w2 at HS2 ⊢
     go_wp2_with fail
     go_ret
     rw[HT.out]
     exact⟨rfl,HS2.out⟩
  ·have d1:decide ((s:Int)<5)=false:=au (by omega)
   obtain rfl:s=5:=by omega
   have HT:Hid (T=(dk,false)):=by
    show _=_
    rw[← HO.out,pi_end]
   go_wp2_with fail
   go_ret
   rw[HT.out]
   exact⟨rfl,ht.out⟩
theorem l6(k:Nat)(r:Value)(cf:Fin (k+1)→Fin (k+1)→Int)(blk off cap a b pv:Nat)(d0 d:Array (Fin (k+1)))(w0 w:World)
 (C:i8 r cf blk off d0.size w0) (R:Row1 aK w0 blk off d0) (hs:d0.size=d.size) (S:SW aK w0 blk off d w) (hP:a+12<b) (hb:b≤d.size) (_:a≤pv) (hV:pv<b) (hW:d.size≤1000000000):
 Calls Tryz.prog 234 #[.slice (some ⟨blk,off,none⟩) d.size cap,.int .i64 a,.int .i64 b,.int .i64 pv,.func (.func 164) #[r] #[]] w fun e w'=>e=.returned (.tuple #[.int .i64 (Go.Sort.partition (ltOf cf) d a b pv).1,.bool (Go.Sort.partition (ltOf cf) d a b pv).2.1])∧SW aK w0 blk off (Go.Sort.partition (ltOf cf) d a b pv).2.2 w':=by
 have HC:=aa C
 have HR:=aa R
 have HS:=aa S
 clear C R S
 obtain⟨bm,hF⟩:∃x,x=b - 1:=⟨_,rfl⟩
 have hy:=aa hF
 have zb:(b:Int) - 1=(bm:Int):=by omega
 have hQ:bm+1≤b:=by omega
 have hR:b≤bm+1:=by omega
 clear hF
 obtain⟨T,hT⟩:∃T,T=Go.Sort.partition (ltOf cf) d a b pv:=⟨_,rfl⟩
 rw[← hT]
 have hq:=aa hT.symm
 clear hT
 have hA:a<d.size:=by omega
 have hB:pv<d.size:=by omega
 have hM:d.size=d0.size:=by omega
 clear hs
 go_enter Tryz.func234,Tryz.ntmps234
 go_wp2_with fail
 obtain⟨x1,x2,g1,g2,f1,f2,⟨u,g3⟩,h3⟩:=IZ HS HR hM a pv hA hB
 clear HS
 go_wp2_with fail
 go_region
 clear g1 g2 g3 f1 f2
 generalize ((w.setCell ⟨blk,off+a,none⟩ (.int .i64 (x2.val:Nat))).setCell ⟨blk,off+pv,none⟩ (.int .i64 (x1.val:Nat))).drew=w3 at h3 ⊢
 obtain⟨dk,hr⟩:∃x,x=Go.Sort.swp d a pv:=⟨_,rfl⟩
 have hN:dk.size=d.size:=by rw[hr,Go.Sort.size_swp]
 rw[← hr]at h3
 have hz:=aa hr
 clear hr
 have hm:dk.size=d0.size:=by omega
 have hh:a<dk.size:=by omega
 go_wp2_with fail
 go_loopw [12] (fun x wr=>∃(i:Nat),x=.int .i64 i∧a+1≤i∧i≤bm+1∧SW aK w0 blk off dk wr∧Go.Sort.scanUp (fun x=>ltOf cf x dk[a]!) dk bm i=Go.Sort.scanUp (fun x=>ltOf cf x dk[a]!) dk bm (a+1)) (fun x _=>bm+1 - (intOf x).toNat)
 case atStart=>exact⟨a+1,by go_num,Nat.le_refl _,by omega,h3.out,rfl⟩
 case round=>
  clear h3
  obtain⟨i,rfl,hG,hH,SI,hp⟩:=hrel
  have h5:=aa SI
  have HI:=aa hp
  clear SI hp
  by_cases hk:i≤bm
  ·have d2:decide ((i:Int)≤(bm:Int))=true:=aC (by omega)
   have ho:i<dk.size:=by omega
   have hJ:i<d.size:=by omega
   obtain⟨x1,x2,Vx1,Vx2,g1,g2,h2⟩:=IY HC h5 HR hm i a ho hh
   cases hl:ltOf cf x1 x2 with
   | true=>
     have d3:=b4 hl
     rw[Vx1.out,Vx2.out]at hl
     have HL:=aa hl
     clear hl
     generalize cf x1 x2=c at*
     go_wp2_with fail
     go_quiet ((go_at_call 164;exact Calls.quiet_of (h2.out _)))
     have HS2:=aa (h5.out.drewN nq)
     clear g1 g2 h2 h5
     generalize wr.drewN nq=w2 at HS2 ⊢
     go_wp2_with fail
     go_roundw
     case rel=>exact⟨i+1,by go_num,by omega,by omega,HS2.out,by rw[← HI.out,scanUp_go (fun x=>ltOf cf x dk[a]!) dk bm i hk HL.out]⟩
     case measure=>(simp [intOf] <;>omega)
   | false=>
     have d3:=bC hl
     rw[Vx1.out,Vx2.out]at hl
     have HL:=aa hl
     clear hl
     generalize cf x1 x2=c at*
     go_wp2_with fail
     go_quiet ((go_at_call 164;exact Calls.quiet_of (h2.out _)))
     have HS2:=aa (h5.out.drewN nq)
     clear g1 g2 h2 h5
     generalize wr.drewN nq=w2 at HS2 ⊢
     have h7:Hid (i=Go.Sort.scanUp (fun x=>ltOf cf x dk[a]!) dk bm (a+1)):=by
      show _=_
      rw[← HI.out,scanUp_end (fun x=>ltOf cf x dk[a]!) dk bm i (Or.inr HL.out)]
     clear HL Vx1 Vx2 d3 HI
     go_wp2_with fail
     go_loopw [13] (fun y wr=>∃(j:Nat),y=.int .i64 j∧j≤bm∧a≤j∧SW aK w0 blk off dk wr∧Go.Sort.scanDown (fun x=> !ltOf cf x dk[a]!) dk i j=Go.Sort.scanDown (fun x=> !ltOf cf x dk[a]!) dk i bm) (fun y _=>(intOf y).toNat)
     case atStart=>exact⟨bm,rfl,Nat.le_refl _,by omega,HS2.out,rfl⟩
     case round=>
      clear HS2
      obtain⟨j,rfl,ht,hu,SJ,h9⟩:=hrel
      have h1:=aa SJ
      have HJ:=aa h9
      clear SJ h9
      by_cases h0:i≤j
      ·have d4:decide ((i:Int)≤(j:Int))=true:=aC (by omega)
       obtain⟨jm,ha⟩:∃x,x=j - 1:=⟨_,rfl⟩
       have hc:=aa ha
       have zj:(j:Int) - 1=(jm:Int):=by omega
       have hv:jm+1≤j:=by omega
       have hg:j≤jm+1:=by omega
       have he:j<dk.size:=by omega
       have hw:j<d.size:=by omega
       clear ha
       obtain⟨x1,x2,Vx1,Vx2,g1,g2,h2⟩:=IY HC h1 HR hm j a he hh
       cases hl:ltOf cf x1 x2 with
       | true=>
         have d3:=b4 hl
         rw[Vx1.out,Vx2.out]at hl
         have HL:=aa hl
         clear hl
         generalize cf x1 x2=c at*
         go_wp2_with fail
         go_quiet ((go_at_call 164;exact Calls.quiet_of (h2.out _)))
         have HS2:=aa (h1.out.drewN nq)
         clear g1 g2 h2 h1
         generalize wr.drewN nq=w2 at HS2 ⊢
         have h4:Hid (j=Go.Sort.scanDown (fun x=> !ltOf cf x dk[a]!) dk i bm):=by
          show _=_
          rw[← HJ.out,scanDown_end (fun x=> !ltOf cf x dk[a]!) dk i j (Or.inr (by rw[HL.out];rfl))]
         clear HL Vx1 Vx2 d3 HJ
         have hI:=part_scans_lt (ltOf cf) a (a+1) bm dk (by omega) h7.out h4.out h0
         have e1:decide ((j:Int)<(i:Int))=false:=au (by omega)
         have h8:¬j<i:=by omega
         obtain⟨L,hL⟩:∃L,L=Go.Sort.partLoop (ltOf cf) a (i+1) jm (Go.Sort.swp dk i j):=⟨_,rfl⟩
         have HT:=aa (part_first_go (ltOf cf) d a b pv rfl hy.out hz.out h7.out h4.out h8)
         rw[hq.out,←hc.out,←hL]at HT
         have hC:=aa hL.symm
         clear hL h7 h4 hq
         go_wp2_with fail
         obtain⟨x1,x2,g1,g2,f1,f2,⟨u,g3⟩,h3⟩:=IZ HS2 HR hm i j ho he
         clear HS2
         go_wp2_with fail
         go_region
         clear g1 g2 g3 f1 f2
         generalize ((w2.setCell ⟨blk,off+i,none⟩ (.int .i64 (x2.val:Nat))).setCell ⟨blk,off+j,none⟩ (.int .i64 (x1.val:Nat))).drew=w3 at h3 ⊢
         go_wp2_with fail
         go_loopw [12,13] (fun x y wr=>∃(i j:Nat) (dk:Array (Fin (k+1))),x=.int .i64 i∧y=.int .i64 j∧a<i∧i≤j+1∧j<b∧dk.size=d.size∧SW aK w0 blk off dk wr∧Go.Sort.partLoop (ltOf cf) a i j dk=L) (fun x y _=>(intOf y+1 - intOf x).toNat)
         case atStart=>exact⟨i+1,jm,Go.Sort.swp dk i j,by go_num,rfl,by omega,by omega,by omega,by rw[Go.Sort.size_swp];exact hN,h3.out,hC.out⟩
         case round=>
          clear h3 hC hc
          obtain⟨i0,j0,dm,rfl,rfl,hS,hK,hU,hO,SM,hD⟩:=hrel
          have hE:=aa SM
          have hx:=aa hD
          clear SM hD
          have hn:dm.size=d0.size:=by omega
          have hi:a<dm.size:=by omega
          have hh:=hi
          clear hG hH hk h0 d2 d4 h8 e1 ho he hJ hw zj hv hg ht hu hI
          go_wp2_with fail
          go_loopw [12] (fun x wr=>∃(i:Nat),x=.int .i64 i∧i0≤i∧i≤j0+1∧SW aK w0 blk off dm wr∧Go.Sort.scanUp (fun x=>ltOf cf x dm[a]!) dm j0 i=Go.Sort.scanUp (fun x=>ltOf cf x dm[a]!) dm j0 (i0)) (fun x _=>j0+1 - (intOf x).toNat)
          case atStart=>exact⟨i0,by go_num,Nat.le_refl _,by omega,hE.out,rfl⟩
          case round=>
           clear hE
           obtain⟨i,rfl,hG,hH,SI,hp⟩:=hrel
           have h5:=aa SI
           have HI:=aa hp
           clear SI hp
           by_cases hk:i≤j0
           ·have d2:decide ((i:Int)≤(j0:Int))=true:=aC (by omega)
            have ho:i<dm.size:=by omega
            have hJ:i<d.size:=by omega
            obtain⟨x1,x2,Vx1,Vx2,g1,g2,h2⟩:=IY HC h5 HR hn i a ho hh
            cases hl:ltOf cf x1 x2 with
            | true=>
              have d3:=b4 hl
              rw[Vx1.out,Vx2.out]at hl
              have HL:=aa hl
              clear hl
              generalize cf x1 x2=c at*
              go_wp2_with fail
              go_quiet ((go_at_call 164;exact Calls.quiet_of (h2.out _)))
              have HS2:=aa (h5.out.drewN nq)
              clear g1 g2 h2 h5
              generalize wr.drewN nq=w2 at HS2 ⊢
              go_wp2_with fail
              go_roundw
              case rel=>exact⟨i+1,by go_num,by omega,by omega,HS2.out,by rw[← HI.out,scanUp_go (fun x=>ltOf cf x dm[a]!) dm j0 i hk HL.out]⟩
              case measure=>(simp [intOf] <;>omega)
            | false=>
              have d3:=bC hl
              rw[Vx1.out,Vx2.out]at hl
              have HL:=aa hl
              clear hl
              generalize cf x1 x2=c at*
              go_wp2_with fail
              go_quiet ((go_at_call 164;exact Calls.quiet_of (h2.out _)))
              have HS2:=aa (h5.out.drewN nq)
              clear g1 g2 h2 h5
              generalize wr.drewN nq=w2 at HS2 ⊢
              have h7:Hid (i=Go.Sort.scanUp (fun x=>ltOf cf x dm[a]!) dm j0 (i0)):=by
               show _=_
               rw[← HI.out,scanUp_end (fun x=>ltOf cf x dm[a]!) dm j0 i (Or.inr HL.out)]
              clear HL Vx1 Vx2 d3 HI
              go_wp2_with fail
              go_loopw [13] (fun y wr=>∃(j:Nat),y=.int .i64 j∧j≤j0∧a≤j∧SW aK w0 blk off dm wr∧Go.Sort.scanDown (fun x=> !ltOf cf x dm[a]!) dm i j=Go.Sort.scanDown (fun x=> !ltOf cf x dm[a]!) dm i j0) (fun y _=>(intOf y).toNat)
              case atStart=>exact⟨j0,rfl,Nat.le_refl _,by omega,HS2.out,rfl⟩
              case round=>
               clear HS2
               obtain⟨j,rfl,ht,hu,SJ,h9⟩:=hrel
               have h1:=aa SJ
               have HJ:=aa h9
               clear SJ h9
               by_cases h0:i≤j
               ·have d4:decide ((i:Int)≤(j:Int))=true:=aC (by omega)
                obtain⟨jm,ha⟩:∃x,x=j - 1:=⟨_,rfl⟩
                have hc:=aa ha
                have zj:(j:Int) - 1=(jm:Int):=by omega
                have hv:jm+1≤j:=by omega
                have hg:j≤jm+1:=by omega
                have he:j<dm.size:=by omega
                have hw:j<d.size:=by omega
                clear ha
                obtain⟨x1,x2,Vx1,Vx2,g1,g2,h2⟩:=IY HC h1 HR hn j a he hh
                cases hl:ltOf cf x1 x2 with
                | true=>
                  have d3:=b4 hl
                  rw[Vx1.out,Vx2.out]at hl
                  have HL:=aa hl
                  clear hl
                  generalize cf x1 x2=c at*
                  go_wp2_with fail
                  go_quiet ((go_at_call 164;exact Calls.quiet_of (h2.out _)))
                  have HS2:=aa (h1.out.drewN nq)
                  clear g1 g2 h2 h1
                  generalize wr.drewN nq=w2 at HS2 ⊢
                  have h4:Hid (j=Go.Sort.scanDown (fun x=> !ltOf cf x dm[a]!) dm i j0):=by
                   show _=_
                   rw[← HJ.out,scanDown_end (fun x=> !ltOf cf x dm[a]!) dm i j (Or.inr (by rw[HL.out];rfl))]
                  clear HL Vx1 Vx2 d3 HJ
                  have hI:=part_scans_lt (ltOf cf) a i0 j0 dm (by omega) h7.out h4.out h0
                  have e1:decide ((j:Int)<(i:Int))=false:=au (by omega)
                  have h8:¬j<i:=by omega
                  have HG:=aa ((part_go (ltOf cf) a i0 j0 dm h7.out h4.out h8).symm.trans hx.out)
                  rw[← hc.out]at HG
                  clear h7 h4
                  go_wp2_with fail
                  obtain⟨x1,x2,g1,g2,f1,f2,⟨u,g3⟩,h3⟩:=IZ HS2 HR hn i j ho he
                  clear HS2
                  go_wp2_with fail
                  go_region
                  clear g1 g2 g3 f1 f2
                  generalize ((w2.setCell ⟨blk,off+i,none⟩ (.int .i64 (x2.val:Nat))).setCell ⟨blk,off+j,none⟩ (.int .i64 (x1.val:Nat))).drew=w3 at h3 ⊢
                  go_wp2_with fail
                  go_roundw
                  case rel=>exact⟨i+1,jm,Go.Sort.swp dm i j,by go_num,rfl,by omega,by omega,by omega,by rw[Go.Sort.size_swp];exact hO,h3.out,HG.out⟩
                  case measure=>(simp [intOf] <;>omega)
                | false=>
                  have d3:=bC hl
                  rw[Vx1.out,Vx2.out]at hl
                  have HL:=aa hl
                  clear hl
                  generalize cf x1 x2=c at*
                  go_wp2_with fail
                  go_quiet ((go_at_call 164;exact Calls.quiet_of (h2.out _)))
                  have HS2:=aa (h1.out.drewN nq)
                  clear g1 g2 h2 h1
                  generalize wr.drewN nq=w2 at HS2 ⊢
                  go_wp2_with fail
                  go_roundw
                  case rel=>exact⟨jm,rfl,by omega,by omega,HS2.out,by rw[← HJ.out,hc.out,←scanDown_go (fun x=> !ltOf cf x dm[a]!) dm i j h0 (by omega) (by rw[HL.out];rfl)]⟩
                  case measure=>(simp [intOf] <;>omega)
               ·have d4:decide ((i:Int)≤(j:Int))=false:=au (by omega)
                have h4:Hid (j=Go.Sort.scanDown (fun x=> !ltOf cf x dm[a]!) dm i j0):=by
                 show _=_
                 rw[← HJ.out,scanDown_end (fun x=> !ltOf cf x dm[a]!) dm i j (Or.inl h0)]
                clear HJ
                go_wp2_with fail
                go_quiet (fail)
                have HS2:=aa (h1.out.drewN nq)
                clear h1
                generalize wr.drewN nq=w2 at HS2 ⊢
                have e1:decide ((j:Int)<(i:Int))=true:=aC (by omega)
                have h8:j<i:=by omega
                have h6:j<dm.size:=by omega
                have hj:j<d.size:=by omega
                have hf:Hid (T=(j,false,Go.Sort.swp dm j a)):=by
                 show _=_
                 rw[HT.out,←hx.out,part_break (ltOf cf) a i0 j0 dm h7.out h4.out h8]
                go_wp2_with fail
                obtain⟨x1,x2,g1,g2,f1,f2,⟨u,g3⟩,h3⟩:=IZ HS2 HR hn j a h6 hi
                clear HS2
                go_wp2_with fail
                go_region
                clear g1 g2 g3 f1 f2
                generalize ((w2.setCell ⟨blk,off+j,none⟩ (.int .i64 (x2.val:Nat))).setCell ⟨blk,off+a,none⟩ (.int .i64 (x1.val:Nat))).drew=w3 at h3 ⊢
                go_wp2_with fail
                go_ret2
                rw[hf.out]
                exact⟨rfl,h3.out⟩
           ·have d2:decide ((i:Int)≤(j0:Int))=false:=au (by omega)
            have h7:Hid (i=Go.Sort.scanUp (fun x=>ltOf cf x dm[a]!) dm j0 (i0)):=by
             show _=_
             rw[← HI.out,scanUp_end (fun x=>ltOf cf x dm[a]!) dm j0 i (Or.inl hk)]
            clear HI
            go_wp2_with fail
            go_quiet (fail)
            have HS2:=aa (h5.out.drewN nq)
            clear h5
            generalize wr.drewN nq=w2 at HS2 ⊢
            go_wp2_with fail
            go_loopw [13] (fun y wr=>∃(j:Nat),y=.int .i64 j∧j≤j0∧a≤j∧SW aK w0 blk off dm wr∧Go.Sort.scanDown (fun x=> !ltOf cf x dm[a]!) dm i j=Go.Sort.scanDown (fun x=> !ltOf cf x dm[a]!) dm i j0) (fun y _=>(intOf y).toNat)
            case atStart=>exact⟨j0,rfl,Nat.le_refl _,by omega,HS2.out,rfl⟩
            case round=>
             clear HS2
             obtain⟨j,rfl,ht,hu,SJ,h9⟩:=hrel
             have h1:=aa SJ
             have HJ:=aa h9
             clear SJ h9
             by_cases h0:i≤j
             ·have d4:decide ((i:Int)≤(j:Int))=true:=aC (by omega)
              obtain⟨jm,ha⟩:∃x,x=j - 1:=⟨_,rfl⟩
              have hc:=aa ha
              have zj:(j:Int) - 1=(jm:Int):=by omega
              have hv:jm+1≤j:=by omega
              have hg:j≤jm+1:=by omega
              have he:j<dm.size:=by omega
              have hw:j<d.size:=by omega
              clear ha
              obtain⟨x1,x2,Vx1,Vx2,g1,g2,h2⟩:=IY HC h1 HR hn j a he hh
              cases hl:ltOf cf x1 x2 with
              | true=>
                have d3:=b4 hl
                rw[Vx1.out,Vx2.out]at hl
                have HL:=aa hl
                clear hl
                generalize cf x1 x2=c at*
                go_wp2_with fail
                go_quiet ((go_at_call 164;exact Calls.quiet_of (h2.out _)))
                have HS2:=aa (h1.out.drewN nq)
                clear g1 g2 h2 h1
                generalize wr.drewN nq=w2 at HS2 ⊢
                have h4:Hid (j=Go.Sort.scanDown (fun x=> !ltOf cf x dm[a]!) dm i j0):=by
                 show _=_
                 rw[← HJ.out,scanDown_end (fun x=> !ltOf cf x dm[a]!) dm i j (Or.inr (by rw[HL.out];rfl))]
                clear HL Vx1 Vx2 d3 HJ
                exact absurd h0 (by omega)
              | false=>
                have d3:=bC hl
                rw[Vx1.out,Vx2.out]at hl
                have HL:=aa hl
                clear hl
                generalize cf x1 x2=c at*
                go_wp2_with fail
                go_quiet ((go_at_call 164;exact Calls.quiet_of (h2.out _)))
                have HS2:=aa (h1.out.drewN nq)
                clear g1 g2 h2 h1
                generalize wr.drewN nq=w2 at HS2 ⊢
                go_wp2_with fail
                go_roundw
                case rel=>exact⟨jm,rfl,by omega,by omega,HS2.out,by rw[← HJ.out,hc.out,←scanDown_go (fun x=> !ltOf cf x dm[a]!) dm i j h0 (by omega) (by rw[HL.out];rfl)]⟩
                case measure=>(simp [intOf] <;>omega)
             ·have d4:decide ((i:Int)≤(j:Int))=false:=au (by omega)
              have h4:Hid (j=Go.Sort.scanDown (fun x=> !ltOf cf x dm[a]!) dm i j0):=by
               show _=_
               rw[← HJ.out,scanDown_end (fun x=> !ltOf cf x dm[a]!) dm i j (Or.inl h0)]
              clear HJ
              go_wp2_with fail
              go_quiet (fail)
              have HS2:=aa (h1.out.drewN nq)
              clear h1
              generalize wr.drewN nq=w2 at HS2 ⊢
              have e1:decide ((j:Int)<(i:Int))=true:=aC (by omega)
              have h8:j<i:=by omega
              have h6:j<dm.size:=by omega
              have hj:j<d.size:=by omega
              have hf:Hid (T=(j,false,Go.Sort.swp dm j a)):=by
               show _=_
               rw[HT.out,←hx.out,part_break (ltOf cf) a i0 j0 dm h7.out h4.out h8]
              go_wp2_with fail
              obtain⟨x1,x2,g1,g2,f1,f2,⟨u,g3⟩,h3⟩:=IZ HS2 HR hn j a h6 hi
              clear HS2
              go_wp2_with fail
              go_region
              clear g1 g2 g3 f1 f2
              generalize ((w2.setCell ⟨blk,off+j,none⟩ (.int .i64 (x2.val:Nat))).setCell ⟨blk,off+a,none⟩ (.int .i64 (x1.val:Nat))).drew=w3 at h3 ⊢
              go_wp2_with fail
              go_ret2
              rw[hf.out]
              exact⟨rfl,h3.out⟩
       | false=>
         have d3:=bC hl
         rw[Vx1.out,Vx2.out]at hl
         have HL:=aa hl
         clear hl
         generalize cf x1 x2=c at*
         go_wp2_with fail
         go_quiet ((go_at_call 164;exact Calls.quiet_of (h2.out _)))
         have HS2:=aa (h1.out.drewN nq)
         clear g1 g2 h2 h1
         generalize wr.drewN nq=w2 at HS2 ⊢
         go_wp2_with fail
         go_roundw
         case rel=>exact⟨jm,rfl,by omega,by omega,HS2.out,by rw[← HJ.out,hc.out,←scanDown_go (fun x=> !ltOf cf x dk[a]!) dk i j h0 (by omega) (by rw[HL.out];rfl)]⟩
         case measure=>(simp [intOf] <;>omega)
      ·have d4:decide ((i:Int)≤(j:Int))=false:=au (by omega)
       have h4:Hid (j=Go.Sort.scanDown (fun x=> !ltOf cf x dk[a]!) dk i bm):=by
        show _=_
        rw[← HJ.out,scanDown_end (fun x=> !ltOf cf x dk[a]!) dk i j (Or.inl h0)]
       clear HJ
       go_wp2_with fail
       go_quiet (fail)
       have HS2:=aa (h1.out.drewN nq)
       clear h1
       generalize wr.drewN nq=w2 at HS2 ⊢
       have e1:decide ((j:Int)<(i:Int))=true:=aC (by omega)
       have h8:j<i:=by omega
       have h6:j<dk.size:=by omega
       have hj:j<d.size:=by omega
       have hf:=aa (part_first_break (ltOf cf) d a b pv rfl hy.out hz.out h7.out h4.out h8)
       rw[hq.out]at hf
       go_wp2_with fail
       obtain⟨x1,x2,g1,g2,f1,f2,⟨u,g3⟩,h3⟩:=IZ HS2 HR hm j a h6 hh
       clear HS2
       go_wp2_with fail
       go_region
       clear g1 g2 g3 f1 f2
       generalize ((w2.setCell ⟨blk,off+j,none⟩ (.int .i64 (x2.val:Nat))).setCell ⟨blk,off+a,none⟩ (.int .i64 (x1.val:Nat))).drew=w3 at h3 ⊢
       go_wp2_with fail
       go_ret2
       rw[hf.out]
       exact⟨rfl,h3.out⟩
  ·have d2:decide ((i:Int)≤(bm:Int))=false:=au (by omega)
   have h7:Hid (i=Go.Sort.scanUp (fun x=>ltOf cf x dk[a]!) dk bm (a+1)):=by
    show _=_
    rw[← HI.out,scanUp_end (fun x=>ltOf cf x dk[a]!) dk bm i (Or.inl hk)]
   clear HI
   go_wp2_with fail
   go_quiet (fail)
   have HS2:=aa (h5.out.drewN nq)
   clear h5
   generalize wr.drewN nq=w2 at HS2 ⊢
   go_wp2_with fail
   go_loopw [13] (fun y wr=>∃(j:Nat),y=.int .i64 j∧j≤bm∧a≤j∧SW aK w0 blk off dk wr∧Go.Sort.scanDown (fun x=> !ltOf cf x dk[a]!) dk i j=Go.Sort.scanDown (fun x=> !ltOf cf x dk[a]!) dk i bm) (fun y _=>(intOf y).toNat)
   case atStart=>exact⟨bm,rfl,Nat.le_refl _,by omega,HS2.out,rfl⟩
   case round=>
    clear HS2
    obtain⟨j,rfl,ht,hu,SJ,h9⟩:=hrel
    have h1:=aa SJ
    have HJ:=aa h9
    clear SJ h9
    by_cases h0:i≤j
    ·have d4:decide ((i:Int)≤(j:Int))=true:=aC (by omega)
     obtain⟨jm,ha⟩:∃x,x=j - 1:=⟨_,rfl⟩
     have hc:=aa ha
     have zj:(j:Int) - 1=(jm:Int):=by omega
     have hv:jm+1≤j:=by omega
     have hg:j≤jm+1:=by omega
     have he:j<dk.size:=by omega
     have hw:j<d.size:=by omega
     clear ha
     obtain⟨x1,x2,Vx1,Vx2,g1,g2,h2⟩:=IY HC h1 HR hm j a he hh
     cases hl:ltOf cf x1 x2 with
     | true=>
       have d3:=b4 hl
       rw[Vx1.out,Vx2.out]at hl
       have HL:=aa hl
       clear hl
       generalize cf x1 x2=c at*
       go_wp2_with fail
       go_quiet ((go_at_call 164;exact Calls.quiet_of (h2.out _)))
       have HS2:=aa (h1.out.drewN nq)
       clear g1 g2 h2 h1
       generalize wr.drewN nq=w2 at HS2 ⊢
       have h4:Hid (j=Go.Sort.scanDown (fun x=> !ltOf cf x dk[a]!) dk i bm):=by
        show _=_
        rw[← HJ.out,scanDown_end (fun x=> !ltOf cf x dk[a]!) dk i j (Or.inr (by rw[HL.out];rfl))]
       clear HL Vx1 Vx2 d3 HJ
       exact absurd h0 (by omega)
     | false=>
       have d3:=bC hl
       rw[Vx1.out,Vx2.out]at hl
       have HL:=aa hl
       clear hl
       generalize cf x1 x2=c at*
       go_wp2_with fail
       go_quiet ((go_at_call 164;exact Calls.quiet_of (h2.out _)))
       have HS2:=aa (h1.out.drewN nq)
       clear g1 g2 h2 h1
       generalize wr.drewN nq=w2 at HS2 ⊢
       go_wp2_with fail
       go_roundw
       case rel=>exact⟨jm,rfl,by omega,by omega,HS2.out,by rw[← HJ.out,hc.out,←scanDown_go (fun x=> !ltOf cf x dk[a]!) dk i j h0 (by omega) (by rw[HL.out];rfl)]⟩
       case measure=>(simp [intOf] <;>omega)
    ·have d4:decide ((i:Int)≤(j:Int))=false:=au (by omega)
     have h4:Hid (j=Go.Sort.scanDown (fun x=> !ltOf cf x dk[a]!) dk i bm):=by
      show _=_
      rw[← HJ.out,scanDown_end (fun x=> !ltOf cf x dk[a]!) dk i j (Or.inl h0)]
     clear HJ
     go_wp2_with fail
     go_quiet (fail)
     have HS2:=aa (h1.out.drewN nq)
     clear h1
     generalize wr.drewN nq=w2 at HS2 ⊢
     have e1:decide ((j:Int)<(i:Int))=true:=aC (by omega)
     have h8:j<i:=by omega
     have h6:j<dk.size:=by omega
     have hj:j<d.size:=by omega
     have hf:=aa (part_first_break (ltOf cf) d a b pv rfl hy.out hz.out h7.out h4.out h8)
     rw[hq.out]at hf
     go_wp2_with fail
     obtain⟨x1,x2,g1,g2,f1,f2,⟨u,g3⟩,h3⟩:=IZ HS2 HR hm j a h6 hh
     clear HS2
     go_wp2_with fail
     go_region
     clear g1 g2 g3 f1 f2
     generalize ((w2.setCell ⟨blk,off+j,none⟩ (.int .i64 (x2.val:Nat))).setCell ⟨blk,off+a,none⟩ (.int .i64 (x1.val:Nat))).drew=w3 at h3 ⊢
     go_wp2_with fail
     go_ret2
     rw[hf.out]
     exact⟨rfl,h3.out⟩
end Go.Proofs.YthakcjehhlpjnaaGreat.S05
