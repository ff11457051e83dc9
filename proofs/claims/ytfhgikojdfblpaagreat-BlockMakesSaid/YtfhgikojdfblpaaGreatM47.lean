import Derived.Test.YtfhgikojdfblpaaGreatM26
import Derived.Sort.WalkA
import Derived.Sort.LotA
import Derived.Sort.WalkB2
import Derived.Sort.LotB
import Derived.Sort.WalkB3
import Derived.Test.YtfhgikojdfblpaaGreatLx
import Derived.Shelf.SlSortCmp.Xorshift
import Derived.Laws.Bits64b
import Derived.Sort.LotD1
import Derived.Sort.LotD5
set_option maxHeartbeats 4000000
set_option maxRecDepth 100000
namespace Go.Proofs.YtfhgikojdfblpaaGreat.S05
open _root_.Go.Proofs.Tryz
open Go.RowKit
section
variable {k:Nat} {r:Value} {cf:Fin (k+1)->Fin (k+1)->Int} {blk off size:Nat} {w0 W:World} {d0 dk:Array (Fin (k+1))}
theorem oD(hC:jD r cf blk off size w0)(S:SW aU w0 blk off dk W)(hs:dk.size=size)(x y:Fin (k+1))(m:Nat):
 Calls prog 137 #[r,.int .i64 (x.val:Nat),.int .i64 (y.val:Nat)] (W.drewN m) fun e w'=>e=.returned (.int .i64 (cf x y))/\∃q,w'=(W.drewN m).drewN q:=
 (hC (W.drewN m) dk hs (S.drewN m) x y).mono fun _ _ h=>⟨h.1,0,h.2.symm⟩
theorem bH(S:SW aU w0 blk off dk W)(R:Row1 aU w0 blk off d0)(hs:dk.size=d0.size)(i:Nat)(hi:i<dk.size):W.cell? ⟨blk,off+i,none⟩=some (.int .i64 ((dk[i]!).val:Nat)):=S.c1 R hs i hi
theorem cE(S:SW aU w0 blk off dk W)(R:Row1 aU w0 blk off d0)(hs:dk.size=d0.size)(i:Nat)(hi:i<dk.size):W.frozen? ⟨blk,off+i,none⟩=false:=S.f1 R hs i hi
theorem jn(S:SW aU w0 blk off dk W)(R:Row1 aU w0 blk off d0)(hs:dk.size=d0.size)(i j:Nat)(hi:i<dk.size)(hj:j<dk.size)(v:Nat):∃u,(W.setCell ⟨blk,off+i,none⟩ (.int .i64 v)).cell? ⟨blk,off+j,none⟩=some u:=S.c2 R hs i j hi hj _
theorem jl(S:SW aU w0 blk off dk W)(R:Row1 aU w0 blk off d0)(i j:Nat)(hi:i<dk.size)(hj:j<dk.size):
 SW aU w0 blk off (Go.Sort.swp dk i j) ((W.setCell ⟨blk,off+i,none⟩ (.int .i64 ((dk[j]!).val:Nat))).setCell ⟨blk,off+j,none⟩ (.int .i64 ((dk[i]!).val:Nat))).drew:=S.swapped R i j hi hj
theorem oC(C:Hid (jD r cf blk off d0.size w0))(S:Hid (SW aU w0 blk off dk W))(R:Hid (Row1 aU w0 blk off d0))(hs:dk.size=d0.size)(i j:Nat)(hi:i<dk.size)(hj:j<dk.size):∃x y:Fin (k+1),Hid (x=dk[i]!)/\Hid (y=dk[j]!)/\
 W.cell? ⟨blk,off+i,none⟩=some (.int .i64 (x.val:Nat))/\W.cell? ⟨blk,off+j,none⟩=some (.int .i64 (y.val:Nat))/\
 Hid (∀ m,Calls prog 137 #[r,.int .i64 (x.val:Nat),.int .i64 (y.val:Nat)] (W.drewN m) fun e w'=>e=.returned (.int .i64 (cf x y))/\∃q,w'=(W.drewN m).drewN q):=
 ⟨_,_,aa rfl,aa rfl,bH S.out R.out hs i hi,bH S.out R.out hs j hj,aa fun m=>oD C.out S.out hs _ _ m⟩
theorem Hp(S:Hid (SW aU w0 blk off dk W))(R:Hid (Row1 aU w0 blk off d0))(hs:dk.size=d0.size)(i j:Nat)(hi:i<dk.size)(hj:j<dk.size){x y:Fin (k+1)}(hx:Hid (x=dk[i]!))(hy:Hid (y=dk[j]!)):
 W.cell? ⟨blk,off+i,none⟩=some (.int .i64 (x.val:Nat))/\W.cell? ⟨blk,off+j,none⟩=some (.int .i64 (y.val:Nat))/\W.frozen? ⟨blk,off+i,none⟩=false/\W.frozen? ⟨blk,off+j,none⟩=false/\
 (∃ u,(W.setCell ⟨blk,off+i,none⟩ (.int .i64 (y.val:Nat))).cell? ⟨blk,off+j,none⟩=some u)/\
 Hid (SW aU w0 blk off (Go.Sort.swp dk i j) ((W.setCell ⟨blk,off+i,none⟩ (.int .i64 (y.val:Nat))).setCell ⟨blk,off+j,none⟩ (.int .i64 (x.val:Nat))).drew):=by rw[hx.out,hy.out];exact⟨bH S.out R.out hs i hi,bH S.out R.out hs j hj,cE S.out R.out hs i hi,cE S.out R.out hs j hj,jn S.out R.out hs i j hi hj _,aa (jl S.out R.out i j hi hj)⟩
theorem yF(S:Hid (SW aU w0 blk off dk W))(R:Hid (Row1 aU w0 blk off d0))(hs:dk.size=d0.size)(i j:Nat)(hi:i<dk.size)(hj:j<dk.size):∃x y:Fin (k+1),
 W.cell? ⟨blk,off+i,none⟩=some (.int .i64 (x.val:Nat))/\W.cell? ⟨blk,off+j,none⟩=some (.int .i64 (y.val:Nat))/\W.frozen? ⟨blk,off+i,none⟩=false/\W.frozen? ⟨blk,off+j,none⟩=false/\
 (∃ u,(W.setCell ⟨blk,off+i,none⟩ (.int .i64 (y.val:Nat))).cell? ⟨blk,off+j,none⟩=some u)/\
 Hid (SW aU w0 blk off (Go.Sort.swp dk i j) ((W.setCell ⟨blk,off+i,none⟩ (.int .i64 (y.val:Nat))).setCell ⟨blk,off+j,none⟩ (.int .i64 (x.val:Nat))).drew):=
 ⟨dk[i]!,dk[j]!,Hp S R hs i j hi hj (aa rfl) (aa rfl)⟩
theorem da{x y:Fin (k+1)}(h:ltOf cf x y=true):decide (cf x y<0)=true:=h
theorem cG{x y:Fin (k+1)}(h:ltOf cf x y=false):decide (cf x y<0)=false:=h
end
theorem vF(k:Nat)(r:Value)(cf:Fin (k+1)->Fin (k+1)->Int)(blk off cap a b:Nat)(d0 d:Array (Fin (k+1)))(w0 w:World)
 (C:jD r cf blk off d0.size w0) (R:Row1 aU w0 blk off d0) (hs:d0.size=d.size) (S:SW aU w0 blk off d w) (hc:a<=b) (hb:b<=d.size) (hi:d.size<=1000000000):
 Calls prog 205 #[.slice (some ⟨blk,off,none⟩) d.size cap,.int .i64 a,.int .i64 b,.func (.func 137) #[r] #[]] w fun e w'=>e=.returned (.tuple #[])/\SW aU w0 blk off (Go.Sort.insertionSort (ltOf cf) d a b) w':=by
 have HC:=aa C;have HR:=aa R;have HS:=aa S;clear C R S;go_enter func205,ntmps205;go_wp2_with fail;go_loopw [8] (fun x wr=>∃(i:Nat) (dk:Array (Fin (k+1))),x=.int .i64 i/\a<i/\i<=b+1/\dk.size=d.size/\SW aU w0 blk off dk wr/\Go.Sort.insOuter (ltOf cf) a b i dk=Go.Sort.insOuter (ltOf cf) a b (a+1) d) (fun x _=>b+1-(intOf x).toNat)
 case atStart=>exact⟨a+1,d,by go_num,by omega,by omega,rfl,HS.out,rfl⟩
 case round=>
  obtain⟨i,dk,rfl,he,hg,ha,S1,HO⟩:=hrel;have h7:=aa S1;have h2:=aa HO;clear S1 HO;by_cases h4:i<b
  ·go_wp2_with fail;(go_loopw [9] (fun y wr=>∃(j:Nat) (dj:Array (Fin (k+1))),y=.int .i64 j/\a<=j/\j<=i/\dj.size=d.size/\SW aU w0 blk off dj wr/\Go.Sort.insInner (ltOf cf) a j dj=Go.Sort.insInner (ltOf cf) a i dk) (fun y _=>(intOf y).toNat));case atStart=>exact⟨i,dk,rfl,by omega,Nk _,ha,h7.out,rfl⟩
   case round=>
    obtain⟨j,dj,rfl,hf,hh,h5,SJ,HI⟩:=hrel;have h0:=aa SJ;have h1:=aa HI;clear SJ HI;by_cases h9:a<j
    ·have c1:=bH h0.out HR.out (by omega) j (by omega);have c2:=bH h0.out HR.out (by omega) (j-1) (by omega);have h6:=aa fun m=>oD HC.out h0.out (by omega) dj[j]! dj[j-1]! m;have e1:((j:Int)-1).toNat=j-1:=(by omega);have e2:IntKind.i64.wrap ((j:Int)-1)=(j:Int)-1:=IntWalk.i64_in _ (by omega);have e3:(0:Int)<=(j:Int)-1:=(by omega);have e4:(j:Int)-1<(d.size:Int):=(by omega);have e5:(1:Int)<=(j:Int):=by omega
     cases hl:ltOf cf dj[j]! dj[j-1]! with
     | true=>
      have d3:=da hl;generalize cf dj[j]! dj[j-1]! =c at*;go_wp2_with fail;go_quiet ((go_at_call 137;exact NI (h6.out _)));have S2:=h0.out.drewN nq;generalize wr.drewN nq=w2 at S2 |-;have g1:=bH S2 HR.out (by omega) j (by omega);have g2:=bH S2 HR.out (by omega) (j-1) (by omega);have f1:=cE S2 HR.out (by omega) j (by omega);have f2:=cE S2 HR.out (by omega) (j-1) (by omega);obtain⟨u,g3⟩:=jn S2 HR.out (by omega) j (j-1) (by omega) (by omega) (dj[j-1]!).val;have S3:=jl S2 HR.out j (j-1) (by omega) (by omega);have h8:=aa S3;clear S2 S3 c1 c2;go_wp2_with fail;go_region;go_wp2_with fail;go_roundw;case rel=>exact⟨j-1,Go.Sort.swp dj j (j-1),by go_num,by omega,by omega,by rw[Go.Sort.size_swp];exact h5,h8.out,by rw[<- h1.out,insInner_go (ltOf cf) a j dj h9 hl]⟩
      case measure=>simp[intOf];omega
     | false=>
      have d3:=cG hl;have h3:Hid (Go.Sort.insOuter (ltOf cf) a b (i+1) dj=Go.Sort.insOuter (ltOf cf) a b (a+1) d):=(by show _=_;rw[<- h2.out,insOuter_go _ _ _ _ _ h4,<-h1.out,insInner_stop _ _ _ _ (Or.inr hl)]);generalize cf dj[j]! dj[j-1]! =c at*;go_wp2_with fail;go_quiet ((go_at_call 137;exact NI (h6.out _)));have HS2:=aa (h0.out.drewN nq);generalize wr.drewN nq=w2 at HS2 |-;go_wp2_with fail;go_roundw;case rel=>exact⟨i+1,dj,by go_num,by omega,by omega,h5,HS2.out,h3.out⟩
      case measure=>simp[intOf];omega
    ·have h3:Hid (Go.Sort.insOuter (ltOf cf) a b (i+1) dj=Go.Sort.insOuter (ltOf cf) a b (a+1) d):=(by show _=_;rw[<- h2.out,insOuter_go _ _ _ _ _ h4,<-h1.out,insInner_stop _ _ _ _ (Or.inl (by omega))]);go_wp2_with fail;go_quiet (fail);have HS2:=aa (h0.out.drewN nq);generalize wr.drewN nq=w2 at HS2 |-;go_wp2_with fail;go_roundw;case rel=>exact⟨i+1,dj,by go_num,by omega,by omega,h5,HS2.out,h3.out⟩
     case measure=>simp[intOf];omega
  ·have HX:Hid (Go.Sort.insertionSort (ltOf cf) d a b=dk):=(by unfold Go.Sort.insertionSort;rw[<- h2.out,insOuter_stop _ _ _ _ _ h4];exact rfl);go_wp2_with fail;(go_end0);exact⟨rfl,by rw[HX.out];exact h7.out⟩
theorem BD(k:Nat)(r:Value)(cf:Fin (k+1)->Fin (k+1)->Int)(blk off cap lo hi first:Nat)(d0 d:Array (Fin (k+1)))(w0 w:World)
 (C:jD r cf blk off d0.size w0) (R:Row1 aU w0 blk off d0) (hs:d0.size=d.size) (S:SW aU w0 blk off d w) (ht:lo<=hi) (hb:first+hi<=d.size) (hy:d.size<=1000000000):
 Calls prog 228 #[.slice (some ⟨blk,off,none⟩) d.size cap,.int .i64 lo,.int .i64 hi,.int .i64 first,.func (.func 137) #[r] #[]] w fun e w'=>e=.returned (.tuple #[])/\SW aU w0 blk off (Go.Sort.siftDown (ltOf cf) hi first lo d) w':=by
 have HC:=aa C;have HR:=aa R;have HS:=aa S;clear C R S;go_enter func228,ntmps228;go_wp2_with fail;go_loopw [10] (fun x wr=>∃(root:Nat) (dk:Array (Fin (k+1))),x=.int .i64 root/\root<=hi/\dk.size=d.size/\SW aU w0 blk off dk wr/\Go.Sort.siftDown (ltOf cf) hi first root dk=Go.Sort.siftDown (ltOf cf) hi first lo d) (fun x _=>hi-(intOf x).toNat)
 case atStart=>exact⟨lo,d,rfl,ht,rfl,HS.out,rfl⟩
 case round=>
  obtain⟨root,dk,rfl,hx,hj,S1,hm⟩:=hrel;have HE:=aa hm;clear hm;have h0:dk.size=d0.size:=by omega
  obtain⟨ch,hh⟩:∃ch,ch=2*root+1:=⟨_,rfl⟩;have z1:2*(root:Int)+1=(ch:Int):=by omega
  by_cases hr:hi<=ch;·have HX:Hid (Go.Sort.siftDown (ltOf cf) hi first lo d=dk):=(by show _=_;rw[<- HE.out,Go.Sort.sd_end];omega);have ha:=aa S1;clear S1 hh;go_wp2_with fail;(go_end0);exact⟨rfl,by rw[HX.out];exact ha.out⟩
  ·obtain⟨cr,hn⟩:∃cr,cr=ch+1:=⟨_,rfl⟩;have z2:(ch:Int)+1=(cr:Int):=(by omega);(obtain⟨pm,hp⟩:∃p,p=first+root:=⟨_,rfl⟩);(obtain⟨pc,ho⟩:∃p,p=first+ch:=⟨_,rfl⟩);(obtain⟨pr,hq⟩:∃p,p=first+cr:=⟨_,rfl⟩);have zm:(first:Int)+(root:Int)=(pm:Int):=(by omega);have zc:(first:Int)+(ch:Int)=(pc:Int):=(by omega);have zr:(pc:Int)+1=(pr:Int):=(by omega);have zs:(first:Int)+(cr:Int)=(pr:Int):=(by omega);have hw:pm<d.size:=(by omega);have h3:pm<dk.size:=(by omega);have hu:pc<d.size:=(by omega);have h1:pc<dk.size:=(by omega);have h6:=aa (show first+root=pm by omega);have h5:=aa (show first+(2*root+1)=pc by omega);have h9:=aa (show first+(2*root+2)=pr by omega);have hg:=aa (show 2*root+2=cr by omega);have hc:=aa (show 2*root+1=ch by omega);by_cases h2:cr<hi
   ·have hv:pr<d.size:=(by omega);have h4:pr<dk.size:=(by omega);clear hh hn hp ho hq;obtain⟨x1,vx1⟩:∃x,x=dk[pc]! :=⟨_,rfl⟩;have Vx1:=aa vx1;clear vx1;obtain⟨x2,vx2⟩:∃x,x=dk[pr]! :=⟨_,rfl⟩;have Vx2:=aa vx2;clear vx2;have j1:=bH S1 HR.out h0 (pc) h1;rw[<- Vx1.out]at j1;have j2:=bH S1 HR.out h0 (pr) h4;rw[<- Vx2.out]at j2;have hk:=aa fun m=>oD HC.out S1 h0 x1 x2 m;have ha:=aa S1;clear S1
    cases hl:ltOf cf x1 x2 with
    | true=>
     have d3:=da hl;rw[Vx1.out,Vx2.out]at hl;have HL:=aa hl;clear hl;generalize cf x1 x2=c at*;go_wp2_with fail;go_quiet ((go_at_call 137;exact NI (hk.out _)));have S2:=ha.out.drewN nq;generalize wr.drewN nq=w2 at S2 |-;clear j1 j2 d3;obtain⟨y1,vy1⟩:∃x,x=dk[pm]! :=⟨_,rfl⟩;have Vy1:=aa vy1;clear vy1;obtain⟨y2,vy2⟩:∃x,x=dk[pr]! :=⟨_,rfl⟩;have Vy2:=aa vy2;clear vy2;have k1:=bH S2 HR.out h0 (pm) h3;rw[<- Vy1.out]at k1;have k2:=bH S2 HR.out h0 (pr) h4;rw[<- Vy2.out]at k2;have h7:=aa fun m=>oD HC.out S2 h0 y1 y2 m;have HS2:=aa S2;clear S2
     cases hl2:ltOf cf y1 y2 with
     | true=>
      have d4:=da hl2;have he:Hid (Go.Sort.siftDown (ltOf cf) hi first cr (Go.Sort.swp dk pm pr)=Go.Sort.siftDown (ltOf cf) hi first lo d):=(by show _=_;rw[<- HE.out];refine Eq.symm ?_;rw[Vy1.out,Vy2.out]at hl2;rw[Go.Sort.sd_right_go (ltOf cf) dk (by rw[hg.out];exact h2) (by rw[h5.out,h9.out];exact HL.out) (by rw[h6.out,h9.out];exact hl2),h6.out,h9.out,hg.out]);clear hl2;generalize cf y1 y2=c2 at*;go_wp2_with fail;go_quiet ((go_at_call 137;exact NI (h7.out _)));have S3:=HS2.out.drewN nq;generalize w2.drewN nq=w3 at S3 |-;have g1:=bH S3 HR.out h0 (pm) h3;rw[<- Vy1.out]at g1;have g2:=bH S3 HR.out h0 (pr) h4;rw[<- Vy2.out]at g2;have f1:=cE S3 HR.out h0 (pm) h3;have f2:=cE S3 HR.out h0 (pr) h4;obtain⟨u,g3⟩:=jn S3 HR.out h0 (pm) (pr) h3 h4 (y2).val;have h8:=aa (jl S3 HR.out (pm) (pr) h3 h4);rw[<- Vy1.out,<-Vy2.out]at h8;clear S3 k1 k2;go_wp2_with fail;go_region;go_wp2_with fail;go_roundw;case rel=>exact⟨cr,Go.Sort.swp dk pm pr,rfl,by omega,by rw[Go.Sort.size_swp];exact hj,h8.out,he.out⟩
      case measure=>simp[intOf];omega
     | false=>have d4:=cG hl2;have hf:Hid (Go.Sort.siftDown (ltOf cf) hi first lo d=dk):=(by show _=_;rw[<- HE.out];rw[Vy1.out,Vy2.out]at hl2;rw[Go.Sort.sd_right_stop (ltOf cf) dk (by rw[hg.out];exact h2) (by rw[h5.out,h9.out];exact HL.out) (by rw[h6.out,h9.out];exact hl2)]);clear hl2;generalize cf y1 y2=c2 at*;go_wp2_with fail;go_quiet ((go_at_call 137;exact NI (h7.out _)));go_wp2_with fail;(try simp only[Exit.inBlock,Exit.then]);refine NH (Qc rfl _ _ _) rfl ?_;exact⟨rfl,by rw[hf.out];exact HS2.out.drewN nq⟩
    | false=>
     have d3:=cG hl;rw[Vx1.out,Vx2.out]at hl;have HL:=aa hl;clear hl;generalize cf x1 x2=c at*;go_wp2_with fail;go_quiet ((go_at_call 137;exact NI (hk.out _)));have S2:=ha.out.drewN nq;generalize wr.drewN nq=w2 at S2 |-;clear j1 j2 d3;obtain⟨y1,vy1⟩:∃x,x=dk[pm]! :=⟨_,rfl⟩;have Vy1:=aa vy1;clear vy1;obtain⟨y2,vy2⟩:∃x,x=dk[pc]! :=⟨_,rfl⟩;have Vy2:=aa vy2;clear vy2;have k1:=bH S2 HR.out h0 (pm) h3;rw[<- Vy1.out]at k1;have k2:=bH S2 HR.out h0 (pc) h1;rw[<- Vy2.out]at k2;have h7:=aa fun m=>oD HC.out S2 h0 y1 y2 m;have HS2:=aa S2;clear S2
     cases hl2:ltOf cf y1 y2 with
     | true=>
      have d4:=da hl2;have he:Hid (Go.Sort.siftDown (ltOf cf) hi first ch (Go.Sort.swp dk pm pc)=Go.Sort.siftDown (ltOf cf) hi first lo d):=(by show _=_;rw[<- HE.out];refine Eq.symm ?_;rw[Vy1.out,Vy2.out]at hl2;rw[Go.Sort.sd_left_go (ltOf cf) dk (by rw[hc.out];omega) (fun _=>by rw[h5.out,h9.out];exact HL.out) (by rw[h6.out,h5.out];exact hl2),h6.out,h5.out,hc.out]);clear hl2;generalize cf y1 y2=c2 at*;go_wp2_with fail;go_quiet ((go_at_call 137;exact NI (h7.out _)));have S3:=HS2.out.drewN nq;generalize w2.drewN nq=w3 at S3 |-;have g1:=bH S3 HR.out h0 (pm) h3;rw[<- Vy1.out]at g1;have g2:=bH S3 HR.out h0 (pc) h1;rw[<- Vy2.out]at g2;have f1:=cE S3 HR.out h0 (pm) h3;have f2:=cE S3 HR.out h0 (pc) h1;obtain⟨u,g3⟩:=jn S3 HR.out h0 (pm) (pc) h3 h1 (y2).val;have h8:=aa (jl S3 HR.out (pm) (pc) h3 h1);rw[<- Vy1.out,<-Vy2.out]at h8;clear S3 k1 k2;go_wp2_with fail;go_region;go_wp2_with fail;go_roundw;case rel=>exact⟨ch,Go.Sort.swp dk pm pc,rfl,by omega,by rw[Go.Sort.size_swp];exact hj,h8.out,he.out⟩
      case measure=>simp[intOf];omega
     | false=>have d4:=cG hl2;have hf:Hid (Go.Sort.siftDown (ltOf cf) hi first lo d=dk):=(by show _=_;rw[<- HE.out];rw[Vy1.out,Vy2.out]at hl2;rw[Go.Sort.sd_left_stop (ltOf cf) dk (by rw[hc.out];omega) (fun _=>by rw[h5.out,h9.out];exact HL.out) (by rw[h6.out,h5.out];exact hl2)]);clear hl2;generalize cf y1 y2=c2 at*;go_wp2_with fail;go_quiet ((go_at_call 137;exact NI (h7.out _)));go_wp2_with fail;(try simp only[Exit.inBlock,Exit.then]);refine NH (Qc rfl _ _ _) rfl ?_;exact⟨rfl,by rw[hf.out];exact HS2.out.drewN nq⟩
   ·clear hh hn hp ho hq;have ha:=aa S1;clear S1;go_wp2_with fail;go_quiet (fail);have S2:=ha.out.drewN nq;generalize wr.drewN nq=w2 at S2 |-;obtain⟨y1,vy1⟩:∃x,x=dk[pm]! :=⟨_,rfl⟩;have Vy1:=aa vy1;clear vy1;obtain⟨y2,vy2⟩:∃x,x=dk[pc]! :=⟨_,rfl⟩;have Vy2:=aa vy2;clear vy2;have k1:=bH S2 HR.out h0 (pm) h3;rw[<- Vy1.out]at k1;have k2:=bH S2 HR.out h0 (pc) h1;rw[<- Vy2.out]at k2;have h7:=aa fun m=>oD HC.out S2 h0 y1 y2 m;have HS2:=aa S2;clear S2
    cases hl2:ltOf cf y1 y2 with
    | true=>
     have d4:=da hl2;have he:Hid (Go.Sort.siftDown (ltOf cf) hi first ch (Go.Sort.swp dk pm pc)=Go.Sort.siftDown (ltOf cf) hi first lo d):=(by show _=_;rw[<- HE.out];refine Eq.symm ?_;rw[Vy1.out,Vy2.out]at hl2;rw[Go.Sort.sd_left_go (ltOf cf) dk (by rw[hc.out];omega) (fun h=>absurd h (by rw[hg.out];exact h2)) (by rw[h6.out,h5.out];exact hl2),h6.out,h5.out,hc.out]);clear hl2;generalize cf y1 y2=c2 at*;go_wp2_with fail;go_quiet ((go_at_call 137;exact NI (h7.out _)));have S3:=HS2.out.drewN nq;generalize w2.drewN nq=w3 at S3 |-;have g1:=bH S3 HR.out h0 (pm) h3;rw[<- Vy1.out]at g1;have g2:=bH S3 HR.out h0 (pc) h1;rw[<- Vy2.out]at g2;have f1:=cE S3 HR.out h0 (pm) h3;have f2:=cE S3 HR.out h0 (pc) h1;obtain⟨u,g3⟩:=jn S3 HR.out h0 (pm) (pc) h3 h1 (y2).val;have h8:=aa (jl S3 HR.out (pm) (pc) h3 h1);rw[<- Vy1.out,<-Vy2.out]at h8;clear S3 k1 k2;go_wp2_with fail;go_region;go_wp2_with fail;go_roundw;case rel=>exact⟨ch,Go.Sort.swp dk pm pc,rfl,by omega,by rw[Go.Sort.size_swp];exact hj,h8.out,he.out⟩
     case measure=>simp[intOf];omega
    | false=>have d4:=cG hl2;have hf:Hid (Go.Sort.siftDown (ltOf cf) hi first lo d=dk):=(by show _=_;rw[<- HE.out];rw[Vy1.out,Vy2.out]at hl2;rw[Go.Sort.sd_left_stop (ltOf cf) dk (by rw[hc.out];omega) (fun h=>absurd h (by rw[hg.out];exact h2)) (by rw[h6.out,h5.out];exact hl2)]);clear hl2;generalize cf y1 y2=c2 at*;go_wp2_with fail;go_quiet ((go_at_call 137;exact NI (h7.out _)));go_wp2_with fail;(try simp only[Exit.inBlock,Exit.then]);refine NH (Qc rfl _ _ _) rfl ?_;exact⟨rfl,by rw[hf.out];exact HS2.out.drewN nq⟩
theorem Jw(k:Nat)(r:Value)(cf:Fin (k+1)->Fin (k+1)->Int)(blk off cap a b:Nat)(d0 d:Array (Fin (k+1)))(w0 w:World)
 (C:jD r cf blk off d0.size w0) (R:Row1 aU w0 blk off d0) (hs:d0.size=d.size) (S:SW aU w0 blk off d w) (hk:a+2<=b) (hb:b<=d.size) (hj:d.size<=1000000000):
 Calls prog 206 #[.slice (some ⟨blk,off,none⟩) d.size cap,.int .i64 a,.int .i64 b,.func (.func 137) #[r] #[]] w fun e w'=>e=.returned (.tuple #[])/\SW aU w0 blk off (Go.Sort.heapSort (ltOf cf) d a b) w':=by
 have HC:=aa C;have HR:=aa R;have HS:=aa S;clear C R S;obtain⟨n,hn⟩:∃n,n=b-a:=⟨_,rfl⟩;have zn:(b:Int)-(a:Int)=(n:Int):=by omega
 have HN:=aa hn;clear hn;go_enter func206,ntmps206;go_wp2_with fail;go_loopw [11] (fun x wr=>∃(c:Nat) (z:Int) (dk:Array (Fin (k+1))),x=.int .i64 z/\z=(c:Int)-1/\c<=(n-1)/2+1/\dk.size=d.size/\SW aU w0 blk off dk wr/\Go.Sort.heapBuild (ltOf cf) n a c dk=Go.Sort.heapBuild (ltOf cf) n a ((n-1)/2+1) d) (fun x _=>(intOf x+1).toNat)
 case atStart=>exact⟨(n-1)/2+1,_,d,rfl,by omega,Nk _,rfl,HS.out,rfl⟩
 case round=>
  obtain⟨c,z,dk,rfl,hz,hc,h7,S1,h8⟩:=hrel;have HE:=aa h8;clear h8;have h2:d0.size=dk.size:=by omega
  rcases OL c with h0|h0
  ·obtain rfl:z= -1:=(by omega);subst h0;have hf:Hid (dk=Go.Sort.heapBuild (ltOf cf) n a ((n-1)/2+1) d):=HE.out;have hg:=aa S1;clear S1 hz;go_wp2_with fail;(go_loopw [12] (fun x wr=>∃(c:Nat) (z:Int) (dj:Array (Fin (k+1))),x=.int .i64 z/\z=(c:Int)-1/\c<=n/\dj.size=d.size/\SW aU w0 blk off dj wr/\Go.Sort.heapPop (ltOf cf) a c dj=Go.Sort.heapPop (ltOf cf) a n dk) (fun x _=>(intOf x+1).toNat));case atStart=>exact⟨n,_,dk,rfl,by omega,Nk _,h7,hg.out,rfl⟩
   case round=>
    obtain⟨c,z,dj,rfl,hz,hc,hi,S2,h9⟩:=hrel;have HF:=aa h9;clear h9;have h2:dj.size=d0.size:=(by omega);rcases OL c with h0|h0;·obtain rfl:z= -1:=(by omega);subst h0;have HX:Hid (Go.Sort.heapSort (ltOf cf) d a b=dj):=(by show _=_;unfold Go.Sort.heapSort;rw[<- HN.out,<-hf.out,<-HF.out];exact rfl);have HS2:=aa S2;clear S2 hz;go_wp2_with fail;(go_end0);exact⟨rfl,by rw[HX.out];exact HS2.out⟩
    ·obtain⟨c1,rfl⟩:∃c1,c=c1+1:=⟨c-1,by omega⟩;obtain rfl:z=(c1:Int):=(by omega);obtain⟨q,hq⟩:∃q,q=a+c1:=⟨_,rfl⟩;have zq:(a:Int)+(c1:Int)=(q:Int):=(by omega);have hm:q<d.size:=(by omega);have h4:q<dj.size:=(by omega);have hl:a<d.size:=(by omega);have h3:a<dj.size:=(by omega);have he:a+c1<=(Go.Sort.swp dj a q).size:=(by rw[Go.Sort.size_swp];omega);have hh:(0:Nat)<=c1:=Ng _;have h5:(Go.Sort.swp dj a q).size=d.size:=(by rw[Go.Sort.size_swp];exact hi);have HQ:=aa hq;clear hq hz;obtain⟨x1,vx1⟩:∃x,x=dj[a]! :=⟨_,rfl⟩;have Vx1:=aa vx1;clear vx1;obtain⟨x2,vx2⟩:∃x,x=dj[q]! :=⟨_,rfl⟩;have Vx2:=aa vx2;clear vx2;have g1:=bH S2 HR.out h2 (a) h3;rw[<- Vx1.out]at g1;have g2:=bH S2 HR.out h2 (q) h4;rw[<- Vx2.out]at g2;have f1:=cE S2 HR.out h2 (a) h3;have f2:=cE S2 HR.out h2 (q) h4;obtain⟨u,g3⟩:=jn S2 HR.out h2 (a) (q) h3 h4 (x2).val;have ha:=aa (jl S2 HR.out (a) (q) h3 h4);rw[<- Vx1.out,<-Vx2.out]at ha;have h1:=aa fun(w1:World) (S3:SW aU w0 blk off (Go.Sort.swp dj a q) w1)=>BD k r cf blk off cap 0 c1 a d0 (Go.Sort.swp dj a q) w0 w1 HC.out HR.out (by rw[h5];exact hs) S3 hh he (by rw[h5];exact hj);rw[h5]at h1;have HG:Hid (Go.Sort.heapPop (ltOf cf) a c1 (Go.Sort.siftDown (ltOf cf) c1 a 0 (Go.Sort.swp dj a q))=Go.Sort.heapPop (ltOf cf) a n dk):=(by show _=_;rw[<- HF.out,HQ.out];exact rfl);clear S2 he;go_wp2_with fail;go_region;go_wp2_with fail;refine(h1.out _ ha.out).mono ?_;rintro e w4 ⟨rfl,S4⟩;have h6:=aa S4;clear S4;go_wp2_with fail;go_roundw;case rel=>exact⟨c1,_,_,rfl,rfl,by omega,by rw[Go.Sort.size_siftDown (ltOf cf) _ _ _ _ _ (ag _)];exact h5,h6.out,HG.out⟩
     case measure=>(simp [intOf] <;>omega)
  ·obtain⟨c1,rfl⟩:∃c1,c=c1+1:=⟨c-1,by omega⟩;obtain rfl:z=(c1:Int):=(by omega);have h1:=aa (BD k r cf blk off cap c1 n a d0 dk w0 wr HC.out HR.out h2 S1 (by omega) (by omega) (by omega));rw[h7]at h1;have HG:Hid (Go.Sort.heapBuild (ltOf cf) n a c1 (Go.Sort.siftDown (ltOf cf) n a c1 dk)=Go.Sort.heapBuild (ltOf cf) n a ((n-1)/2+1) d):=(by show _=_;rw[<- HE.out];exact rfl);clear S1 hz;go_wp2_with fail;refine h1.out.mono ?_;rintro e w4 ⟨rfl,S4⟩;have h6:=aa S4;clear S4;go_wp2_with fail;go_roundw;case rel=>exact⟨c1,_,_,rfl,rfl,by omega,by rw[Go.Sort.size_siftDown (ltOf cf) _ _ _ _ _ (ag _)];exact h7,h6.out,HG.out⟩
   case measure=>(simp [intOf] <;>omega)
theorem Br(k:Nat)(fv:Value)(blk off cap a b:Nat)(d0 d:Array (Fin (k+1)))(w0 w:World)
 (R:Row1 aU w0 blk off d0) (hs:d0.size=d.size) (S:SW aU w0 blk off d w) (h8:a<b) (hb:b<=d.size) (ha:d.size<=1000000000):
 Calls prog 209 #[.slice (some ⟨blk,off,none⟩) d.size cap,.int .i64 a,.int .i64 b,fv] w fun e w'=>e=.returned (.tuple #[])/\SW aU w0 blk off (Go.Sort.reverseRange d a b) w':=by
 have HR:=aa R;have HS:=aa S;clear R S;go_enter func209,ntmps209;go_wp2_with fail;go_loopw [8,9] (fun x y wr=>∃(i j:Nat) (dk:Array (Fin (k+1))),x=.int .i64 i/\y=.int .i64 j/\j<b/\i<=b/\dk.size=d.size/\SW aU w0 blk off dk wr/\Go.Sort.reverseLoop i j dk=Go.Sort.reverseLoop a (b-1) d) (fun x y _=>(intOf y-intOf x).toNat)
 case atStart=>exact⟨a,b-1,d,rfl,by go_num,by omega,by omega,rfl,HS.out,rfl⟩
 case round=>
  obtain⟨i,j,dk,rfl,rfl,hj,hi,h7,S1,h3⟩:=hrel;have HE:=aa h3;clear h3;have h0:dk.size=d0.size:=by omega
  by_cases h5:i<j
  ·have h1:i<dk.size:=(by omega);have h2:j<dk.size:=(by omega);have h9:i<d.size:=(by omega);obtain⟨x1,vx1⟩:∃x,x=dk[i]! :=⟨_,rfl⟩;obtain⟨x2,vx2⟩:∃x,x=dk[j]! :=⟨_,rfl⟩;have g1:=bH S1 HR.out h0 i h1;have g2:=bH S1 HR.out h0 j h2;have f1:=cE S1 HR.out h0 i h1;have f2:=cE S1 HR.out h0 j h2;obtain⟨u,g3⟩:=jn S1 HR.out h0 i j h1 h2 x2.val;have h4:=aa (jl S1 HR.out i j h1 h2);rw[<- vx1]at g1;rw[<- vx2]at g2;rw[<- vx1,<-vx2]at h4;(have HG:Hid (Go.Sort.reverseLoop (i+1) (j-1) (Go.Sort.swp dk i j)=Go.Sort.reverseLoop a (b-1) d):=by show _=_;rw[<- HE.out];conv=>rhs;rw[Go.Sort.reverseLoop,Nf h5]);clear S1 vx1 vx2;go_wp2_with fail;go_region;go_wp2_with fail;go_roundw;case rel=>exact⟨i+1,j-1,Go.Sort.swp dk i j,by go_num,by go_num,by omega,by omega,by rw[Go.Sort.size_swp];exact h7,h4.out,HG.out⟩
   case measure=>(simp [intOf] <;>omega)
  ·have HX:Hid (Go.Sort.reverseRange d a b=dk):=(by show _=_;unfold Go.Sort.reverseRange;rw[<- HE.out,Go.Sort.reverseLoop,Nd h5]);have h6:=aa S1;clear S1;go_wp2_with fail;(go_end0);exact⟨rfl,by rw[HX.out];exact h6.out⟩
section
variable {k:Nat} {r:Value} {cf:Fin (k+1)->Fin (k+1)->Int} {blk off cap:Nat} {d0 d:Array (Fin (k+1))} {w0 w:World}
def Iw(w0:World)(blk off:Nat)(d:Array (Fin (k+1)))(a b c s:Nat)(e:Ending)(w':World):Prop:=
 ∃x y s':Nat,e=.returned (.tuple #[.int .i64 x,.int .i64 y])/\((x=a/\y=b)\/(x=b/\y=a))/\s'<=s+1/\Cnt1 aU w0 blk off d c s' w'
theorem Dp(C:jD r cf blk off d0.size w0)(R:Row1 aU w0 blk off d0)(hs:d0.size=d.size)(a b c s:Nat)(T:Cnt1 aU w0 blk off d c s w)(ha:a<d.size)(hb:b<d.size)(_:d.size<=1000000000)(h4:s<=1000):
 Calls prog 241 #[.slice (some ⟨blk,off,none⟩) d.size cap,.int .i64 a,.int .i64 b,.pointer (some ⟨c,0,none⟩),.func (.func 137) #[r] #[]] w (Iw w0 blk off d a b c s):=by
 have h0:d.size=d0.size:=by omega
 obtain⟨x1,vx1⟩:∃x,x=d[b]! :=⟨_,rfl⟩;obtain⟨x2,vx2⟩:∃x,x=d[a]! :=⟨_,rfl⟩;have g1:=bH T.1 R h0 b hb;have g2:=bH T.1 R h0 a ha;rw[<- vx1]at g1;rw[<- vx2]at g2;have h2:=aa fun m=>oD C T.1 h0 x1 x2 m;have HT:=aa T;clear C R T vx1 vx2 h0 hs
 cases hl:ltOf cf x1 x2 with
 | true=>have d1:=da hl;clear hl;generalize cf x1 x2=v at*;go_enter func241,ntmps241;go_wp2_with fail;go_quiet ((go_at_call 137;exact NI (h2.out _)));have T2:=HT.out.grown nq #[];rw[Go.Sort.grow_empty]at T2;have c1:=T2.2.1;have f1:=T2.2.2.1;obtain⟨sn,h3⟩:∃x,x=s+1:=⟨_,rfl⟩;have z1:(s:Int)+1=(sn:Int):=(by omega);have h1:sn<=s+1:=(by omega);have HB:=aa (T2.bump sn);clear T2 g1 g2 h3;generalize w.drewN nq=w2 at*;go_wp2_with fail;go_ret2;exact⟨b,a,sn,rfl,.inr ⟨rfl,rfl⟩,h1,HB.out⟩
 | false=>have d1:=cG hl;clear hl;generalize cf x1 x2=v at*;go_enter func241,ntmps241;go_wp2_with fail;go_quiet ((go_at_call 137;exact NI (h2.out _)));have T2:=HT.out.grown nq #[];rw[Go.Sort.grow_empty]at T2;have HB:=aa T2;clear T2 g1 g2;generalize w.drewN nq=w2 at*;go_wp2_with fail;go_ret2;exact⟨a,b,s,rfl,.inl ⟨rfl,rfl⟩,by omega,HB.out⟩
def Ea(w0:World)(blk off:Nat)(d:Array (Fin (k+1)))(a b c p s:Nat)(e:Ending)(w':World):Prop:=
 ∃m s':Nat,e=.returned (.int .i64 m)/\(m=a\/m=b\/m=c)/\s'<=s+3/\Cnt1 aU w0 blk off d p s' w'
theorem uw(C:jD r cf blk off d0.size w0)(R:Row1 aU w0 blk off d0)(hs:d0.size=d.size)(a b c p s:Nat)(T:Cnt1 aU w0 blk off d p s w)(ha:a<d.size)(hb:b<d.size)(hc:c<d.size)(h7:d.size<=1000000000)(h0:s<=900):
 Calls prog 232 #[.slice (some ⟨blk,off,none⟩) d.size cap,.int .i64 a,.int .i64 b,.int .i64 c,.pointer (some ⟨p,0,none⟩),.func (.func 137) #[r] #[]] w (Ea w0 blk off d a b c p s):=by have HO:=aa fun(a b s:Nat) (w1:World) (T:Cnt1 aU w0 blk off d p s w1) (ha:a<d.size) (hb:b<d.size) (h0:s<=1000)=>Dp (cap:=cap) C R hs a b p s T ha hb h7 h0;have HT:=aa T;clear C R T;go_enter func232,ntmps232;go_wp2_with fail;refine(HO.out a b s w HT.out ha hb (by omega)).mono ?_;rintro e w1 ⟨x,y,s1,rfl,h1,h9,T1⟩;have h4:=aa T1;clear T1;have hx:x<d.size:=(by omega);have hy:y<d.size:=(by omega);go_wp2_with fail;refine(HO.out y c s1 w1 h4.out hy hc (by omega)).mono ?_;rintro e w2 ⟨x2,y2,s2,rfl,h2,he,T2⟩;have h5:=aa T2;clear T2;have h8:x2<d.size:=(by omega);go_wp2_with fail;refine(HO.out x x2 s2 w2 h5.out hx h8 (by omega)).mono ?_;rintro e w3 ⟨x3,y3,s3,rfl,h3,hf,T3⟩;have h6:=aa T3;clear T3;go_wp2_with fail;go_ret;exact⟨y3,s3,rfl,by omega,by omega,h6.out⟩
theorem xK(C:jD r cf blk off d0.size w0)(R:Row1 aU w0 blk off d0)(hs:d0.size=d.size)(a p s:Nat)(T:Cnt1 aU w0 blk off d p s w)(h1:1<=a)(ha:a+1<d.size)(h6:d.size<=1000000000)(h5:s<=900):
 Calls prog 231 #[.slice (some ⟨blk,off,none⟩) d.size cap,.int .i64 a,.pointer (some ⟨p,0,none⟩),.func (.func 137) #[r] #[]] w (Ea w0 blk off d (a-1) a (a+1) p s):=by have HO:=aa (uw (cap:=cap) C R hs (a-1) a (a+1) p s T (by omega) (by omega) ha h6 h5);have z1:(a:Int)-1=((a-1:Nat):Int):=(by omega);have z2:(a:Int)+1=((a+1:Nat):Int):=(by omega);obtain⟨al,h0⟩:∃x,x=a-1:=⟨_,rfl⟩;obtain⟨ar,h2⟩:∃x,x=a+1:=⟨_,rfl⟩;rw[<- h0]at z1 HO |-;rw[<- h2]at z2 HO |-;clear C R T h0 h2;go_enter func231,ntmps231;go_wp2_with fail;refine HO.out.mono ?_;rintro e w1 ⟨m,s1,rfl,h1,h4,T1⟩;have h3:=aa T1;clear T1;go_wp2_with fail;go_ret;exact⟨m,s1,rfl,h1,h4,h3.out⟩
end
section
variable {k:Nat} {r:Value} {cf:Fin (k+1)->Fin (k+1)->Int} {blk off cap:Nat} {d0 d:Array (Fin (k+1))} {w0 w:World}
def Ld(w0:World)(blk off:Nat)(d:Array (Fin (k+1)))(a b:Nat)(e:Ending)(w':World):Prop:=
 ∃(p h:Nat),e=.returned (.tuple #[.int .i64 p,.int .i64 h])/\a<=p/\p<b/\SW aU w0 blk off d w'
theorem GM(C:jD r cf blk off d0.size w0)(R:Row1 aU w0 blk off d0)(hs:d0.size=d.size)(S:SW aU w0 blk off d w)(a b:Nat)(hf:a+12<b)(hb:b<=d.size)(h8:d.size<=1000000000):
 Calls prog 208 #[.slice (some ⟨blk,off,none⟩) d.size cap,.int .i64 a,.int .i64 b,.func (.func 137) #[r] #[]] w (Ld w0 blk off d a b):=by
 have h7:=aa fun T=>Cnt1.start S T;have HM:=aa fun(x y z s:Nat) (w1:World) (T:Cnt1 aU w0 blk off d w.heap.size s w1) (hx:x<d.size) (hy:y<d.size) (hz:z<d.size) (h3:s<=900)=>uw (cap:=cap) C R hs x y z w.heap.size s T hx hy hz h8 h3;have HA:=aa fun(x s:Nat) (w1:World) (T:Cnt1 aU w0 blk off d w.heap.size s w1) (h1:1<=x) (h2:x+1<d.size) (h3:s<=900)=>xK (cap:=cap) C R hs x w.heap.size s T h1 h2 h8 h3;clear C R hs S;obtain⟨n,hn⟩:∃x,x=b-a:=⟨_,rfl⟩;obtain⟨q,hq⟩:∃x,x=n/4:=⟨_,rfl⟩;have z1:(b:Int)-(a:Int)=(n:Int):=by omega
 have z2:(n:Int)/4=(q:Int):=by omega
 obtain⟨i,hi⟩:∃x,x=a+q:=⟨_,rfl⟩;obtain⟨j,hj⟩:∃x,x=a+q*2:=⟨_,rfl⟩;obtain⟨l,hl⟩:∃x,x=a+q*3:=⟨_,rfl⟩;have z3:(a:Int)+(q:Int)=(i:Int):=by omega
 have z4:(a:Int)+(q:Int)*2=(j:Int):=by omega
 have z5:(a:Int)+(q:Int)*3=(l:Int):=by omega
 have r1:a+1<=i:=by omega
 have r2:i+1<b:=by omega
 have r4:j+1<b:=by omega
 have r6:l+1<b:=by omega
 have d8:decide ((8:Int)<=(n:Int))=true:=bE;have q8:q<=1000000000:=by omega
 have q9:n<=1000000000:=by omega
 clear hq hi hj hl hn;by_cases he:50<=n
 ·have d50:decide ((50:Int)<=(n:Int))=true:=bE;go_enter func208,ntmps208;go_wp2_with fail;refine(HA.out i 0 _ (h7.out _) (by omega) (by omega) (by omega)).mono ?_;rintro e w1 ⟨x1,s1,rfl,h1,hg,T1⟩;have rx1:a<=x1:=by omega
  have rx2:x1<b:=by omega
  have h9:=aa T1;clear T1 h1;go_wp2_with fail;refine(HA.out j s1 w1 h9.out (by omega) (by omega) (by omega)).mono ?_;rintro e w2 ⟨x2,s2,rfl,h2,hh,T2⟩;have ry1:a<=x2:=by omega
  have ry2:x2<b:=by omega
  have ha:=aa T2;clear T2 h2;go_wp2_with fail;refine(HA.out l s2 w2 ha.out (by omega) (by omega) (by omega)).mono ?_;rintro e w3 ⟨x3,s3,rfl,h3,hk,T3⟩;have rz1:a<=x3:=by omega
  have rz2:x3<b:=by omega
  have hc:=aa T3;clear T3 h3;go_wp2_with fail;refine(HM.out x1 x2 x3 s3 w3 hc.out (by omega) (by omega) (by omega) (by omega)).mono ?_;rintro e w4 ⟨p,s,rfl,hp,h6,T4⟩;have rp1:a<=p:=by omega
  have rp2:p<b:=by omega
  have g1:=T4.2.1;have h4:=aa T4.1;clear T4 hp h6;by_cases h5:s=0;·subst h5;go_wp2_with fail;go_ret2;exact⟨p,1,rfl,rp1,rp2,h4.out⟩
  ·have e0:((s:Int)==0)=false:=(by simp;omega);by_cases h0:s=12;·subst h0;go_wp2_with fail;go_ret2;exact⟨p,2,rfl,rp1,rp2,h4.out⟩
   ·have e1:((s:Int)==12)=false:=(by simp;omega);clear h5 h0;go_wp2_with fail;go_ret2;exact⟨p,0,rfl,rp1,rp2,h4.out⟩
 ·have d50:decide ((50:Int)<=(n:Int))=false:=aR;go_enter func208,ntmps208;go_wp2_with fail;refine(HM.out i j l 0 _ (h7.out _) (by omega) (by omega) (by omega) (by omega)).mono ?_;rintro e w4 ⟨p,s,rfl,hp,h6,T4⟩;have rp1:a<=p:=by omega
  have rp2:p<b:=by omega
  have g1:=T4.2.1;have h4:=aa T4.1;clear T4 hp h6;by_cases h5:s=0;·subst h5;go_wp2_with fail;go_ret2;exact⟨p,1,rfl,rp1,rp2,h4.out⟩
  ·have e0:((s:Int)==0)=false:=(by simp;omega);by_cases h0:s=12;·subst h0;go_wp2_with fail;go_ret2;exact⟨p,2,rfl,rp1,rp2,h4.out⟩
   ·have e1:((s:Int)==12)=false:=(by simp;omega);clear h5 h0;go_wp2_with fail;go_ret2;exact⟨p,0,rfl,rp1,rp2,h4.out⟩
end
theorem uG{α:Type} [Inhabited α]{a b i j:Nat}{d0 d:Array α}(h:Go.Sort.PermIn a b d0 d)(hi:a<=i)(h0:i<b)(hj:a<=j)(h1:j<b)(hb:b<=d.size):Go.Sort.PermIn a b d0 (Go.Sort.swp d i j):=by exact Go.Sort.permIn_trans d0 d _ a b h (Go.Sort.swp_permIn d a b i j hi h0 hj h1 hb)
theorem yo(k:Nat)(fv:Value)(blk off cap a b:Nat)(d0 d:Array (Fin (k+1)))(w0 w:World)
 (R:Row1 aU w0 blk off d0) (hs:d0.size=d.size) (S:SW aU w0 blk off d w) (hz:a+12<b) (hb:b<=d.size) (hD:d.size<=1000000000):
 Calls prog 207 #[.slice (some ⟨blk,off,none⟩) d.size cap,.int .i64 a,.int .i64 b,fv] w fun e w'=>e=.returned (.tuple #[])/\∃dk:Array (Fin (k+1)),dk.size=d.size/\Go.Sort.PermIn a b d dk/\SW aU w0 blk off dk w':=by
 have HR:=aa R;have HS:=aa S;clear R S;obtain⟨n,hn⟩:∃x,x=b-a:=⟨_,rfl⟩;obtain⟨q,hq⟩:∃x,x=n/4:=⟨_,rfl⟩;obtain⟨M,hM⟩:∃M:Nat,M=1 <<< Go.Sort.bitsLen n:=⟨_,rfl⟩;have hx:1<=M:=by rw[hM,Nat.one_shiftLeft];exact OE _
 have hy:M<=2*n:=by rw[hM,Nat.one_shiftLeft];exact Go.Sort.two_pow_bitsLen_le (by omega)
 have hk:∀w,Calls prog 229 #[.int .i64 (n:Int)] w fun e w'=>e=.returned (.int .u64 (M:Int))/\w'=w:=by rw[hM];exact fun w=>AnyF.nextPowerOfTwo Tryz.laysPow n (by omega) w
 have z1:(b:Int)-(a:Int)=(n:Int):=by omega
 have z2:(n:Int)/4=(q:Int):=by omega
 obtain⟨m,hm⟩:∃x,x=a+q*2:=⟨_,rfl⟩;have z3:(a:Int)+(q:Int)*2=(m:Int):=by omega
 have d8:decide ((8:Int)<=(n:Int))=true:=bE;have r1:a+1<=m:=by omega
 have r2:m+3<b:=by omega
 have q9:n<=1000000000:=by omega
 have q8:q<=1000000000:=by omega
 obtain⟨m1,hp⟩:∃x,x=m-1:=⟨_,rfl⟩;obtain⟨m2,hr⟩:∃x,x=m+1:=⟨_,rfl⟩;have z4:(m:Int)-1=(m1:Int):=by omega
 have z5:(m:Int)+1=(m2:Int):=by omega
 have r4:m2+1<b:=by omega
 have hg:Hid (w.heap.size≠blk):=by have:=HS.out.lt HR.out.hblk;exact fun e=>by omega
 have h8:Hid (w0.heap.size<=w.heap.size):=HS.out.le;clear hM hm hq hn hp hr;go_enter func207,ntmps207;go_wp2_with fail;refine(hk _).mono ?_;rintro e w' ⟨rfl,rfl⟩;go_wp2_with fail;go_loopw [11] (fun x wr=>∃(i R0:Nat) (dk:Array (Fin (k+1))),x=.int .i64 i/\m1<=i/\i<=m2+1/\dk.size=d.size/\R0<18446744073709551616/\Go.Sort.PermIn a b d dk/\SW aU w0 blk off dk wr/\wr.cell? ⟨w.heap.size,0,none⟩=some (.int .u64 R0)/\wr.frozen? ⟨w.heap.size,0,none⟩=false) (fun x _=>((m2:Int)+1-intOf x).toNat)
 case atStart=>exact⟨m1,n,d,by go_num,by omega,by omega,rfl,by omega,Go.Sort.permIn_refl _ _ _,HS.out.alloc _,by simp,by simp⟩
 case round=>
  obtain⟨i,R0,dk,rfl,hA,hB,ha,lR,hP,S1,cR,fR⟩:=hrel;have HP:=aa hP;clear hP;have h1:dk.size=d0.size:=by omega
  by_cases hC:i<=m2
  ·have hh:a<=i:=(by omega);have hi:i<b:=(by omega);obtain⟨R',h9⟩:∃R':Nat,R'=Go.Sort.xorNextN R0:=⟨_,rfl⟩;have lR':R'<18446744073709551616:=(by rw[h9];exact Go.Sort.xorNextN_lt R0 lR);obtain⟨O,hO⟩:∃O:Nat,O=R' &&& (M-1):=⟨_,rfl⟩;have lO:O<=M-1:=(by rw[hO];exact Nat.and_le_right);have eAnd:bits .and .u64 (R':Int) ((M:Int)-1)=(O:Int):=(by rw[show ((M:Int)-1)=((M-1:Nat):Int) by omega,bits_and_u64_nat _ _ lR' (by omega),hO]);have h0:Calls prog 230 #[.pointer (some ⟨w.heap.size,0,none⟩)] wr fun e w'=>e=.returned (.int .u64 (R':Int))/\w'=(wr.setCell ⟨w.heap.size,0,none⟩ (.int .u64 (R':Int))).drewN 3:=(by rw[h9];exact AnyF.xorshift_Next Tryz.laysXor _ _ R0 lR wr cR fR);clear h9 hO;have S2:SW aU w0 blk off dk ((wr.setCell ⟨w.heap.size,0,none⟩ (.int .u64 (R':Int))).drewN 3):=(S1.setCell_new w.heap.size 0 (.int .u64 (R':Int)) h8.out).drewN 3;have cR':((wr.setCell ⟨w.heap.size,0,none⟩ (.int .u64 (R':Int))).drewN 3).cell? ⟨w.heap.size,0,none⟩=some (.int .u64 (R':Int)):=(by rw[World.cell?_drewN];exact World.cell?_setCell_same _ _ _ cR);have fR':((wr.setCell ⟨w.heap.size,0,none⟩ (.int .u64 (R':Int))).drewN 3).frozen? ⟨w.heap.size,0,none⟩=false:=(by rw[World.frozen?_drewN];simpa using fR);generalize (wr.setCell ⟨w.heap.size,0,none⟩ (.int .u64 (R':Int))).drewN 3=w2 at h0 S2 cR' fR';clear cR fR S1;have HN:=aa h0;have HS2:=aa S2;have h5:=aa cR';have h6:=aa fR';clear h0 S2 cR' fR';by_cases hw:n<=O
   ·obtain⟨OO,hl⟩:∃t,t=O-n:=⟨_,rfl⟩;have z6:(O:Int)-(n:Int)=(OO:Int):=(by omega);have ho:OO<n:=(by omega);clear hl;go_wp2_with fail;refine HN.out.mono ?_;rintro e w' ⟨rfl,hf⟩;obtain rfl:w2=w':=hf.symm;have S2:=HS2.out;have cR':=h5.out;have fR':=h6.out;clear HN HS2 h5 h6;obtain⟨t,ht⟩:∃t,t=a+OO:=⟨_,rfl⟩;have z7:(a:Int)+(OO:Int)=(t:Int):=(by omega);have hc:a<=t:=(by omega);have he:t<b:=(by omega);have h2:i<dk.size:=(by omega);have h3:t<dk.size:=(by omega);have hu:i<d.size:=(by omega);have hv:t<d.size:=(by omega);obtain⟨x1,vx1⟩:∃x,x=dk[i]! :=⟨_,rfl⟩;obtain⟨x2,vx2⟩:∃x,x=dk[t]! :=⟨_,rfl⟩;have g1:=bH S2 HR.out h1 i h2;have g2:=bH S2 HR.out h1 t h3;have f1:=cE S2 HR.out h1 i h2;have f2:=cE S2 HR.out h1 t h3;obtain⟨u,g3⟩:=jn S2 HR.out h1 i t h2 h3 x2.val;have h4:=aa (jl S2 HR.out i t h2 h3);have h7:=aa (uG HP.out hh hi hc he (by omega));have HK:=aa (box_kept_swap1 (W:=w2) (blk:=blk) hg.out cR' fR' (off+i) (off+t) (.int .i64 (x2.val:Nat)) (.int .i64 (x1.val:Nat)));rw[<- vx1]at g1;rw[<- vx2]at g2;rw[<- vx1,<-vx2]at h4;clear S2 vx1 vx2 cR' fR' ht;go_wp2_with fail;go_region;go_wp2_with fail;go_roundw;case rel=>exact⟨i+1,R',Go.Sort.swp dk i t,by go_num,by omega,by omega,by rw[Go.Sort.size_swp];exact ha,lR',h7.out,h4.out,HK.out.1,HK.out.2⟩
    case measure=>(simp [intOf] <;>omega)
   ·have ho:O<n:=(by omega);clear lO;go_wp2_with fail;refine HN.out.mono ?_;rintro e w' ⟨rfl,hf⟩;obtain rfl:w2=w':=hf.symm;have S2:=HS2.out;have cR':=h5.out;have fR':=h6.out;clear HN HS2 h5 h6;obtain⟨t,ht⟩:∃t,t=a+O:=⟨_,rfl⟩;have z7:(a:Int)+(O:Int)=(t:Int):=(by omega);have hc:a<=t:=(by omega);have he:t<b:=(by omega);have h2:i<dk.size:=(by omega);have h3:t<dk.size:=(by omega);have hu:i<d.size:=(by omega);have hv:t<d.size:=(by omega);obtain⟨x1,vx1⟩:∃x,x=dk[i]! :=⟨_,rfl⟩;obtain⟨x2,vx2⟩:∃x,x=dk[t]! :=⟨_,rfl⟩;have g1:=bH S2 HR.out h1 i h2;have g2:=bH S2 HR.out h1 t h3;have f1:=cE S2 HR.out h1 i h2;have f2:=cE S2 HR.out h1 t h3;obtain⟨u,g3⟩:=jn S2 HR.out h1 i t h2 h3 x2.val;have h4:=aa (jl S2 HR.out i t h2 h3);have h7:=aa (uG HP.out hh hi hc he (by omega));have HK:=aa (box_kept_swap1 (W:=w2) (blk:=blk) hg.out cR' fR' (off+i) (off+t) (.int .i64 (x2.val:Nat)) (.int .i64 (x1.val:Nat)));rw[<- vx1]at g1;rw[<- vx2]at g2;rw[<- vx1,<-vx2]at h4;clear S2 vx1 vx2 cR' fR' ht;go_wp2_with fail;go_region;go_wp2_with fail;go_roundw;case rel=>exact⟨i+1,R',Go.Sort.swp dk i t,by go_num,by omega,by omega,by rw[Go.Sort.size_swp];exact ha,lR',h7.out,h4.out,HK.out.1,HK.out.2⟩
    case measure=>(simp [intOf] <;>omega)
  ·have hj:=aa S1;clear S1;go_wp2_with fail;(go_end0);exact⟨rfl,dk,ha,HP.out,hj.out⟩
