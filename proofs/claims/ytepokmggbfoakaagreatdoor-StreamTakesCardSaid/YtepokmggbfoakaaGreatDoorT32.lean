import Derived.Test.YtepokmggbfoakaaGreatDoorT17
import Derived.Sort.WalkA
import Derived.Sort.LotA
import Derived.Test.YtepokmggbfoakaaGreatDoorLx
set_option maxHeartbeats 4000000
set_option maxRecDepth 100000
namespace Go.Proofs.YtepokmggbfoakaaGreatDoor.S05
open _root_.Go.Proofs.Tryz
open Go.RowKit
section
variable {k:Nat} {r:Value} {cf:Fin (k+1)->Fin (k+1)->Int} {blk off size:Nat} {w0 W:World} {d0 dk:Array (Fin (k+1))}
theorem Mw(hC:vE r cf blk off size w0)(S:SW ew w0 blk off dk W)(hs:dk.size=size)(x y:Fin (k+1))(m:Nat):
 Calls prog 193 #[r,.int .i64 (x.val:Nat),.int .i64 (y.val:Nat)] (W.drewN m) fun e w'=>e=.returned (.int .i64 (cf x y))/\∃q,w'=(W.drewN m).drewN q:=
 (hC (W.drewN m) dk hs (S.drewN m) x y).mono fun _ _ h=>⟨h.1,0,h.2.symm⟩
theorem sp(S:SW ew w0 blk off dk W)(R:Row1 ew w0 blk off d0)(hs:dk.size=d0.size)(i:Nat)(hi:i<dk.size):W.cell? ⟨blk,off+i,none⟩=some (.int .i64 ((dk[i]!).val:Nat)):=S.c1 R hs i hi
theorem xd(S:SW ew w0 blk off dk W)(R:Row1 ew w0 blk off d0)(hs:dk.size=d0.size)(i:Nat)(hi:i<dk.size):W.frozen? ⟨blk,off+i,none⟩=false:=S.f1 R hs i hi
theorem LX(S:SW ew w0 blk off dk W)(R:Row1 ew w0 blk off d0)(hs:dk.size=d0.size)(i j:Nat)(hi:i<dk.size)(hj:j<dk.size)(v:Nat):∃u,(W.setCell ⟨blk,off+i,none⟩ (.int .i64 v)).cell? ⟨blk,off+j,none⟩=some u:=S.c2 R hs i j hi hj _
theorem LW(S:SW ew w0 blk off dk W)(R:Row1 ew w0 blk off d0)(i j:Nat)(hi:i<dk.size)(hj:j<dk.size):
 SW ew w0 blk off (Go.Sort.swp dk i j) ((W.setCell ⟨blk,off+i,none⟩ (.int .i64 ((dk[j]!).val:Nat))).setCell ⟨blk,off+j,none⟩ (.int .i64 ((dk[i]!).val:Nat))).drew:=S.swapped R i j hi hj
theorem LB{x y:Fin (k+1)}(h:ltOf cf x y=true):decide (cf x y<0)=true:=h
theorem JF{x y:Fin (k+1)}(h:ltOf cf x y=false):decide (cf x y<0)=false:=h
end
theorem vo(k:Nat)(r:Value)(cf:Fin (k+1)->Fin (k+1)->Int)(blk off cap a b:Nat)(d0 d:Array (Fin (k+1)))(w0 w:World)
 (C:vE r cf blk off d0.size w0) (R:Row1 ew w0 blk off d0) (hs:d0.size=d.size) (S:SW ew w0 blk off d w) (hc:a<=b) (hb:b<=d.size) (hi:d.size<=1000000000):
 Calls prog 256 #[.slice (some ⟨blk,off,none⟩) d.size cap,.int .i64 a,.int .i64 b,.func (.func 193) #[r] #[]] w fun e w'=>e=.returned (.tuple #[])/\SW ew w0 blk off (Go.Sort.insertionSort (ltOf cf) d a b) w':=by
 have HC:=aa C;have HR:=aa R;have HS:=aa S;clear C R S;go_enter func256,ntmps256;go_wp2_with fail;go_loopw [8] (fun x wr=>∃(i:Nat) (dk:Array (Fin (k+1))),x=.int .i64 i/\a<i/\i<=b+1/\dk.size=d.size/\SW ew w0 blk off dk wr/\Go.Sort.insOuter (ltOf cf) a b i dk=Go.Sort.insOuter (ltOf cf) a b (a+1) d) (fun x _=>b+1-(intOf x).toNat)
 case atStart=>exact⟨a+1,d,by go_num,by omega,by omega,rfl,HS.out,rfl⟩
 case round=>
  obtain⟨i,dk,rfl,he,hg,ha,S1,HO⟩:=hrel;have h7:=aa S1;have h2:=aa HO;clear S1 HO;by_cases h4:i<b
  ·go_wp2_with fail;(go_loopw [9] (fun y wr=>∃(j:Nat) (dj:Array (Fin (k+1))),y=.int .i64 j/\a<=j/\j<=i/\dj.size=d.size/\SW ew w0 blk off dj wr/\Go.Sort.insInner (ltOf cf) a j dj=Go.Sort.insInner (ltOf cf) a i dk) (fun y _=>(intOf y).toNat));case atStart=>exact⟨i,dk,rfl,by omega,Nm _,ha,h7.out,rfl⟩
   case round=>
    obtain⟨j,dj,rfl,hf,hh,h5,SJ,HI⟩:=hrel;have h0:=aa SJ;have h1:=aa HI;clear SJ HI;by_cases h9:a<j
    ·have c1:=sp h0.out HR.out (by omega) j (by omega);have c2:=sp h0.out HR.out (by omega) (j-1) (by omega);have h6:=aa fun m=>Mw HC.out h0.out (by omega) dj[j]! dj[j-1]! m;have e1:((j:Int)-1).toNat=j-1:=(by omega);have e2:IntKind.i64.wrap ((j:Int)-1)=(j:Int)-1:=IntWalk.i64_in _ (by omega);have e3:(0:Int)<=(j:Int)-1:=(by omega);have e4:(j:Int)-1<(d.size:Int):=(by omega);have e5:(1:Int)<=(j:Int):=by omega
     cases hl:ltOf cf dj[j]! dj[j-1]! with
     | true=>
      have d3:=LB hl;generalize cf dj[j]! dj[j-1]! =c at*;go_wp2_with fail;go_quiet ((go_at_call 193;exact P8 (h6.out _)));have S2:=h0.out.drewN nq;generalize wr.drewN nq=w2 at S2 |-;have g1:=sp S2 HR.out (by omega) j (by omega);have g2:=sp S2 HR.out (by omega) (j-1) (by omega);have f1:=xd S2 HR.out (by omega) j (by omega);have f2:=xd S2 HR.out (by omega) (j-1) (by omega);obtain⟨u,g3⟩:=LX S2 HR.out (by omega) j (j-1) (by omega) (by omega) (dj[j-1]!).val;have S3:=LW S2 HR.out j (j-1) (by omega) (by omega);have h8:=aa S3;clear S2 S3 c1 c2;go_wp2_with fail;go_region;go_wp2_with fail;go_roundw;case rel=>exact⟨j-1,Go.Sort.swp dj j (j-1),by go_num,by omega,by omega,by rw[Go.Sort.size_swp];exact h5,h8.out,by rw[<- h1.out,insInner_go (ltOf cf) a j dj h9 hl]⟩
      case measure=>simp[intOf];omega
     | false=>
      have d3:=JF hl;have h3:Hid (Go.Sort.insOuter (ltOf cf) a b (i+1) dj=Go.Sort.insOuter (ltOf cf) a b (a+1) d):=(by show _=_;rw[<- h2.out,insOuter_go _ _ _ _ _ h4,<-h1.out,insInner_stop _ _ _ _ (Or.inr hl)]);generalize cf dj[j]! dj[j-1]! =c at*;go_wp2_with fail;go_quiet ((go_at_call 193;exact P8 (h6.out _)));have HS2:=aa (h0.out.drewN nq);generalize wr.drewN nq=w2 at HS2 |-;go_wp2_with fail;go_roundw;case rel=>exact⟨i+1,dj,by go_num,by omega,by omega,h5,HS2.out,h3.out⟩
      case measure=>simp[intOf];omega
    ·have h3:Hid (Go.Sort.insOuter (ltOf cf) a b (i+1) dj=Go.Sort.insOuter (ltOf cf) a b (a+1) d):=(by show _=_;rw[<- h2.out,insOuter_go _ _ _ _ _ h4,<-h1.out,insInner_stop _ _ _ _ (Or.inl (by omega))]);go_wp2_with fail;go_quiet (fail);have HS2:=aa (h0.out.drewN nq);generalize wr.drewN nq=w2 at HS2 |-;go_wp2_with fail;go_roundw;case rel=>exact⟨i+1,dj,by go_num,by omega,by omega,h5,HS2.out,h3.out⟩
     case measure=>simp[intOf];omega
  ·have HX:Hid (Go.Sort.insertionSort (ltOf cf) d a b=dk):=(by unfold Go.Sort.insertionSort;rw[<- h2.out,insOuter_stop _ _ _ _ _ h4];exact rfl);go_wp2_with fail;(go_end0);exact⟨rfl,by rw[HX.out];exact h7.out⟩
theorem za(n:Nat)(w:World)(h:n<=1000000000):Calls prog 204 #[.int .u64 n] w fun e w'=>e=.returned (.int .i64 (Lib.bitLen n:Nat))/\w=w':=by have h1:=Any.bits_Len Tryz.laysBits (n:Int) w (by omega) (by omega);rw[Nn]at h1;exact Calls.mono h1 fun e w' hh=>⟨hh.1,hh.2.symm⟩
theorem GJ(k:Nat)(r:Value)(cf:Fin (k+1)->Fin (k+1)->Int)(blk off cap a b:Nat)(lim:Int)(d0 d:Array (Fin (k+1)))(w0 w:World)
 (C:vE r cf blk off d0.size w0) (R:Row1 ew w0 blk off d0) (hs:d0.size=d.size) (S:SW ew w0 blk off d w) (h0:a<=b) (hb:b<=d.size) (h1:d.size<=1000000000) (h2:b-a<=12):
 Calls prog 231 #[.slice (some ⟨blk,off,none⟩) d.size cap,.int .i64 a,.int .i64 b,.int .i64 lim,.func (.func 193) #[r] #[]] w fun e w'=>e=.returned (.tuple #[])/\SW ew w0 blk off (Go.Sort.insertionSort (ltOf cf) d a b) w':=by have HI:=aa (vo k r cf blk off cap a b d0 d w0 w C R hs S h0 hb h1);have d1:decide ((b:Int)-(a:Int)<=12)=true:=aX (by omega);clear C R S;go_enter func231,ntmps231;go_wp2_with fail;refine wp_loop_rounds 1 ?_;rw[rounds_succ];go_wp2_with fail;refine HI.out.mono ?_;rintro e w1 ⟨rfl,S1⟩;have HS:=aa S1;clear S1;go_wp2_with fail;(try simp only[Exit.inBlock,Exit.then]);refine ND (RA rfl _ _ _) rfl ?_;exact⟨rfl,HS.out⟩
theorem uQ(k:Nat)(r:Value)(cf:Fin (k+1)->Fin (k+1)->Int)(blk off cap:Nat)(d:Array (Fin (k+1)))(w:World)
 (C:vE r cf blk off d.size w) (R:Row1 ew w blk off d) (h0:d.size<=12):
 Calls prog 192 #[.slice (some ⟨blk,off,none⟩) d.size cap,.func (.func 193) #[r] #[]] w fun e w'=>e=.returned (.tuple #[])/\SW ew w blk off (Go.Sort.insertionSort (ltOf cf) d 0 d.size) w':=by have HL:=aa fun w1:World=>za d.size w1 (by omega);have HP:=aa fun lim:Int=>GJ k r cf blk off cap 0 d.size lim d d w w C R rfl (SW.start R.hH) (Nh _) (ah _) (by omega) (by omega);have wr:IntKind.u64.wrap (d.size:Int)=d.size:=(by simp[IntKind.wrap,IntKind.bits,IntKind.signed];omega);clear C R;go_enter func192,ntmps192;go_wp2_with fail;refine(HL.out _).mono ?_;rintro e w1 ⟨rfl,rfl⟩;go_wp2_with fail;refine(HP.out _).mono ?_;rintro e w1 ⟨rfl,S1⟩;have HS:=aa S1;clear S1;go_wp2_with fail;(go_end0);exact⟨rfl,HS.out⟩
theorem Bg:nK 12:=by intro k r cf blk off cap d w hO C hH h0 _ h1;refine(uQ k r cf blk off cap d w C ⟨fun _=>rfl,hH,h0⟩ h1).mono ?_;rintro e w' ⟨rfl,S⟩;have h:=Go.Sort.insertionSort_holds (lt:=ltOf cf) hO d 0 d.size (Nh _) (ah _);exact⟨rfl,_,h.1,h.2,S⟩
