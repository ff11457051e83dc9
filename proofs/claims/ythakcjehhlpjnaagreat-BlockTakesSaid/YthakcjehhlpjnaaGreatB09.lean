import Derived.Test.YthakcjehhlpjnaaGreatB08
import Derived.Defers
import Derived.Recover
set_option maxHeartbeats 3200000
set_option maxRecDepth 100000
namespace Go.Proofs.YthakcjehhlpjnaaGreat
open Go.RowKit
def fh(z R:Nat):List Nat:=ai 54156738319193 48++ai z 32++ai R 25
theorem wh{z R:Nat}(hR:R<16777216):fh z R= []++ai 54156738319193 48++ai z 32++ai 0 1++ai R 24:=by
 have h:ai R (1+24)=ai (R / 2 ^ 24) 1++ai R 24:=ix 24 R 1
 have h2:R / 2 ^ 24=0:=Nat.div_eq_of_lt (by omega)
 unfold fh
 rw[show (25:Nat)=1+24 from rfl,h,h2,List.nil_append,←List.append_assoc]
theorem nj(z R:Nat):(fh z R).length=105:=by
 unfold fh
 rw[List.length_append,List.length_append,af,af,af]
theorem yW(w:World)(z R:Nat)(hz:z<4294967296)(hR:R<16777216):
 Calls Tryz.prog 25 #[.agg #[.int .u32 z,.int .i64 R]] w fun e w'=>e=.returned (.agg #[.string ⟨(aK (fh z R)).toArray⟩,.int .i64 105])∧Below w.heap.size w w':=by
 have hf:Below w.heap.size w (w.alloc (.cells #[.int .u32 z,.int .i64 R] 59)):=(Below.refl _ _).alloc (ah _) _
 have hh:=ag w 59 #[.int .u32 z,.int .i64 R]
 obtain⟨w1,h8⟩:∃w1,w1=w.alloc (.cells #[.int .u32 z,.int .i64 R] 59):=⟨_,rfl⟩
 have hJ:w1.heap.size=w.heap.size+1:=by rw[h8];simp
 rw[← h8]at hf hh
 have hg:Below w1.heap.size w1 (w1.alloc (.cells #[.string ⟨#[]⟩,.int .i64 0] 24)):=(Below.refl _ _).alloc (ah _) _
 have hI:=aL hg hh
 have hj:=ag w1 24 #[.string ⟨#[]⟩,.int .i64 0]
 rw[hJ]at hj
 have h2:=ap hf hg
 have h9:=aa hI
 have hb:=aa hj
 have hl:=aa h2
 have hD:=aa h8.symm
 have u1:IntKind.u64.wrap (z:Int)=z:=by rw[IntKind.wrap_u64];omega
 have u2:IntKind.u64.wrap (R:Int)=R:=by rw[IntKind.wrap_u64];omega
 obtain⟨T,hT⟩:∃T:ByteArray,T=⟨(aK (fh z R)).toArray⟩:=⟨_,rfl⟩
 have HT:=aa hT
 have HP:=aa (wh (z:=z) hR)
 have hi:=nj z R
 rw[← hT]
 clear hf hh hg hI hj h2 hJ h8 hT
 go_enter Tryz.func25,Tryz.ntmps25
 go_upto_region 1 with fail
 rw[hD.out]
 generalize w1.alloc (.cells #[.string ⟨#[]⟩,.int .i64 0] 24)=w2 at*
 clear hD
 go_wp2_with fail
 refine(Ca w2).mono ?_
 rintro e w3 ⟨rfl,hk⟩
 obtain⟨p,hp⟩:∃p,p=w2.heap.size:=⟨_,rfl⟩
 have h0:w.heap.size<p:=by rw[hp];exact ay h9.out
 have hN:w.heap.size+1<p:=by rw[hp];exact ay hb.out
 have hE:IsW p w3 p (.slice none 0 0) []:=by rw[hk,hp];exact l7 w2 w2.heap.size (ah _)
 have h7:Below w2.heap.size w2 w3:=bR hk
 have hr:=aa (aL h7 h9.out)
 have hy:=aa (aL h7 hb.out)
 have hm:=aa (ap hl.out h7)
 have hu:=aa (fC p w3 p _ _ 54156738319193 48 hE (by simp) (by omega) (by omega))
 rw[← hp]
 clear hk hp h7 hE h9 hb hl
 go_wp2_with fail
 refine hu.out.mono ?_
 rintro e w4 ⟨rfl,v4,hF,h4⟩
 have ha:=aa (h4.blk hr.out (by simp;omega) (by decide))
 have hA:=aa (h4.blk hy.out (by simp;omega) (by decide))
 have hn:=aa (hm.out.trans (h4.below.mono (Nat.le_of_lt h0)))
 have hv:=aa (fC p w4 p _ _ z 32 hF (by simp[af]) (by omega) (by omega))
 have q0:w4.cell? ⟨w.heap.size,0,none⟩=some (.int .u32 z):=(ac ha.out 0).trans rfl
 clear hF h4 hu hr hy hm
 go_wp2_with fail
 refine hv.out.mono ?_
 rintro e w5 ⟨rfl,v5,hG,h5⟩
 have hs:=aa (h5.blk ha.out (by simp;omega) (by decide))
 have hB:=aa (h5.blk hA.out (by simp;omega) (by decide))
 have ho:=aa (hn.out.trans (h5.below.mono (Nat.le_of_lt h0)))
 have hw:=aa (fC p w5 p _ _ 0 1 hG (by simp[af]) (by omega) (by omega))
 clear hG h5 hv ha hA hn q0
 go_wp2_with fail
 refine hw.out.mono ?_
 rintro e w6 ⟨rfl,v6,hH,h6⟩
 have ht:=aa (h6.blk hs.out (by simp;omega) (by decide))
 have hC:=aa (h6.blk hB.out (by simp;omega) (by decide))
 have hq:=aa (ho.out.trans (h6.below.mono (Nat.le_of_lt h0)))
 have hx:=aa (fC p w6 p _ _ R 24 hH (by simp[af]) (by omega) (by omega))
 have q1:w6.cell? ⟨w.heap.size,1,none⟩=some (.int .i64 R):=(ac ht.out 1).trans rfl
 clear hH h6 hw hs hB ho
 go_wp2_with fail
 refine hx.out.mono ?_
 rintro e w7 ⟨rfl,v7,h1,hc⟩
 rw[← HP.out]at h1
 have h3:=hc.blk hC.out (by simp;omega) (by decide)
 have hK:=aa (hq.out.trans (hc.below.mono (Nat.le_of_lt h0)))
 have he:=iz p w7 p v7 _ h1
 rw[← HT.out]at he
 have hM:=aa he
 have c0:=ac h1.blk 0
 have c2:=ac h1.blk 2
 rw[hi]at c2
 simp at c0 c2
 have hL:=aa (jR w7 p 105 c0 c2)
 have e0:=(ac h3 0).trans (rfl:_=some (Value.string ⟨#[]⟩))
 have e1:=(ac h3 1).trans (rfl:_=some (Value.int .i64 0))
 have f0:=ae h3 0
 have f1:=ae h3 1
 clear h1 hc hx ht hC hq q1 he c0 c2 h3
 go_wp2_with fail
 refine hM.out.mono ?_
 rintro e w8 ⟨rfl,rfl⟩
 go_wp2_with fail
 refine hL.out.mono ?_
 rintro e w8 ⟨rfl,rfl⟩
 go_wp2_with fail
 refine bodyPost_ret (v:=.agg #[.string T,.int .i64 105]) ?_ rfl ?_
 ·simp[results,Tryz.results25,go_sem,e0,e1]
 ·exact⟨rfl,(hK.out.setCell (p:=⟨w.heap.size+1,0,none⟩) (Nat.le_succ _) _).setCell (p:=⟨w.heap.size+1,1,none⟩) (Nat.le_succ _) _⟩
end Go.Proofs.YthakcjehhlpjnaaGreat
