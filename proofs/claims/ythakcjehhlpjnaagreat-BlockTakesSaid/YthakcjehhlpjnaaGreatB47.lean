import Derived.Test.YthakcjehhlpjnaaGreatB46
import Derived.Test.YthakcjehhlpjnaaGreatB42
import Derived.Test.YthakcjehhlpjnaaGreatB38
import Derived.Sort.WalkB2
import Derived.Sort.LotB
import Derived.Sort.WalkB3
import Derived.Shelf.SlSortCmp.Xorshift
import Derived.Laws.Bits64b
import Derived.Sort.LotD1
import Derived.Sort.LotD5
import Derived.Sort.WalkA6
import Derived.Sort.WalkC4
import Derived.Sort.LotD3
set_option maxHeartbeats 6400000
set_option maxRecDepth 100000
namespace Go.Proofs.YthakcjehhlpjnaaGreat
open Go.RowKit
theorem b9{w w':World}{g:Nat}{t:TypeId}{cs:Array Value}(hb:Below w.heap.size w w')(h:Blk w g t cs):Blk w' g t cs:=aL hb h
theorem oc{w:World}{g b:Nat}{t:TypeId}{cs:Array Value}{x y:Value}(h:Blk w g t cs)(h0:g≠b):Blk ((w.setCell ⟨b,0,none⟩ x).setCell ⟨b,1,none⟩ y) g t cs:=
 (ak.set (ps:= [b]) (ak.set (ps:= [b]) (ak.refl 0 [b] [] w) (p:=⟨b,0,none⟩) (Nat.zero_le _) (List.mem_singleton.2 rfl) x) (p:=⟨b,1,none⟩) (Nat.zero_le _) (List.mem_singleton.2 rfl) y).blk h (by simpa using h0) aq
theorem IV{w:World}{B g:Nat}{ls:List (List Nat)}(hg:Blk w g 24 (df ls).toArray)(hB:B≤g)(h0:0<ls.length)(hn:ls.length≤1000000)(hl:∀l∈ls,an l):Pcs w B (.slice (some ⟨g,0,none⟩) ls.length ls.length) ls:=by
 have h1:(df ls).length=ls.length*2:=by
  unfold df
  clear hg h0 hn hl
  induction ls with
  | nil=>rfl
  | cons x xs ih=>rw[List.flatMap_cons,List.length_append,ih,List.length_cons];simp;omega
 refine⟨⟨by rw[h1],.inr ⟨g,ls.length,_,rfl,hB,hg,Nat.le_refl _,by unfold maxLen;omega,?_,?_⟩⟩,hl⟩
 ·simp[h1]
 ·simp[← h1]
theorem AF(w:World)(s ts cs us ss gs qs:ByteArray)(R z N k2 NG NQ:Nat)(PL LT SH GB CQ:List Nat)(T:List (List Int))(P:List Int)
 (hR:R<16777216) (hz:z<4294967296) (tS:us.size≤256) (tM:(us.size:Int)+2=(k2:Int))
 (tv:an SH) (pn:an GB) (pl:an CQ) (HH:(fh z R++SH++(GB++CQ)).length≤100000000)
 (tq:ss=⟨(aK SH).toArray⟩) (hN:N=SH.length) (tl:gs=⟨(aK GB).toArray⟩) (sT:NG=GB.length) (tm:qs=⟨(aK CQ).toArray⟩) (ta:NQ=CQ.length)
 (HE:∀wx:World,Calls Tryz.prog 15 #[.string s] wx fun e w'=>e=.returned (.string ts)∧Below wx.heap.size wx w')
 (HF:∀wx:World,Calls Tryz.prog 16 #[.string ts] wx fun e w'=>e=.returned (.tuple #[.string cs,.int .i64 R,.int .i64 0])∧Below wx.heap.size wx w')
 (HU:∀wx:World,Calls Tryz.prog 17 #[.string cs] wx fun e w'=>e=.returned (.string us)∧Below wx.heap.size wx w')
 (HFr:∀wx:World,Calls Tryz.prog 18 #[.string cs,.string us] wx (bQ wx (PL,0)))
 (HZ:∀(wx:World) (A:Option Addr) (c:Nat),aw wx A PL.length PL→PL.length≤c→Calls Tryz.prog 19 #[.int .i64 us.size,.slice A PL.length c] wx (bQ wx (LT,0)))
 (HBe:∀(wx:World) (A:Option Addr) (c:Nat),aw wx A LT.length LT→LT.length≤c→Calls Tryz.prog 20 #[.slice A LT.length c,.int .i64 k2] wx (dU wx (T,P,0)))
 (HSh:∀wx:World,Calls Tryz.prog 21 #[.string us] wx fun e w'=>e=.returned (.tuple #[.agg #[.string ss,.int .i64 N],.int .i64 0])∧Below wx.heap.size wx w')
 (HB:∀(wx:World) (v:Value),aN wx v T P→Calls Tryz.prog 22 #[v] wx fun e w'=>e=.returned (.tuple #[.agg #[.string gs,.int .i64 NG],.int .i64 0])∧Below wx.heap.size wx w')
 (HC:∀(wx:World) (v:Value),aN wx v T P→∀(A:Option Addr) (c:Nat),aw wx A LT.length LT→LT.length≤c→Calls Tryz.prog 23 #[v,.slice A LT.length c] wx fun e w'=>e=.returned (.tuple #[.agg #[.string qs,.int .i64 NQ],.int .i64 0])∧Below wx.heap.size wx w')
 (HS2:∀wx:World,Calls Tryz.prog 14 #[.string s] wx fun e w'=>e=.returned (.int .u32 z)∧Below wx.heap.size wx w'):
 Calls Tryz.prog 9 #[.string s] w (aV w (fh z R++SH++(GB++CQ),0)):=by
 obtain⟨w1,HT⟩:∃w1,w1=w.alloc (.cells #[.string ⟨#[]⟩,.int .i64 0] 24):=⟨_,rfl⟩
 have tn:Blk w1 w.heap.size 24 #[.string ⟨#[]⟩,.int .i64 0]:=ee HT
 have te:Below w.heap.size w w1:=bR HT
 have hu: [fh z R,SH,GB,CQ].flatten=fh z R++SH++(GB++CQ):=by simp
 have hE:∀l∈ [fh z R,SH,GB,CQ],an l:=by
  intro l hl
  have hh:an (fh z R):=an.append (an.append (aE _ _) (aE _ _)) (aE _ _)
  simp only[List.mem_cons,aq,or_false]at hl
  rcases hl with rfl | rfl | rfl | rfl <;>assumption
 obtain⟨hs,q5⟩:∃hs:ByteArray,hs=⟨(aK (fh z R)).toArray⟩:=⟨_,rfl⟩
 have rO:=aa fun wx:World=>yW wx z R hz hR
 rw[← q5]at rO
 have hp:=aa (show(df [fh z R,SH,GB,CQ]).toArray=#[.string hs,.int .i64 105,.string ss,.int .i64 N,.string gs,.int .i64 NG,.string qs,.int .i64 NQ] by
  rw[q5,tq,tl,tm,hN,sT,ta]
  simp only[df,List.flatMap_cons,List.flatMap_nil,nj]
  rfl)
 have HJ:=aa fun(wx:World) (g:Nat) (hg:Blk wx g 24 #[.string hs,.int .i64 105,.string ss,.int .i64 N,.string gs,.int .i64 NG,.string qs,.int .i64 NQ])=>qY wx 0 _ [fh z R,SH,GB,CQ] (IV (by rw[hp.out];exact hg) (Nat.zero_le g) (by simp) (by simp) hE) (by simp) (by rw[hu];exact HH)
 rw[hu]at HJ
 obtain⟨M,hM⟩:∃M,M=(fh z R++SH++(GB++CQ)).length:=⟨_,rfl⟩
 obtain⟨J,hJ⟩:∃J:ByteArray,J=⟨(aK (fh z R++SH++(GB++CQ))).toArray⟩:=⟨_,rfl⟩
 have tt:Hid (∀ (wx:World) (g:Nat),Blk wx g 24 #[.string hs,.int .i64 105,.string ss,.int .i64 N,.string gs,.int .i64 NG,.string qs,.int .i64 NQ]→Calls Tryz.prog 24 #[.slice (some ⟨g,0,none⟩) 4 4] wx fun e w'=>e=.returned (.tuple #[.agg #[.string J,.int .i64 M],.int .i64 0])∧Below wx.heap.size wx w'):=aa fun wx g hg=>by
  have h:=HJ.out wx g hg
  unfold ow at h
  rw[← hM,←hJ]at h
  exact h
 have HV:Hid (∀ w',Below w.heap.size w w'→aV w (fh z R++SH++(GB++CQ),0) (.returned (.tuple #[.agg #[.string J,.int .i64 M],.int .i64 0])) w'):=aa fun w' hb=>by
  unfold aV
  rw[← hM,←hJ]
  exact⟨rfl,hb⟩
 generalize aV w (fh z R++SH++(GB++CQ),0)=PO at*
 have rb:=aa HE
 have rs:=aa HF
 have so:=aa HU
 have hW:=aa HFr
 have sx:=aa HZ
 have hV:=aa HBe
 have pk:=aa HS2
 have H8:=aa HSh
 have q8:=aa HB
 have r6:=aa HC
 have s7:=aa tn
 have q9:=aa te
 have st:=aa HT
 clear HE HF HU HFr HZ HBe HS2 HSh HB HC tn te HT hu hE HJ hM hJ HH q5 tq tl tm hN sT ta tv pn pl hp
 go_enter Tryz.func9,Tryz.ntmps9
 go_wp2_with fail
 rw[← st.out]
 clear st
 refine(rb.out w1).mono ?_
 rintro e w2 ⟨rfl,po⟩
 have ql:=aa (ap q9.out po)
 have s8:=aa (b9 po s7.out)
 clear po rb q9 s7
 go_wp2_with fail
 refine(rs.out w2).mono ?_
 rintro e w3 ⟨rfl,ps⟩
 have qm:=aa (ap ql.out ps)
 have s9:=aa (b9 ps s8.out)
 clear ps rs ql s8
 go_wp2_with fail
 refine(so.out w3).mono ?_
 rintro e w4 ⟨rfl,pv⟩
 have qo:=aa (ap qm.out pv)
 have sa:=aa (b9 pv s9.out)
 clear pv so qm s9
 go_wp2_with fail
 refine(hW.out w4).mono ?_
 rintro e w5 ⟨v5,rfl,HR,pM⟩
 dsimp only at HR ⊢
 have qv:=aa (ap qo.out pM)
 have sl:=aa (b9 pM sa.out)
 obtain⟨A5,c5,rfl,ty,_⟩:=aj HR
 have rR:=aa (aJ HR)
 clear pM hW qo sa HR
 go_wp2_with fail
 refine(sx.out w5 A5 c5 rR.out ty).mono ?_
 rintro e w6 ⟨v6,rfl,HS,q2⟩
 dsimp only at HS ⊢
 have r0:=aa (ap qv.out q2)
 have sm:=aa (b9 q2 sl.out)
 obtain⟨A6,c6,rfl,tg,_⟩:=aj HS
 have pb:=aa (aJ HS)
 clear q2 sx qv sl rR HS
 go_wp2_with fail
 refine(hV.out w6 A6 c6 pb.out tg).mono ?_
 rintro e w7 ⟨v7,rfl,HO,HP⟩
 dsimp only at HO ⊢
 obtain⟨A',n',c',B',m',d',rfl,HO⟩:=HO.parts
 obtain⟨w8,q7⟩:∃w8,w8=w7.alloc (.cells #[.slice A' n' c',.slice B' m' d'] 52):=⟨_,rfl⟩
 obtain⟨HQ,HN⟩:=sK HO
 rw[← q7]at HQ HN
 have r1:=aa (ap r0.out HP)
 have r2:=aa (ap r1.out HN)
 have pj:=aa (b9 HN (b9 HP sm.out))
 have s6:=aa (S05.iT (S05.iT pb.out HP) HN)
 obtain⟨gp,q4⟩:∃gp,gp=w7.heap.size:=⟨_,rfl⟩
 rw[← q4]at HQ
 have rM:=aa HQ
 have sv:=aa q7
 have rv:=aa q4
 clear HP HN HQ HO hV r0 r1 sm pb q7 q4
 go_upto_region 8 with fail
 rw[← sv.out,←rv.out]
 clear sv rv
 go_wp2_with fail
 refine(H8.out w8).mono ?_
 rintro e w9 ⟨rfl,q3⟩
 obtain⟨w10,hx⟩:∃w10,w10=w9.alloc (.cells #[.string ss,.int .i64 N] 24):=⟨_,rfl⟩
 have HI:Below w9.heap.size w9 w10:=bR hx
 have hq:Blk w10 w9.heap.size 24 #[.string ss,.int .i64 N]:=ee hx
 obtain⟨g14,hL⟩:∃g14,g14=w9.heap.size:=⟨_,rfl⟩
 have h5:=ap q3 HI
 rw[← hL]at hq
 have hQ:=aa (ap r2.out h5)
 have hG:=aa (b9 h5 pj.out)
 have H0:=aa (S05.iT s6.out h5)
 have hv:=aa (rM.out.below h5)
 have hB:=aa hq
 have HA:=aa hx
 have hX:=aa hL
 have H2:=aa (show g14≠w.heap.size from by
  have h1:=ay pj.out
  have h2:=q3.size
  omega)
 clear q3 HI h5 hq H8 r2 pj s6 rM hx hL
 go_upto_region 9 with fail
 rw[← HA.out,←hX.out]
 clear HA hX
 obtain⟨qa,qb⟩:=hv.out.cells
 have r3:=aa (q8.out w10 _ hv.out.2)
 go_wp2_with fail
 refine r3.out.mono ?_
 rintro e w11 ⟨rfl,hI⟩
 obtain⟨w12,hy⟩:∃w12,w12=w11.alloc (.cells #[.string gs,.int .i64 NG] 24):=⟨_,rfl⟩
 have HK:Below w11.heap.size w11 w12:=bR hy
 have hr:Blk w12 w11.heap.size 24 #[.string gs,.int .i64 NG]:=ee hy
 obtain⟨g16,hO⟩:∃g16,g16=w11.heap.size:=⟨_,rfl⟩
 have h0:=ap hI HK
 rw[← hO]at hr
 have hS:=aa (ap hQ.out h0)
 have hH:=aa (b9 h0 hG.out)
 have H1:=aa (S05.iT H0.out h0)
 have hF:=aa (hv.out.below h0)
 have hC:=aa (b9 h0 hB.out)
 have hD:=aa hr
 have HD:=aa hy
 have hY:=aa hO
 have H3:=aa (show g16≠w.heap.size from by
  have h1:=ay hG.out
  have h2:=hI.size
  omega)
 clear hI HK h0 hr r3 q8 hQ hG H0 hv hB qa qb hy hO
 go_upto_region 10 with fail
 rw[← HD.out,←hY.out]
 clear HD hY
 obtain⟨qa,qb⟩:=hF.out.cells
 have r7:=aa (r6.out w12 _ hF.out.2 A6 c6 H1.out tg)
 go_wp2_with fail
 refine r7.out.mono ?_
 rintro e w13 ⟨rfl,hK⟩
 obtain⟨w14,hA⟩:∃w14,w14=w13.alloc (.cells #[.string qs,.int .i64 NQ] 24):=⟨_,rfl⟩
 have HL:Below w13.heap.size w13 w14:=bR hA
 have ht:Blk w14 w13.heap.size 24 #[.string qs,.int .i64 NQ]:=ee hA
 obtain⟨g18,hP⟩:∃g18,g18=w13.heap.size:=⟨_,rfl⟩
 have h4:=ap hK HL
 rw[← hP]at ht
 have hT:=aa (ap hS.out h4)
 have H5:=aa (b9 h4 hH.out)
 have h6:=aa (b9 h4 hC.out)
 have h8:=aa (b9 h4 hD.out)
 have ha:=aa ht
 have HG:=aa hA
 have hZ:=aa hP
 have H4:=aa (show g18≠w.heap.size from by
  have h1:=ay hH.out
  have h2:=hK.size
  omega)
 clear hK HL h4 ht r7 r6 hS hH H1 hF hC hD qa qb hA hP
 go_upto_region 11 with fail
 rw[← HG.out,←hZ.out]
 clear HG hZ
 have p0:w14.cell? ⟨g14,0,none⟩=some (.string ss):=(ac h6.out 0).trans rfl
 have p1:w14.cell? ⟨g14,1,none⟩=some (.int .i64 N):=(ac h6.out 1).trans rfl
 have p2:w14.cell? ⟨g16,0,none⟩=some (.string gs):=(ac h8.out 0).trans rfl
 have p3:w14.cell? ⟨g16,1,none⟩=some (.int .i64 NG):=(ac h8.out 1).trans rfl
 have p4:w14.cell? ⟨g18,0,none⟩=some (.string qs):=(ac ha.out 0).trans rfl
 have p5:w14.cell? ⟨g18,1,none⟩=some (.int .i64 NQ):=(ac ha.out 1).trans rfl
 have D14:=aa (show Blk w14.drew g14 _ _ from h6.out)
 have D16:=aa (show Blk w14.drew g16 _ _ from h8.out)
 have D18:=aa (show Blk w14.drew g18 _ _ from ha.out)
 have DR:=aa (show Blk w14.drew w.heap.size _ _ from H5.out)
 have DB:=aa hT.out.drew
 clear h6 h8 ha H5 hT
 go_region_held3 (fun w'=>w'.cell? ⟨g14,0,none⟩=some (.string ss)∧w'.cell? ⟨g14,1,none⟩=some (.int .i64 N)∧w'.cell? ⟨g16,0,none⟩=some (.string gs)∧w'.cell? ⟨g16,1,none⟩=some (.int .i64 NG)∧w'.cell? ⟨g18,0,none⟩=some (.string qs)∧w'.cell? ⟨g18,1,none⟩=some (.int .i64 NQ))
  (first | exact⟨p0,p1,p2,p3,p4,p5⟩ | exact⟨s0,s1,s2,s3,s4,s5⟩ | exact⟨t0,t1,t2,t3,t4,t5⟩ | exact⟨u0,u1,u2,u3,u4,u5⟩ | exact⟨(ac (oc h7.out H2.out) 0).trans rfl,(ac (oc h7.out H2.out) 1).trans rfl,(ac (oc h9.out H3.out) 0).trans rfl,(ac (oc h9.out H3.out) 1).trans rfl,(ac (oc hc.out H4.out) 0).trans rfl,(ac (oc hc.out H4.out) 1).trans rfl⟩ | go_keep)
  (first
    | (go_at_call 14;refine(pk.out _).mono ?_;rintro e w15 ⟨rfl,he⟩
       have hi:=aa (b9 he D14.out)
       have hk:=aa (b9 he D16.out)
       have hn:=aa (b9 he D18.out)
       have pf:=aa (b9 he DR.out)
       have HW:=aa (ap DB.out he)
       have s0:w15.cell? ⟨g14,0,none⟩=some (.string ss):=(ac hi.out 0).trans rfl
       have s1:w15.cell? ⟨g14,1,none⟩=some (.int .i64 N):=(ac hi.out 1).trans rfl
       have s2:w15.cell? ⟨g16,0,none⟩=some (.string gs):=(ac hk.out 0).trans rfl
       have s3:w15.cell? ⟨g16,1,none⟩=some (.int .i64 NG):=(ac hk.out 1).trans rfl
       have s4:w15.cell? ⟨g18,0,none⟩=some (.string qs):=(ac hn.out 0).trans rfl
       have s5:w15.cell? ⟨g18,1,none⟩=some (.int .i64 NQ):=(ac hn.out 1).trans rfl
       clear he)
    | (go_at_call 25;refine(rO.out _).mono ?_;rintro e w16 ⟨rfl,hf⟩
       have hj:=aa (b9 hf hi.out)
       have hm:=aa (b9 hf hk.out)
       have ho:=aa (b9 hf hn.out)
       have pg:=aa (b9 hf pf.out)
       have HX:=aa (ap HW.out hf)
       have t0:w16.cell? ⟨g14,0,none⟩=some (.string ss):=(ac hj.out 0).trans rfl
       have t1:w16.cell? ⟨g14,1,none⟩=some (.int .i64 N):=(ac hj.out 1).trans rfl
       have t2:w16.cell? ⟨g16,0,none⟩=some (.string gs):=(ac hm.out 0).trans rfl
       have t3:w16.cell? ⟨g16,1,none⟩=some (.int .i64 NG):=(ac hm.out 1).trans rfl
       have t4:w16.cell? ⟨g18,0,none⟩=some (.string qs):=(ac ho.out 0).trans rfl
       have t5:w16.cell? ⟨g18,1,none⟩=some (.int .i64 NQ):=(ac ho.out 1).trans rfl
       clear hf)
    | (go_at_call 24;refine(tt.out _ w16.heap.size (ag w16 _ _)).mono ?_;rintro e w17 ⟨rfl,HM⟩
       have h3:Below w16.heap.size w16 w17:=((Below.refl _ _).alloc (ah _) _).trans (HM.mono (by simp))
       have h7:=aa (b9 h3 hj.out)
       have h9:=aa (b9 h3 hm.out)
       have hc:=aa (b9 h3 ho.out)
       have hw:=aa (b9 h3 pg.out)
       have HY:=aa (ap HX.out h3)
       have u0:w17.cell? ⟨g14,0,none⟩=some (.string ss):=(ac h7.out 0).trans rfl
       have u1:w17.cell? ⟨g14,1,none⟩=some (.int .i64 N):=(ac h7.out 1).trans rfl
       have u2:w17.cell? ⟨g16,0,none⟩=some (.string gs):=(ac h9.out 0).trans rfl
       have u3:w17.cell? ⟨g16,1,none⟩=some (.int .i64 NG):=(ac h9.out 1).trans rfl
       have u4:w17.cell? ⟨g18,0,none⟩=some (.string qs):=(ac hc.out 0).trans rfl
       have u5:w17.cell? ⟨g18,1,none⟩=some (.int .i64 NQ):=(ac hc.out 1).trans rfl
       have q0:w17.cell? ⟨w.heap.size,0,none⟩=some (.string ⟨#[]⟩):=(ac hw.out 0).trans rfl
       have q1:w17.cell? ⟨w.heap.size,1,none⟩=some (.int .i64 0):=(ac hw.out 1).trans rfl
       have f0:=ae hw.out 0
       have f1:=ae hw.out 1
       clear HM h3))
 go_wp2_with fail
 refine bodyPost_ret (v:=.tuple #[.agg #[.string J,.int .i64 M],.int .i64 0]) ?_ rfl (HV.out _ ((HY.out.setCell (p:=⟨w.heap.size,0,none⟩) (ah _) _).setCell (p:=⟨w.heap.size,1,none⟩) (ah _) _))
 simp[results,Tryz.results9,go_sem,q0,q1]
theorem zZ(w:World)(s:ByteArray)(hs:s.size≤9223372036854775807):Calls Tryz.prog 14 #[.string s] w fun e w'=>e=.returned (.int .u32 (S02.db s.data.toList))∧Below w.heap.size w w':=by
 have h:=S02.tF w s hs
 rw[← S02.sg _ _ (by omega)]at h
 exact h
theorem xn(w:World):Calls Tryz.prog 9 #[.string ⟨#[]⟩] w (aV w ([],2)):=by
 obtain⟨w1,h1⟩:∃w1,w1=w.alloc (.cells #[.string ⟨#[]⟩,.int .i64 0] 24):=⟨_,rfl⟩
 have h7:Blk w1 w.heap.size 24 #[.string ⟨#[]⟩,.int .i64 0]:=ee h1
 have h6:Below w.heap.size w w1:=bR h1
 have HE:Hid (Calls Tryz.prog 15 #[.string ⟨#[]⟩] w1 fun e w'=>e=.returned (.string ⟨#[]⟩)∧Below w1.heap.size w1 w'):=aa (S03.gK w1 ⟨#[]⟩ (by decide))
 have HF:=aa fun wx:World=>S05.DW wx
 have h4:=aa h7
 have h3:=aa h6
 have h5:=aa h1
 clear h7 h6 h1
 go_enter Tryz.func9,Tryz.ntmps9
 go_wp2_with fail
 rw[← h5.out]
 clear h5
 refine HE.out.mono ?_
 rintro e w2 ⟨rfl,h2⟩
 have h0:=b9 h2 h4.out
 have h8:=aa (ap h3.out h2)
 have q0:=(ac h0 0).trans (rfl:_=some (Value.string ⟨#[]⟩))
 have q1:=(ac h0 1).trans (rfl:_=some (Value.int .i64 0))
 have f0:=ae h0 0
 have f1:=ae h0 1
 clear h2 h0 HE h3 h4
 go_wp2_with fail
 refine(HF.out w2).mono ?_
 rintro e w3 ⟨rfl,rfl⟩
 clear HF
 go_wp2_with fail
 refine bodyPost_ret (v:=.tuple #[.agg #[.string ⟨#[]⟩,.int .i64 0],.int .i64 2]) ?_ rfl ⟨rfl,(h8.out.setCell (p:=⟨w.heap.size,0,none⟩) (ah _) _).setCell (p:=⟨w.heap.size,1,none⟩) (ah _) _⟩
 simp[results,Tryz.results9,go_sem,q0,q1]
theorem Er(N:Nat)(S:S05.mJ N)(w:World)(s:ByteArray)(h0:0<s.size)(hs:s.size≤200000)(hN:s.size+s.size / 4≤N):Calls Tryz.prog 9 #[.string s] w (aV w (dR s.data.toList)):=by
 have h1:=zW s.data.toList hs
 obtain⟨sl,h8⟩:∃sl,sl=s.data.toList:=⟨_,rfl⟩
 have h7:sl.length=s.size:=by rw[h8];rfl
 have he:sl≠ []:=by
  intro e
  rw[e]at h7
  simp only[List.length_nil]at h7
  omega
 obtain⟨t,ht⟩:∃t,t=S03.bB sl:=⟨_,rfl⟩
 have htl:t.length≤250000:=by
  have:=S03.j5 sl
  rw[ht]
  omega
 have hw:t.length≤N:=by
  have:=S03.j5 sl
  rw[ht]
  omega
 have h4:t≠ []:=by rw[ht];exact ko he
 have hx:0<t.length:=List.length_pos_iff.2 h4
 have hO:=jY t h4
 have hu:=uY hO
 have hp:=mF hO
 obtain⟨hm,hr,hn⟩:=mU hO
 obtain⟨hM,hE,hq⟩:=jM hO h4 (by omega)
 have hg:=l8 hO h4 (by omega) w
 have hf:=oM w hM
 have hj:=vC h4
 have hl:=Bi t
 have h6:=S06.qx t h4
 have ho:aO t=((aO t).1,(aO t).2.1,0):=by
  have h2:(aO t).2.2=0:=hf.2.1
  rw[← h2]
 have h9:dR s.data.toList=(fh (S02.db sl) (mh t)++S06.dL (S06.ofL t)++((eG (aO t).1 (aO t).2.1).1++(bD (aO t).1 (aO t).2.1 (zL (bL t))).1),0):=by
  rw[← h8]
  unfold dR
  rw[if_neg he,if_neg (by rw[← ht];omega)]
  unfold dh fI gF fh
  rw[← ht]
 have hy:∀(l:List Nat),(zL l).length=l.length:=fun l=>by unfold zL;rw[List.length_map]
 rw[h9]at h1 ⊢
 refine AF w s ⟨t.toArray⟩ ⟨(jv t).toArray⟩ (S06.cN (S06.ofL t)) ⟨(aK (S06.dL (S06.ofL t))).toArray⟩ ⟨(aK (eG (aO t).1 (aO t).2.1).1).toArray⟩ ⟨(aK (bD (aO t).1 (aO t).2.1 (zL (bL t))).1).toArray⟩
  (mh t) (S02.db sl) (S06.dL (S06.ofL t)).length ((S06.ofL t).length+2) (eG (aO t).1 (aO t).2.1).1.length (bD (aO t).1 (aO t).2.1 (zL (bL t))).1.length
  (dp t) (bL t) (S06.dL (S06.ofL t)) (eG (aO t).1 (aO t).2.1).1 (bD (aO t).1 (aO t).2.1 (zL (bL t))).1 (aO t).1 (aO t).2.1
  (by omega) (S02.xH sl) (by show(S06.ofL t).length≤256;omega) (by show((S06.ofL t).length:Int)+2=_;omega) (S06.ri _) (qM _ _) (pG _ _ _) h1 rfl rfl rfl rfl rfl rfl
  ?HE ?HF ?HU ?HFr ?HZ ?HBe ?HSh ?HB ?HC ?HS2
 case HE=>
  intro wx
  have h:=S03.gK wx s (by omega)
  rw[← h8,←ht]at h
  exact h
 case HF=>
  intro wx
  refine(S05.FK N S wx ⟨t.toArray⟩ (by show 0<t.length;omega) (by show t.length≤N;omega) (by show t.length≤262144;omega)).mono ?_
  rintro e w' ⟨L,k,rfl,h3,hk,hh,hb⟩
  have h3:S05.ef t L:=h3
  have e1:=mc h3
  have e2:=uZ h3 hk hh
  subst e1
  subst e2
  exact⟨rfl,hb⟩
 case HU=>
  intro wx
  have h:=S06.Bq wx ⟨(jv t).toArray⟩ (by show(jv t).length≤1000000;omega)
  rw[show (⟨(jv t).toArray⟩:ByteArray).data.toList=jv t from rfl,F8]at h
  exact h
 case HFr=>
  intro wx
  refine(S06.AT wx ⟨(jv t).toArray⟩ (S06.cN (S06.ofL t)) (by show(jv t).length≤1000000;omega) (by show(S06.ofL t).length≤1000000;omega)).mono ?_
  rintro e w' ⟨v,L,c,h5,rfl,ha,hb⟩
  have h5:S06.lP (jv t) (S06.ofL t)=(L,c):=h5
  unfold S06.lP at h5
  rw[if_pos h6,hm]at h5
  obtain⟨rfl,rfl⟩:=Prod.mk.inj h5
  exact⟨v,rfl,ha,hb⟩
 case HZ=>
  intro wx A c hi hc
  have h:=S07.Gt wx A (dp t).length c (zL (dp t)) ((S06.ofL t).length:Nat) (cR hi) hc (by omega)
  rw[Ia hj hl hn]at h
  exact h
 case HBe=>
  intro wx A c hi hc
  have h:=C9 wx A (bL t).length c (zL (bL t)) ((S06.ofL t).length+2) (cR hi) hc (by omega) hM
  rw[show fo (zL (bL t)) (((S06.ofL t).length+2:Nat):Int)=((aO t).1,(aO t).2.1,0)from ho]at h
  exact h
 case HSh=>exact fun wx=>S06.oX wx (S06.cN (S06.ofL t)) (by show(S06.ofL t).length≤1000000;omega) h6
 case HB=>
  intro wx v hv
  have h:=re wx v _ _ hv
  rw[show eG (aO t).1 (aO t).2.1=((eG (aO t).1 (aO t).2.1).1,0) by rw[oE hg]]at h
  exact h
 case HC=>
  intro wx v hv A c hi hc
  have h:=xq wx v _ _ hv A (bL t).length c (zL (bL t)) (cR hi) hc (by omega)
  rw[show bD (aO t).1 (aO t).2.1 (zL (bL t))=((bD (aO t).1 (aO t).2.1 (zL (bL t))).1,0) by rw[kJ hg hM]]at h
  exact h
 case HS2=>
  intro wx
  have h:=zZ wx s (by omega)
  rw[← h8]at h
  exact h
theorem wT(N:Nat)(S:S05.mJ N)(w:World)(s:ByteArray)(hs:s.size≤200000)(hN:s.size+s.size / 4≤N):Calls Tryz.prog 9 #[.string s] w (aV w (dR s.data.toList)):=by
 by_cases h0:0<s.size
 ·exact Er N S w s h0 hs hN
 ·have e:s=⟨#[]⟩:=by
   obtain⟨⟨l⟩⟩:=s
   have hl:l= []:=List.eq_nil_of_length_eq_zero (by
    have h1:(⟨⟨l⟩⟩:ByteArray).size=l.length:=rfl
    omega)
   rw[hl]
  rw[e]
  exact xn w
theorem zY(w:World)(s:ByteArray)(hs:s.size≤1):Calls Tryz.prog 9 #[.string s] w (aV w (dR s.data.toList)):=wT 12 S05.wO w s (by omega) (by omega)
end Go.Proofs.YthakcjehhlpjnaaGreat
