/- Of every text of at most 300 bytes block.Make tells the block that the document says, of every other text what the document says of its length. Conditions: none but the given statement's own. -/
import Derived.Test.YtfhgikojdfblpaaGreatM53
import Derived.Test.YtfhgikojdfblpaaGreatM49
import Derived.Test.YtfhgikojdfblpaaGreatM43
set_option maxHeartbeats 6400000
set_option maxRecDepth 100000
namespace Go.Proofs.YtfhgikojdfblpaaGreat
open _root_.Go.Proofs.Tryz
open Go.RowKit
theorem qO(a:Nat)(x k:Int)(older:List PanicEntry)(w:World)(ha:w.cell? ⟨a,0,none⟩=some (.int .i64 x))(fa:w.frozen? ⟨a,0,none⟩=false):
 CallsD prog 23 #[.pointer (some ⟨a,0,none⟩)] (.panicking ({ v:=.iface 25 (.int .i64 k),recovered:=false } :: older)) w fun e u' w'=>
  e=.returned (.tuple #[])/\u'=.panicking ({ v:=.iface 25 (.int .i64 k),recovered:=true } :: older)/\w'=w.setCell ⟨a,0,none⟩ (.int .i64 k):=by have h0:(Instr.typeAssert (Value.iface 25 (.int .i64 k)) 20 25 true).run prog w=.ok (.tuple #[.int .i64 k,.bool true]) w:=rfl;refine callsD_of_wpS func23 rfl fun c₀ cs hu=> ?_;apply wpS_seq;apply wpS_region;simp[wpOpsS,go_sem,recoverD,hu,ntmps23,Exit.thenS,h0];apply wpS_seq;apply wpS_region;simp[wpOpsS,go_sem,Exit.thenS];refine wpS_cond (t:=true) (by simp[Act.eval,Array.replicate]) ?_;simp only[if_true];refine wpS_of_wp ?_;rw[show #[Value.pointer (some { block:=a,off:=0 })]++(((((((((Array.replicate 9 undef).setIfInBounds 3 (Value.iface 25 (Value.int IntKind.i64 k))).setIfInBounds 4 (Value.tuple #[Value.int IntKind.i64 k,Value.bool true])).setIfInBounds 2 (Value.tuple #[Value.int IntKind.i64 k,Value.bool true])).setIfInBounds 5 (Value.int IntKind.i64 k)).setIfInBounds 6 (Value.bool true)).setIfInBounds 0 (Value.int IntKind.i64 k)).setIfInBounds 1 (Value.bool true)).setIfInBounds 7 (Value.bool true))=#[Value.pointer (some { block:=a,off:=0 }),Value.int IntKind.i64 k,Value.bool true,Value.tuple #[Value.int IntKind.i64 k,Value.bool true],Value.iface 25 (Value.int IntKind.i64 k),Value.tuple #[Value.int IntKind.i64 k,Value.bool true],Value.int IntKind.i64 k,Value.bool true,Value.bool true,undef]from by simp[Array.replicate]];go_wp2_with fail;simp[bodyPostS,results,results23]
theorem zH(a:Nat)(w:World):
 CallsD prog 23 #[.pointer (some ⟨a,0,none⟩)] .returning w fun e u' w'=>
  e=.returned (.tuple #[])/\u'=.returning/\w'=w:=by have h0:∀wx,(Instr.typeAssert Value.nilIface 20 25 true).run prog wx=.ok (.tuple #[.int .i64 0,.bool false]) wx:=fun _=>rfl;refine callsD_of_wpS func23 rfl fun c₀ cs hu=> ?_;apply wpS_seq;apply wpS_region;simp[wpOpsS,go_sem,recoverD,hu,ntmps23,Exit.thenS,h0];apply wpS_seq;apply wpS_region;simp[wpOpsS,go_sem,Exit.thenS];refine wpS_cond (t:=false) (by simp[Act.eval,Array.replicate]) ?_;simp only[Bool.false_eq_true,RA];refine wpS_of_wp (wp_skip ?_);cases c₀;simp_all [bodyPostS,results,results23]
theorem Cm{w:World}{g b:Nat}{t:TypeId}{cs:Array Value}{x:Value}(h:Blk w g t cs)(h0:g≠b):Blk (w.setCell ⟨b,0,none⟩ x) g t cs:=
 (ak.set (ps:= [b]) (ak.refl 0 [b] [] w) (p:=⟨b,0,none⟩) (Ng _) (List.mem_singleton.2 rfl) x).blk h (by simpa using h0) aw
theorem Ms{w:World}{B b n:Nat}{t:TypeId}{v:Value}{xs:List Value}{x:Value}(h:w.ownsRow B t 1 v n xs)(hb:b<B):(w.setCell ⟨b,0,none⟩ x).ownsRow B t 1 v n xs:=
 (ak.set (ps:= [b]) (ak.refl 0 [b] [] w) (p:=⟨b,0,none⟩) (Ng _) (List.mem_singleton.2 rfl) x).row h (fun k hk hm=>by
   have h1:=(NS h k hk).1
   have h2:=List.mem_singleton.1 hm
   omega) aw
theorem iA{w w':World}{g:Nat}{t:TypeId}{cs:Array Value}(hb:Below w.heap.size w w')(h:Blk w g t cs):Blk w' g t cs:=aO hb h
theorem KC(l:List Nat)(q:Int):(dc l q).1.length<=256/\(dc l q).2.1.length<=2000000:=by
 unfold dc;dsimp only;split;·exact⟨Ng _,Ng _⟩
 split;·exact⟨Ng _,Ng _⟩
 split;·exact⟨Ng _,Ng _⟩
 ·exact⟨xv _ _,ND (Jt _ _ _ _) (by omega)⟩
theorem C6{l:List Nat}{p:Nat}(h:(dZ l p).2.2=0):p+105<=l.length:=by
 unfold dZ at h;split at h;·cases h
 split at h;·cases h
 split at h;·cases h
 split at h;·cases h
 split at h;·cases h
 split at h;·cases h
 ·omega
theorem tO{P:Program}{fn:Func}{R:Ending->World->Prop}{tmps:Array Value}{w:World}{v:Value}(h:(results fn tmps).run P w=.ok v w)(hr:R (.returned v) w):bodyPostD P fn R .ret { tmps:=tmps,defers:= [] } w:=⟨v,h,hr⟩
theorem An{R:Ending->World->Prop}{tmps:Array Value}{w:World}{v:Value}{g:Nat}{x k:Int}(ha:Blk w g 25 #[.int .i64 x])
 (h:(results Tryz.f7 tmps).run prog (w.setCell ⟨g,0,none⟩ (.int .i64 k))=.ok v (w.setCell ⟨g,0,none⟩ (.int .i64 k))) (hr:R (.returned v) (w.setCell ⟨g,0,none⟩ (.int .i64 k))):
 bodyPostD prog Tryz.f7 R (.panic [{ v:=.iface 25 (.int .i64 k),recovered:=false }]) { tmps:=tmps,defers:= [{ target:=.fn (.func 23) #[.pointer (some ⟨g,0,none⟩)],args:=#[] }] } w:=by refine leaves_cons (f:=23) (args:=#[.pointer (some ⟨g,0,none⟩)]) (by simp) (by simp[go_sem]) ?_;refine(qO g x k [] w ((ac ha 0).trans rfl) (ae ha 0)).mono ?_;rintro e u' w' ⟨rfl,rfl,rfl⟩;exact⟨v,h,hr⟩
theorem nH{R:Ending->World->Prop}{tmps:Array Value}{w:World}{v:Value}{g:Nat}(h:(results Tryz.f7 tmps).run prog w=.ok v w)(hr:R (.returned v) w):
 bodyPostD prog Tryz.f7 R .ret { tmps:=tmps,defers:= [{ target:=.fn (.func 23) #[.pointer (some ⟨g,0,none⟩)],args:=#[] }] } w:=by refine leaves_cons (f:=23) (args:=#[.pointer (some ⟨g,0,none⟩)]) (by simp) (by simp[go_sem]) ?_;refine(zH g w).mono ?_;rintro e u' w' ⟨rfl,rfl,rfl⟩;exact⟨v,h,hr⟩
theorem Ct(w:World)(s:ByteArray)(at' most:Int)(hs:s.size<=2000000)(h:at'<0\/8*(s.size:Int)<at'\/most<1\/262144<most):
 Calls prog 7 #[.string s,.int .i64 at',.int .i64 most] w fun e w'=>e=.returned (.tuple #[.string ⟨#[]⟩,.int .u32 0,.int .i64 0,.int .i64 2])/\Below w.heap.size w w':=by
 obtain⟨w1,h5⟩:∃w1,w1=w.alloc (.cells #[.int .i64 0] 25):=⟨_,rfl⟩;have ha:Below w.heap.size w w1:=cB h5;have hb:Blk w1 w.heap.size 25 #[.int .i64 0]:=dW h5;have h0:=aa h5;have h6:=aa ha;have h3:=aa hb;clear h5 ha hb;by_cases h1:at'<0\/8*(s.size:Int)<at';·have HN:=aa (lx w1 s at' (by omega) h1);have q1:=(ac h3.out 0).trans (rfl:_=some (Value.int .i64 0));have f1:=ae h3.out 0;have c1:=(ac (ay h3.out 0 (.int .i64 2)) 0).trans (rfl:_=some (Value.int .i64 2));clear h;(go_enter_defers func7,ntmps7);go_wp2_with fail;rw[<- h0.out];clear h0;refine HN.out.mono ?_;rintro e w2 ⟨rfl,rfl⟩;go_wp2_with fail;refine tO (v:=.tuple #[.string ⟨#[]⟩,.int .u32 0,.int .i64 0,.int .i64 2]) ?_ ⟨rfl,h6.out.setCell (p:=⟨w.heap.size,0,none⟩) (ag _) _⟩;simp[results,results7,go_sem,c1]
 ·have HN:=aa (gv w1 s at' (by omega) (by omega) (by omega));obtain⟨w2,h8⟩:∃w2,w2=w1.alloc (.cells #[.bool true,.string s,.int .i64 at'] 107):=⟨_,rfl⟩;have h7:Below w1.heap.size w1 w2:=cB h8;have h4:=iA h7 h3.out;have h9:=aa (aq h6.out h7);have q1:=(ac h4 0).trans (rfl:_=some (Value.int .i64 0));have f1:=ae h4 0;have c1:=(ac (ay h4 0 (.int .i64 2)) 0).trans (rfl:_=some (Value.int .i64 2));rw[<- h8]at HN;clear h7 h4 h6 h3 h8;by_cases h2:most<1;·have d0:decide (most<1)=true:=Nn h2;clear h;(go_enter_defers func7,ntmps7);go_wp2_with fail;rw[<- h0.out];clear h0;refine HN.out.mono ?_;rintro e w2 ⟨rfl,rfl⟩;go_wp2_with fail;refine tO (v:=.tuple #[.string ⟨#[]⟩,.int .u32 0,.int .i64 0,.int .i64 2]) ?_ ⟨rfl,h9.out.setCell (p:=⟨w.heap.size,0,none⟩) (ag _) _⟩;simp[results,results7,go_sem,c1]
  ·have d0:decide (most<1)=false:=Nl h2;have d1:decide (262144<most)=true:=bE;clear h;(go_enter_defers func7,ntmps7);go_wp2_with fail;rw[<- h0.out];clear h0;refine HN.out.mono ?_;rintro e w2 ⟨rfl,rfl⟩;go_wp2_with fail;refine tO (v:=.tuple #[.string ⟨#[]⟩,.int .u32 0,.int .i64 0,.int .i64 2]) ?_ ⟨rfl,h9.out.setCell (p:=⟨w.heap.size,0,none⟩) (ag _) _⟩;simp[results,results7,go_sem,c1]
theorem Fs(w:World)(s:ByteArray)(a0 m0:Nat)(hs:s.size<=2000000)(ha:a0<=8*s.size)(pm:1<=m0)(pn:m0<=262144):
 Calls prog 7 #[.string s,.int .i64 a0,.int .i64 m0] w (jp w (mq (ao s.data.toList) a0 m0)):=by
 obtain⟨L,hL⟩:∃L,L=ao s.data.toList:=⟨_,rfl⟩;have p9:L.length=8*s.size:=by rw[hL];exact aC _
 obtain⟨ans,h2⟩:∃ans,ans=mq L a0 m0:=⟨_,rfl⟩;have h3:ans=if(dZ L a0).2.2≠0 then([],0,0,(dZ L a0).2.2)else xh L (dZ L a0).1 (dZ L a0).2.1 (a0+105) m0:=by rw[h2];unfold mq;rw[Nd (by rw[p9];omega),Nv]
 have hZ:=aa fun(wx:World) (g p:Nat) (hg:Blk wx g 56 #[.pointer (some ⟨p,0,none⟩)]) (hR:IsR p wx p s a0)=>vB hg hR hs ha (NT (aA hR.blk));rw[<- hL]at hZ;rw[<- hL,<-h2];have h9:=aa (fun(w1:World) (e:Nat) (h:ans=([],0,0,e)) (hb:Below w.heap.size w w1)=>(show jp w ans (.returned (.tuple #[.string ⟨#[]⟩,.int .u32 0,.int .i64 0,.int .i64 e])) w1 from⟨by rw[h];rfl,hb⟩));have H6:=aa (fun(w1:World) (t:List UInt8) (x q:Nat) (h:ans=(t,x,q,0)) (hb:Below w.heap.size w w1)=>(show jp w ans (.returned (.tuple #[.string (S06.eP t),.int .u32 x,.int .i64 q,.int .i64 (0:Nat)])) w1 from⟨by rw[h],hb⟩));generalize jp w ans=PO at*;obtain⟨w1,hS⟩:∃w1,w1=w.alloc (.cells #[.int .i64 0] 25):=⟨_,rfl⟩;have p6:Below w.heap.size w w1:=cB hS;have HG:Blk w1 w.heap.size 25 #[.int .i64 0]:=dW hS;obtain⟨p,hp⟩:∃p,p=w1.heap.size:=⟨_,rfl⟩;have HN:=aa (gv w1 s a0 (by omega) (by omega) (by omega));obtain⟨w2,hT⟩:∃w2,w2=w1.alloc (.cells #[.bool true,.string s,.int .i64 a0] 107):=⟨_,rfl⟩;have p3:IsR p w2 p s a0:=by rw[hT,hp];exact lY w1 _ (ag _) s a0
 have H7:Below w1.heap.size w1 w2:=cB hT;have HU:=aa (iA H7 HG);have HJ:=aa (aq p6 H7);have HX:=aa p3;have p8:w.heap.size<p:=by rw[hp];exact aA HG
 rw[<- hT,<-hp]at HN;have HY:=aa hS;have HP:=aa p8;have d0:decide ((m0:Int)<1)=false:=aR;have d1:decide (262144<(m0:Int))=false:=aR;have h4:=aa h3;clear hS p6 HG p3 H7 hT hp p8 h3 h2;go_enter_defers func7,ntmps7
 go_wp2_with fail;rw[<- HY.out];clear HY;refine HN.out.mono ?_;rintro e w3 ⟨rfl,rfl⟩;clear HN;go_wp2_with fail;refine(CN w3 p).mono ?_;rintro e w4 ⟨rfl,hV⟩;obtain⟨gk,HE⟩:∃gk,gk=w3.heap.size:=⟨_,rfl⟩;have H8:Below w3.heap.size w3 w4:=cB hV;have hG:Blk w4 gk 56 #[.pointer (some ⟨p,0,none⟩)]:=by rw[hV,HE];exact aj _ _ _
 have p4:IsR p w4 p s a0:=by rw[hV];exact HX.out.alloc _
 have HV:=aa (iA H8 HU.out);have HK:=aa (aq HJ.out H8);have HT:=aa (hZ.out w4 gk p hG p4);rw[<- HE];clear hV HE H8 hG p4 HU HJ HX hZ;have pj:=aa fun h:(dZ L a0).2.2=0=>C6 h;generalize dZ L a0=hd at*;obtain⟨z,R,he⟩:=hd;have h3:=h4.out;dsimp only at h3;clear h4;go_wp2_with fail;refine HT.out.mono ?_;rintro e w5 ⟨hA,hB,hP⟩;have HF:w.heap.size∉ [p]:=by simp;have:=HP.out;omega
 have hC:=aa (hP.blk HV.out HF aw);have hW:=aa (HK.out.trans (hP.below.mono (NT HP.out)));by_cases e1:he≠0;·obtain rfl:=hA e1;rw[Nf e1]at h3;have HA:=aa (h9.out (w5.setCell ⟨w.heap.size,0,none⟩ (.int .i64 he)) he h3 (hW.out.setCell (p:=⟨w.heap.size,0,none⟩) (ag _) _));have c5:=(ac (ay hC.out 0 (.int .i64 he)) 0).trans (rfl:_=some (Value.int .i64 he));clear hA hB hP h3;go_wp2_with fail;refine An (v:=.tuple #[.string ⟨#[]⟩,.int .u32 0,.int .i64 0,.int .i64 he]) hC.out ?_ HA.out;simp[results,results7,go_sem,c5]
 have HD:he=0:=Decidable.not_not.1 e1;obtain⟨rfl,p5⟩:=hB HD;rw[Nd e1,DN]at h3;obtain⟨w6,hI⟩:∃w6,w6=w5.alloc (.cells #[.int .u32 z,.int .i64 R] 51):=⟨_,rfl⟩;obtain⟨gh,hN⟩:∃gh,gh=w5.heap.size:=⟨_,rfl⟩;have HB:Below w5.heap.size w5 w6:=cB hI;have p2:Blk w6 gh 51 #[.int .u32 z,.int .i64 R]:=by rw[hI,hN];exact aj _ _ _
 have hK:IsR p w6 p s (a0+105):=by rw[hI];exact p5.alloc _
 have H0:=aa (iA HB hC.out);have HL:=aa (aq hW.out HB);have HQ:=aa p2;have H2:=aa (show gh≠w.heap.size from by rw[hN];have:=aA hC.out;omega);obtain⟨q,hq⟩:∃q,q=a0+105:=⟨_,rfl⟩;have pb:q<=8*s.size:=by rw[hq,<-p9];exact pj.out HD
 rw[<- hq]at hK h3;have r0:=(ac hK.blk 0).trans (rfl:_=some (Value.bool true));have r2:=(ac hK.blk 2).trans (rfl:_=some (Value.int .i64 q));have HI:=aa (nS w6 p q r0 r2);have H4:=aa (FJ w6 s q hs pb);rw[<- hL]at H4;have hw:=aa (KC L (q:Nat));generalize dc L (q:Nat)=y at*;obtain⟨ul,cl,yq,ye⟩:=y;dsimp only at h3;have pg:Hid (cl.length<=2000000):=aa hw.out.2;have pk:Hid (∀ us:ByteArray,us=S06.eP ul->us.size<=256):=aa fun us h=>by rw[h];exact hw.out.1
 have h4:=aa h3;have HZ:=aa hI;have HO:=aa hN;clear hA hB hP h3 e1 HD p5 hI hN HB p2 hK hq pb r0 r2 hC hW HV HK;go_upto_region 6 with fail;rw[<- HZ.out,<-HO.out];clear HZ HO;go_wp2_with fail;refine HI.out.mono ?_;rintro e w7 ⟨rfl,rfl⟩;go_wp2_with fail;refine H4.out.mono ?_;rintro e w8 ⟨v8,B8,p1,rfl,HH,hM⟩;dsimp only at HH |-;have HR:=aa (iA hM HQ.out);have hJ:=aa (iA hM H0.out);have HM:=aa (aq HL.out hM);have HW:=aa HH;have hF:w.heap.size<B8:=OA (aA H0.out) p1;have f8:=ae hJ.out 0;have k8:=(ac hJ.out 0).trans (rfl:_=some (Value.int .i64 0));obtain⟨w9,hr⟩:∃w9,w9=w8.setCell ⟨w.heap.size,0,none⟩ (.int .i64 ye):=⟨_,rfl⟩;have HS:=aa (show Blk w9 gh _ _ from by rw[hr];exact Cm HR.out H2.out);have hO:Blk w9 w.heap.size 25 #[.int .i64 ye]:=by rw[hr];exact ay hJ.out 0 _
 have hX:=aa (show Below w.heap.size w w9 from by rw[hr];exact HM.out.setCell (p:=⟨w.heap.size,0,none⟩) (ag _) _);have H3:=aa (show w9.ownsRow B8 3 1 v8 cl.length (cl.map iv)from by rw[hr];exact Ms HW.out hF);have H1:=aa hO;have p0:=aa hr;have k9:=(ac hO 0).trans (rfl:_=some (Value.int .i64 ye));have f9:=ae hO 0;clear hM HH p1 hF HQ H0 HL H4 HI hr hO;go_upto_region 7 with fail;rw[<- p0.out];clear p0 k8 f8 HR hJ HM HW;by_cases e2:ye≠0;·have dd:=jb e2;have h2:=h4.out;rw[Nf e2]at h2;have hk:=ay H1.out 0 (.int .i64 ye);have ck:=(ac hk 0).trans (rfl:_=some (Value.int .i64 ye));have HA:=aa (h9.out ((w9.setCell ⟨w.heap.size,0,none⟩ (.int .i64 ye)).drew) ye h2 (hX.out.setCell (p:=⟨w.heap.size,0,none⟩) (ag _) _).drew);clear h2 h4 hk;go_wp2_with fail;go_region;go_wp2_with fail;refine nH (v:=.tuple #[.string ⟨#[]⟩,.int .u32 0,.int .i64 0,.int .i64 ye]) ?_ HA.out;simp[results,results7,go_sem,ck]
 have dd:=lU e2;have h2:=h4.out;rw[Nd e2]at h2;obtain⟨us,hQ⟩:∃us,us=S06.eP ul:=⟨_,rfl⟩;have pf:us.data.toList=ul:=by rw[hQ];rfl
 obtain⟨A9,c9,rfl,pl,_,_⟩:=ai H3.out;have hY:=aa (IM w9 us A9 c9 cl m0 (aE H3.out) pl (pg.out) (pk.out us hQ));rw[pf]at hY;rw[<- hQ];generalize jL ul cl m0=cg at*;obtain⟨bl,be⟩:=cg;dsimp only at h2;have h5:=aa h2;clear h2 h4 hQ pf e2 H3;go_wp2_with fail;refine hY.out.mono ?_;rintro e w10 ⟨rfl,hi⟩;dsimp only;have hx:=aa (iA hi HS.out);have hf:=aa (iA hi H1.out);have ht:=aa (aq hX.out hi);have f10:=ae hf.out 0;have k10:=(ac hf.out 0).trans (rfl:_=some (Value.int .i64 ye));obtain⟨w11,h7⟩:∃w11,w11=w10.setCell ⟨w.heap.size,0,none⟩ (.int .i64 be):=⟨_,rfl⟩;have hc:=aa (show Blk w11 gh _ _ from by rw[h7];exact Cm hx.out H2.out);have hl:Blk w11 w.heap.size 25 #[.int .i64 be]:=by rw[h7];exact ay hf.out 0 _
 have hn:=aa (show Below w.heap.size w w11 from by rw[h7];exact ht.out.setCell (p:=⟨w.heap.size,0,none⟩) (ag _) _);have ho:=aa hl;have hD:=aa h7;have k11:=(ac hl 0).trans (rfl:_=some (Value.int .i64 be));have f11:=ae hl 0;clear hi HS H1 hX hY k9 f9 h7 hl dd;go_upto_region 10 with fail;rw[<- hD.out];clear hD k10 f10 hx hf ht;by_cases e3:be≠0;·have dd:=jb e3;have h2:=h5.out;rw[Nf e3]at h2;have hk:=ay ho.out 0 (.int .i64 be);have ck:=(ac hk 0).trans (rfl:_=some (Value.int .i64 be));have HA:=aa (h9.out ((w11.setCell ⟨w.heap.size,0,none⟩ (.int .i64 be)).drew) be h2 (hn.out.setCell (p:=⟨w.heap.size,0,none⟩) (ag _) _).drew);clear h2 h5 hk;go_wp2_with fail;go_region;go_wp2_with fail;refine nH (v:=.tuple #[.string ⟨#[]⟩,.int .u32 0,.int .i64 0,.int .i64 be]) ?_ HA.out;simp[results,results7,go_sem,ck]
 have dd:=lU e3;have h2:=h5.out;rw[Nd e3]at h2;clear h5 e3;obtain⟨bs,HC⟩:∃bs,bs=S06.eP bl:=⟨_,rfl⟩;have p7:bs.data.toList=bl:=by rw[HC];rfl
 have H5:=aa (FM w11 z R bs);rw[p7]at H5;rw[<- HC];have h0:=(ac hc.out 0).trans (rfl:_=some (Value.int .u32 z));have h1:=(ac hc.out 1).trans (rfl:_=some (Value.int .i64 R));generalize ml bl z R=tg at*;obtain⟨tl,te⟩:=tg;dsimp only at h2;have h6:=aa h2;clear h2 HC p7;go_wp2_with fail;refine H5.out.mono ?_;rintro e w12 ⟨rfl,hj⟩;dsimp only;have hy:=aa (iA hj hc.out);have hh:=aa (iA hj ho.out);have hu:=aa (aq hn.out hj);have f12:=ae hh.out 0;have k12:=(ac hh.out 0).trans (rfl:_=some (Value.int .i64 be));obtain⟨w13,h8⟩:∃w13,w13=w12.setCell ⟨w.heap.size,0,none⟩ (.int .i64 te):=⟨_,rfl⟩;have hH:Blk w13 gh 51 #[.int .u32 z,.int .i64 R]:=by rw[h8];exact Cm hy.out H2.out
 have hm:Blk w13 w.heap.size 25 #[.int .i64 te]:=by rw[h8];exact ay hh.out 0 _
 have hv:=aa (show Below w.heap.size w w13 from by rw[h8];exact hu.out.setCell (p:=⟨w.heap.size,0,none⟩) (ag _) _);have hz:=aa hm;have hE:=aa h8;have k13:=(ac hm 0).trans (rfl:_=some (Value.int .i64 te));have f13:=ae hm 0;have j0:=(ac hH 0).trans (rfl:_=some (Value.int .u32 z));clear hj hc ho hn H5 k11 f11 h8 hm dd h0 h1 hH;go_upto_region 13 with fail;rw[<- hE.out];clear hE k12 f12 hy hh hu;by_cases e4:te≠0;·have dd:=jb e4;have h2:=h6.out;rw[Nf e4]at h2;have hk:=ay hz.out 0 (.int .i64 te);have ck:=(ac hk 0).trans (rfl:_=some (Value.int .i64 te));have HA:=aa (h9.out ((w13.setCell ⟨w.heap.size,0,none⟩ (.int .i64 te)).drew) te h2 (hv.out.setCell (p:=⟨w.heap.size,0,none⟩) (ag _) _).drew);clear h2 h6 hk;go_wp2_with fail;go_region;go_wp2_with fail;refine nH (v:=.tuple #[.string ⟨#[]⟩,.int .u32 0,.int .i64 0,.int .i64 te]) ?_ HA.out;simp[results,results7,go_sem,ck]
 have dd:=lU e4;have h2:=h6.out;rw[Nd e4]at h2;have hk:=ay hz.out 0 (.int .i64 0);have ck:=(ac hk 0).trans (rfl:_=some (Value.int .i64 0));have HA:=aa (H6.out ((w13.setCell ⟨w.heap.size,0,none⟩ (.int .i64 0)).drew) tl z yq h2 (hv.out.setCell (p:=⟨w.heap.size,0,none⟩) (ag _) _).drew);clear h2 h6 hk;go_wp2_with fail;go_region;go_wp2_with fail;refine nH (v:=.tuple #[.string (S06.eP tl),.int .u32 z,.int .i64 yq,.int .i64 0]) ?_ HA.out;simp[results,results7,go_sem,ck]
theorem Cs(w:World)(s:ByteArray)(at' most:Int)(hs:s.size<=2000000):
 Calls prog 7 #[.string s,.int .i64 at',.int .i64 most] w (jp w (mq (ao s.data.toList) at' most)):=by
 by_cases h:at'<0\/8*(s.size:Int)<at'\/most<1\/262144<most;·refine(Ct w s at' most hs h).mono ?_;rintro e w' ⟨rfl,hb⟩;unfold mq;rw[Nf (by rw[aC];have:s.data.toList.length=s.size:=rfl;omega)];exact⟨rfl,hb⟩
 ·obtain⟨a0,rfl⟩:∃a0:Nat,at'=a0:=⟨at'.toNat,by omega⟩;obtain⟨m0,rfl⟩:∃m0:Nat,most=m0:=⟨most.toNat,by omega⟩;exact Fs w s a0 m0 hs (by omega) (by omega) (by omega)
theorem dh{w w':World}{g:Nat}{t:TypeId}{cs:Array Value}(hb:Below w.heap.size w w')(h:Blk w g t cs):Blk w' g t cs:=aO hb h
theorem qL{w:World}{g b:Nat}{t:TypeId}{cs:Array Value}{x y:Value}(h:Blk w g t cs)(h0:g≠b):Blk ((w.setCell ⟨b,0,none⟩ x).setCell ⟨b,1,none⟩ y) g t cs:=
 (ak.set (ps:= [b]) (ak.set (ps:= [b]) (ak.refl 0 [b] [] w) (p:=⟨b,0,none⟩) (Ng _) (List.mem_singleton.2 rfl) x) (p:=⟨b,1,none⟩) (Ng _) (List.mem_singleton.2 rfl) y).blk h (by simpa using h0) aw
theorem LO{w:World}{B g:Nat}{ls:List (List Nat)}(hg:Blk w g 24 (ef ls).toArray)(hB:B<=g)(h0:0<ls.length)(hn:ls.length<=1000000)(hl:∀l∈ls,au l):Pcs w B (.slice (some ⟨g,0,none⟩) ls.length ls.length) ls:=by
 have h1:(ef ls).length=ls.length*2:=by
  unfold ef;clear hg h0 hn hl
  induction ls with
  | nil=>rfl
  | cons x xs ih=>rw[Oa,Nb,ih,Ns];simp;omega
 refine⟨⟨by rw[h1],.inr ⟨g,ls.length,_,rfl,hB,hg,Nk _,by unfold maxLen;omega,?_,?_⟩⟩,hl⟩;·simp[h1]
 ·simp[<- h1]
theorem CF(w:World)(s ts cs us ss gs qs:ByteArray)(R z N k2 NG NQ:Nat)(PL LT SH GB CQ:List Nat)(T:List (List Int))(P:List Int)
 (hR:R<16777216) (hz:z<4294967296) (sv:us.size<=256) (st:(us.size:Int)+2=(k2:Int))
 (sn:au SH) (pb:au GB) (p9:au CQ) (HD:(fG z R++SH++(GB++CQ)).length<=100000000)
 (sl:ss=⟨(aK SH).toArray⟩) (hN:N=SH.length) (s8:gs=⟨(aK GB).toArray⟩) (rO:NG=GB.length) (s9:qs=⟨(aK CQ).toArray⟩) (rR:NQ=CQ.length)
 (HE:∀wx:World,Calls prog 9 #[.string s] wx fun e w'=>e=.returned (.string ts)/\Below wx.heap.size wx w')
 (HF:∀wx:World,Calls prog 8 #[.string ts] wx fun e w'=>e=.returned (.tuple #[.string cs,.int .i64 R,.int .i64 0])/\Below wx.heap.size wx w')
 (HU:∀wx:World,Calls prog 10 #[.string cs] wx fun e w'=>e=.returned (.string us)/\Below wx.heap.size wx w')
 (HFr:∀wx:World,Calls prog 11 #[.string cs,.string us] wx (aD wx (PL,0)))
 (HZ:∀(wx:World) (A:Option Addr) (c:Nat),aB wx A PL.length PL->PL.length<=c->Calls prog 12 #[.int .i64 us.size,.slice A PL.length c] wx (aD wx (LT,0)))
 (HBe:∀(wx:World) (A:Option Addr) (c:Nat),aB wx A LT.length LT->LT.length<=c->Calls prog 13 #[.slice A LT.length c,.int .i64 k2] wx (bP wx (T,P,0)))
 (HSh:∀wx:World,Calls prog 14 #[.string us] wx fun e w'=>e=.returned (.tuple #[.agg #[.string ss,.int .i64 N],.int .i64 0])/\Below wx.heap.size wx w')
 (HB:∀(wx:World) (v:Value),aJ wx v T P->Calls prog 15 #[v] wx fun e w'=>e=.returned (.tuple #[.agg #[.string gs,.int .i64 NG],.int .i64 0])/\Below wx.heap.size wx w')
 (HC:∀(wx:World) (v:Value),aJ wx v T P->∀(A:Option Addr) (c:Nat),aB wx A LT.length LT->LT.length<=c->Calls prog 16 #[v,.slice A LT.length c] wx fun e w'=>e=.returned (.tuple #[.agg #[.string qs,.int .i64 NQ],.int .i64 0])/\Below wx.heap.size wx w')
 (HS2:∀wx:World,Calls prog 18 #[.string s] wx fun e w'=>e=.returned (.int .u32 z)/\Below wx.heap.size wx w'):
 Calls prog 5 #[.string s] w (bn w (fG z R++SH++(GB++CQ),0)):=by
 obtain⟨w1,HR⟩:∃w1,w1=w.alloc (.cells #[.string ⟨#[]⟩,.int .i64 0] 24):=⟨_,rfl⟩
 have sa:Blk w1 w.heap.size 24 #[.string ⟨#[]⟩,.int .i64 0]:=dW HR
 have s6:Below w.heap.size w w1:=cB HR
 have hu: [fG z R,SH,GB,CQ].flatten=fG z R++SH++(GB++CQ):=by simp
 have hE:∀l∈ [fG z R,SH,GB,CQ],au l:=by
  intro l hl
  have hh:au (fG z R):=au.append (au.append (aQ _ _) (aQ _ _)) (aQ _ _)
  simp only[PA,aw,or_false]at hl
  rcases hl with rfl|rfl|rfl|rfl <;>assumption
 obtain⟨hs,po⟩:∃hs:ByteArray,hs=⟨(aK (fG z R)).toArray⟩:=⟨_,rfl⟩
 have r2:=aa fun wx:World=>CD wx z R hz hR
 rw[<- po]at r2
 have hp:=aa (show(ef [fG z R,SH,GB,CQ]).toArray=#[.string hs,.int .i64 105,.string ss,.int .i64 N,.string gs,.int .i64 NG,.string qs,.int .i64 NQ] by
  rw[po,sl,s8,s9,hN,rO,rR]
  simp only[ef,Oa,List.flatMap_nil,pR]
  rfl)
 have HJ:=aa fun(wx:World) (g:Nat) (hg:Blk wx g 24 #[.string hs,.int .i64 105,.string ss,.int .i64 N,.string gs,.int .i64 NG,.string qs,.int .i64 NQ])=>uF wx 0 _ [fG z R,SH,GB,CQ] (LO (by rw[hp.out];exact hg) (Ng g) (by simp) (by simp) hE) (by simp) (by rw[hu];exact HD)
 rw[hu]at HJ
 obtain⟨M,hM⟩:∃M,M=(fG z R++SH++(GB++CQ)).length:=⟨_,rfl⟩
 obtain⟨J,hJ⟩:∃J:ByteArray,J=⟨(aK (fG z R++SH++(GB++CQ))).toArray⟩:=⟨_,rfl⟩
 have sm:Hid (∀ (wx:World) (g:Nat),Blk wx g 24 #[.string hs,.int .i64 105,.string ss,.int .i64 N,.string gs,.int .i64 NG,.string qs,.int .i64 NQ]->Calls prog 17 #[.slice (some ⟨g,0,none⟩) 4 4] wx fun e w'=>e=.returned (.tuple #[.agg #[.string J,.int .i64 M],.int .i64 0])/\Below wx.heap.size wx w'):=aa fun wx g hg=>by
  have h:=HJ.out wx g hg
  unfold qE at h
  rw[<- hM,<-hJ]at h
  exact h
 have HS:Hid (∀ w',Below w.heap.size w w'->bn w (fG z R++SH++(GB++CQ),0) (.returned (.tuple #[.agg #[.string J,.int .i64 M],.int .i64 0])) w'):=aa fun w' hb=>by
  unfold bn
  rw[<- hM,<-hJ]
  exact⟨rfl,hb⟩
 generalize bn w (fG z R++SH++(GB++CQ),0)=PO at*
 have qo:=aa HE
 have qx:=aa HF
 have rl:=aa HU
 have hW:=aa HFr
 have rM:=aa HZ
 have hV:=aa HBe
 have p8:=aa HS2
 have H6:=aa HSh
 have ps:=aa HB
 have ql:=aa HC
 have r5:=aa sa
 have pv:=aa s6
 have rs:=aa HR
 clear HE HF HU HFr HZ HBe HS2 HSh HB HC sa s6 HR hu hE HJ hM hJ HD po sl s8 s9 hN rO rR sn pb p9 hp
 go_enter func5,ntmps5
 go_wp2_with fail
 rw[<- rs.out]
 clear rs
 refine(qo.out w1).mono ?_
 rintro e w2 ⟨rfl,pf⟩
 have q2:=aa (aq pv.out pf)
 have r6:=aa (dh pf r5.out)
 clear pf qo pv r5
 go_wp2_with fail
 refine(qx.out w2).mono ?_
 rintro e w3 ⟨rfl,pg⟩
 have q3:=aa (aq q2.out pg)
 have r7:=aa (dh pg r6.out)
 clear pg qx q2 r6
 go_wp2_with fail
 refine(rl.out w3).mono ?_
 rintro e w4 ⟨rfl,pj⟩
 have q4:=aa (aq q3.out pj)
 have r8:=aa (dh pj r7.out)
 clear pj rl q3 r7
 go_wp2_with fail
 refine(hW.out w4).mono ?_
 rintro e w5 ⟨v5,rfl,HP,pk⟩
 dsimp only at HP |-
 have q5:=aa (aq q4.out pk)
 have r9:=aa (dh pk r8.out)
 obtain⟨A5,c5,rfl,so,_⟩:=ai HP
 have r3:=aa (aE HP)
 clear pk hW q4 r8 HP
 go_wp2_with fail
 refine(rM.out w5 A5 c5 r3.out so).mono ?_
 rintro e w6 ⟨v6,rfl,HQ,pl⟩
 dsimp only at HQ |-
 have q6:=aa (aq q5.out pl)
 have rb:=aa (dh pl r9.out)
 obtain⟨A6,c6,rfl,s7,_⟩:=ai HQ
 have HX:=aa (aE HQ)
 clear pl rM q5 r9 r3 HQ
 go_wp2_with fail
 refine(hV.out w6 A6 c6 HX.out s7).mono ?_
 rintro e w7 ⟨v7,rfl,HM,HN⟩
 dsimp only at HM |-
 obtain⟨A',n',c',B',m',d',rfl,HM⟩:=HM.parts
 obtain⟨w8,pr⟩:∃w8,w8=w7.alloc (.cells #[.slice A' n' c',.slice B' m' d'] 43):=⟨_,rfl⟩
 obtain⟨HO,HL⟩:=uf HM
 rw[<- pr]at HO HL
 have q7:=aa (aq q6.out HN)
 have q8:=aa (aq q7.out HL)
 have p7:=aa (dh HL (dh HN rb.out))
 have r4:=aa (S05.bX (S05.bX HX.out HN) HL)
 obtain⟨gp,pn⟩:∃gp,gp=w7.heap.size:=⟨_,rfl⟩
 rw[<- pn]at HO
 have r1:=aa HO
 have rv:=aa pr
 have r0:=aa pn
 clear HN HL HO HM hV q6 q7 rb HX pr pn
 go_upto_region 8 with fail
 rw[<- rv.out,<-r0.out]
 clear rv r0
 go_wp2_with fail
 refine(H6.out w8).mono ?_
 rintro e w9 ⟨rfl,pm⟩
 obtain⟨w10,hx⟩:∃w10,w10=w9.alloc (.cells #[.string ss,.int .i64 N] 24):=⟨_,rfl⟩
 have HG:Below w9.heap.size w9 w10:=cB hx
 have hq:Blk w10 w9.heap.size 24 #[.string ss,.int .i64 N]:=dW hx
 obtain⟨g14,hL⟩:∃g14,g14=w9.heap.size:=⟨_,rfl⟩
 have h5:=aq pm HG
 rw[<- hL]at hq
 have hQ:=aa (aq q8.out h5)
 have hG:=aa (dh h5 p7.out)
 have H0:=aa (S05.bX r4.out h5)
 have hv:=aa (r1.out.below h5)
 have hB:=aa hq
 have H7:=aa hx
 have hX:=aa hL
 have H2:=aa (show g14≠w.heap.size from by
  have h1:=aA p7.out
  have h2:=pm.size
  omega)
 clear pm HG h5 hq H6 q8 p7 r4 r1 hx hL
 go_upto_region 9 with fail
 rw[<- H7.out,<-hX.out]
 clear H7 hX
 obtain⟨qa,qb⟩:=hv.out.cells
 have q9:=aa (ps.out w10 _ hv.out.2)
 go_wp2_with fail
 refine q9.out.mono ?_
 rintro e w11 ⟨rfl,hI⟩
 obtain⟨w12,hy⟩:∃w12,w12=w11.alloc (.cells #[.string gs,.int .i64 NG] 24):=⟨_,rfl⟩
 have HH:Below w11.heap.size w11 w12:=cB hy
 have hr:Blk w12 w11.heap.size 24 #[.string gs,.int .i64 NG]:=dW hy
 obtain⟨g16,hO⟩:∃g16,g16=w11.heap.size:=⟨_,rfl⟩
 have h0:=aq hI HH
 rw[<- hO]at hr
 have hS:=aa (aq hQ.out h0)
 have hH:=aa (dh h0 hG.out)
 have H1:=aa (S05.bX H0.out h0)
 have hF:=aa (hv.out.below h0)
 have hC:=aa (dh h0 hB.out)
 have hD:=aa hr
 have H8:=aa hy
 have hY:=aa hO
 have H3:=aa (show g16≠w.heap.size from by
  have h1:=aA hG.out
  have h2:=hI.size
  omega)
 clear hI HH h0 hr q9 ps hQ hG H0 hv hB qa qb hy hO
 go_upto_region 10 with fail
 rw[<- H8.out,<-hY.out]
 clear H8 hY
 obtain⟨qa,qb⟩:=hF.out.cells
 have qm:=aa (ql.out w12 _ hF.out.2 A6 c6 H1.out s7)
 go_wp2_with fail
 refine qm.out.mono ?_
 rintro e w13 ⟨rfl,hK⟩
 obtain⟨w14,hA⟩:∃w14,w14=w13.alloc (.cells #[.string qs,.int .i64 NQ] 24):=⟨_,rfl⟩
 have HI:Below w13.heap.size w13 w14:=cB hA
 have ht:Blk w14 w13.heap.size 24 #[.string qs,.int .i64 NQ]:=dW hA
 obtain⟨g18,hP⟩:∃g18,g18=w13.heap.size:=⟨_,rfl⟩
 have h4:=aq hK HI
 rw[<- hP]at ht
 have hT:=aa (aq hS.out h4)
 have H5:=aa (dh h4 hH.out)
 have h6:=aa (dh h4 hC.out)
 have h8:=aa (dh h4 hD.out)
 have ha:=aa ht
 have HA:=aa hA
 have hZ:=aa hP
 have H4:=aa (show g18≠w.heap.size from by
  have h1:=aA hH.out
  have h2:=hK.size
  omega)
 clear hK HI h4 ht qm ql hS hH H1 hF hC hD qa qb hA hP
 go_upto_region 11 with fail
 rw[<- HA.out,<-hZ.out]
 clear HA hZ
 have p0:w14.cell? ⟨g14,0,none⟩=some (.string ss):=(ac h6.out 0).trans rfl
 have p1:w14.cell? ⟨g14,1,none⟩=some (.int .i64 N):=(ac h6.out 1).trans rfl
 have p2:w14.cell? ⟨g16,0,none⟩=some (.string gs):=(ac h8.out 0).trans rfl
 have p3:w14.cell? ⟨g16,1,none⟩=some (.int .i64 NG):=(ac h8.out 1).trans rfl
 have p4:w14.cell? ⟨g18,0,none⟩=some (.string qs):=(ac ha.out 0).trans rfl
 have p5:w14.cell? ⟨g18,1,none⟩=some (.int .i64 NQ):=(ac ha.out 1).trans rfl
 have D14:=aa (show Blk w14.drew g14 _ _ from h6.out)
 have D16:=aa (show Blk w14.drew g16 _ _ from h8.out)
 have D18:=aa (show Blk w14.drew g18 _ _ from ha.out)
 have DR:=aa (show Blk w14.drew w.heap.size _ _ from H5.out)
 have DB:=aa hT.out.drew
 clear h6 h8 ha H5 hT
 go_region_held3 (fun w'=>w'.cell? ⟨g14,0,none⟩=some (.string ss)/\w'.cell? ⟨g14,1,none⟩=some (.int .i64 N)/\w'.cell? ⟨g16,0,none⟩=some (.string gs)/\w'.cell? ⟨g16,1,none⟩=some (.int .i64 NG)/\w'.cell? ⟨g18,0,none⟩=some (.string qs)/\w'.cell? ⟨g18,1,none⟩=some (.int .i64 NQ))
  (first|exact⟨p0,p1,p2,p3,p4,p5⟩|exact⟨s0,s1,s2,s3,s4,s5⟩|exact⟨t0,t1,t2,t3,t4,t5⟩|exact⟨u0,u1,u2,u3,u4,u5⟩|exact⟨(ac (qL h7.out H2.out) 0).trans rfl,(ac (qL h7.out H2.out) 1).trans rfl,(ac (qL h9.out H3.out) 0).trans rfl,(ac (qL h9.out H3.out) 1).trans rfl,(ac (qL hc.out H4.out) 0).trans rfl,(ac (qL hc.out H4.out) 1).trans rfl⟩|go_keep)
  (first
    | (go_at_call 18;refine(p8.out _).mono ?_;rintro e w15 ⟨rfl,he⟩
       have hi:=aa (dh he D14.out)
       have hk:=aa (dh he D16.out)
       have hn:=aa (dh he D18.out)
       have HY:=aa (dh he DR.out)
       have HT:=aa (aq DB.out he)
       have s0:w15.cell? ⟨g14,0,none⟩=some (.string ss):=(ac hi.out 0).trans rfl
       have s1:w15.cell? ⟨g14,1,none⟩=some (.int .i64 N):=(ac hi.out 1).trans rfl
       have s2:w15.cell? ⟨g16,0,none⟩=some (.string gs):=(ac hk.out 0).trans rfl
       have s3:w15.cell? ⟨g16,1,none⟩=some (.int .i64 NG):=(ac hk.out 1).trans rfl
       have s4:w15.cell? ⟨g18,0,none⟩=some (.string qs):=(ac hn.out 0).trans rfl
       have s5:w15.cell? ⟨g18,1,none⟩=some (.int .i64 NQ):=(ac hn.out 1).trans rfl
       clear he)
    | (go_at_call 19;refine(r2.out _).mono ?_;rintro e w16 ⟨rfl,hf⟩
       have hj:=aa (dh hf hi.out)
       have hm:=aa (dh hf hk.out)
       have ho:=aa (dh hf hn.out)
       have p6:=aa (dh hf HY.out)
       have HV:=aa (aq HT.out hf)
       have t0:w16.cell? ⟨g14,0,none⟩=some (.string ss):=(ac hj.out 0).trans rfl
       have t1:w16.cell? ⟨g14,1,none⟩=some (.int .i64 N):=(ac hj.out 1).trans rfl
       have t2:w16.cell? ⟨g16,0,none⟩=some (.string gs):=(ac hm.out 0).trans rfl
       have t3:w16.cell? ⟨g16,1,none⟩=some (.int .i64 NG):=(ac hm.out 1).trans rfl
       have t4:w16.cell? ⟨g18,0,none⟩=some (.string qs):=(ac ho.out 0).trans rfl
       have t5:w16.cell? ⟨g18,1,none⟩=some (.int .i64 NQ):=(ac ho.out 1).trans rfl
       clear hf)
    | (go_at_call 17;refine(sm.out _ w16.heap.size (aj w16 _ _)).mono ?_;rintro e w17 ⟨rfl,HK⟩
       have h3:Below w16.heap.size w16 w17:=((Nj _ _).alloc (ag _) _).trans (HK.mono (by simp))
       have h7:=aa (dh h3 hj.out)
       have h9:=aa (dh h3 hm.out)
       have hc:=aa (dh h3 ho.out)
       have hw:=aa (dh h3 p6.out)
       have HW:=aa (aq HV.out h3)
       have u0:w17.cell? ⟨g14,0,none⟩=some (.string ss):=(ac h7.out 0).trans rfl
       have u1:w17.cell? ⟨g14,1,none⟩=some (.int .i64 N):=(ac h7.out 1).trans rfl
       have u2:w17.cell? ⟨g16,0,none⟩=some (.string gs):=(ac h9.out 0).trans rfl
       have u3:w17.cell? ⟨g16,1,none⟩=some (.int .i64 NG):=(ac h9.out 1).trans rfl
       have u4:w17.cell? ⟨g18,0,none⟩=some (.string qs):=(ac hc.out 0).trans rfl
       have u5:w17.cell? ⟨g18,1,none⟩=some (.int .i64 NQ):=(ac hc.out 1).trans rfl
       have q0:w17.cell? ⟨w.heap.size,0,none⟩=some (.string ⟨#[]⟩):=(ac hw.out 0).trans rfl
       have q1:w17.cell? ⟨w.heap.size,1,none⟩=some (.int .i64 0):=(ac hw.out 1).trans rfl
       have f0:=ae hw.out 0
       have f1:=ae hw.out 1
       clear HK h3))
 go_wp2_with fail
 refine NH (v:=.tuple #[.agg #[.string J,.int .i64 M],.int .i64 0]) ?_ rfl (HS.out _ ((HW.out.setCell (p:=⟨w.heap.size,0,none⟩) (ag _) _).setCell (p:=⟨w.heap.size,1,none⟩) (ag _) _))
 simp[results,results5,go_sem,q0,q1]
theorem Cu(w:World)(s:ByteArray)(hs:s.size<=9223372036854775807):Calls prog 18 #[.string s] w fun e w'=>e=.returned (.int .u32 (S02.dQ s.data.toList))/\Below w.heap.size w w':=by have h:=S02.wl w s hs;rw[<- S02.uy _ _ (by omega)]at h;exact h
theorem zF(w:World):Calls prog 5 #[.string ⟨#[]⟩] w (bn w ([],2)):=by obtain⟨w1,h1⟩:∃w1,w1=w.alloc (.cells #[.string ⟨#[]⟩,.int .i64 0] 24):=⟨_,rfl⟩;have h7:Blk w1 w.heap.size 24 #[.string ⟨#[]⟩,.int .i64 0]:=dW h1;have h6:Below w.heap.size w w1:=cB h1;have HE:Hid (Calls prog 9 #[.string ⟨#[]⟩] w1 fun e w'=>e=.returned (.string ⟨#[]⟩)/\Below w1.heap.size w1 w'):=aa (S03.jJ w1 ⟨#[]⟩ (by decide));have HF:=aa fun wx:World=>S05.Fw wx;have h4:=aa h7;have h3:=aa h6;have h5:=aa h1;clear h7 h6 h1;go_enter func5,ntmps5;go_wp2_with fail;rw[<- h5.out];clear h5;refine HE.out.mono ?_;rintro e w2 ⟨rfl,h2⟩;have h0:=dh h2 h4.out;have h8:=aa (aq h3.out h2);have q0:=(ac h0 0).trans (rfl:_=some (Value.string ⟨#[]⟩));have q1:=(ac h0 1).trans (rfl:_=some (Value.int .i64 0));have f0:=ae h0 0;have f1:=ae h0 1;clear h2 h0 HE h3 h4;go_wp2_with fail;refine(HF.out w2).mono ?_;rintro e w3 ⟨rfl,rfl⟩;clear HF;go_wp2_with fail;refine NH (v:=.tuple #[.agg #[.string ⟨#[]⟩,.int .i64 0],.int .i64 2]) ?_ rfl ⟨rfl,(h8.out.setCell (p:=⟨w.heap.size,0,none⟩) (ag _) _).setCell (p:=⟨w.heap.size,1,none⟩) (ag _) _⟩;simp[results,results5,go_sem,q0,q1]
theorem Fr(N:Nat)(S:S05.ou N)(w:World)(s:ByteArray)(h0:0<s.size)(hs:s.size<=200000)(hN:s.size+s.size/4<=N):Calls prog 5 #[.string s] w (bn w (df s.data.toList)):=by
 have h1:=sZ s.data.toList hs;obtain⟨sl,h8⟩:∃sl,sl=s.data.toList:=⟨_,rfl⟩;have h7:sl.length=s.size:=by rw[h8];rfl
 have he:sl≠ []:=by intro e;rw[e]at h7;simp only[Ox]at h7;omega
 obtain⟨t,ht⟩:∃t,t=S03.bW sl:=⟨_,rfl⟩;have htl:t.length<=250000:=by have:=S03.jx sl;rw[ht];omega
 have hw:t.length<=N:=by have:=S03.jx sl;rw[ht];omega
 have h4:t≠ []:=by rw[ht];exact kA he
 have hx:0<t.length:=List.length_pos_iff.2 h4;have hO:=jA t h4;have hu:=uV hO;have hp:=lT hO;obtain⟨hm,hr,hn⟩:=mg hO;obtain⟨hM,hE,hq⟩:=jT hO h4 (by omega);have hg:=lA hO h4 (by omega) w;have hf:=nC w hM;have hj:=sJ h4;have hl:=ym t;have h6:=S06.pX t h4;have ho:aL t=((aL t).1,(aL t).2.1,0):=by have h2:(aL t).2.2=0:=hf.2.1;rw[<- h2]
 have h9:df s.data.toList=(fG (S02.dQ sl) (mh t)++S06.bU (S06.ofL t)++((cP (aL t).1 (aL t).2.1).1++(aT (aL t).1 (aL t).2.1 (zL (bO t))).1),0):=by rw[<- h8];unfold df;rw[Nd he,Nd (by rw[<- ht];omega)];unfold dS fF gR fG;rw[<- ht]
 have hy:∀(l:List Nat),(zL l).length=l.length:=fun l=>by unfold zL;rw[Nu]
 rw[h9]at h1 |-
 refine CF w s ⟨t.toArray⟩ ⟨(iT t).toArray⟩ (S06.eP (S06.ofL t)) ⟨(aK (S06.bU (S06.ofL t))).toArray⟩ ⟨(aK (cP (aL t).1 (aL t).2.1).1).toArray⟩ ⟨(aK (aT (aL t).1 (aL t).2.1 (zL (bO t))).1).toArray⟩
  (mh t) (S02.dQ sl) (S06.bU (S06.ofL t)).length ((S06.ofL t).length+2) (cP (aL t).1 (aL t).2.1).1.length (aT (aL t).1 (aL t).2.1 (zL (bO t))).1.length
  (dB t) (bO t) (S06.bU (S06.ofL t)) (cP (aL t).1 (aL t).2.1).1 (aT (aL t).1 (aL t).2.1 (zL (bO t))).1 (aL t).1 (aL t).2.1
  (by omega) (S02.pD sl) (by show(S06.ofL t).length<=256;omega) (by show((S06.ofL t).length:Int)+2=_;omega) (S06.lK _) (th _ _) (rH _ _ _) h1 rfl rfl rfl rfl rfl rfl
  ?HE ?HF ?HU ?HFr ?HZ ?HBe ?HSh ?HB ?HC ?HS2
 case HE=>intro wx;have h:=S03.jJ wx s (by omega);rw[<- h8,<-ht]at h;exact h
 case HF=>intro wx;refine(S05.IW N S wx ⟨t.toArray⟩ (by show 0<t.length;omega) (by show t.length<=N;omega) (by show t.length<=262144;omega)).mono ?_;rintro e w' ⟨L,k,rfl,h3,hk,hh,hb⟩;have h3:S05.ep t L:=h3;have e1:=md h3;have e2:=sN h3 hk hh;subst e1;subst e2;exact⟨rfl,hb⟩
 case HU=>intro wx;have h:=S06.Ek wx ⟨(iT t).toArray⟩ (by show(iT t).length<=1000000;omega);rw[show (⟨(iT t).toArray⟩:ByteArray).data.toList=iT t from rfl,I4]at h;exact h
 case HFr=>intro wx;refine(S06.Cx wx ⟨(iT t).toArray⟩ (S06.eP (S06.ofL t)) (by show(iT t).length<=1000000;omega) (by show(S06.ofL t).length<=1000000;omega)).mono ?_;rintro e w' ⟨v,L,c,h5,rfl,ha,hb⟩;have h5:S06.gl (iT t) (S06.ofL t)=(L,c):=h5;unfold S06.gl at h5;rw[Nf h6,hm]at h5;obtain⟨rfl,rfl⟩:=Prod.mk.inj h5;exact⟨v,rfl,ha,hb⟩
 case HZ=>intro wx A c hi hc;have h:=S07.IU wx A (dB t).length c (zL (dB t)) ((S06.ofL t).length:Nat) (dw hi) hc (by omega);rw[En hj hl hn]at h;exact h
 case HBe=>intro wx A c hi hc;have h:=Fq wx A (bO t).length c (zL (bO t)) ((S06.ofL t).length+2) (dw hi) hc (by omega) hM;rw[show ew (zL (bO t)) (((S06.ofL t).length+2:Nat):Int)=((aL t).1,(aL t).2.1,0)from ho]at h;exact h
 case HSh=>exact fun wx=>S06.qQ wx (S06.eP (S06.ofL t)) (by show(S06.ofL t).length<=1000000;omega) h6
 case HB=>intro wx v hv;have h:=tA wx v _ _ hv;rw[show cP (aL t).1 (aL t).2.1=((cP (aL t).1 (aL t).2.1).1,0) by rw[nE hg]]at h;exact h
 case HC=>intro wx v hv A c hi hc;have h:=zY wx v _ _ hv A (bO t).length c (zL (bO t)) (dw hi) hc (by omega);rw[show aT (aL t).1 (aL t).2.1 (zL (bO t))=((aT (aL t).1 (aL t).2.1 (zL (bO t))).1,0) by rw[jQ hg hM]]at h;exact h
 case HS2=>intro wx;have h:=Cu wx s (by omega);rw[<- h8]at h;exact h
theorem zG(N:Nat)(S:S05.ou N)(w:World)(s:ByteArray)(hs:s.size<=200000)(hN:s.size+s.size/4<=N):Calls prog 5 #[.string s] w (bn w (df s.data.toList)):=by
 by_cases h0:0<s.size;·exact Fr N S w s h0 hs hN
 ·have e:s=⟨#[]⟩:=by
   obtain⟨⟨l⟩⟩:=s
   have hl:l= []:=Nq (by
    have h1:(⟨⟨l⟩⟩:ByteArray).size=l.length:=rfl
    omega)
   rw[hl]
  rw[e];exact zF w
theorem Cr(w:World)(s:ByteArray)(hs:s.size<=200000):Calls prog 5 #[.string s] w (bn w (df s.data.toList)):=zG 1000000000 S05.qw w s hs (by omega)
theorem done:kY 20000 where
 one:=by omega
 make:=fun w s hs=>Cr w s (by omega)
 take:=fun w s a m hs _ _ _ _=>Cs w s a m (by omega)
 sum:=fun w s hs=>tu w s (by omega)
 enc:=fun w s hs=>S03.jJ w s (by omega)
theorem blockMakes_holds:Rows.BlockMakesSaid:=BlockMakes.M9 done
