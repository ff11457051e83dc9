import Derived.Test.YtfhgikojdfblpaaGreatM17
import Derived.Test.YtfhgikojdfblpaaGreatM15
set_option maxHeartbeats 3200000
set_option maxRecDepth 100000
namespace Go.Proofs.YtfhgikojdfblpaaGreat
open _root_.Go.Proofs.Tryz
open Go.RowKit
def cP(T:List (List Int))(P:List Int):List Nat×Nat:=if aV T P then(gQ (T.map nl) (nl P),0)else([],110)
theorem jy{L:List Int}(h:bK L):DOk L:=⟨h.1,h.2.1,h.2.2.1⟩
theorem GE(w:World)(B:Nat)(hB:B<=w.heap.size):(w.alloc (.cells #[.int .i64 0,.int .i64 1,.int .i64 2,.int .i64 3,.int .i64 4,.int .i64 5] 3)).ownsRow B 3 1 (.slice (some ⟨w.heap.size,0,none⟩) 6 6) 6 (([0,1,2,3,4,5]:List Nat).map iv):=
 ⟨rfl,.inr ⟨w.heap.size,6,_,rfl,hB,PC w _,Nk _,by unfold maxLen;omega,rfl,rfl⟩⟩
theorem GT(w:World)(v:Value)(T:List (List Int))(P:List Int)(h:aJ w v T P)(hM:¬aV T P):
 Calls prog 67 #[v] w (aD w (cP T P)):=by obtain⟨A,n,c,B,m,d,rfl,hT,h8,hn,hP,h7,hm⟩:=h;have h1:Below w.heap.size w (w.alloc (.cells #[.slice A n c,.slice B m d] 43)):=(Nj _ _).alloc (ag _) _;have h2:=aj w 43 #[.slice A n c,.slice B m d];have q0:(w.alloc (.cells #[.slice A n c,.slice B m d] 43)).cell? ⟨w.heap.size,0,none⟩=some (.slice A n c):=(ac h2 0).trans rfl;have q1:(w.alloc (.cells #[.slice A n c,.slice B m d] 43)).cell? ⟨w.heap.size,1,none⟩=some (.slice B m d):=(ac h2 1).trans rfl;have h0:=aa (nm _ _ T P (aJ.below ⟨A,n,c,B,m,d,rfl,hT,h8,hn,hP,h7,hm⟩ h1));rw[show decide (aV T P)=false from Nl hM]at h0;(have h5:Hid (∀ w',Below w.heap.size w w'->aD w (cP T P) (.returned (.tuple #[.slice none 0 0,.int .i64 110])) w'):=aa fun w' hb=>by rw[show cP T P=([],110)from Nd hM];exact⟨_,rfl,Nt _ _ _ _,hb⟩);have h3:=aa h1;generalize aD w (cP T P)=PO at*;clear h1 h2 hT h8 hn hP h7 hm hM;go_enter func67,ntmps67;go_wp2_with fail;refine h0.out.mono ?_;rintro e w2 ⟨rfl,h6⟩;have h4:=aa (aq h3.out h6);clear h6 h3;go_wp2_with fail;first|exact h5.out _ h4.out|(go_ret2;exact h5.out _ h4.out)
theorem DE(w:World)(v:Value)(T:List (List Int))(P:List Int)(h:aJ w v T P)(hM:aV T P):
 Calls prog 67 #[v] w (aD w (cP T P)):=by
 obtain⟨A,n,c,B,m,d,rfl,hT,q3,hn,hP,ps,hm⟩:=h;have H4:=hT.1;have HS:=hP.1;obtain⟨w1,H0⟩:∃w1,w1=w.alloc (.cells #[.slice A n c,.slice B m d] 43):=⟨_,rfl⟩;have HA:Blk w1 w.heap.size 43 #[.slice A n c,.slice B m d]:=dW H0;have hJ:Below w.heap.size w w1:=cB H0;have HB:w.heap.size<w1.heap.size:=aA HA;have q0:w1.cell? ⟨w.heap.size,0,none⟩=some (.slice A n c):=(ac HA 0).trans rfl;have q1:w1.cell? ⟨w.heap.size,1,none⟩=some (.slice B m d):=(ac HA 1).trans rfl;have HQ:Hid (∀ wx,Below w1.heap.size w1 wx->wx.cell? ⟨w.heap.size,0,none⟩=some (.slice A n c)/\wx.cell? ⟨w.heap.size,1,none⟩=some (.slice B m d)):=aa fun wx h=>⟨(h.cell (p:=⟨w.heap.size,0,none⟩) HB).trans q0,(h.cell (p:=⟨w.heap.size,1,none⟩) HB).trans q1⟩;have hu:=aa (nm w1 _ T P (aJ.below ⟨A,n,c,B,m,d,rfl,hT,q3,hn,hP,ps,hm⟩ hJ));rw[show decide (aV T P)=true from Nn hM]at hu;obtain⟨pn,H8⟩:∃pn,pn=nl P:=⟨_,rfl⟩;obtain⟨H,hH⟩:∃H,H=ah n 3++ah m 15++aI [0,1,2,3,4,5] pn:=⟨_,rfl⟩;have hI:cP T P=(H++(T.map nl).flatMap bc,0):=by unfold cP;rw[Nf hM,hH,H8];unfold gQ;rw[Nu,H4,bN,HS]
 have r8:=hM;obtain⟨pv,q2,r6,r7,pk,H3,_⟩:=r8;rw[H4]at pv q2 H3;rw[HS]at r6 r7;have HZ:aB w1 B m pn:=by rw[H8];exact dN (hP.below hJ) fun x hx=>(H3 x hx).1
 have q6:∀x∈pn,x<n:=by intro x hx;rw[H8]at hx;obtain⟨y,hy,rfl⟩:=List.mem_map.1 hx;have:=H3 y hy;omega
 have ql:Hid (∀ (v:Value) (R:List Nat) w',R=H++(T.map nl).flatMap bc->w'.ownsRow w1.heap.size 3 1 v R.length (R.map iv)->Below w1.heap.size w1 w'->aD w (cP T P) (.returned (.tuple #[v,.int .i64 0])) w'):=aa fun v R w' h1 h2 h3=>by rw[hI,<-h1];exact⟨v,rfl,World.ownsRow.mono h2 (NT HB),hJ.trans (h3.mono (NT HB))⟩
 have HT:=aa (hT.below hJ);have p9:=aa HZ;have pf:=aa q6;have qm:=aa pk;have HP:=aa H4;have HL:Hid (pn.length=m):=aa HZ.1;have HH:=aa hH;have hD:Hid (Low n [0,1,2,3,4,5]):=aa (yk q2);have hB:=aa fun(wx:World)=>fu wx n 3 (by omega) (by omega);have hr:=aa fun(wx:World)=>fu wx m 15 (by omega) (by omega);generalize aD w (cP T P)=PO at*;rw[H0]at q0 q1;clear hT hP H4 HS HZ q6 pk H3 hH H8 hI hM q3 hn ps hm HA hJ pv;go_enter func67,ntmps67;go_wp2_with fail;rw[<- H0];clear q0 q1 H0;refine hu.out.mono ?_;rintro e w2 ⟨rfl,HV⟩;have r9:=HQ.out _ HV;obtain⟨p0,p1⟩:=r9;have H1:=aa HV;clear HV hu;go_wp2_with fail;refine(hB.out _).mono ?_;rintro e w3 ⟨g3,c3,rfl,q4,pl⟩;have hw:=aq H1.out pl;have rb:=HQ.out _ hw;clear p0 p1;obtain⟨p0,p1⟩:=rb;have p8:=aa hw;have HG:=aa q4;clear pl hw q4 hB;go_wp2_with fail;refine(hr.out _).mono ?_;rintro e w4 ⟨g4,c4,rfl,q5,H6⟩;have hi:=aq p8.out H6;have rl:=HQ.out _ hi;clear p0 p1;obtain⟨p0,p1⟩:=rl;have po:=aE q5;have q8:=hi.size;obtain⟨v5,w5,q7,p4,pm⟩:=bB w4 w1.heap.size _ 3 _ (World.ownsRow.mono (fw HG.out H6) H1.out.size) (some ⟨g4,0,none⟩) 15 c4 _ po (by omega) q8;have hO:Below w1.heap.size w1 w5:=hi.grown pm q8 (fun k hk=>(NS (World.ownsRow.mono (fw HG.out H6) H1.out.size) k hk).1);obtain⟨A5,c5,rfl,rO,s1,_⟩:=ai p4;have HD:=aa hO;have HI:=aa p4;have pg:=aa q7;clear H6 hi q5 po pm hO p4 hr HG q7;go_wp2_with (at_builtin;refine Lib.wpList_append_run _ rfl (.tmp 33) (.tmp 34) 37 37 rfl (.slice (some ⟨g3,0,none⟩) 3 c3) (.slice (some ⟨g4,0,none⟩) 15 c4) rfl rfl _ _ pg.out ?_)
 clear pg p0 p1;have h0:fA w1 (w5.alloc (.cells #[.int .i64 0,.int .i64 1,.int .i64 2,.int .i64 3,.int .i64 4,.int .i64 5] 3)) (.slice A5 18 c5) (ah n 3++ah m 15) w5.heap.size 6 [0,1,2,3,4,5]:=by
  refine⟨?_,GE w5 _ HD.out.size,fun e=> ?_,HD.out.alloc HD.out.size _⟩;·have h2:=HI.out.alloc (.cells #[.int .i64 0,.int .i64 1,.int .i64 2,.int .i64 3,.int .i64 4,.int .i64 5] 3);rw[<- Nz]at h2;rw[Nb,af,af];exact h2
  ·have:=(NS HI.out _ e).2;omega
 generalize w5.alloc (.cells #[.int .i64 0,.int .i64 1,.int .i64 2,.int .i64 3,.int .i64 4,.int .i64 5] 3)=w6 at*;have hh:=aa h0;clear h0 HI H1 p8;go_loopw [4,8,9,10] (fun ov rv iv' s10 wx=>∃(q:Nat) (X o:List Nat) (g c:Nat),q<=m/\iv'=.int .i64 q/\rv=.slice (some ⟨g,0,none⟩) 6 c/\fA w1 wx ov X g c o/\Hid (X++aI o (pn.drop q)=H)/\X.length<=18+6*q/\Hid (Low n o)) (fun _ _ iv' _ _=>m-(intOf iv').toNat)
 case atStart=>exact⟨0,_,_,_,_,Ng _,rfl,rfl,hh.out,aa HH.out.symm,by rw[Nb,af,af];omega,hD⟩
 case round=>
  clear hh;obtain⟨q,X,o,g,c2,hq,rfl,rfl,h0,hX,r3,ho⟩:=hrel;have hh:=aa h0;obtain⟨p0,p1⟩:=HQ.out _ h0.below;obtain⟨A7,c7,rfl,_,_,_⟩:=ai h0.out;by_cases e:q<m
  ·have s2:(0:Int)<=(q:Int):=(by omega);have s3:(q:Int)<(m:Int):=(by omega);obtain⟨b,off,rfl,hc⟩:=p9.out.2 (by omega);have H7:=hc q e;have hR:=No w1 _ H7;have h7:=pf.out _ (mc (L:=pn) (j:=q) (by rw[HL.out];exact e));have HX:=tP (L:=pn) (p:=q) (by rw[HL.out];exact e);obtain⟨x,hx⟩:∃x,x=pn.getD q 0:=⟨_,rfl⟩;rw[<- hx]at H7 h7 HX;have hA:=ho.out.2 x h7;have HY:=(fh o x hA.2).2;have hz:=sc o x;have hf:=ho.out.move h7;have H5:=hX.out;rw[HX,oR]at H5;obtain⟨k,hk⟩:∃k,k=aX o x:=⟨_,rfl⟩;rw[<- hk]at hA HY hz hf H5;have r5:k<6:=(by omega);have r0:Hid ((X++List.replicate k 1++ [0])++aI (eu o k) (pn.drop (q+1))=H):=aa (by rw[<- H5];simp);have HJ:=aa hz;have qa:=aa HY;have hE:=aa hf;have q9:=aa fun(wx:World) (h:Below w1.heap.size w1 wx)=>(h.cell (p:=⟨b,off+q,none⟩) hR).trans H7;clear hc H7 hR hx HX hA HY hz hf H5 hk hX ho h0 HH;go_wp2_with fail;(go_loopw [4,10] (fun ov jv wx=>∃j:Nat,j<=k/\jv=.int .i64 j/\fA w1 wx ov (X++List.replicate j 1) g c2 o) (fun _ jv _=>k-(intOf jv).toNat));case atStart=>exact⟨0,Ng _,rfl,by simpa using hh.out⟩
   case round=>
    clear hh p0 p1;obtain⟨j,hj,rfl,h0⟩:=hrel;obtain⟨p0,p1⟩:=HQ.out _ h0.below;have qx:=q9.out _ h0.below;have qo:=h0.cell j (by omega);obtain⟨A8,c8,rfl,_,_,_⟩:=ai h0.out;obtain⟨X8,hG⟩:∃X8,X8=X++List.replicate j 1:=⟨_,rfl⟩;rw[<- hG]at h0 |-;obtain⟨N,hN⟩:∃N,N=X8.length:=⟨_,rfl⟩;have rM:N<=18+6*q+j:=(by rw[hN,hG,Nb,NA];omega);have HN:=aa hN;have pj:=aa hG;rw[<- hN]at h0 |-;obtain⟨y,hy⟩:∃y,y=o.getD j 0:=⟨_,rfl⟩;rw[<- hy]at qo;have hh:=aa h0;have s0:(0:Int)<=(j:Int):=(by omega);have rR:(j:Int)<6:=(by omega);by_cases ej:j<k
    ·have d1:((y:Int) != (x:Int))=true:=(by rw[Pe];have:=HJ.out j ej;rw[<- hy]at this;omega);clear hN hG hy h0;go_wp2_with fail;go_quiet (fail);obtain⟨A9,c9,w9,hZ,h9⟩:=(hh.out.drewN nq).push 1 HN.out.symm (by omega);have hv:=aa h9;have H2:=aa hZ;clear h9 hZ;(go_wp2_with (at_builtin;refine Lib.wpList_append_run _ rfl (.tmp 54) (.tmp 55) 37 37 rfl (.slice A8 N c8) (.slice (some ⟨wr.heap.size,0,none⟩) 1 1) rfl rfl _ _ H2.out ?_));go_roundw;case rel=>refine⟨j+1,by omega,by go_num,?_⟩;rw[Px,<-Ni,<-pj.out];exact hv.out
     case measure=>simp[intOf];omega
    ·obtain rfl:j=k:=(by omega);have d1:((y:Int) != (x:Int))=false:=(by rw[hy,qa.out];simp);have qs:=aa fun(wx:World) (h:aB wx (some ⟨g,0,none⟩) 6 o)=>BA wx (some ⟨g,0,none⟩) 6 c2 o j h (by omega) r5;clear hN hG hy h0;go_wp2_with fail;go_quiet (fail);obtain⟨A9,c9,w9,hZ,h9⟩:=(hh.out.drewN nq).push 0 HN.out.symm (by omega);have hv:=aa h9;have qb:=aa (aE h9.ord);have H2:=aa hZ;clear h9 hZ;(go_wp2_with (at_builtin;refine Lib.wpList_append_run _ rfl (.tmp 59) (.tmp 60) 37 37 rfl (.slice A8 N c8) (.slice (some ⟨wr.heap.size,0,none⟩) 1 1) rfl rfl _ _ H2.out ?_));clear H2;refine(qs.out _ qb.out).mono ?_;rintro e w10 ⟨v10,rfl,h8,hb⟩;obtain⟨g10,c10,rfl,hs⟩:=hv.out.turn hb h8;have hF:=aa hs;clear h8 hb hs;go_wp2_with fail;go_roundw;case rel=>
      refine⟨q+1,X8++ [0],eu o j,g10,c10,by omega,by go_num,rfl,hF.out,?_,?_,hE⟩;·rw[pj.out];exact r0
      ·rw[Nb,<-HN.out];show N+1<=_;omega
     case measure=>simp[intOf];omega
  ·obtain rfl:q=m:=(by omega);have r2:X=H:=(by have:=hX.out;rw[N9 (Oi HL.out)]at this;simpa [aI]using this);subst r2;have h5:=h0.out;have hl:=h0.below;obtain⟨N0,HR⟩:∃N0,N0=X.length:=⟨_,rfl⟩;rw[<- HR]at h5 |-;have ha:=aa h5;have hC:=aa hl;have HE:=aa HR;have s6:N0<=200000:=(by omega);clear h5 hl hh h0 hX ho HR r3 p9 pf HH hD;go_wp2_with fail;(go_loopw [4,11,12,13] (fun ov tv s12 s13 wx=>∃(t:Nat) (Y:List Nat),t<=n/\tv=.int .i64 t/\Hid (Y=X++((T.map nl).take t).flatMap bc)/\Y.length<=200000+11000*t/\wx.ownsRow w1.heap.size 3 1 ov Y.length (Y.map iv)/\Below w1.heap.size w1 wx) (fun _ tv _ _ _=>n-(intOf tv).toNat));case atStart=>exact⟨0,X,Ng _,rfl,aa (by simp),by rw[<- HE.out];omega,by rw[<- HE.out];exact ha.out,hC.out⟩
   case round=>
    clear ha hC HE p0 p1;rename World=>wy;obtain⟨t,Y,ht,rfl,hY,r4,h5,hl⟩:=hrel;obtain⟨p0,p1⟩:=HQ.out _ hl;obtain⟨A8,c8,rfl,_,_,_⟩:=ai h5;obtain⟨N,hN⟩:∃N,N=Y.length:=⟨_,rfl⟩;rw[<- hN]at h5 r4 |-;have ha:=aa h5;have hC:=aa hl;have HN:=aa hN;have rs:=hl.size;by_cases et:t<n
    ·have d1:decide ((t:Int)<(n:Int))=true:=bE;have s4:(0:Int)<=(t:Int):=(by omega);have s5:(t:Int)<(n:Int):=(by omega);obtain⟨b,off,rfl,hc⟩:=(HT.out.below hl).2 (by omega);obtain⟨A2,c2,h1,h2,h3,h4⟩:=hc t et;have h7:=iC (T:=T) (q:=t) (by rw[HP.out];exact et);have p5:=jy (qm.out _ h7).2;have p7:(T.map nl).take (t+1)=(T.map nl).take t++ [nl (T.getD t [])]:=(by have pr:t<T.length:=(by rw[HP.out];exact et);rw[NF (by rw[Nu];exact pr),Q4,Na,Nc pr];rfl);obtain⟨L,hL⟩:∃L,L=T.getD t []:=⟨_,rfl⟩;rw[<- hL]at h1 h2 h3 h4 p5 p7;obtain⟨kk,hA⟩:∃kk,kk=L.length:=⟨_,rfl⟩;rw[<- hA]at h1 h2 h3 h4;have hp:=Ku wy A2 kk c2 L h2 h4;have h6:=uZ L;rw[show eN L=(bc (nl L),0)from Nf p5]at hp h6;obtain⟨S,hS⟩:∃S,S=bc (nl L):=⟨_,rfl⟩;rw[<- hS]at hp h6;have p6:S.length<=11000:=h6;have HM:=aa hp;have r1:Hid (Y++S=X++((T.map nl).take (t+1)).flatMap bc):=aa (by rw[p7,OF,<-Ni,<-hY.out,hS];simp);clear h5 hl hN hc h7 p5 p7 hL hA h2 h3 h4 hp h6 hS hY;go_wp2_with fail;refine HM.out.mono ?_;rintro e w8 ⟨v8,rfl,hV,HW⟩;dsimp only at hV |-;obtain⟨K,hK⟩:∃K,K=S.length:=⟨_,rfl⟩;rw[<- hK]at hV p6;obtain⟨A9,c9,rfl,_,_,_⟩:=ai hV;have he:=hC.out.trans (HW.mono rs);obtain⟨p2,p3⟩:=HQ.out _ he;have hg:=fw ha.out HW;obtain⟨v10,w10,hW,h8,hQ⟩:=bB w8 w1.heap.size _ N _ hg A9 K c9 S (aE hV) (by omega) he.size;have hb:Below w1.heap.size w1 w10:=he.grown hQ he.size (fun k hk=>(NS hg k hk).1);rw[<- Nz]at h8;have HF:=aa h8;have HC:=aa hb;have HO:=aa hW;have HK:=aa hK;clear hV HW he hg h8 hQ hb hW hK p0 p1 h1;(go_wp2_with (at_builtin;refine Lib.wpList_append_run _ rfl (.tmp 81) (.tmp 82) 37 37 rfl (.slice A8 N c8) (.slice A9 K c9) rfl rfl _ _ HO.out ?_));go_roundw;case rel=>
      refine⟨t+1,Y++S,by omega,by go_num,r1,?_,?_,HC.out⟩;·rw[Nb,<-HN.out,<-HK.out];omega
      ·rw[Nb,<-HN.out,<-HK.out];exact HF.out
     case measure=>simp[intOf];omega
    ·obtain rfl:t=n:=(by omega);have d1:decide ((t:Int)<(t:Int))=false:=aR;have HU:=hY.out;rw[Nr (by rw[Nu];exact Oi HP.out)]at HU;have pb:=aa (ql.out (.slice A8 N c8) Y _ HU (by rw[<- HN.out];exact ha.out) hC.out);clear h5 hl hN hY HU;go_wp2_with fail;first|exact pb.out|(go_ret2;exact pb.out)
theorem uP(w:World)(v:Value)(T:List (List Int))(P:List Int)(h:aJ w v T P):Calls prog 67 #[v] w (aD w (cP T P)):=by
 by_cases hM:aV T P;·exact DE w v T P h hM
 ·exact GT w v T P h hM
theorem lL:∀(P o:List Nat),au (aI o P)
 | [],o=>fun b hb=>by simp[aI]at hb
 | x::P,o=>fun b hb=>by
  rw[oR]at hb;rcases List.mem_append.1 hb with h|h;·rw[Qr h];omega
  ·rcases List.mem_cons.1 h with h|h;·omega
   ·exact lL P _ b h
theorem nr(T:Nat)(hT:T<=6):∀(P o:List Nat),Low T o->(∀ x∈P,x<T)->(aI o P).length<=6*P.length
 | [],o,_,_=>by simp[aI]
 | x::P,o,h,hx=>by have h1:=(h.2 x (hx x (Nh ..))).1;have h2:=nr T hT P _ (h.move (hx x (Nh ..))) fun y hy=>hx y (Nm _ hy);rw[oR,Nb,NA,Ns,Ns];omega
theorem ns:∀(T:List (List Int)),(∀ t∈T,DOk t)->((T.map nl).flatMap bc).length<=11000*T.length
 | [],_=>by simp
 | t::T,h=>by have h1:=ns T fun x hx=>h x (Nm _ hx);have h2:=uZ t;rw[show eN t=(bc (nl t),0)from Nf (h t (Nh ..))]at h2;dsimp only at h2;rw[Ow,Oa,Nb,Ns];omega
theorem th(T:List (List Int))(P:List Int):au (cP T P).1:=by
 unfold cP;split;·refine au.append (au.append (au.append (aQ _ _) (aQ _ _)) (lL _ _)) fun b hb=> ?_;obtain⟨l,_,hl⟩:=List.mem_flatMap.1 hb;exact wh l b hl
 ·intro b hb;cases hb
theorem eH(T:List (List Int))(P:List Int):(cP T P).1.length<=300000:=by
 unfold cP;split;·rename_i hM;have h1:=ns T fun t ht=>jy (hM.2.2.2.2.1 t ht).2;(have h2:=nr T.length hM.2.1 (nl P) _ (yk hM.2.1) fun x hx=>by obtain⟨y,hy,rfl⟩:=List.mem_map.1 hx;have:=hM.2.2.2.2.2.1 y hy;omega);have h3:=hM.2.1;have h4:=hM.2.2.2.1;rw[bN]at h2;show(gQ (T.map nl) (nl P)).length<=300000;unfold gQ;rw[Nb,Nb,Nb,af,af];omega
 ·exact Ng _
theorem C7:∀(l:List Nat) (n T k:Nat),eE l n T=.hit k->n<T->n<=k/\k<n+l.length/\k<T
 | [],n,T,k,h,_=>by simp[eE]at h
 | b::l,n,T,k,h,hn=>by
  rw[eE]at h;by_cases e:b=0;·rw[Nf e]at h;have:=Pl.hit.inj h;rw[Ns];omega
  ·rw[Nd e]at h;by_cases e2:n+1=T;·rw[Nf e2]at h;cases h
   ·rw[Nd e2]at h;have:=C7 l (n+1) T k h (by omega);rw[Ns];omega
theorem iE{bits:List Nat}{T k n p:Nat}{o out:List Nat}(h:eE (bits.drop p) 0 T=.hit n):aS bits T (k+1) o p out=aS bits T k (eu o n) (p+n+1) (out++ [o.getD n 0]):=by rw[aS,h]
theorem fN{bits:List Nat}{T k p:Nat}{o out:List Nat}(h:eE (bits.drop p) 0 T=.short):aS bits T (k+1) o p out=([],0,10):=by rw[aS,h]
theorem iD{bits:List Nat}{T k p:Nat}{o out:List Nat}(h:eE (bits.drop p) 0 T=.bad):aS bits T (k+1) o p out=([],0,110):=by rw[aS,h]
theorem Mz:(prog.info? 41).map (fun i=>(i.zero,i.size,i.bytes))=some (some (.slice none 0 0),1,24):=by kernel_rfl
theorem kE{w:World}{B B' k k' n n':Nat}{e e':TypeId}{v v':Value}{xs xs':List Value}(h:w.ownsRow B e k v n xs)(h':w.ownsRow B' e' k' v' n' xs')(he:e≠e'):v.ownBlock=none\/v.ownBlock≠v'.ownBlock:=by
 cases hv:v.ownBlock with
 | none=>exact .inl rfl
 | some b=>refine .inr fun hb=> ?_;obtain⟨c1,f1,e1⟩:=Lib.ownsRow_kind h b hv;obtain⟨c2,f2,e2⟩:=Lib.ownsRow_kind h' b hb.symm;rw[e2]at e1;simp at e1;exact he e1.2.1.symm
theorem dC.mono{w:World}{B B' g n:Nat}{C:Nat->List Nat}(h:dC w B g n C)(hB:B'<=B):dC w B' g n C:=by obtain⟨F,h1,h2⟩:=h;refine⟨F,World.ownsRow.mono h1 hB,fun j hj=> ?_⟩;obtain⟨A,k,a,b,c⟩:=h2 j hj;exact⟨A,k,a,b,World.ownsRow.mono c hB⟩
theorem dC.low_kept{w w2:World}{B g n:Nat}{C:Nat->List Nat}(h:dC w B g n C)(hb:Below w.heap.size w w2):dC w2 B g n C:=by obtain⟨F,h1,h2⟩:=h;refine⟨F,fw h1 hb,fun j hj=> ?_⟩;obtain⟨A,k,a,b,c⟩:=h2 j hj;exact⟨A,k,a,b,fw c hb⟩
theorem dC.grown_row{w w2:World}{B B' g n m:Nat}{C:Nat->List Nat}{v:Value}{xs:List Value}(h:dC w B g n C)(hv:w.ownsRow B' 41 1 v m xs)(hg:w.grownBy w2 v.ownBlock):dC w2 B g n C:=by obtain⟨F,h1,h2⟩:=h;refine⟨F,OU h1 hg (kE h1 hv (by decide)),fun j hj=> ?_⟩;obtain⟨A,k,a,b,c⟩:=h2 j hj;exact⟨A,k,a,b,OU c hg (kE c hv (by decide))⟩
theorem dC.alloc'{w:World}{B g n:Nat}{C:Nat->List Nat}(h:dC w B g n C)(o:Obj):dC (w.alloc o) B g n C:=by obtain⟨F,h1,h2⟩:=h;refine⟨F,h1.alloc _,fun j hj=> ?_⟩;obtain⟨A,k,a,b,c⟩:=h2 j hj;exact⟨A,k,a,b,c.alloc _⟩
structure xH (w0 w:World) (v:Value) (q n:Nat) (G:Nat->Nat) (C:Nat->Nat->List Nat):Prop where
 row:w.ownsRow w0.heap.size 41 1 v q ((List.range q).map fun t=>.slice (some ⟨G t,0,none⟩) n n)
 tab:∀t,t<q->dC w w0.heap.size (G t) n (C t)
 below:Below w0.heap.size w0 w
theorem xH.nil(w0 w:World)(n:Nat)(G:Nat->Nat)(C:Nat->Nat->List Nat)(h:Below w0.heap.size w0 w):xH w0 w (.slice none 0 0) 0 n G C:=
 ⟨Nt _ _ _ _,fun _ ht=>absurd ht (O4 _),h⟩
theorem xH.push{w0 w w1:World}{A:Option Addr}{q cap n:Nat}{G:Nat->Nat}{C:Nat->Nat->List Nat}(h:xH w0 w (.slice A q cap) q n G C){g:Nat}{D:Nat->List Nat}(ht:dC w1 w.heap.size g n D)(hb:Below w.heap.size w w1)(hq:q<=1000)(hD:C q=D):
 ∃A2 cap2 w2,(Builtin.append_ #[161,161] 161 #[.slice A q cap,.slice (some ⟨w1.heap.size,0,none⟩) 1 1]).run prog (w1.alloc (.cells #[.slice (some ⟨g,0,none⟩) n n] 41))=.ok (.slice A2 (q+1) cap2) w2/\
  xH w0 w2 (.slice A2 (q+1) cap2) (q+1) n (fun t=>if t=q then g else G t) C:=by
 obtain⟨i2,h2,h6⟩:=Option.map_eq_some_iff.1 Mz;simp only[Ps]at h6;obtain⟨h9,ha,hc⟩:=h6;have h7:=h.below.size;have h4:=h.below.trans (hb.mono h7);have h0:=fw h.row hb;have h5:=h4.size
 obtain⟨v2,w2,hr,ho,hg,_,_⟩:=P1 (P:=prog) (w1.alloc (.cells #[.slice (some ⟨g,0,none⟩) n n] 41)) w0.heap.size 161 161 41 i2 (.slice none 0 0) 1 24 underlying161 h2 h9 ha hc rfl (by decide) _ _ _ (h0.alloc _) ⟨w1.heap.size,0,none⟩ 1 1 [.slice (some ⟨g,0,none⟩) n n] rfl (Q2 w1 _ _)
  (fun u hu=>by rw[List.mem_singleton.1 hu];rfl) (by unfold maxLen;omega) (by omega) (by simp;omega)
 obtain⟨A2,cap2,rfl,_,_,_⟩:=ai ho;refine⟨A2,cap2,w2,hr,?_,fun t h8=> ?_,?_⟩
 ·have h3:=ho
  rw[show ((List.range q).map fun t=>Value.slice (some ⟨G t,0,none⟩) n n)++ [.slice (some ⟨g,0,none⟩) n n]=(List.range (q+1)).map fun t=>.slice (some ⟨if t=q then g else G t,0,none⟩) n n by
   rw[Oh,Nz,QG,Nf rfl]
   congr 1
   apply Oe
   intro t h8
   have:=List.mem_range.1 h8
   rw[Nd]]at h3
  exact h3
 ·have h1:=h0.alloc (.cells #[.slice (some ⟨g,0,none⟩) n n] 41);by_cases e:t=q;·subst e;simp only[if_true];rw[hD];exact(((ht.mono h7).alloc' _).grown_row h1 hg)
  ·simp only[Nd e];exact((((h.tab t (by omega)).low_kept hb).alloc' _).grown_row h1 hg)
 ·exact(h4.alloc h5 _).grown hg (by simp;omega) (fun k hk=>(h0.lt k hk).1)
def MS(w:World)(v:Value)(q n:Nat)(C:Nat->Nat->List Nat):Prop:=
 ∃b c,v=.slice (some ⟨b,0,none⟩) q c/\∀t,t<q->∃g,w.cell? ⟨b,t,none⟩=some (.slice (some ⟨g,0,none⟩) n n)/\vv w g n (C t)
theorem xH.read{w0 w:World}{v:Value}{q n:Nat}{G:Nat->Nat}{C:Nat->Nat->List Nat}(h:xH w0 w v q n G C)(hq:0<q):MS w v q n C:=by obtain⟨A,c,rfl,_,_,hA⟩:=ai h.row;obtain⟨b,rfl⟩:=hA hq;refine⟨b,c,rfl,fun t ht=>⟨G t,?_,(h.tab t ht).read⟩⟩;rw[Oy h.row t (by omega),Np,NJ ht];rfl
def yR(T:List (List Int))(P L:List Int):Prop:=aV T P/\aH L.length<=P.length
instance (T:List (List Int)) (P L:List Int):Decidable (yR T P L):=inferInstanceAs (Decidable (_/\_))
def aT(T:List (List Int))(P L:List Int):List Nat×Nat:=
 if yR T P L then(if ∀x∈L,0<=x/\x<((T.getD 0 []).length:Int)then(dI (T.map nl) (nl P) (nl L) L.length,0)else([],60))else([],110)
theorem DJ(w:World)(v:Value)(T:List (List Int))(P:List Int)(h:aJ w v T P)(A':Option Addr)(n' c':Nat)(L:List Int)(hL:L.length=n')(hi:n'<=2000000)(hP:aV T P)(hM:¬yR T P L):
 Calls prog 68 #[v,.slice A' n' c'] w (aD w (aT T P L)):=by
 obtain⟨A,n,c,B,m,d,rfl,ha,h9,hf⟩:∃A n c B m d,v=.agg #[.slice A n c,.slice B m d]/\aJ w (.agg #[.slice A n c,.slice B m d]) T P/\P.length=m/\m<=maxLen:=by obtain⟨A,n,c,B,m,d,hv,h1,hj,hk,hg,hl,hh⟩:=id h;exact⟨A,n,c,B,m,d,hv,by rw[<- hv];exact h,hg.1,hh⟩
 clear h;obtain⟨w1,h2⟩:∃w1,w1=w.alloc (.cells #[.slice A n c,.slice B m d] 43):=⟨_,rfl⟩;have h1:Blk w1 w.heap.size 43 #[.slice A n c,.slice B m d]:=dW h2;have h4:Below w.heap.size w w1:=cB h2;have hc:w.heap.size<w1.heap.size:=aA h1;have q0:w1.cell? ⟨w.heap.size,0,none⟩=some (.slice A n c):=(ac h1 0).trans rfl;have q1:w1.cell? ⟨w.heap.size,1,none⟩=some (.slice B m d):=(ac h1 1).trans rfl;have h0:=aa (nm w1.drew _ T P (ha.below (h4.drew)));have h7:=aa fun(wx:World)=>kI wx n' (by omega);have h8:Hid (∀ w',Below w.heap.size w w'->aD w (aT T P L) (.returned (.tuple #[.slice none 0 0,.int .i64 110])) w'):=aa fun w' hb=>by rw[show aT T P L=([],110)from Nd hM];exact⟨_,rfl,Nt _ _ _ _,hb⟩
 have he:=aa h4;have h3:¬(aV T P/\aH n'<=m):=by rw[<- hL,<-h9];exact hM
 generalize aD w (aT T P L)=PO at*;obtain⟨z,hz⟩:∃z,z=aH n':=⟨_,rfl⟩;have hm:z<=50000:=by rw[hz];unfold aH;omega
 rw[<- hz]at h3 h7;unfold maxLen at hf;rw[show decide (aV T P)=true from Nn hP]at h0;have d0:decide ((m:Int)<(z:Int))=true:=Nn (by have:¬z<=m:=fun k=>h3 ⟨hP,k⟩;omega);clear h4 h1 ha hM h3 hP hz hL h9;go_enter func68,ntmps68;go_upto_region 1 with fail;rw[<- h2];clear h2
 go_region_held3 (fun w'=>w'.cell? ⟨w.heap.size,0,none⟩=some (.slice A n c)/\w'.cell? ⟨w.heap.size,1,none⟩=some (.slice B m d))
  (first|exact⟨q0,q1⟩|exact⟨p0,p1⟩|go_keep)
  (first
    | (go_at_call 117;refine h0.out.mono ?_;rintro e w2 ⟨rfl,h5⟩
       have p0:w2.cell? ⟨w.heap.size,0,none⟩=some (.slice A n c):=(h5.cell (p:=⟨w.heap.size,0,none⟩) hc).trans q0
       have p1:w2.cell? ⟨w.heap.size,1,none⟩=some (.slice B m d):=(h5.cell (p:=⟨w.heap.size,1,none⟩) hc).trans q1
       have h6:=aa (aq he.out.drew h5))
    | (go_at_call 120;refine(h7.out _).mono ?_;rintro e w3 ⟨rfl,rfl⟩))
 have dn:decide (m<z)=true:=Nn (by have:=Rn d0;omega);rw[dn];go_wp2_with fail;first|exact h8.out _ h6.out|(go_ret2;exact h8.out _ h6.out)
theorem DK(w:World)(v:Value)(T:List (List Int))(P:List Int)(h:aJ w v T P)(A':Option Addr)(n' c':Nat)(L:List Int)(hL:ZIn w A' n' L)(rR:n'<=2000000)(hM:yR T P L):
 Calls prog 68 #[v,.slice A' n' c'] w (aD w (aT T P L)):=by
 have pg:=h;obtain⟨A,n,c,B,m,d,rfl,hT,rb,hn,hP,r5,hm⟩:=h;have H6:=hT.1;have H5:=hP.1;have hJ:=hL.1;obtain⟨w1,H0⟩:∃w1,w1=w.alloc (.cells #[.slice A n c,.slice B m d] 43):=⟨_,rfl⟩;have hW:Blk w1 w.heap.size 43 #[.slice A n c,.slice B m d]:=dW H0;have hu:Below w.heap.size w w1:=cB H0;have hw:w.heap.size<w1.heap.size:=aA hW;have q0:w1.cell? ⟨w.heap.size,0,none⟩=some (.slice A n c):=(ac hW 0).trans rfl;have q1:w1.cell? ⟨w.heap.size,1,none⟩=some (.slice B m d):=(ac hW 1).trans rfl;have HQ:Hid (∀ wx,Below w1.heap.size w1 wx->wx.cell? ⟨w.heap.size,0,none⟩=some (.slice A n c)/\wx.cell? ⟨w.heap.size,1,none⟩=some (.slice B m d)):=aa fun wx h=>⟨(h.cell (p:=⟨w.heap.size,0,none⟩) hw).trans q0,(h.cell (p:=⟨w.heap.size,1,none⟩) hw).trans q1⟩;have hh:=aa (nm w1.drew _ T P (pg.below (hu.drew)));rw[show decide (aV T P)=true from Nn hM.1]at hh;have H2:=aa fun(wx:World)=>kI wx n' (by omega);obtain⟨n0,hF⟩:∃n0,n0=(T.getD 0 []).length:=⟨_,rfl⟩;obtain⟨pn,hV⟩:∃pn,pn=nl P:=⟨_,rfl⟩;have r6:=hM.1;obtain⟨r8,r9,r3,r4,hC,hO,HC⟩:=r6;rw[H6]at r8 r9 hO;rw[H5]at r3 r4;rw[<- hF]at hC HC;have hG:=(hC _ (iC (T:=T) (q:=0) (by omega))).2;have r7:n0<=258:=by rw[hF];exact hG.2.1
 have HB:aB w1 B m pn:=by rw[hV];exact dN (hP.below hu) fun x hx=>(hO x hx).1
 have hH:∀x∈pn,x<n:=by intro x hx;rw[hV]at hx;obtain⟨y,hy,rfl⟩:=List.mem_map.1 hx;have:=hO y hy;omega
 have HI:aH n'<=m:=by have:=hM.2;rw[hJ,H5]at this;exact this
 have qo:n'<=50*m:=by unfold aH at HI;omega
 have hD:aT T P L=if ∀x∈L,0<=x/\x<(n0:Int)then(dI (T.map nl) pn (nl L) n',0)else([],60):=by unfold aT;rw[Nf hM,<-hF,<-hV,hJ]
 have HS:Hid (∀ (v:Value) (a:List Nat×Nat) w',aT T P L=a->w'.ownsRow w1.heap.size 3 1 v a.1.length (a.1.map iv)->Below w1.heap.size w1 w'->aD w (aT T P L) (.returned (.tuple #[v,.int .i64 a.2])) w'):=aa fun v a w' h1 h2 h3=>by rw[h1];exact⟨v,rfl,World.ownsRow.mono h2 (NT hw),hu.trans (h3.mono (NT hw))⟩
 have HT:=aa (hT.below hu);have HL:=aa (hL.below hu);have pv:=aa HB;have q4:=aa hH;have qa:=aa hC;have q8:=aa H6;have HP:=aa hJ;have q5:Hid (pn.length=m):=aa HB.1;have q2:=aa hF;obtain⟨z,hz⟩:∃z,z=aH n':=⟨_,rfl⟩;rw[<- hz]at HI H2;have HM:Hid (∀ t,t<n->fy ((T.map nl).getD t [])/\((T.map nl).getD t []).length=n0/\(T.map nl).getD t []=nl (T.getD t [])):=aa fun t ht=>by have h1:=hC _ (iC (T:=T) (q:=t) (by omega));have h2:(T.map nl).getD t []=nl (T.getD t []):=(by rw[Na,Np,Na,Nc (by omega)];rfl);rw[h2,bN];exact⟨fM h1.2,h1.1,rfl⟩
 generalize aD w (aT T P L)=PO at*;generalize aT T P L=ans at*;have hA:=aa hD;have dn:decide (m<z)=false:=aR;clear hT hP hL H6 H5 hJ HB pg hH hC hO hV hD hM rb hn r5 hm hW hu hG hF hz HI;go_enter func68,ntmps68;go_upto_region 1 with fail;rw[<- H0];clear H0
 go_region_held3 (fun w'=>w'.cell? ⟨w.heap.size,0,none⟩=some (.slice A n c)/\w'.cell? ⟨w.heap.size,1,none⟩=some (.slice B m d))
  (first|exact⟨q0,q1⟩|exact⟨p0,p1⟩|go_keep)
  (first
    | (go_at_call 117;refine hh.out.mono ?_;rintro e w2 ⟨rfl,H8⟩
       have p0:w2.cell? ⟨w.heap.size,0,none⟩=some (.slice A n c):=(H8.cell (p:=⟨w.heap.size,0,none⟩) hw).trans q0
       have p1:w2.cell? ⟨w.heap.size,1,none⟩=some (.slice B m d):=(H8.cell (p:=⟨w.heap.size,1,none⟩) hw).trans q1
       have HJ:=aa ((Nj _ w1).drew.trans H8))
    | (go_at_call 120;refine(H2.out _).mono ?_;rintro e w3 ⟨rfl,rfl⟩))
 go_wp2_with fail;clear dn hh H2 q0 q1;rename World=>w2;go_loopw [7,8] (fun tv iv' wx=>∃(t:Nat) (G:Nat->Nat),t<=n/\iv'=.int .i64 t/\xH w1 wx tv t n0 G fun j=>cV ((T.map nl).getD j [])) (fun _ iv' _=>n-(intOf iv').toNat)
 case atStart=>exact⟨0,fun _=>0,Ng _,rfl,xH.nil _ _ _ _ _ HJ.out⟩
 case round=>
  clear HJ p0 p1;obtain⟨t,G,ht,rfl,hf⟩:=hrel;have HU:=aa hf;obtain⟨p0,p1⟩:=HQ.out _ hf.below;obtain⟨A5,c5,rfl,_,_,_⟩:=ai hf.row;by_cases et:t<n
  ·have rv:(0:Int)<=(t:Int):=(by omega);have s8:(t:Int)<(n:Int):=(by omega);obtain⟨b,off,rfl,hc⟩:=(HT.out.below hf.below).2 (by omega);obtain⟨A2,c2,h1,h2,h3,h4⟩:=hc t et;have ho:=HM.out t et;have hY:=qa.out _ (iC (T:=T) (q:=t) (by rw[q8.out];exact et));obtain⟨K,hK⟩:∃K,K=T.getD t []:=⟨_,rfl⟩;rw[<- hK]at h1 h2 h3 h4 ho hY;rw[hY.1]at h1 h2 h3 h4;have q9:=aa (Hu _ A2 n0 c2 K h2 hY.2);have HD:Hid (cV ((T.map nl).getD t [])=cV (nl K)):=aa (by rw[ho.2.2]);clear hf hc h2 h3 h4 ho hY hK;go_wp2_with fail;refine q9.out.mono ?_;rintro e w5 ⟨g,rfl,hg,HX⟩;obtain⟨A6,c6,w6,pj,hI⟩:=HU.out.push hg HX (by omega) HD.out;have q6:=aa pj;have H3:=aa hI;clear hg HX pj hI;(go_wp2_with (at_builtin;refine Lib.wpList_append_run _ rfl (.tmp 29) (.tmp 36) 161 161 rfl (.slice A5 t c5) (.slice (some ⟨w5.heap.size,0,none⟩) 1 1) rfl rfl _ _ q6.out ?_));go_roundw;case rel=>exact⟨t+1,_,by omega,by go_num,H3.out⟩
   case measure=>simp[intOf];omega
  ·obtain rfl:t=n:=(by omega);rename World=>w6;obtain⟨bv,cv,hv,h6⟩:=hf.read (by omega);simp only[Ol]at hv;obtain⟨rfl,_,rfl⟩:=hv;have HK:=aa hf.below;(have ps:Hid (∀ wx,Below w6.heap.size w6 wx->∀j,j<t->∃g,wx.cell? ⟨bv,j,none⟩=some (.slice (some ⟨g,0,none⟩) n0 n0)/\vv wx g n0 (cV ((T.map nl).getD j []))):=aa fun wx hb j hj=>by obtain⟨g,h1,h2⟩:=h6 j hj;exact⟨g,(hb.cell (p:=⟨bv,j,none⟩) (No w6 _ h1)).trans h1,h2.below hb⟩);clear hf HU h6;go_wp2_with fail;(go_loopw [6,9] (fun ov iv' wx=>∃(q:Nat) (X:List Nat),q<=n'/\iv'=.int .i64 q/\Hid (X=dI (T.map nl) pn (nl L) q)/\X.length<=20*q/\Hid (∀ x∈L.take q,0<=x/\x<(n0:Int))/\wx.ownsRow w6.heap.size 3 1 ov X.length (X.map iv)/\Below w6.heap.size w6 wx) (fun _ iv' _=>n'-(intOf iv').toNat));case atStart=>exact⟨0, [],Ng _,rfl,aa rfl,Nk _,aa (by simp),Nt _ _ _ _,Nj _ _⟩
   case round=>
    clear p0 p1;rename World=>wy;obtain⟨q,X,hq,rfl,hX,ql,h9,h7,hE⟩:=hrel;have h5:=aq HK.out hE;obtain⟨p0,p1⟩:=HQ.out _ h5;obtain⟨A8,c8,rfl,_,_,_⟩:=ai h7;obtain⟨N,hN⟩:∃N,N=X.length:=⟨_,rfl⟩;rw[<- hN]at h7 ql |-;have hl:=aa h7;have H1:=aa hE;have ha:=aa h5;have HN:=aa hN;by_cases e:q<n'
    ·have rs:(0:Int)<=(q:Int):=(by omega);have s7:(q:Int)<(n':Int):=(by omega);obtain⟨bl,ol,rfl,p4⟩:=(HL.out.below h5).2 (by omega);have HA:=p4 q e;have HG:=cK L q (by rw[HP.out];exact e);have hS:(nl L).getD q 0=(L.getD q 0).toNat:=nf L q;obtain⟨x,hx⟩:∃x,x=L.getD q 0:=⟨_,rfl⟩;rw[<- hx]at HA HG hS;have HV:=aa HG;obtain⟨b0,o0,rfl,p2⟩:=(HT.out.below h5).2 (by omega);obtain⟨A0,c0,H4,_⟩:=p2 0 (by omega);rw[<- q2.out]at H4;have HW:=H4;rw[NY]at HW;have rv:(0:Int)<(t:Int):=(by omega);clear p4 p2 hx HG hN h7 h5;by_cases e1:0<=x/\x<(n0:Int)
     ·obtain⟨y,rfl⟩:∃y:Nat,x=y:=⟨x.toNat,by omega⟩;have po:y<n0:=(by omega);have e2:decide ((y:Int)<0)=false:=aR;have s0:¬n0<=y:=(by omega);have e3:decide ((n0:Int)<=(y:Int))=false:=aR;obtain⟨k,hk⟩:∃k,k=q/50:=⟨_,rfl⟩;have p9:(q:Int)/50=(k:Int):=(by omega);have r0:(q:Int).tdiv 50=(k:Int):=(by rw[Int.tdiv_eq_ediv_of_nonneg rs];exact p9);have p8:IntKind.i64.wrap (k:Int)=(k:Int):=(by rw[Of];omega);have r1:IntKind.i64.wrap ((q:Int).tdiv 50)=(k:Int):=(by rw[r0,p8]);have r2:IntKind.i64.wrap ((q:Int)/50)=(k:Int):=(by rw[p9,p8]);have p7:k<m:=(by omega);have rO:(0:Int)<=(k:Int):=(by omega);have qx:(k:Int)<(m:Int):=(by omega);obtain⟨bp,op,rfl,p5⟩:=(cF pv.out ha.out).2 (by omega);have hp:=p5 k p7;have HF:=q4.out _ (mc (L:=pn) (j:=k) (by rw[q5.out];exact p7));have h0:=ky (T.map nl) pn (nl L) q;rw[<- hk,hS,Nv,<-hX.out]at h0;obtain⟨pk,pf⟩:∃pk,pk=pn.getD k 0:=⟨_,rfl⟩;rw[<- pf]at hp HF h0;have s6:(0:Int)<=(pk:Int):=(by omega);have rl:(pk:Int)<(t:Int):=(by omega);have s9:(0:Int)<=(y:Int):=(by omega);have rM:(y:Int)<(n0:Int):=(by omega);obtain⟨g,p3,pm⟩:=ps.out _ H1.out pk HF;have ho:=HM.out pk HF;obtain⟨A7,c7,hR,hs,qs⟩:=pm y po;obtain⟨Z,hZ⟩:∃Z,Z=cV ((T.map nl).getD pk []) y:=⟨_,rfl⟩;have qm:Z.length<=20:=(by rw[hZ,eJ];exact(ho.1.one (i:=y) (by rw[ho.2.1];exact po)).2);rw[<- hZ]at hR hs h0;obtain⟨r,hr⟩:∃r,r=Z.length:=⟨_,rfl⟩;rw[<- hr]at hR hs qm
      have qb:Hid (∀ x∈L.take (q+1),0<=x/\x<(n0:Int)):=aa (by
       rw[HV.out]
       intro x hx
       rcases List.mem_append.1 hx with hx|hx
       ·exact h9.out x hx
       ·rw[List.mem_singleton.1 hx]
        exact e1)
      have HO:=aa hs;have hB:=aa h0;have HR:=aa hr;clear hk p5 pf pm ho hs qs hZ h0 hr hX h9 hS hE e1;go_wp2_with fail;go_quiet (fail);go_upto_region 14 with fail;have s1:(wy.drewN nq).cell? ⟨w.heap.size,1,none⟩=some (.slice (some ⟨bp,op,none⟩) m d):=p1;have s2:(wy.drewN nq).cell? ⟨bp,op+k,none⟩=some (.int .i64 (pk:Nat)):=hp;have s3:(wy.drewN nq).cell? ⟨bv,pk,none⟩=some (.slice (some ⟨g,0,none⟩) n0 n0):=p3;have s4:(wy.drewN nq).cell? ⟨bl,ol+q,none⟩=some (.int .i64 (y:Nat)):=HA;have s5:(wy.drewN nq).cell? ⟨g,y,none⟩=some (.slice A7 r c7):=hR;have h8:(wy.drewN nq).ownsRow w6.heap.size 3 1 (.slice A8 N c8) N (X.map iv):=hl.out;have hs:aB (wy.drewN nq) A7 r Z:=cF HO.out (ax (Nj _ _) _);have HY:Below w6.heap.size w6 (wy.drewN nq):=ax H1.out _;clear p0 p1 hp p3 HA hR H4 HW hl HO H1 ha;generalize wy.drewN nq=w7 at*;have hQ:Below w6.heap.size w6 w7.drew:=HY.drew;obtain⟨v9,w9,pl,HE,p6⟩:=bB w7.drew w6.heap.size _ N _ (show w7.drew.ownsRow w6.heap.size 3 1 (.slice A8 N c8) N (X.map iv)from h8) A7 r c7 Z (cF hs ((Nj _ _).drew)) (by omega) hQ.size;have HZ:Below w6.heap.size w6 w9:=hQ.grown p6 hQ.size (fun k hk=>(NS h8 k hk).1);rw[<- Nz]at HE;have q3:=aa HE;have pr:=aa HZ;have q7:=aa pl;clear h8 hs HY hQ pl HE p6 HZ;(go_still_tail 16,(by kernel_rfl));change wpList _ _ _ _ _ w7.drew;clear s1 s2 s3 s4 s5;generalize w7.drew=w8 at*;(go_wp2_with (at_builtin;refine Lib.wpList_append_run _ rfl (.tmp 61) (.tmp 76) 37 37 rfl (.slice A8 N c8) (.slice A7 r c7) rfl rfl _ _ q7.out ?_));go_roundw;case rel=>
       refine⟨q+1,X++Z,by omega,by go_num,aa hB.out.symm,?_,qb,?_,pr.out⟩;·rw[Nb,<-HN.out,<-HR.out];omega
       ·rw[Nb,<-HN.out,<-HR.out];exact q3.out
      case measure=>simp[intOf];omega
     ·have pb:ans=([],60):=(by rw[hA.out,if_neg];intro H7;refine e1 (H7 x ?_);have h1:x∈L.take (q+1):=(by rw[HV.out];exact OX _ (List.mem_singleton.2 rfl));exact OC h1);have hi:=aa fun k=>HS.out (.slice none 0 0) _ (wy.drewN k) pb (Nt _ _ _ _) (ax ha.out _);clear pb hX h9 hS hE;by_cases e2:x<0;·have e3:decide (x<0)=true:=Nn e2;clear e1;go_wp2_with fail;go_quiet (fail);go_wp2_with fail;first|exact hi.out _|(go_ret2;exact hi.out _)
      ·have e3:decide (x<0)=false:=Nl e2;have e4:decide ((n0:Int)<=x)=true:=bE;clear e1;go_wp2_with fail;go_quiet (fail);go_wp2_with fail;first|exact hi.out _|(go_ret2;exact hi.out _)
    ·obtain rfl:q=n':=(by omega);have HH:=h9.out;rw[Nr (Oi HP.out)]at HH;have he:ans=(X,0):=(by rw[hA.out,Nf HH,hX.out]);have hi:=aa (HS.out (.slice A8 N c8) (X,0) wy he (by show wy.ownsRow w1.heap.size 3 1 (.slice A8 N c8) X.length (X.map iv);rw[<- HN.out];exact World.ownsRow.mono hl.out HK.out.size) ha.out);clear HH he hX h9 h7 hE hN h5;go_wp2_with fail;first|exact hi.out|(go_ret2;exact hi.out)
theorem DI(w:World)(v:Value)(T:List (List Int))(P:List Int)(h:aJ w v T P)(A':Option Addr)(n' c':Nat)(L:List Int)(hM:¬aV T P):
 Calls prog 68 #[v,.slice A' n' c'] w (aD w (aT T P L)):=by
 obtain⟨A,n,c,B,m,d,rfl,h8⟩:∃A n c B m d,v=.agg #[.slice A n c,.slice B m d]/\aJ w (.agg #[.slice A n c,.slice B m d]) T P:=by obtain⟨A,n,c,B,m,d,hv,h1,hc,he,hf,hg,hh⟩:=id h;exact⟨A,n,c,B,m,d,hv,by rw[<- hv];exact h⟩
 clear h;obtain⟨w1,h3⟩:∃w1,w1=w.alloc (.cells #[.slice A n c,.slice B m d] 43):=⟨_,rfl⟩;have h1:Blk w1 w.heap.size 43 #[.slice A n c,.slice B m d]:=dW h3;have h4:Below w.heap.size w w1:=cB h3;have h9:w.heap.size<w1.heap.size:=aA h1;have q0:w1.cell? ⟨w.heap.size,0,none⟩=some (.slice A n c):=(ac h1 0).trans rfl;have q1:w1.cell? ⟨w.heap.size,1,none⟩=some (.slice B m d):=(ac h1 1).trans rfl;have h0:=aa (nm w1.drew _ T P (h8.below (h4.drew)));have h6:Hid (∀ w',Below w.heap.size w w'->aD w (aT T P L) (.returned (.tuple #[.slice none 0 0,.int .i64 110])) w'):=aa fun w' hb=>by rw[show aT T P L=([],110)from Nd (fun k=>hM k.1)];exact⟨_,rfl,Nt _ _ _ _,hb⟩
 have ha:=aa h4;generalize aD w (aT T P L)=PO at*;rw[show decide (aV T P)=false from Nl hM]at h0;clear h4 h1 h8 hM;go_enter func68,ntmps68;go_upto_region 1 with fail;rw[<- h3];clear h3;refine wp_region_held_drew (S:=fun w'=>w'.cell? ⟨w.heap.size,0,none⟩=some (.slice A n c)/\w'.cell? ⟨w.heap.size,1,none⟩=some (.slice B m d)) (by kernel_rfl) ⟨q0,q1⟩ (fun hHeld=> ?_);refine OH (i:=0) (v:=.agg #[.slice A n c,.slice B m d]) rfl (by kernel_rfl) (by kernel_rfl) (by kernel_rfl) (fun _ _ _ h=>h) (Or.inl ⟨by rfl,?hy⟩) (by assumption) ?_;case hy=>intro w h7;(try dsimp only at h7);obtain⟨s0,s1⟩:=h7;go_simp
 (try simp only[NX,NR,Act.put,NK,N3,NZ]);refine wpAnyH_ready (rs:= [1]) (by kernel_rfl) (by simp) (AllReadyH.cons rfl (fun K hK=> ?_) AllReadyH.nil);go_simp;go_at_call 117;refine h0.out.mono ?_;rintro e w2 ⟨rfl,h2⟩;have p0:w2.cell? ⟨w.heap.size,0,none⟩=some (.slice A n c):=(h2.cell (p:=⟨w.heap.size,0,none⟩) h9).trans q0;have p1:w2.cell? ⟨w.heap.size,1,none⟩=some (.slice B m d):=(h2.cell (p:=⟨w.heap.size,1,none⟩) h9).trans q1;have h5:=aa (aq ha.out.drew h2);dsimp only;refine hK.out _ _ ⟨p0,p1⟩ (fun hHeld2=> ?_);clear hK K h2 h0 hHeld;(try simp only[NX,NV,NR,Act.put,NK,N3,NZ]);refine OH (i:=2) (v:=.bool true) rfl (by kernel_rfl) (by kernel_rfl) (by kernel_rfl) (fun _ _ _ h=>h) (Or.inl ⟨by rfl,fun w _=>by go_simp⟩) (by assumption) ?_;(try simp only[NX,NV,NR,Act.put,NK,N3,NZ]);refine OH (i:=3) (v:=.bool true) rfl (by kernel_rfl) (by kernel_rfl) (by kernel_rfl) (fun _ _ _ h=>h) (Or.inl ⟨by rfl,fun w _=>by go_simp⟩) (by assumption) ?_;(try simp only[NX,NV,NR,Act.put,NK,N3,NZ]);refine OH (i:=4) (v:=undef) rfl (by kernel_rfl) (by kernel_rfl) (by kernel_rfl) (fun _ _ _ h=>h) (Or.inr ⟨by rfl,rfl⟩) (by assumption) ?_;(try simp only[NX,NV,NR,Act.put,NK,N3,NZ]);refine OH (i:=5) (v:=undef) rfl (by kernel_rfl) (by kernel_rfl) (by kernel_rfl) (fun _ _ _ h=>h) (Or.inr ⟨by rfl,rfl⟩) (by assumption) ?_;(try simp only[NX,NV,NR,Act.put,NK,N3,NZ]);refine OH (i:=6) (v:=undef) rfl (by kernel_rfl) (by kernel_rfl) (by kernel_rfl) (fun _ _ _ h=>h) (Or.inr ⟨by rfl,rfl⟩) (by assumption) ?_;(try simp only[NX,NV,NR,Act.put,NK,N3,NZ]);refine OH (i:=7) (v:=undef) rfl (by kernel_rfl) (by kernel_rfl) (by kernel_rfl) (fun _ _ _ h=>h) (Or.inr ⟨by rfl,rfl⟩) (by assumption) ?_;(try simp only[NX,NV,NR,Act.put,NK,N3,NZ]);refine OH (i:=8) (v:=undef) rfl (by kernel_rfl) (by kernel_rfl) (by kernel_rfl) (fun _ _ _ h=>h) (Or.inr ⟨by rfl,rfl⟩) (by assumption) ?_;(try simp only[NX,NV,NR,Act.put,NK,N3,NZ]);refine OH (i:=9) (v:=undef) rfl (by kernel_rfl) (by kernel_rfl) (by kernel_rfl) (fun _ _ _ h=>h) (Or.inr ⟨by rfl,rfl⟩) (by assumption) ?_;(try simp only[NX,NV,NR,Act.put,NK,N3,NZ]);refine OH (i:=10) (v:=undef) rfl (by kernel_rfl) (by kernel_rfl) (by kernel_rfl) (fun _ _ _ h=>h) (Or.inr ⟨by rfl,rfl⟩) (by assumption) ?_;(try simp only[NX,NV,NR,Act.put,NK,N3,NZ]);refine OH (i:=11) (v:=.bool true) rfl (by kernel_rfl) (by kernel_rfl) (by kernel_rfl) (fun _ _ _ h=>h) (Or.inl ⟨by rfl,fun w _=>by go_simp⟩) (by assumption) ?_;(try simp only[NX,NV,NR,Act.put,NK,N3,NZ]);refine wpAnyH_done (by kernel_rfl) ?_ _;go_wp2_with fail;first|exact h6.out _ h5.out|(go_ret2;exact h6.out _ h5.out)
theorem uQ(w:World)(v:Value)(T:List (List Int))(P:List Int)(h:aJ w v T P)(A':Option Addr)(n' c':Nat)(L:List Int)(hL:ZIn w A' n' L)(h0:n'<=2000000):
 Calls prog 68 #[v,.slice A' n' c'] w (aD w (aT T P L)):=by
 by_cases hP:aV T P
 ·by_cases hM:yR T P L;·exact DK w v T P h A' n' c' L hL h0 hM
  ·exact DJ w v T P h A' n' c' L hL.1 h0 hP hM
 ·exact DI w v T P h A' n' c' L hP
