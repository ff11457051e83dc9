import Derived.Test.YtfhgikojdfblpaaGreatM18
set_option maxHeartbeats 3200000
set_option maxRecDepth 100000
namespace Go.Proofs.YtfhgikojdfblpaaGreat
open _root_.Go.Proofs.Tryz
open Go.RowKit
theorem zV(T:List (List Nat))(P L:List Nat)(q:Nat):au (dI T P L q):=fun b hb=>by
 unfold dI at hb
 obtain⟨i,_,hi⟩:=List.mem_flatMap.1 hb
 exact aQ _ _ b hi
theorem pG(T:List (List Nat))(P L:List Nat)(h:∀t∈T,∀x∈t,x<=20):∀q,(dI T P L q).length<=20*q
 | 0=>Nk _
 | q+1=>by
  have h1:=pG T P L h q;have h2:((T.getD (P.getD (q/50) 0) []).getD (L.getD q 0) 0)<=20:=by
   rcases N1 (P.getD (q/50) 0) T.length with h3|h3
   ·have h4:T.getD (P.getD (q/50) 0) []∈T:=(by rw[Na,Nc h3];exact NM h3);rcases N1 (L.getD q 0) (T.getD (P.getD (q/50) 0) []).length with h5|h5;·exact h _ h4 _ (mc h5)
    ·have h6:(T.getD (P.getD (q/50) 0) [])[L.getD q 0]? =none:=Nw h5;rw[Na (l:=T.getD (P.getD (q/50) 0) []),h6];exact Ng _
   ·have h6:T[P.getD (q/50) 0]? =none:=Nw h3;rw[Na (l:=T),h6];exact Ng _
  rw[ky,Nb,eJ];omega
theorem rH(T:List (List Int))(P L:List Int):au (aT T P L).1:=by
 unfold aT;split
 ·split;·exact zV _ _ _ _
  ·intro b hb;cases hb
 ·intro b hb;cases hb
theorem dY(T:List (List Int))(P L:List Int)(hL:L.length<=2000000):(aT T P L).1.length<=40000000:=by
 unfold aT;split
 ·rename_i hM;split
  ·have:=pG (T.map nl) (nl P) (nl L) (fun t ht x hx=>by
    obtain⟨t2,h0,rfl⟩:=List.mem_map.1 ht
    exact(EC (jy (hM.1.2.2.2.2.1 t2 h0).2) x hx).2) L.length
   show(dI (T.map nl) (nl P) (nl L) L.length).length<=40000000;omega
  ·exact Ng _
 ·exact Ng _
theorem rI(T:List (List Int))(P L:List Int):(aT T P L).2<=110:=by
 unfold aT;split
 ·split;·exact Ng _
  ·show 60<=110;omega
 ·exact Nk _
def du(T:List (List Int))(P L:List Int):Nat×Nat:=if(aT T P L).2=0 then((cP T P).1.length+(aT T P L).1.length,0)else(0,(aT T P L).2)
theorem G7(w:World)(v:Value)(T:List (List Int))(P:List Int)(h:aJ w v T P)(A':Option Addr)(n' c':Nat)(L:List Int)(hL:ZIn w A' n' L)(hl:n'<=2000000):
 Calls prog 114 #[v,.slice A' n' c'] w fun e w'=>e=.returned (.tuple #[.int .i64 (du T P L).1,.int .i64 (du T P L).2])/\Below w.heap.size w w':=by
 obtain⟨A,n,c,B,m,d,rfl,hj⟩:∃A n c B m d,v=.agg #[.slice A n c,.slice B m d]/\aJ w (.agg #[.slice A n c,.slice B m d]) T P:=by obtain⟨A,n,c,B,m,d,hv,hr⟩:=id h;exact⟨A,n,c,B,m,d,hv,by rw[<- hv];exact h⟩
 clear h;obtain⟨w1,h7⟩:∃w1,w1=w.alloc (.cells #[.slice A n c,.slice B m d] 43):=⟨_,rfl⟩;have hf:Blk w1 w.heap.size 43 #[.slice A n c,.slice B m d]:=dW h7;have h9:Below w.heap.size w w1:=cB h7;have hm:w.heap.size<w1.heap.size:=aA hf;have q0:w1.cell? ⟨w.heap.size,0,none⟩=some (.slice A n c):=(ac hf 0).trans rfl;have q1:w1.cell? ⟨w.heap.size,1,none⟩=some (.slice B m d):=(ac hf 1).trans rfl;have HQ:Hid (∀ wx,Below w1.heap.size w1 wx->wx.cell? ⟨w.heap.size,0,none⟩=some (.slice A n c)/\wx.cell? ⟨w.heap.size,1,none⟩=some (.slice B m d)):=aa fun wx h=>⟨(h.cell (p:=⟨w.heap.size,0,none⟩) hm).trans q0,(h.cell (p:=⟨w.heap.size,1,none⟩) hm).trans q1⟩;have hc:=aa (uQ w1 _ T P (hj.below h9) A' n' c' L (hL.below h9) hl);have hi:=aa fun(wx:World) (hb:Below w1.heap.size w1 wx)=>uP wx _ T P ((hj.below h9).below hb);have h3:=dY T P L (by rw[hL.1];exact hl);have h2:=eH T P;have ha:=rI T P L;have h1:du T P L=if(aT T P L).2=0 then((cP T P).1.length+(aT T P L).1.length,0)else(0,(aT T P L).2):=rfl
 have hg:=aa h9;generalize du T P L=ans at*;generalize aT T P L=cs at*;generalize cP T P=bs at*;obtain⟨cl,ck⟩:=cs;obtain⟨bl,bk⟩:=bs;dsimp only at h3 h2 ha h1;obtain⟨N,hN⟩:∃N,N=cl.length:=⟨_,rfl⟩;obtain⟨K,hK⟩:∃K,K=bl.length:=⟨_,rfl⟩;rw[<- hN]at h3 h1;rw[<- hK]at h2 h1;have HN:=aa hN;have HK:=aa hK;rw[h7]at q0 q1;clear hj hL hf h9 hN hK;by_cases h0:ck=0;·subst h0;rw[Nf rfl]at h1;have h5:=aa h1;clear h1;go_enter func114,ntmps114;go_wp2_with fail;rw[<- h7];clear q0 q1 h7;refine hc.out.mono ?_;rintro e w3 ⟨v3,rfl,h4,h6⟩;dsimp only at h4 |-;rw[<- HN.out]at h4;obtain⟨A3,c3,rfl,_,_,_⟩:=ai h4;obtain⟨p0,p1⟩:=HQ.out _ h6;have h8:=aa (hi.out _ h6);have hh:=aa h6;clear h4 h6 hi hc;go_wp2_with fail;refine h8.out.mono ?_;rintro e w4 ⟨v4,rfl,he,hk⟩;dsimp only at he |-;rw[<- HK.out]at he;obtain⟨A4,c4,rfl,_,_,_⟩:=ai he;have hn:=aa (hg.out.trans ((aq hh.out hk).mono hg.out.size));clear he hk h8;go_wp2_with fail;go_ret2;exact⟨by rw[h5.out];rfl,hn.out⟩
 ·have d0:((ck:Int) != 0)=true:=(by rw[Pe];omega);rw[Nd h0]at h1;have h5:=aa h1;clear h1 h0;go_enter func114,ntmps114;go_wp2_with fail;rw[<- h7];clear q0 q1 h7;refine hc.out.mono ?_;rintro e w3 ⟨v3,rfl,h4,h6⟩;dsimp only at h4 |-;rw[<- HN.out]at h4;obtain⟨A3,c3,rfl,_,_,_⟩:=ai h4;have hh:=aa (aq hg.out h6);clear h4 h6 hi hc;go_wp2_with fail;go_ret2;exact⟨by rw[h5.out];rfl,hh.out⟩
theorem Cp{P:Program}{f:FuncId}{args:Array Value}{w:World}{R:Ending->World->Prop}(h:Calls P f args w R):∃e w',R e w':=by obtain⟨e,w',_,hR,_⟩:=h [];exact⟨e,w',hR⟩
theorem L8(w:World)(L:List Int):ZIn (w.alloc (.cells (L.map fun(x:Int)=>Value.int .i64 x).toArray 3)) (some ⟨w.heap.size,0,none⟩) L.length L:=by refine⟨rfl,fun _=>⟨w.heap.size,0,rfl,fun i hi=> ?_⟩⟩;rw[N8,ac (aj w 3 _)];simp[hi]
theorem iz(l:List Nat):(zL l).length=l.length:=Nu _
theorem kG(W:List Nat):(yn W).length=W.length:=Nu _
def pi(l:List Nat)(n:Nat):Prop:=l.length=n/\bK (zL l)/\bR (zL l)=1048576
theorem tX{n:Nat}{len:Nat->Nat}(h2:2<=n)(hn:n<=258)(hl:∀i,i<n->len i<=20)(hs:((List.range n).map fun i=>2^(20-len i)).sum=2^20):pi ((List.range n).map len) n:=by have h:=JH h2 hn hl hs;exact⟨by simp,h.1,h.2⟩
theorem wR(w:World)(W:List Nat)(h2:2<=W.length)(hn:W.length<=258)(hx:∀x∈W,x<=1073741824):pi (dH W) W.length:=by
 have hM:gU (zL W):=⟨by rw[iz];exact h2,by rw[iz];exact hn,fun x hx'=>by
  obtain⟨y,hy,rfl⟩:=List.mem_map.1 hx'
  have:=hx y hy
  exact⟨by omega,by omega⟩⟩
 obtain⟨e,w',hR⟩:=Cp (AO (w.alloc (.cells ((zL W).map fun(x:Int)=>Value.int .i64 x).toArray 3)) (some ⟨w.heap.size,0,none⟩) (zL W).length (zL W).length (zL W) 17 (L8 w (zL W)) hM (by omega) (by omega));rcases hR with⟨h1,_⟩|⟨_,_,_,v,len,hm,_⟩
 ·rcases h1 with h|h|h;·exact absurd hM h
  ·omega
  ·omega
 ·have e1:gK (zL W)=yn W:=ly W;rw[e1]at hm;have h0:iG (yn W) 17 len:=hm;have hg:=ut h0;rw[kG]at hg;have h:=tX h2 hn (fun i hi=>by have:=hg.1 i hi;omega) (hg.2 20 (by omega));unfold dH;rw[ur h0];exact h
theorem F3(W:List Nat)(h2:2<=W.length)(hn:W.length<=258):pi (mr W) W.length:=by
 obtain⟨k,hk⟩:∃k,k=Nat.log2 W.length:=⟨_,rfl⟩;have h1:2^k<=W.length:=by rw[hk];exact Nat.log2_self_le (by omega)
 have h3:W.length<2^(k+1):=by rw[hk];exact Nat.lt_log2_self
 have h0:k<=8:=by
  rcases N1 8 k with h|h;·have h4:2^9<=2^k:=Od (by decide) h;omega
  ·exact h
 have hs:=CZ (yn W) k (by rw[kG];exact h1) (by rw[kG];exact h3) 20 (by omega);rw[kG]at hs;have h:=tX h2 hn (fun i _=>by unfold bj;split <;>omega) hs;unfold mr;rw[<- hk];exact h
theorem eC(L P:List Nat)(t n:Nat):(aM L P t n).length=n:=by simp[aM]
theorem CI(L P:List Nat)(t n:Nat):∀x∈aM L P t n,x<=L.length:=by intro x hx;obtain⟨s,_,rfl⟩:=List.mem_map.1 hx;exact ie L P t s L.length
theorem fk(L:List Nat)(n T:Nat):∀r,(bF L n T r).1.length=T
 | 0=>by simp[bF,Kz]
 | r+1=>by simp[bF,yG]
def eX(T:List (List Int))(P L:List Int)(m:Int):Prop:=aV T P/\P.length=aH L.length/\∀t∈T,(t.length:Int)=m/\bK t/\bR t=1048576
theorem Av{n:Nat}(h:1<=n)(h2:n<=1638350):1<=aH n/\aH n<=32767:=by unfold aH;omega
theorem Eu{T:List (List Int)}{P L:List Int}{m:Int}(hM:eY L m)(h2:2<=T.length)(h6:T.length<=6)(hP:P.length=aH L.length)(hx:∀x∈P,0<=x/\x<(T.length:Int))(ht:∀t∈T,(t.length:Int)=m/\bK t/\bR t=1048576):eX T P L m:=by have hg:=Av hM.2.2.1 hM.2.2.2.1;have h0:(T.getD 0 [])∈T:=iC (by omega);have hm:=(ht _ h0).1;have h3:=hM.1;exact⟨⟨h2,h6,by omega,by omega,fun t h=>⟨by have:=(ht t h).1;omega,(ht t h).2.1⟩,hx,by omega⟩,hP,ht⟩
theorem ER{l:List Nat}{m:Int}{n:Nat}(h:pi l n)(hm:(n:Int)=m):((zL l).length:Int)=m/\bK (zL l)/\bR (zL l)=1048576:=⟨by rw[iz,h.1];exact hm,h.2.1,h.2.2⟩
theorem rX(L:List Int):(gu L).length=L.length:=Nu _
theorem mT(w:World){L:List Int}{m:Int}(hM:eY L m):eX (aG L m).1 (aG L m).2.1 L m:=by
 have hT:=nu L.length;have hm:((m.toNat:Nat):Int)=m:=PH (by have:=hM.1;omega);have h3:=hM.1;have h0:=hM.2.1;have h2:=hM.2.2.2.1;rw[aG,Nf hM];refine Eu hM ?_ ?_ ?_ ?_ ?_;·rw[Nu,fk];exact hT.1
 ·rw[Nu,fk];exact hT.2
 ·rw[iz];show(jV (gu L) _).length=_;simp[jV,rX]
 ·intro x hx;obtain⟨y,hy,rfl⟩:=List.mem_map.1 hx;have h4:y∈jV (gu L) (bF (gu L) m.toNat (bQ L.length) 3).1:=hy;obtain⟨k,_,rfl⟩:=List.mem_map.1 h4;have:=(Bf (bF (gu L) m.toNat (bQ L.length) 3).1 (bI (gu L) k) (by rw[fk];omega)).1;rw[fk]at this;rw[Nu,fk];exact⟨by omega,by omega⟩
 ·intro t ht;obtain⟨l,hl,rfl⟩:=List.mem_map.1 ht;have h1:l∈yG (gu L) (jV (gu L) (bF (gu L) m.toNat (bQ L.length) 3).1) m.toNat (bQ L.length):=hl;obtain⟨t,_,rfl⟩:=List.mem_map.1 h1
  have h:=wR w (aM (gu L) (jV (gu L) (bF (gu L) m.toNat (bQ L.length) 3).1) t m.toNat) (by rw[eC];omega) (by rw[eC];omega) (fun x hx=>by
   have:=CI _ _ _ _ x hx
   rw[rX]at this
   omega)
  rw[eC]at h;exact ER h hm
theorem nI{L:List Int}{m:Int}(hM:eY L m):eX (aP L m).1 (aP L m).2.1 L m:=by
 have hm:((m.toNat:Nat):Int)=m:=PH (by have:=hM.1;omega);have h3:=hM.1;have h0:=hM.2.1;have hf:pi (jP (gu L) m.toNat) m.toNat:=by have h:=F3 (aM (gu L) (List.replicate (aH (gu L).length) 0) 0 m.toNat) (by rw[eC];omega) (by rw[eC];omega);rw[eC]at h;exact h
 rw[aP,Nf hM];refine Eu hM (Nk 2) (by show 2<=6;omega) ?_ ?_ ?_;·rw[iz,NA]
 ·intro x hx;obtain⟨y,hy,rfl⟩:=List.mem_map.1 hx;rw[(List.mem_replicate.1 hy).2];exact⟨by omega,by show((0:Nat):Int)<2;omega⟩
 ·intro t ht;have e:t=zL (jP (gu L) m.toNat):=by
   rcases List.mem_cons.1 ht with h|h;·exact h
   ·exact List.mem_singleton.1 h
  rw[e];exact ER hf hm
theorem jQ{T:List (List Int)}{P L:List Int}{m:Int}(h:eX T P L m)(hM:eY L m):aT T P L=(dI (T.map nl) (nl P) (nl L) L.length,0):=by
 have hT:=h.1.1;have h0:(T.getD 0 [])∈T:=iC (by omega);have hm:=(h.2.2 _ h0).1
 rw[aT,Nf ⟨h.1,by rw[h.2.1];exact Nk _⟩,Nf (fun x hx=>by
  have:=hM.2.2.2.2 x hx
  exact⟨this.1,by omega⟩)]
theorem aJ.past{w w':World}{v:Value}{T:List (List Int)}{P:List Int}(h:aJ w v T P)(hT:∀t∈T,0<t.length){g:Nat}{u:TypeId}(hg:Blk w g u #[.slice none 0 0,.slice none 0 0])
 (hk:∀k,k≠g->w'.heap[k]? =w.heap[k]?):aJ w' v T P:=by
 have ha:∀b o,b≠g->w'.cell? ⟨b,o,none⟩=w.cell? ⟨b,o,none⟩:=by intro b o hb;simp only[World.cell?,hk b hb]
 have he:∀o x,w.cell? ⟨g,o,none⟩=some x->x=.slice none 0 0:=by
  intro o x hx;rw[ac hg o]at hx;rcases o with _|_|o;·simpa using hx.symm
  ·simpa using hx.symm
  ·simp at hx
 have hz:∀(A:Option Addr) (n:Nat) (L:List Int),ZIn w A n L->ZIn w' A n L:=by intro A n L hz;refine⟨hz.1,fun hn=> ?_⟩;obtain⟨b,off,rfl,hc⟩:=hz.2 hn;have hf:b≠g:=(by rintro rfl;have:=he _ _ (hc 0 hn);cases this);exact⟨b,off,rfl,fun i hi=>(ha b _ hf).trans (hc i hi)⟩
 obtain⟨A,n,c,B,m,d,h0,h1,h2,h3,h4,h5,h6⟩:=h;refine⟨A,n,c,B,m,d,h0,⟨h1.1,fun hn=> ?_⟩,h2,h3,hz _ _ _ h4,h5,h6⟩;obtain⟨b,off,rfl,hc⟩:=h1.2 hn;have hf:b≠g:=by rintro rfl;obtain⟨A2,c2,k1,_⟩:=hc 0 hn;have h7:=he _ _ k1;have h8:T.getD 0 []∈T:=iC (by rw[h1.1];exact hn);have h9:=hT _ h8;simp only[Ol]at h7;omega
 refine⟨b,off,rfl,fun i hi=> ?_⟩;obtain⟨A2,c2,k1,k2,k3,k4⟩:=hc i hi;exact⟨A2,c2,(ha b _ hf).trans k1,hz _ _ _ k2,k3,k4⟩
noncomputable def ew (L:List Int) (m:Int):List (List Int)×List Int×Nat:=
 if eY L m then(if(du (aP L m).1 (aP L m).2.1 L).1<(du (aG L m).1 (aG L m).2.1 L).1 then aP L m else aG L m)else([], [],2)
theorem nJ{T:List (List Int)}{P L:List Int}{m:Int}(h:eX T P L m)(hM:eY L m):∀t∈T,0<t.length:=fun t ht=>by
 have:=(h.2.2 t ht).1
 have:=hM.1
 omega
theorem jk(w:World)(g:Nat)(u v:Value):∀k,k≠g->((w.setCell ⟨g,0,none⟩ u).setCell ⟨g,1,none⟩ v).heap[k]? =w.heap[k]? :=by intro k hk;rw[OK _ ⟨g,1,none⟩ v k hk,OK _ ⟨g,0,none⟩ u k hk]
theorem GS(w:World)(A:Option Addr)(n c:Nat)(L:List Int)(m:Nat)(hL:ZIn w A n L)(H6:n<=c)(hn:n<=1000000)(hM:eY L m):
 Calls prog 63 #[.slice A n c,.int .i64 m] w (bP w (ew L m)):=by
 have hV:=mT w hM;have hW:=nI hM;obtain⟨w1,hq⟩:∃w1,w1=w.alloc (.cells #[.slice none 0 0,.slice none 0 0] 43):=⟨_,rfl⟩;have hl:Below w.heap.size w w1:=cB hq;have hX:Blk w1 w.heap.size 43 #[.slice none 0 0,.slice none 0 0]:=dW hq;have HC:=aa (Bo w1 A n c L m (hL.below hl) H6 hn hM);have HF:=aa fun(wx:World) (hb:Below w1.heap.size w1 wx)=>GW wx A n c L m ((hL.below hl).below hb) hn hM;have hS:(aG L m).2.2=0:=by rw[aG,Nf hM]
 have hT:(aP L m).2.2=0:=by rw[aP,Nf hM]
 have h3:ew L m=if(du (aP L m).1 (aP L m).2.1 L).1<(du (aG L m).1 (aG L m).2.1 L).1 then aP L m else aG L m:=Nf hM
 have hO:=aa (nJ hV hM);have hP:=aa (nJ hW hM);have HS:=aa fun(wx:World) (v:Value) (T:List (List Int)) (P:List Int) (h:aJ wx v T P) (hb:Below w1.heap.size w1 wx)=>G7 wx v T P h A n c L ((hL.below hl).below hb) (by omega);have hY:(du (aG L m).1 (aG L m).2.1 L).1<=41000000:=by
  have h1:=dY (aG L m).1 (aG L m).2.1 L (by rw[hL.1];omega);have h2:=eH (aG L m).1 (aG L m).2.1;unfold du;split;·show _+_<=_;omega
  ·exact Ng _
 have hZ:(du (aP L m).1 (aP L m).2.1 L).1<=41000000:=by
  have h1:=dY (aP L m).1 (aP L m).2.1 L (by rw[hL.1];omega);have h2:=eH (aP L m).1 (aP L m).2.1;unfold du;split;·show _+_<=_;omega
  ·exact Ng _
 generalize ew L m=ba at*;generalize aG L m=ca at*;generalize aP L m=fa at*;obtain⟨Tc,Pc,kc⟩:=ca;obtain⟨Tf,Pf,kf⟩:=fa;dsimp only at hS hT h3 hO hP hY hZ;subst hS hT;obtain⟨x,hx⟩:∃x,x=(du Tc Pc L).1:=⟨_,rfl⟩;obtain⟨y,hy⟩:∃y,y=(du Tf Pf L).1:=⟨_,rfl⟩;obtain⟨x2,H0⟩:∃x2,x2=(du Tc Pc L).2:=⟨_,rfl⟩;obtain⟨y2,H1⟩:∃y2,y2=(du Tf Pf L).2:=⟨_,rfl⟩;rw[<- hx,<-hy]at h3;rw[<- hx]at hY;rw[<- hy]at hZ;have HX:=aa hx;have HY:=aa hy;have H4:=aa H0;have H5:=aa H1;have hi:=aa h3;have H2:=aa hl;have H3:=aa hX;clear hL h3 hl hX hV hW hx hy H0 H1 hM;go_enter func63,ntmps63;go_wp2_with fail;rw[<- hq];clear hq;refine HC.out.mono ?_;rintro e w2 ⟨v2,rfl,hD,hC⟩;obtain⟨A2,n2,c2,B2,m2,d2,rfl,hm⟩:∃A2 n2 c2 B2 m2 d2,v2=.agg #[.slice A2 n2 c2,.slice B2 m2 d2]/\aJ w2 (.agg #[.slice A2 n2 c2,.slice B2 m2 d2]) Tc Pc:=by obtain⟨A2,n2,c2,B2,m2,d2,hv,hr⟩:=id hD;exact⟨A2,n2,c2,B2,m2,d2,hv,by rw[<- hv];exact hD⟩
 have h5:Below w2.heap.size w2 (w2.alloc (.cells #[.slice A2 n2 c2,.slice B2 m2 d2] 43)):=(Nj _ _).alloc (ag _) _;have hJ:=aa (aj w2 43 #[.slice A2 n2 c2,.slice B2 m2 d2]);have hF:=aa (aq hC h5);have hI:=aa (HF.out _ (aq hC h5));have hQ:=aa (hm.below h5);clear hC h5 HF HC hD hm;go_upto_region 2 with fail;generalize w2.alloc (.cells #[.slice A2 n2 c2,.slice B2 m2 d2] 43)=w3 at*;generalize w2.heap.size=g6 at*;go_wp2_with fail;refine hI.out.mono ?_;rintro e w4 ⟨v4,rfl,hE,hR⟩;obtain⟨A4,n4,c4,B4,m4,d4,rfl,ho⟩:∃A4 n4 c4 B4 m4 d4,v4=.agg #[.slice A4 n4 c4,.slice B4 m4 d4]/\aJ w4 (.agg #[.slice A4 n4 c4,.slice B4 m4 d4]) Tf Pf:=by obtain⟨A4,n4,c4,B4,m4,d4,hv,hr⟩:=id hE;exact⟨A4,n4,c4,B4,m4,d4,hv,by rw[<- hv];exact hE⟩
 have he:Below w4.heap.size w4 (w4.alloc (.cells #[.slice A4 n4 c4,.slice B4 m4 d4] 43)):=(Nj _ _).alloc (ag _) _;have h6:=aq hR he;have hK:=aa (aj w4 43 #[.slice A4 n4 c4,.slice B4 m4 d4]);have h0:=aa (aO h6 hJ.out);have hc:=aa (hQ.out.below h6);have hj:=aa (ho.below he);have hs:=aa (aq hF.out h6);clear hR he h6 hI hE ho hQ hF hJ;go_upto_region 3 with fail;generalize w4.alloc (.cells #[.slice A4 n4 c4,.slice B4 m4 d4] 43)=w5 at*;generalize w4.heap.size=g8 at*;have p0:=(ac h0.out 0).trans rfl;have p1:=(ac h0.out 1).trans rfl;have hB:=aa (HS.out w5 _ Tc Pc hc.out hs.out);rw[<- HX.out,<-H4.out]at hB;go_wp2_with fail;clear p0 p1;refine hB.out.mono ?_;rintro e w6 ⟨rfl,hh⟩;have ht:=aa (aO hh h0.out);have h9:=aa (aO hh hK.out);have hu:=aa (hc.out.below hh);have hk:=aa (hj.out.below hh);have hG:=aa (aq hs.out hh);clear hh hB h0 hK hc hj hs;have p0:=(ac h9.out 0).trans rfl;have p1:=(ac h9.out 1).trans rfl;have hp:=aa (HS.out w6 _ Tf Pf hk.out hG.out);rw[<- HY.out,<-H5.out]at hp;go_wp2_with fail;clear p0 p1;refine hp.out.mono ?_;rintro e w7 ⟨rfl,hf⟩;have h7:=aO hf ht.out;have h8:=aO hf h9.out;have hw:=aa (hu.out.below hf);have hA:=aa (hk.out.below hf);have h4:=aq hG.out hf;have hg:=aO h4 H3.out;have hN:=aa hg;have hH:=aa (aq H2.out h4);have r0:=(ac hg 0).trans rfl;have r1:=(ac hg 1).trans rfl;have f0:=ae hg 0;have f1:=ae hg 1;by_cases e:y<x
 ·have p0:=(ac h8 0).trans rfl;have p1:=(ac h8 1).trans rfl;have ha:=hi.out;rw[Nf e]at ha
  have hz:Hid (bP w ba (.returned (.tuple #[.agg #[.slice A4 n4 c4,.slice B4 m4 d4],.int .i64 0])) ((w7.setCell ⟨w.heap.size,0,none⟩ (.slice A4 n4 c4)).setCell ⟨w.heap.size,1,none⟩ (.slice B4 m4 d4))):=aa (by
   rw[ha]
   exact⟨_,rfl,hA.out.past hP.out hN.out (jk _ _ _ _),(hH.out.setCell (p:=⟨w.heap.size,0,none⟩) (ag _) _).setCell (p:=⟨w.heap.size,1,none⟩) (ag _) _⟩)
  generalize bP w ba=PO at*;clear ha h7 h8 h4 hg hf hp;go_wp2_with fail;refine NH (v:=.tuple #[.agg #[.slice A4 n4 c4,.slice B4 m4 d4],.int .i64 0]) ?_ rfl hz.out;simp[results,results63,go_sem,r0,r1]
 ·have p0:=(ac h7 0).trans rfl;have p1:=(ac h7 1).trans rfl;have ha:=hi.out;rw[Nd e]at ha
  have hz:Hid (bP w ba (.returned (.tuple #[.agg #[.slice A2 n2 c2,.slice B2 m2 d2],.int .i64 0])) ((w7.setCell ⟨w.heap.size,0,none⟩ (.slice A2 n2 c2)).setCell ⟨w.heap.size,1,none⟩ (.slice B2 m2 d2))):=aa (by
   rw[ha]
   exact⟨_,rfl,hw.out.past hO.out hN.out (jk _ _ _ _),(hH.out.setCell (p:=⟨w.heap.size,0,none⟩) (ag _) _).setCell (p:=⟨w.heap.size,1,none⟩) (ag _) _⟩)
  generalize bP w ba=PO at*;clear ha h7 h8 h4 hg hf hp;go_wp2_with fail;refine NH (v:=.tuple #[.agg #[.slice A2 n2 c2,.slice B2 m2 d2],.int .i64 0]) ?_ rfl hz.out;simp[results,results63,go_sem,r0,r1]
theorem oN{w:World}{B e n p:Nat}{v:Value}{xs:List Value}{u:TypeId}{ds:Array Value}(h:w.ownsRow B e 1 v n xs)(k:Blk w p u ds)(h0:e≠u):∀j,v.ownBlock=some j->j∉ [p]:=by intro j hj hm;rw[Og]at hm;subst hm;obtain⟨c1,f1,e1⟩:=Lib.ownsRow_kind h j hj;unfold Blk at k;rw[e1]at k;simp only[Oj,RF]at k;exact h0 k.2.1
structure mA (w0 w:World) (v:Value) (q:Nat) (F:Nat->Value) (C:Nat->List Nat):Prop where
 row:w.ownsRow w0.heap.size 37 1 v q ((List.range q).map F)
 each:∀t,t<q->(∃ A k,F t=.slice A (C t).length k/\(C t).length<=k)/\w.ownsRow w0.heap.size 3 1 (F t) (C t).length ((C t).map iv)
 below:Below w0.heap.size w0 w
theorem mA.nil(w0 w:World)(F:Nat->Value)(C:Nat->List Nat)(h:Below w0.heap.size w0 w):mA w0 w (.slice none 0 0) 0 F C:=
 ⟨Nt _ _ _ _,fun _ ht=>absurd ht (O4 _),h⟩
theorem mA.store{w0 w:World}{v:Value}{q:Nat}{F:Nat->Value}{C:Nat->List Nat}(h:mA w0 w v q F C){g:Nat}{u:TypeId}{ds:Array Value}(hg:Blk w g u ds)(h1:(37:TypeId)≠u)(h2:(3:TypeId)≠u)(h0:w0.heap.size<=g)(i:Nat)(x:Value):mA w0 (w.setCell ⟨g,i,none⟩ x) v q F C:=by have hs:ak w0.heap.size [g] [] w (w.setCell ⟨g,i,none⟩ x):=(ak.refl _ _ _ w).set (p:=⟨g,i,none⟩) h0 (by simp) x;exact⟨hs.row h.row (oN h.row hg h1) aw,fun t ht=>⟨(h.each t ht).1,hs.row (h.each t ht).2 (oN (h.each t ht).2 hg h2) aw⟩,h.below.setCell (p:=⟨g,i,none⟩) h0 x⟩
theorem mA.push{w0 w w1:World}{A:Option Addr}{q cap:Nat}{F:Nat->Value}{C:Nat->List Nat}(h:mA w0 w (.slice A q cap) q F C){A1:Option Addr}{n k1:Nat}(ht:w1.ownsRow w.heap.size 3 1 (.slice A1 n k1) n ((C q).map iv))(hb:Below w.heap.size w w1)(hq:q<=1000)(hD:(C q).length=n):
 ∃A2 cap2 w2,(Builtin.append_ #[41,41] 41 #[.slice A q cap,.slice (some ⟨w1.heap.size,0,none⟩) 1 1]).run prog (w1.alloc (.cells #[.slice A1 n k1] 37))=.ok (.slice A2 (q+1) cap2) w2/\
  mA w0 w2 (.slice A2 (q+1) cap2) (q+1) (fun t=>if t=q then .slice A1 n k1 else F t) C/\∀(g:Nat) (u:TypeId) (ds:Array Value),Blk w1 g u ds->(37:TypeId)≠u->Blk w2 g u ds:=by
 obtain⟨i2,h2,ha⟩:=Option.map_eq_some_iff.1 qZ;simp only[Ps]at ha;obtain⟨hi,hl,hm⟩:=ha;have hc:=h.below.size;have h6:=h.below.trans (hb.mono hc);have h0:=fw h.row hb;have h9:=h6.size;obtain⟨_,_,hf,h7,_,_⟩:=ai ht;simp only[Ol]at hf;obtain⟨rfl,_,rfl⟩:=hf
 obtain⟨v2,w2,hr,ho,hg,_,_⟩:=P1 (P:=prog) (w1.alloc (.cells #[.slice A1 n k1] 37)) w0.heap.size 41 41 37 i2 (.slice none 0 0) 1 24 underlying41 h2 hi hl hm rfl (by decide) _ _ _ (h0.alloc _) ⟨w1.heap.size,0,none⟩ 1 1 [.slice A1 n k1] rfl (Q2 w1 _ _)
  (fun u hu=>by rw[List.mem_singleton.1 hu];rfl) (by unfold maxLen;omega) (by omega) (by simp;omega)
 obtain⟨A2,cap2,rfl,_,_,_⟩:=ai ho;have h1:=h0.alloc (.cells #[.slice A1 n k1] 37);refine⟨A2,cap2,w2,hr,⟨?_,fun t he=> ?_,?_⟩,fun g u ds hgb hne=> ?_⟩
 ·have h3:=ho
  rw[show ((List.range q).map F)++ [.slice A1 n k1]=(List.range (q+1)).map fun t=>if t=q then .slice A1 n k1 else F t by
   rw[Oh,Nz,QG,Nf rfl]
   congr 1
   apply Oe
   intro t he
   have:=List.mem_range.1 he
   rw[Nd]]at h3
  exact h3
 ·by_cases e:t=q;·subst e;simp only[if_true];have h5:=(World.ownsRow.mono ht hc).alloc (.cells #[.slice A1 n k1] 37);rw[hD];exact⟨⟨A1,k1,rfl,h7⟩,OU h5 hg (kE h5 h1 (by decide))⟩
  ·simp only[Nd e];have h5:=(fw (h.each t (by omega)).2 hb).alloc (.cells #[.slice A1 n k1] 37);exact⟨(h.each t (by omega)).1,OU h5 hg (kE h5 h1 (by decide))⟩
 ·exact(h6.alloc h9 _).grown hg (by simp;omega) (fun k hk=>(h0.lt k hk).1)
 ·have hh:g<w1.heap.size:=(Array.getElem?_eq_some_iff.1 hgb).1;have h4:Blk (w1.alloc (.cells #[.slice A1 n k1] 37)) g u ds:=(by unfold Blk;rw[RU _ _ hh];exact hgb);have h8:∀j,(Value.slice A q cap).ownBlock=some j->j≠g:=fun j hj e=>oN h1 h4 hne j hj (by rw[e];simp);unfold Blk at h4 |-;rw[hg.block g (by simp;omega) (fun e=>h8 g e.symm rfl)];exact h4
theorem mA.tabZ{w0 w:World}{A:Option Addr}{q c:Nat}{F:Nat->Value}{C:Nat->List Nat}(h:mA w0 w (.slice A q c) q F C)(hm:∀t,t<q->(C t).length<=1000):vw w A q ((List.range q).map fun t=>zL (C t)):=by
 refine⟨by simp,fun hq=> ?_⟩;obtain⟨A',c',hv,_,_,hA⟩:=ai h.row;simp only[Ol]at hv;obtain⟨rfl,_,rfl⟩:=hv;obtain⟨b,rfl⟩:=hA hq;refine⟨b,0,rfl,fun i hi=> ?_⟩;obtain⟨⟨A2,k2,e1,e2⟩,e3⟩:=h.each i hi;have h0:((List.range q).map fun t=>zL (C t)).getD i []=zL (C i):=by rw[Na,Np,NJ hi];rfl
 rw[h0,iz];refine⟨A2,k2,?_,?_,e2,?_⟩;·rw[N8,Oy h.row i (by omega),Np,NJ hi,<-e1];rfl
 ·rw[e1]at e3;have:=dw (aE e3);exact this
 ·have:=hm i hi;unfold maxLen;omega
def gG(bits:List Nat)(n:Nat):Nat->Nat->List (List Nat)->List (List Nat)×Nat×Nat
 | 0,p,acc=>(acc,p,0)
 | t+1,p,acc=>if(aN bits p n).2.2=0 then(if bK (zL (aN bits p n).1)then gG bits n t (aN bits p n).2.1 (acc++ [(aN bits p n).1])else([],0,80))else([],0,(aN bits p n).2.2)
def BN(bits:List Nat)(n a T K:Nat):List (List Int)×List Int×Nat×Nat:=
 if(aS bits T K [0,1,2,3,4,5] (a+18) []).2.2=0 then
  (if(gG bits n T (aS bits T K [0,1,2,3,4,5] (a+18) []).2.1 []).2.2=0 then
    (((gG bits n T (aS bits T K [0,1,2,3,4,5] (a+18) []).2.1 []).1.map zL),zL (aS bits T K [0,1,2,3,4,5] (a+18) []).1,(gG bits n T (aS bits T K [0,1,2,3,4,5] (a+18) []).2.1 []).2.1,0)
  else([], [],0,(gG bits n T (aS bits T K [0,1,2,3,4,5] (a+18) []).2.1 []).2.2))
 else([], [],0,(aS bits T K [0,1,2,3,4,5] (a+18) []).2.2)
def xu(bits:List Nat)(n a:Nat):List (List Int)×List Int×Nat×Nat:=
 if bits.length<a+3 then([], [],0,10)
 else if val ((bits.drop a).take 3)<2\/6<val ((bits.drop a).take 3)then([], [],0,110)
 else if bits.length<a+18 then([], [],0,10)
 else if val ((bits.drop (a+3)).take 15)=0 then([], [],0,110)
 else BN bits n a (val ((bits.drop a).take 3)) (val ((bits.drop (a+3)).take 15))
def gD(bits:List Nat)(at' n:Int):List (List Int)×List Int×Nat×Nat:=
 if at'<0\/(bits.length:Int)<at'\/n<3\/258<n then([], [],0,2)else xu bits n.toNat at'.toNat
def Ec(w:World)(ans:List (List Int)×List Int×Nat×Nat)(e:Ending)(w':World):Prop:=
 ∃v,e=.returned (.tuple #[v,.int .i64 ans.2.2.1,.int .i64 ans.2.2.2])/\aJ w' v ans.1 ans.2.1/\Below w.heap.size w w'
theorem iW(bits:List Nat)(T:Nat)(hT:0<T):∀(k:Nat) (o:List Nat) (p:Nat) (out:List Nat),p<=bits.length->(aS bits T k o p out).2.1<=bits.length/\(aS bits T k o p out).2.2<=110
 | 0,_,_,_,h=>⟨h,Ng _⟩
 | k+1,o,p,out,h=>by
  cases hp:eE (bits.drop p) 0 T with
  | hit n=>have hl:=(C7 (bits.drop p) 0 T n hp hT).2.1;rw[Ny]at hl;rw[iE hp];exact iW bits T hT k _ _ _ (by omega)
  | short=>rw[fN hp];exact⟨Ng _,by show 10<=110;omega⟩
  | bad=>rw[iD hp];exact⟨Ng _,Nk _⟩
theorem BM:∀(bs:List Nat) (now n p:Nat) (out:List Nat),(cD bs now n p out).2.1<=p+bs.length/\(cD bs now n p out).2.2<=80:=by
 intro bs
 induction h:bs.length using Nat.strongRecOn generalizing bs with
 | _ m ih=>
  intro now n p out;subst h;rcases n with _|n;·rw[iw];exact⟨Rx _ _,Ng _⟩
  ·by_cases hb:now<1\/20<now;·rw[jB _ _ _ _ _ hb];exact⟨Ng _,Nk _⟩
   ·rcases bs with _|⟨b,bs⟩;·rw[lD _ _ _ _ hb];exact⟨Ng _,by show 10<=80;omega⟩
    ·by_cases h0:b=0;·subst h0;rw[kd _ _ _ _ _ hb];have:=ih bs.length (by simp) bs rfl now n (p+1) (out++ [now]);rw[Ns];exact⟨by omega,this.2⟩
     ·rcases bs with _|⟨d,bs⟩;·rw[nV _ _ _ _ _ hb h0];exact⟨Ng _,by show 10<=80;omega⟩
      ·rw[ix _ _ _ _ _ _ _ hb h0];have:=ih bs.length (by simp only[Ns];omega) bs rfl (if d=0 then now+1 else now-1) (n+1) (p+2) out;rw[Ns,Ns];exact⟨by omega,this.2⟩
theorem oo(bits:List Nat)(at' n:Int):(aN bits at' n).2.1<=bits.length/\(aN bits at' n).2.2<=80:=by
 unfold aN;split;·exact⟨Ng _,by show 2<=80;omega⟩
 ·split;·exact⟨Ng _,by show 10<=80;omega⟩
  ·have:=BM (bits.drop (at'.toNat+5)) (val ((bits.drop at'.toNat).take 5)) n.toNat (at'.toNat+5) [];rw[Ny]at this;exact⟨by omega,this.2⟩
theorem mA.same{w0 w:World}{v:Value}{q:Nat}{F:Nat->Value}{C D:Nat->List Nat}(h:mA w0 w v q F C)(hs:∀t,t<q->C t=D t):mA w0 w v q F D:=
 ⟨h.row,fun t ht=>by rw[<- hs t ht];exact h.each t ht,h.below⟩
theorem oW{bits:List Nat}{n t p:Nat}{acc:List (List Nat)}:gG bits n (t+1) p acc=if(aN bits p n).2.2=0 then(if bK (zL (aN bits p n).1)then gG bits n t (aN bits p n).2.1 (acc++ [(aN bits p n).1])else([],0,80))else([],0,(aN bits p n).2.2):=rfl
def nX(T:List (List Nat))(P bits:List Nat)(n0:Nat):Nat->Nat->Nat->List Nat->List Nat×Nat×Nat
 | 0,_,_,_=>([],0,110)
 | k+1,i,a,out=>match kF (T.getD (P.getD (i / 50) 0) []) (bits.drop a)with
   | .hit x=>if x+1=n0 then(out++ [x],a+(T.getD (P.getD (i/50) 0) []).getD x 0,0)else nX T P bits n0 k (i+1) (a+(T.getD (P.getD (i/50) 0) []).getD x 0) (out++ [x])
   | .short=>([],0,10)
   | .code=>([],0,90)
theorem qV(T:List (List Nat))(P bits:List Nat)(n0 k i a:Nat)(out:List Nat):nX T P bits n0 (k+1) i a out=match kF (T.getD (P.getD (i/50) 0) []) (bits.drop a)with
 | .hit x=>if x+1=n0 then(out++ [x],a+(T.getD (P.getD (i/50) 0) []).getD x 0,0)else nX T P bits n0 k (i+1) (a+(T.getD (P.getD (i/50) 0) []).getD x 0) (out++ [x])
 | .short=>([],0,10)
 | .code=>([],0,90):=rfl
def mD(T:List (List Int))(P:List Int)(bits:List Nat)(at':Int):List Nat×Nat×Nat:=
 if aV T P then(if at'<0\/(bits.length:Int)<at' then([],0,2)else nX (T.map nl) (nl P) bits (T.getD 0 []).length (50*P.length) 0 at'.toNat [])else([],0,110)
