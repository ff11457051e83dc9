import Derived.Test.YtepokmggbfoakaaGreatDoorA10
set_option maxRecDepth 100000
namespace Go.Proofs.YtepokmggbfoakaaGreatDoor
open Go.RowKit
theorem bc.parts{w:World}{v:Value}{T:List (List Int)}{P:List Int}(h:bc w v T P):∃A n c B m d,v=.agg #[.slice A n c,.slice B m d]∧bc w (.agg #[.slice A n c,.slice B m d]) T P:=by obtain⟨A,n,c,B,m,d,hv,hr⟩:=id h;exact⟨A,n,c,B,m,d,hv,by rw[← hv];exact h⟩
def D6(w:World)(g:Nat)(T:List (List Int))(P:List Int)(u v:Value):Prop:=Blk w g 90 #[u,v]∧bc w (.agg #[u,v]) T P
theorem D6.below{w w':World}{g:Nat}{T:List (List Int)}{P:List Int}{u v:Value}(h:D6 w g T P u v)(hb:Below w.heap.size w w'):D6 w' g T P u v:=
 ⟨aP hb h.1,h.2.below hb⟩
theorem D6.cells{w:World}{g:Nat}{T:List (List Int)}{P:List Int}{u v:Value}(h:D6 w g T P u v):w.cell? ⟨g,0,none⟩=some u∧w.cell? ⟨g,1,none⟩=some v:=
 ⟨(ac h.1 0).trans rfl,(ac h.1 1).trans rfl⟩
theorem zG{w:World}{u v:Value}{T:List (List Int)}{P:List Int}(h:bc w (.agg #[u,v]) T P):D6 (w.alloc (.cells #[u,v] 90)) w.heap.size T P u v∧Below w.heap.size w (w.alloc (.cells #[u,v] 90)):=
 ⟨⟨ah w _ _,h.below ((L6 _ _).alloc (ag _) _)⟩,(L6 _ _).alloc (ag _) _⟩
theorem zZ(l:List Nat):nl (zL l)=l:=by unfold nl zL;rw[MX];(conv=>rhs;rw[← Pq l]);apply MJ;intro x _;show((x:Nat):Int).toNat=x;omega
theorem JU{L:List Int}(h:∀x∈L,0≤x):zL (nl L)=L:=by unfold nl zL;rw[MX];(conv=>rhs;rw[← Pq L]);apply MJ;intro x hx;have:=h x hx;show((x.toNat:Nat):Int)=x;omega
theorem uX{l:List Nat}(h:bU (zL l))(pre rest:List Nat):ax (pre++(aZ l++rest)) (pre.length:Nat) (l.length:Nat)=(l,pre.length+(aZ l).length,0):=by have h1:=DH (kO h);rw[zZ]at h1;have h2:=h.1;have h3:=h.2.1;rw[gV]at h2 h3;have:=qn (l:=l) h2 h3 h1 pre [] rest (fun bs n p=>rfl);rw[MH,MM,Mz]at this;unfold aZ;rw[LZ];rw[aZ]at this;exact this
theorem uq{n:Nat}:∀(Ts:List (List Nat)) (pre rest:List Nat) (acc:List (List Nat)),(∀ t∈Ts,t.length=n∧bU (zL t))→
 dV (pre++(Ts.flatMap aZ++rest)) n Ts.length pre.length acc=(acc++Ts,pre.length+(Ts.flatMap aZ).length,0)
 | [],pre,rest,acc,_=>by simp[dV]
 | t :: Ts,pre,rest,acc,h=>by have ht:=h t (L4 ..);have e:pre++((t :: Ts).flatMap aZ++rest)=pre++(aZ t++(Ts.flatMap aZ++rest)):=(by rw[MD,LZ]);have h1:=uX ht.2 pre (Ts.flatMap aZ++rest);rw[ht.1]at h1;rw[Mb,nT,e,h1];show(if 0=0 then(if bU (zL t)then _ else _)else _)=_;rw[LX rfl,LX ht.2];have e2:pre++(aZ t++(Ts.flatMap aZ++rest))=(pre++aZ t)++(Ts.flatMap aZ++rest):=(by rw[LZ]);have e3:pre.length+(aZ t).length=(pre++aZ t).length:=(by rw[LR]);show dV _ n Ts.length (pre.length+(aZ t).length) (acc++ [t])=_;rw[e2,e3,uq Ts (pre++aZ t) rest (acc++ [t]) fun u hu=>h u (Ma _ hu)];rw[MD,LR,LR,LZ];simp[Nu]
theorem vz{x n:Nat}(h:x<2 ^ n)(rest:List Nat):val ((aj x n++rest).take n)=x:=by rw[Ql (af n x),dW,Ms h]
theorem C8{T:List (List Int)}{P L:List Int}{m:Int}(hg:eI T P L m)(hM:ix L m)(B Z:List Nat):dU (B++iq (T.map nl) (nl P)++Z) (B.length:Nat) m=(T,P,B.length+(iq (T.map nl) (nl P)).length,0):=by
 obtain⟨⟨hk,hf,hh,hi,hl,hb,hn⟩,hj,h0⟩:=hg;have hm:=hM.1;have hc:=hM.2.1;obtain⟨Q,hQ⟩:∃Q,Q=aH [0,1,2,3,4,5] (nl P):=⟨_,rfl⟩;obtain⟨S,hS⟩:∃S,S=(T.map nl).flatMap aZ:=⟨_,rfl⟩;have h6:iq (T.map nl) (nl P)=aj T.length 3++(aj P.length 15++(Q++S)):=by unfold iq;rw[Mi,bV,←hQ,←hS,LZ,LZ]
 have h7:B++iq (T.map nl) (nl P)++Z=B++(aj T.length 3++(aj P.length 15++(Q++(S++Z)))):=by rw[h6];simp only[LZ]
 have h9:(iq (T.map nl) (nl P)).length=18+Q.length+S.length:=by rw[h6,LR,LR,LR,af,af];omega
 rw[h9,h7];obtain⟨W,hW⟩:∃W,W=B++(aj T.length 3++(aj P.length 15++(Q++(S++Z)))):=⟨_,rfl⟩;have h8:W.length=B.length+18+Q.length+S.length+Z.length:=by rw[hW];simp only[LR,af];omega
 have h1:val ((W.drop B.length).take 3)=T.length:=by rw[hW,NS];exact vz (by omega) _
 have he:P.length<2 ^ 15:=by have h:(2:Nat) ^ 15=32768:=(by decide);omega
 have h2:val ((W.drop (B.length+3)).take 15)=P.length:=by rw[hW,←OF,NS,PM (af _ _)];exact vz he _
 have h3:aC W T.length P.length [0,1,2,3,4,5] (B.length+18) []=(nl P,B.length+18+Q.length,0):=by have ha:=DE hf;have hx:∀x∈nl P,x<T.length:=(by intro x hx;obtain⟨y,hy,rfl⟩:=List.mem_map.1 hx;have:=hb y hy;omega);have h:=tV T.length (nl P) [0,1,2,3,4,5] (B++(aj T.length 3++aj P.length 15)) (S++Z) [] ha hx;rw[← hQ,bV,Mz]at h;have e1:B++(aj T.length 3++aj P.length 15)++Q++(S++Z)=W:=(by rw[hW];simp only[LZ]);have e2:(B++(aj T.length 3++aj P.length 15)).length=B.length+18:=(by simp only[LR,af]);rw[e1,e2]at h;exact h
 have h4:dV W m.toNat T.length (B.length+18+Q.length) []=(T.map nl,B.length+18+Q.length+S.length,0):=by
  have h:=uq (n:=m.toNat) (T.map nl) (B++(aj T.length 3++(aj P.length 15++Q))) Z [] (fun t ht=>by
   obtain⟨u,hu,rfl⟩:=List.mem_map.1 ht
   have h5:=h0 u hu
   refine⟨by rw[bV];omega,?_⟩
   rw[JU fun x hx=>by have:=h5.2.1.2.2.1 x hx;omega]
   exact h5.2.1)
  rw[← hS,Mi,Mz]at h;have e1:B++(aj T.length 3++(aj P.length 15++Q))++(S++Z)=W:=by rw[hW];simp only[LZ]
  have e2:(B++(aj T.length 3++(aj P.length 15++Q))).length=B.length+18+Q.length:=by simp only[LR,af];omega
  rw[e1,e2]at h;exact h
 rw[← hW];unfold dU;rw[LW (by rw[h8];omega),L9];unfold un;rw[LW (by rw[h8];omega),h1,LW (by omega),LW (by rw[h8];omega),h2,LW (by omega)];unfold wh;rw[h3];show(if 0=0 then(if(dV W m.toNat T.length (B.length+18+Q.length) []).2.2=0 then _ else _)else _)=_;rw[LX rfl,h4,LX rfl];have e5:(T.map nl).map zL=T:=by rw[MX];(conv=>rhs;rw[← Pq T]);apply MJ;intro t ht;exact JU fun x hx=>by have:=(h0 t ht).2.1.2.2.1 x hx;omega
 have e6:zL (nl P)=P:=JU fun x hx=>(hb x hx).1;show((T.map nl).map zL,zL (nl P),B.length+18+Q.length+S.length,0)=_;rw[e5,e6,show B.length+18+Q.length+S.length=B.length+(18+Q.length+S.length) by omega]
def lL(T:List (List Nat))(P L:List Nat)(i k:Nat):List Nat:=(List.range' i k).flatMap fun j=>eO (T.getD (P.getD (j / 50) 0) []) (L.getD j 0)
theorem BZ(T:List (List Nat))(P L:List Nat)(i k:Nat):lL T P L i (k+1)=eO (T.getD (P.getD (i / 50) 0) []) (L.getD i 0)++lL T P L (i+1) k:=by unfold lL;rw[List.range'_succ,MD]
theorem Fi(T:List (List Nat))(P L:List Nat)(q:Nat):lL T P L 0 q=dB T P L q:=by unfold lL dB;rw[List.range_eq_range']
theorem Eo(T:List (List Nat))(P L:List Nat)(i k:Nat):au (lL T P L i k):=fun b hb=>by
 unfold lL at hb
 obtain⟨j,_,hj⟩:=List.mem_flatMap.1 hb
 exact yx _ _ b hj
theorem vD{T:List (List Nat)}{P L:List Nat}{n0:Nat}(Z:List Nat)(hZ:au Z):∀(k i:Nat) (pre out:List Nat) (K:Nat),k+1≤K→i+(k+1)=L.length→
 (∀ j,i≤j→j<L.length→fQ (T.getD (P.getD (j / 50) 0) [])∧L.getD j 0<(T.getD (P.getD (j / 50) 0) []).length)→(∀ j,i≤j→j<L.length→(L.getD j 0+1=n0↔j+1=L.length))→
 j8 T P (pre++(lL T P L i (k+1)++Z)) n0 K i pre.length out=(out++L.drop i,pre.length+(lL T P L i (k+1)).length,0)
 | k,i,pre,out,0,hK,_,_,_=>by omega
 | k,i,pre,out,K+1,hK,hl,hT,hE=>by
  have h5:i<L.length:=by omega
  have h1:=hT i (ag _) h5;have h2:=hE i (ag _) h5;have h0:L.drop i=L.getD i 0 :: L.drop (i+1):=by rw[MA h5,LU,LV h5];rfl
  rw[kL,NS,BZ,LZ];rw[FL h1.1 h1.2 _ ((Eo T P L (i+1) k).append hZ)];show(if L.getD i 0+1=n0 then _ else _)=_;rw[LR,iL,h0];by_cases e:L.getD i 0+1=n0;·have he:=h2.1 e;rw[LX e];have hk:k=0:=(by omega);subst hk;have hd:L.drop (i+1)= []:=Nt (by omega);rw[hd];have hf:lL T P L (i+1) 0= []:=rfl;rw[hf,MH,MM]
  ·rw[LW e];have h6:¬i+1=L.length:=fun h=>e (h2.2 h);obtain⟨k2,rfl⟩:∃k2,k=k2+1:=⟨k - 1,by omega⟩;have e1:pre++(eO (T.getD (P.getD (i / 50) 0) []) (L.getD i 0)++(lL T P L (i+1) (k2+1)++Z))=(pre++eO (T.getD (P.getD (i / 50) 0) []) (L.getD i 0))++(lL T P L (i+1) (k2+1)++Z):=(by rw[LZ]);have e2:pre.length+(T.getD (P.getD (i / 50) 0) []).getD (L.getD i 0) 0=(pre++eO (T.getD (P.getD (i / 50) 0) []) (L.getD i 0)).length:=(by rw[LR,iL]);rw[e1,e2,vD Z hZ k2 (i+1) _ _ K (by omega) (by omega) (fun j h3 h4=>hT j (by omega) h4) (fun j h3 h4=>hE j (by omega) h4)];rw[LR,iL];simp[Nu]
def GT(L:List Int)(m:Int):Prop:=∀j,j<L.length→(L.getD j 0+1=m↔j+1=L.length)
theorem Fl{T:List (List Int)}{P L:List Int}{m:Int}(hg:eI T P L m)(hM:ix L m)(hE:GT L m)(B Z:List Nat)(hZ:au Z):ij T P (B++dB (T.map nl) (nl P) (nl L) L.length++Z) (B.length:Nat)=(nl L,B.length+(dB (T.map nl) (nl P) (nl L) L.length).length,0):=by
 have h8:=hg.2.1;have hT:=hg.1;have h0:(T.getD 0 [])∈T:=oL (by have:=hT.1;omega);have hm:=(hg.2.2 _ h0).1;have hc:=hM.2.2.1;have h1:(nl L).length=L.length:=bV L;have hr:∀j,j<L.length→0≤L.getD j 0∧L.getD j 0<m:=fun j hj=>hM.2.2.2.2 _ (rF hj);unfold ij;rw[LX hT,LW (by simp only[LR];omega),L9,LZ,←Fi];obtain⟨k,hk⟩:∃k,L.length=k+1:=⟨L.length - 1,by omega⟩;have hK:L.length≤50*P.length:=by rw[h8];unfold aQ;omega
 have h:=vD (T:=T.map nl) (P:=nl P) (L:=nl L) (n0:=(T.getD 0 []).length) Z hZ k 0 B [] (50*P.length) (by omega) (by rw[h1];omega) (fun j _ hj=>by
  rw[h1]at hj
  have hb:j / 50<P.length:=by
   rw[h8]
   unfold aQ
   omega
  have hp:=hT.2.2.2.2.2.1 _ (rF hb)
  have h9:(nl P).getD (j / 50) 0=(P.getD (j / 50) 0).toNat:=tI P _
  have h7:(P.getD (j / 50) 0).toNat<T.length:=by omega
  obtain⟨pj,h6⟩:∃pj,pj=(P.getD (j / 50) 0).toNat:=⟨_,rfl⟩
  rw[← h6]at h9 h7
  have h5:T.getD pj []∈T:=oL h7
  have e:(T.map nl).getD ((nl P).getD (j / 50) 0) []=nl (T.getD pj []):=by
   rw[h9,LU,Me,LU,LV h7]
   rfl
  have h2:=hg.2.2 _ h5
  have ha:=hr j hj
  rw[e,bV,tI]
  exact⟨hU h2.2.1,by omega⟩) (fun j _ hj=>by
  rw[h1]at hj
  have ha:=hr j hj
  have h3:=hE j hj
  rw[tI,h1]
  constructor
  ·intro h4
   exact h3.1 (by omega)
  ·intro h4
   have:=h3.2 h4
   omega)
 rw[← hk]at h;rw[h];simp
theorem pH{T:List (List Int)}{P L:List Int}{m:Int}(h:eI T P L m):fe T P=(iq (T.map nl) (nl P),0):=LX h.1
theorem we{T:List (List Int)}{P L:List Int}{m:Int}(h:eI T P L m)(hM:ix L m):ft T P L=((fe T P).1.length+(bI T P L).1.length,0):=by unfold ft;rw[lw h hM,LX rfl]
theorem pF(w:World){L:List Int}{m:Int}(hM:ix L m):eI (fy L m).1 (fy L m).2.1 L m∧(fy L m).2.2=0∧(ft (fy L m).1 (fy L m).2.1 L).1≤(ft (a9 L m).1 (a9 L m).2.1 L).1:=by
 have hc:=qM w hM;have hf:=pS hM;have h0:(aY L m).2.2=0:=by rw[aY,LX hM]
 have h1:(a9 L m).2.2=0:=by rw[a9,LX hM]
 unfold fy;rw[LX hM];split;·exact⟨hf,h1,L5 _⟩
 ·rename_i h;exact⟨hc,h0,by omega⟩
end Go.Proofs.YtepokmggbfoakaaGreatDoor
