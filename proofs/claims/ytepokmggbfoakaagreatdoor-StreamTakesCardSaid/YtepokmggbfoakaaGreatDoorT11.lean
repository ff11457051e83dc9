import Derived.Test.YtepokmggbfoakaaGreatDoorT10
set_option maxRecDepth 100000
namespace Go.Proofs.YtepokmggbfoakaaGreatDoor
open _root_.Go.Proofs.Tryz
open Go.RowKit
theorem aQ.parts{w:World}{v:Value}{T:List (List Int)}{P:List Int}(h:aQ w v T P):∃A n c B m d,v=.agg #[.slice A n c,.slice B m d]/\aQ w (.agg #[.slice A n c,.slice B m d]) T P:=by obtain⟨A,n,c,B,m,d,hv,hr⟩:=id h;exact⟨A,n,c,B,m,d,hv,by rw[<- hv];exact h⟩
def EU(w:World)(g:Nat)(T:List (List Int))(P:List Int)(u v:Value):Prop:=Blk w g 90 #[u,v]/\aQ w (.agg #[u,v]) T P
theorem EU.below{w w':World}{g:Nat}{T:List (List Int)}{P:List Int}{u v:Value}(h:EU w g T P u v)(hb:Below w.heap.size w w'):EU w' g T P u v:=
 ⟨aO hb h.1,h.2.below hb⟩
theorem EU.cells{w:World}{g:Nat}{T:List (List Int)}{P:List Int}{u v:Value}(h:EU w g T P u v):w.cell? ⟨g,0,none⟩=some u/\w.cell? ⟨g,1,none⟩=some v:=
 ⟨(ac h.1 0).trans rfl,(ac h.1 1).trans rfl⟩
theorem tV{w:World}{u v:Value}{T:List (List Int)}{P:List Int}(h:aQ w (.agg #[u,v]) T P):EU (w.alloc (.cells #[u,v] 90)) w.heap.size T P u v/\Below w.heap.size w (w.alloc (.cells #[u,v] 90)):=
 ⟨⟨aj w _ _,h.below ((Nj _ _).alloc (ah _) _)⟩,(Nj _ _).alloc (ah _) _⟩
theorem E3{w:World}{a:List Nat×Nat×Nat}{e:Ending}{w':World}(h:aL w a e w'):∃A c,e=.returned (.tuple #[.slice A a.1.length c,.int .i64 a.2.1,.int .i64 a.2.2])/\a.1.length<=c/\aw w' A a.1.length a.1/\Below w.heap.size w w':=by obtain⟨v,rfl,ho,hb⟩:=h;obtain⟨A,c,rfl,hc,_,_⟩:=ak ho;exact⟨A,c,rfl,hc,aN ho,hb⟩
theorem AA(l:List Nat):nl (zL l)=l:=by unfold nl zL;rw[Ov];(conv=>rhs;rw[<- QX l]);apply Oc;intro x _;show((x:Nat):Int).toNat=x;omega
theorem KY{L:List Int}(h:∀x∈L,0<=x):zL (nl L)=L:=by unfold nl zL;rw[Ov];(conv=>rhs;rw[<- QX L]);apply Oc;intro x hx;have:=h x hx;show((x.toNat:Nat):Int)=x;omega
theorem vB{l:List Nat}(h:a6 (zL l))(pre rest:List Nat):ao (pre++(bc l++rest)) (pre.length:Nat) (l.length:Nat)=(l,pre.length+(bc l).length,0):=by have h1:=Ev (kW h);rw[AA]at h1;have h2:=h.1;have h3:=h.2.1;rw[fB]at h2 h3;have:=qL (l:=l) h2 h3 h1 pre [] rest (fun bs n p=>rfl);rw[N5,Og,NX]at this;unfold bc;rw[Ni];rw[bc]at this;exact this
theorem uU{n:Nat}:∀(Ts:List (List Nat)) (pre rest:List Nat) (acc:List (List Nat)),(∀ t∈Ts,t.length=n/\a6 (zL t))->
 dF (pre++(Ts.flatMap bc++rest)) n Ts.length pre.length acc=(acc++Ts,pre.length+(Ts.flatMap bc).length,0)
 | [],pre,rest,acc,_=>by simp[dF]
 | t::Ts,pre,rest,acc,h=>by have ht:=h t (Nl ..);have e:pre++((t::Ts).flatMap bc++rest)=pre++(bc t++(Ts.flatMap bc++rest)):=(by rw[N9,Ni]);have h1:=vB ht.2 pre (Ts.flatMap bc++rest);rw[ht.1]at h1;rw[Nv,lP,e,h1];show(if 0=0 then(if a6 (zL t)then _ else _)else _)=_;rw[Ng rfl,Ng ht.2];have e2:pre++(bc t++(Ts.flatMap bc++rest))=(pre++bc t)++(Ts.flatMap bc++rest):=(by rw[Ni]);have e3:pre.length+(bc t).length=(pre++bc t).length:=(by rw[Nc]);show dF _ n Ts.length (pre.length+(bc t).length) (acc++ [t])=_;rw[e2,e3,uU Ts (pre++bc t) rest (acc++ [t]) fun u hu=>h u (Nu _ hu)];rw[N9,Nc,Nc,Ni];simp[OL]
theorem wj{x n:Nat}(h:x<2^n)(rest:List Nat):val ((ag x n++rest).take n)=x:=by rw[RQ (af n x),dm,NJ h]
theorem DW{T:List (List Int)}{P L:List Int}{m:Int}(hg:eX T P L m)(hM:iJ L m)(B Z:List Nat):dC (B++iG (T.map nl) (nl P)++Z) (B.length:Nat) m=(T,P,B.length+(iG (T.map nl) (nl P)).length,0):=by
 obtain⟨⟨hk,hf,hh,hi,hl,hb,hn⟩,hj,h0⟩:=hg;have hm:=hM.1;have hc:=hM.2.1;obtain⟨Q,hQ⟩:∃Q,Q=aJ [0,1,2,3,4,5] (nl P):=⟨_,rfl⟩;obtain⟨S,hS⟩:∃S,S=(T.map nl).flatMap bc:=⟨_,rfl⟩;have h6:iG (T.map nl) (nl P)=ag T.length 3++(ag P.length 15++(Q++S)):=by unfold iG;rw[NC,bL,<-hQ,<-hS,Ni,Ni]
 have h7:B++iG (T.map nl) (nl P)++Z=B++(ag T.length 3++(ag P.length 15++(Q++(S++Z)))):=by rw[h6];simp only[Ni]
 have h9:(iG (T.map nl) (nl P)).length=18+Q.length+S.length:=by rw[h6,Nc,Nc,Nc,af,af];omega
 rw[h9,h7];obtain⟨W,hW⟩:∃W,W=B++(ag T.length 3++(ag P.length 15++(Q++(S++Z)))):=⟨_,rfl⟩;have h8:W.length=B.length+18+Q.length+S.length+Z.length:=by rw[hW];simp only[Nc,af];omega
 have h1:val ((W.drop B.length).take 3)=T.length:=by rw[hW,Pw];exact wj (by omega) _
 have he:P.length<2^15:=by have h:(2:Nat)^15=32768:=(by decide);omega
 have h2:val ((W.drop (B.length+3)).take 15)=P.length:=by rw[hW,<-P7,Pw,Rh (af _ _)];exact wj he _
 have h3:ax W T.length P.length [0,1,2,3,4,5] (B.length+18) []=(nl P,B.length+18+Q.length,0):=by have ha:=Es hf;have hx:∀x∈nl P,x<T.length:=(by intro x hx;obtain⟨y,hy,rfl⟩:=List.mem_map.1 hx;have:=hb y hy;omega);have h:=uv T.length (nl P) [0,1,2,3,4,5] (B++(ag T.length 3++ag P.length 15)) (S++Z) [] ha hx;rw[<- hQ,bL,NX]at h;have e1:B++(ag T.length 3++ag P.length 15)++Q++(S++Z)=W:=(by rw[hW];simp only[Ni]);have e2:(B++(ag T.length 3++ag P.length 15)).length=B.length+18:=(by simp only[Nc,af]);rw[e1,e2]at h;exact h
 have h4:dF W m.toNat T.length (B.length+18+Q.length) []=(T.map nl,B.length+18+Q.length+S.length,0):=by
  have h:=uU (n:=m.toNat) (T.map nl) (B++(ag T.length 3++(ag P.length 15++Q))) Z [] (fun t ht=>by
   obtain⟨u,hu,rfl⟩:=List.mem_map.1 ht
   have h5:=h0 u hu
   refine⟨by rw[bL];omega,?_⟩
   rw[KY fun x hx=>by have:=h5.2.1.2.2.1 x hx;omega]
   exact h5.2.1)
  rw[<- hS,NC,NX]at h;have e1:B++(ag T.length 3++(ag P.length 15++Q))++(S++Z)=W:=by rw[hW];simp only[Ni]
  have e2:(B++(ag T.length 3++(ag P.length 15++Q))).length=B.length+18+Q.length:=by simp only[Nc,af];omega
  rw[e1,e2]at h;exact h
 rw[<- hW];unfold dC;rw[Nf (by rw[h8];omega),Nn];unfold jI;rw[Nf (by rw[h8];omega),h1,Nf (by omega),Nf (by rw[h8];omega),h2,Nf (by omega)];unfold rP;rw[h3];show(if 0=0 then(if(dF W m.toNat T.length (B.length+18+Q.length) []).2.2=0 then _ else _)else _)=_;rw[Ng rfl,h4,Ng rfl];have e5:(T.map nl).map zL=T:=by rw[Ov];(conv=>rhs;rw[<- QX T]);apply Oc;intro t ht;exact KY fun x hx=>by have:=(h0 t ht).2.1.2.2.1 x hx;omega
 have e6:zL (nl P)=P:=KY fun x hx=>(hb x hx).1;show((T.map nl).map zL,zL (nl P),B.length+18+Q.length+S.length,0)=_;rw[e5,e6,show B.length+18+Q.length+S.length=B.length+(18+Q.length+S.length) by omega]
def lY(T:List (List Nat))(P L:List Nat)(i k:Nat):List Nat:=(List.range' i k).flatMap fun j=>bC (T.getD (P.getD (j/50) 0) []) (L.getD j 0)
theorem CC(T:List (List Nat))(P L:List Nat)(i k:Nat):lY T P L i (k+1)=bC (T.getD (P.getD (i/50) 0) []) (L.getD i 0)++lY T P L (i+1) k:=by unfold lY;rw[List.range'_succ,N9]
theorem F4(T:List (List Nat))(P L:List Nat)(q:Nat):lY T P L 0 q=dG T P L q:=by unfold lY dG;rw[List.range_eq_range']
theorem Ff(T:List (List Nat))(P L:List Nat)(i k:Nat):am (lY T P L i k):=fun b hb=>by
 unfold lY at hb
 obtain⟨j,_,hj⟩:=List.mem_flatMap.1 hb
 exact qS _ _ b hj
theorem ww{T:List (List Nat)}{P L:List Nat}{n0:Nat}(Z:List Nat)(hZ:am Z):∀(k i:Nat) (pre out:List Nat) (K:Nat),k+1<=K->i+(k+1)=L.length->
 (∀ j,i<=j->j<L.length->eW (T.getD (P.getD (j/50) 0) [])/\L.getD j 0<(T.getD (P.getD (j/50) 0) []).length)->(∀ j,i<=j->j<L.length->(L.getD j 0+1=n0↔j+1=L.length))->
 iW T P (pre++(lY T P L i (k+1)++Z)) n0 K i pre.length out=(out++L.drop i,pre.length+(lY T P L i (k+1)).length,0)
 | k,i,pre,out,0,hK,_,_,_=>by omega
 | k,i,pre,out,K+1,hK,hl,hT,hE=>by
  have h5:i<L.length:=by omega
  have h1:=hT i (ah _) h5;have h2:=hE i (ah _) h5;have h0:L.drop i=L.getD i 0::L.drop (i+1):=by rw[NP h5,Nb,Nd h5];rfl
  rw[jf,Pw,CC,Ni];rw[Gx h1.1 h1.2 _ ((Ff T P L (i+1) k).append hZ)];show(if L.getD i 0+1=n0 then _ else _)=_;rw[Nc,cU,h0];by_cases e:L.getD i 0+1=n0;·have he:=h2.1 e;rw[Ng e];have hk:k=0:=(by omega);subst hk;have hd:L.drop (i+1)= []:=OY (by omega);rw[hd];have hf:lY T P L (i+1) 0= []:=rfl;rw[hf,N5,Og]
  ·rw[Nf e];have h6:¬i+1=L.length:=fun h=>e (h2.2 h);obtain⟨k2,rfl⟩:∃k2,k=k2+1:=⟨k-1,by omega⟩;have e1:pre++(bC (T.getD (P.getD (i/50) 0) []) (L.getD i 0)++(lY T P L (i+1) (k2+1)++Z))=(pre++bC (T.getD (P.getD (i/50) 0) []) (L.getD i 0))++(lY T P L (i+1) (k2+1)++Z):=(by rw[Ni]);have e2:pre.length+(T.getD (P.getD (i/50) 0) []).getD (L.getD i 0) 0=(pre++bC (T.getD (P.getD (i/50) 0) []) (L.getD i 0)).length:=(by rw[Nc,cU]);rw[e1,e2,ww Z hZ k2 (i+1) _ _ K (by omega) (by omega) (fun j h3 h4=>hT j (by omega) h4) (fun j h3 h4=>hE j (by omega) h4)];rw[Nc,cU];simp[OL]
def Ik(L:List Int)(m:Int):Prop:=∀j,j<L.length->(L.getD j 0+1=m↔j+1=L.length)
theorem F7{T:List (List Int)}{P L:List Int}{m:Int}(hg:eX T P L m)(hM:iJ L m)(hE:Ik L m)(B Z:List Nat)(hZ:am Z):dV T P (B++dG (T.map nl) (nl P) (nl L) L.length++Z) (B.length:Nat)=(nl L,B.length+(dG (T.map nl) (nl P) (nl L) L.length).length,0):=by
 have h8:=hg.2.1;have hT:=hg.1;have h0:(T.getD 0 [])∈T:=iZ (by have:=hT.1;omega);have hm:=(hg.2.2 _ h0).1;have hc:=hM.2.2.1;have h1:(nl L).length=L.length:=bL L;have hr:∀j,j<L.length->0<=L.getD j 0/\L.getD j 0<m:=fun j hj=>hM.2.2.2.2 _ (sf hj);unfold dV;rw[Ng hT,Nf (by simp only[Nc];omega),Nn,Ni,<-F4];obtain⟨k,hk⟩:∃k,L.length=k+1:=⟨L.length-1,by omega⟩;have hK:L.length<=50*P.length:=by rw[h8];unfold aR;omega
 have h:=ww (T:=T.map nl) (P:=nl P) (L:=nl L) (n0:=(T.getD 0 []).length) Z hZ k 0 B [] (50*P.length) (by omega) (by rw[h1];omega) (fun j _ hj=>by
  rw[h1]at hj
  have hb:j/50<P.length:=by
   rw[h8]
   unfold aR
   omega
  have hp:=hT.2.2.2.2.2.1 _ (sf hb)
  have h9:(nl P).getD (j/50) 0=(P.getD (j/50) 0).toNat:=qt P _
  have h7:(P.getD (j/50) 0).toNat<T.length:=by omega
  obtain⟨pj,h6⟩:∃pj,pj=(P.getD (j/50) 0).toNat:=⟨_,rfl⟩
  rw[<- h6]at h9 h7
  have h5:T.getD pj []∈T:=iZ h7
  have e:(T.map nl).getD ((nl P).getD (j/50) 0) []=nl (T.getD pj []):=by
   rw[h9,Nb,Np,Nb,Nd h7]
   rfl
  have h2:=hg.2.2 _ h5
  have ha:=hr j hj
  rw[e,bL,qt]
  exact⟨fO h2.2.1,by omega⟩) (fun j _ hj=>by
  rw[h1]at hj
  have ha:=hr j hj
  have h3:=hE j hj
  rw[qt,h1]
  constructor
  ·intro h4
   exact h3.1 (by omega)
  ·intro h4
   have:=h3.2 h4
   omega)
 rw[<- hk]at h;rw[h];simp
theorem pW{T:List (List Int)}{P L:List Int}{m:Int}(h:eX T P L m):fC T P=(iG (T.map nl) (nl P),0):=Ng h.1
theorem wZ{T:List (List Int)}{P L:List Int}{m:Int}(h:eX T P L m)(hM:iJ L m):fK T P L=((fC T P).1.length+(bX T P L).1.length,0):=by unfold fK;rw[lz h hM,Ng rfl]
theorem pT(w:World){L:List Int}{m:Int}(hM:iJ L m):eX (fN L m).1 (fN L m).2.1 L m/\(fN L m).2.2=0/\(fK (fN L m).1 (fN L m).2.1 L).1<=(fK (bi L m).1 (bi L m).2.1 L).1:=by
 have hc:=rg w hM;have hf:=qg hM;have h0:(a9 L m).2.2=0:=by rw[a9,Ng hM]
 have h1:(bi L m).2.2=0:=by rw[bi,Ng hM]
 unfold fN;rw[Ng hM];split;·exact⟨hf,h1,Nm _⟩
 ·rename_i h;exact⟨hc,h0,by omega⟩
