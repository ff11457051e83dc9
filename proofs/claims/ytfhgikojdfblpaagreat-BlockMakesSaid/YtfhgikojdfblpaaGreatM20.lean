import Derived.Test.YtfhgikojdfblpaaGreatM19
set_option maxRecDepth 100000
namespace Go.Proofs.YtfhgikojdfblpaaGreat
open _root_.Go.Proofs.Tryz
open Go.RowKit
theorem aJ.parts{w:World}{v:Value}{T:List (List Int)}{P:List Int}(h:aJ w v T P):∃A n c B m d,v=.agg #[.slice A n c,.slice B m d]/\aJ w (.agg #[.slice A n c,.slice B m d]) T P:=by obtain⟨A,n,c,B,m,d,hv,hr⟩:=id h;exact⟨A,n,c,B,m,d,hv,by rw[<- hv];exact h⟩
theorem My:prog.eqGuardType prog.depth 24=false:=by kernel_rfl
theorem MV:prog.stoodInHeld 24=false:=by kernel_rfl
theorem Lw:prog.underlying 24=some (.struct (prog.fieldsOf 24)):=by simp[Program.fieldsOf,underlying24]
theorem IE(T:ByteArray)(n:Int)(w:World):(binOp .eql 24 (.agg #[.string T,.int .i64 n]) (.agg #[.string T,.int .i64 n])).run prog w=.ok (.bool true) w:=by rw[run_eql_struct,run_equalIn_agg w 9999 24 _ _ Lw MV];simp[Program.fieldsOf,underlying24,Op.eqFields,part,go_sem]
def EW(w:World)(g:Nat)(T:List (List Int))(P:List Int)(u v:Value):Prop:=Blk w g 43 #[u,v]/\aJ w (.agg #[u,v]) T P
theorem EW.below{w w':World}{g:Nat}{T:List (List Int)}{P:List Int}{u v:Value}(h:EW w g T P u v)(hb:Below w.heap.size w w'):EW w' g T P u v:=
 ⟨aO hb h.1,h.2.below hb⟩
theorem EW.cells{w:World}{g:Nat}{T:List (List Int)}{P:List Int}{u v:Value}(h:EW w g T P u v):w.cell? ⟨g,0,none⟩=some u/\w.cell? ⟨g,1,none⟩=some v:=
 ⟨(ac h.1 0).trans rfl,(ac h.1 1).trans rfl⟩
theorem uf{w:World}{u v:Value}{T:List (List Int)}{P:List Int}(h:aJ w (.agg #[u,v]) T P):EW (w.alloc (.cells #[u,v] 43)) w.heap.size T P u v/\Below w.heap.size w (w.alloc (.cells #[u,v] 43)):=
 ⟨⟨aj w _ _,h.below ((Nj _ _).alloc (ag _) _)⟩,(Nj _ _).alloc (ag _) _⟩
theorem Fm(s T:ByteArray)(bl:List Nat)(h:au bl)(hT:T=⟨(aK bl).toArray⟩):∃Z,ao (s++T).data.toList=ao s.data.toList++bl++Z/\au Z:=by
 have hp:=lP bl h;refine⟨List.replicate (8*((bl.length+7)/8)-bl.length) 0,?_,?_⟩;·have e:(s++T).data.toList=s.data.toList++aK bl:=(by rw[hT];simp);rw[e,lN,hp,Ni]
 ·intro b hb;rw[(List.mem_replicate.1 hb).2];omega
theorem AV(l:List Nat):nl (zL l)=l:=by unfold nl zL;rw[Ou];(conv=>rhs;rw[<- QV l]);apply Oe;intro x _;show((x:Nat):Int).toNat=x;omega
theorem K3{L:List Int}(h:∀x∈L,0<=x):zL (nl L)=L:=by unfold nl zL;rw[Ou];(conv=>rhs;rw[<- QV L]);apply Oe;intro x hx;have:=h x hx;show((x.toNat:Nat):Int)=x;omega
theorem vQ{l:List Nat}(h:bK (zL l))(pre rest:List Nat):aN (pre++(bc l++rest)) (pre.length:Nat) (l.length:Nat)=(l,pre.length+(bc l).length,0):=by have h1:=EC (jy h);rw[AV]at h1;have h2:=h.1;have h3:=h.2.1;rw[iz]at h2 h3;have:=rt (l:=l) h2 h3 h1 pre [] rest (fun bs n p=>rfl);rw[Ox,NY,Ok]at this;unfold bc;rw[Ni];rw[bc]at this;exact this
theorem vk{n:Nat}:∀(Ts:List (List Nat)) (pre rest:List Nat) (acc:List (List Nat)),(∀ t∈Ts,t.length=n/\bK (zL t))->
 gG (pre++(Ts.flatMap bc++rest)) n Ts.length pre.length acc=(acc++Ts,pre.length+(Ts.flatMap bc).length,0)
 | [],pre,rest,acc,_=>by simp[gG]
 | t::Ts,pre,rest,acc,h=>by have ht:=h t (Nh ..);have e:pre++((t::Ts).flatMap bc++rest)=pre++(bc t++(Ts.flatMap bc++rest)):=(by rw[Oa,Ni]);have h1:=vQ ht.2 pre (Ts.flatMap bc++rest);rw[ht.1]at h1;rw[Ns,oW,e,h1];show(if 0=0 then(if bK (zL t)then _ else _)else _)=_;rw[Nf rfl,Nf ht.2];have e2:pre++(bc t++(Ts.flatMap bc++rest))=(pre++bc t)++(Ts.flatMap bc++rest):=(by rw[Ni]);have e3:pre.length+(bc t).length=(pre++bc t).length:=(by rw[Nb]);show gG _ n Ts.length (pre.length+(bc t).length) (acc++ [t])=_;rw[e2,e3,vk Ts (pre++bc t) rest (acc++ [t]) fun u hu=>h u (Nm _ hu)];rw[Oa,Nb,Nb,Ni];simp[OQ]
theorem wF{x n:Nat}(h:x<2^n)(rest:List Nat):val ((ah x n++rest).take n)=x:=by rw[RE (af n x),eG,NL h]
theorem D0{T:List (List Int)}{P L:List Int}{m:Int}(hg:eX T P L m)(hM:eY L m)(B Z:List Nat):gD (B++gQ (T.map nl) (nl P)++Z) (B.length:Nat) m=(T,P,B.length+(gQ (T.map nl) (nl P)).length,0):=by
 obtain⟨⟨hk,hf,hh,hi,hl,hb,hn⟩,hj,h0⟩:=hg;have hm:=hM.1;have hc:=hM.2.1;obtain⟨Q,hQ⟩:∃Q,Q=aI [0,1,2,3,4,5] (nl P):=⟨_,rfl⟩;obtain⟨S,hS⟩:∃S,S=(T.map nl).flatMap bc:=⟨_,rfl⟩;have h6:gQ (T.map nl) (nl P)=ah T.length 3++(ah P.length 15++(Q++S)):=by unfold gQ;rw[Nu,bN,<-hQ,<-hS,Ni,Ni]
 have h7:B++gQ (T.map nl) (nl P)++Z=B++(ah T.length 3++(ah P.length 15++(Q++(S++Z)))):=by rw[h6];simp only[Ni]
 have h9:(gQ (T.map nl) (nl P)).length=18+Q.length+S.length:=by rw[h6,Nb,Nb,Nb,af,af];omega
 rw[h9,h7];obtain⟨W,hW⟩:∃W,W=B++(ah T.length 3++(ah P.length 15++(Q++(S++Z)))):=⟨_,rfl⟩;have h8:W.length=B.length+18+Q.length+S.length+Z.length:=by rw[hW];simp only[Nb,af];omega
 have h1:val ((W.drop B.length).take 3)=T.length:=by rw[hW,Qj];exact wF (by omega) _
 have he:P.length<2^15:=by have h:(2:Nat)^15=32768:=(by decide);omega
 have h2:val ((W.drop (B.length+3)).take 15)=P.length:=by rw[hW,<-Qw,Qj,Rg (af _ _)];exact wF he _
 have h3:aS W T.length P.length [0,1,2,3,4,5] (B.length+18) []=(nl P,B.length+18+Q.length,0):=by have ha:=yk hf;have hx:∀x∈nl P,x<T.length:=(by intro x hx;obtain⟨y,hy,rfl⟩:=List.mem_map.1 hx;have:=hb y hy;omega);have h:=uH T.length (nl P) [0,1,2,3,4,5] (B++(ah T.length 3++ah P.length 15)) (S++Z) [] ha hx;rw[<- hQ,bN,Ok]at h;have e1:B++(ah T.length 3++ah P.length 15)++Q++(S++Z)=W:=(by rw[hW];simp only[Ni]);have e2:(B++(ah T.length 3++ah P.length 15)).length=B.length+18:=(by simp only[Nb,af]);rw[e1,e2]at h;exact h
 have h4:gG W m.toNat T.length (B.length+18+Q.length) []=(T.map nl,B.length+18+Q.length+S.length,0):=by
  have h:=vk (n:=m.toNat) (T.map nl) (B++(ah T.length 3++(ah P.length 15++Q))) Z [] (fun t ht=>by
   obtain⟨u,hu,rfl⟩:=List.mem_map.1 ht
   have h5:=h0 u hu
   refine⟨by rw[bN];omega,?_⟩
   rw[K3 fun x hx=>by have:=h5.2.1.2.2.1 x hx;omega]
   exact h5.2.1)
  rw[<- hS,Nu,Ok]at h;have e1:B++(ah T.length 3++(ah P.length 15++Q))++(S++Z)=W:=by rw[hW];simp only[Ni]
  have e2:(B++(ah T.length 3++(ah P.length 15++Q))).length=B.length+18+Q.length:=by simp only[Nb,af];omega
  rw[e1,e2]at h;exact h
 rw[<- hW];unfold gD;rw[Nd (by rw[h8];omega),Nv];unfold xu;rw[Nd (by rw[h8];omega),h1,Nd,Nd (by rw[h8];omega),h2,Nd];unfold BN;rw[h3];show(if 0=0 then(if(gG W m.toNat T.length (B.length+18+Q.length) []).2.2=0 then _ else _)else _)=_;rw[Nf rfl,h4,Nf rfl];have e5:(T.map nl).map zL=T:=by rw[Ou];(conv=>rhs;rw[<- QV T]);apply Oe;intro t ht;exact K3 fun x hx=>by have:=(h0 t ht).2.1.2.2.1 x hx;omega
 have e6:zL (nl P)=P:=K3 fun x hx=>(hb x hx).1;show((T.map nl).map zL,zL (nl P),B.length+18+Q.length+S.length,0)=_;rw[e5,e6,show B.length+18+Q.length+S.length=B.length+(18+Q.length+S.length) by omega]
def mu(T:List (List Nat))(P L:List Nat)(i k:Nat):List Nat:=(List.range' i k).flatMap fun j=>cV (T.getD (P.getD (j/50) 0) []) (L.getD j 0)
theorem C0(T:List (List Nat))(P L:List Nat)(i k:Nat):mu T P L i (k+1)=cV (T.getD (P.getD (i/50) 0) []) (L.getD i 0)++mu T P L (i+1) k:=by unfold mu;rw[List.range'_succ,Oa]
theorem F4(T:List (List Nat))(P L:List Nat)(q:Nat):mu T P L 0 q=dI T P L q:=by unfold mu dI;rw[List.range_eq_range']
theorem Fh(T:List (List Nat))(P L:List Nat)(i k:Nat):au (mu T P L i k):=fun b hb=>by
 unfold mu at hb
 obtain⟨j,_,hj⟩:=List.mem_flatMap.1 hb
 exact zy _ _ b hj
theorem wJ{T:List (List Nat)}{P L:List Nat}{n0:Nat}(Z:List Nat)(hZ:au Z):∀(k i:Nat) (pre out:List Nat) (K:Nat),k+1<=K->i+(k+1)=L.length->
 (∀ j,i<=j->j<L.length->fy (T.getD (P.getD (j/50) 0) [])/\L.getD j 0<(T.getD (P.getD (j/50) 0) []).length)->(∀ j,i<=j->j<L.length->(L.getD j 0+1=n0↔j+1=L.length))->
 nX T P (pre++(mu T P L i (k+1)++Z)) n0 K i pre.length out=(out++L.drop i,pre.length+(mu T P L i (k+1)).length,0)
 | k,i,pre,out,0,hK,_,_,_=>by omega
 | k,i,pre,out,K+1,hK,hl,hT,hE=>by
  have h5:i<L.length:=by omega
  have h1:=hT i (ag _) h5;have h2:=hE i (ag _) h5;have h0:L.drop i=L.getD i 0::L.drop (i+1):=by rw[NN h5,Na,Nc h5];rfl
  rw[qV,Qj,C0,Ni];rw[Gx h1.1 h1.2 _ ((Fh T P L (i+1) k).append hZ)];show(if L.getD i 0+1=n0 then _ else _)=_;rw[Nb,eJ,h0];by_cases e:L.getD i 0+1=n0;·have he:=h2.1 e;rw[Nf e];have hk:k=0:=(by omega);subst hk;have hd:L.drop (i+1)= []:=Pp (by omega);rw[hd];have hf:mu T P L (i+1) 0= []:=rfl;rw[hf,Ox,NY]
  ·rw[Nd e];have h6:¬i+1=L.length:=fun h=>e (h2.2 h);obtain⟨k2,rfl⟩:∃k2,k=k2+1:=⟨k-1,by omega⟩;have e1:pre++(cV (T.getD (P.getD (i/50) 0) []) (L.getD i 0)++(mu T P L (i+1) (k2+1)++Z))=(pre++cV (T.getD (P.getD (i/50) 0) []) (L.getD i 0))++(mu T P L (i+1) (k2+1)++Z):=(by rw[Ni]);have e2:pre.length+(T.getD (P.getD (i/50) 0) []).getD (L.getD i 0) 0=(pre++cV (T.getD (P.getD (i/50) 0) []) (L.getD i 0)).length:=(by rw[Nb,eJ]);rw[e1,e2,wJ Z hZ k2 (i+1) _ _ K (by omega) (by omega) (fun j h3 h4=>hT j (by omega) h4) (fun j h3 h4=>hE j (by omega) h4)];rw[Nb,eJ];simp[OQ]
def Ir(L:List Int)(m:Int):Prop:=∀j,j<L.length->(L.getD j 0+1=m↔j+1=L.length)
theorem F7{T:List (List Int)}{P L:List Int}{m:Int}(hg:eX T P L m)(hM:eY L m)(hE:Ir L m)(B Z:List Nat)(hZ:au Z):mD T P (B++dI (T.map nl) (nl P) (nl L) L.length++Z) (B.length:Nat)=(nl L,B.length+(dI (T.map nl) (nl P) (nl L) L.length).length,0):=by
 have h8:=hg.2.1;have hT:=hg.1;have h0:(T.getD 0 [])∈T:=iC (by have:=hT.1;omega);have hm:=(hg.2.2 _ h0).1;have hc:=hM.2.2.1;have h1:(nl L).length=L.length:=bN L;have hr:∀j,j<L.length->0<=L.getD j 0/\L.getD j 0<m:=fun j hj=>hM.2.2.2.2 _ (pS hj);unfold mD;rw[Nf hT,Nd (by simp only[Nb];omega),Nv,Ni,<-F4];obtain⟨k,hk⟩:∃k,L.length=k+1:=⟨L.length-1,by omega⟩;have hK:L.length<=50*P.length:=by rw[h8];unfold aH;omega
 have h:=wJ (T:=T.map nl) (P:=nl P) (L:=nl L) (n0:=(T.getD 0 []).length) Z hZ k 0 B [] (50*P.length) (by omega) (by rw[h1];omega) (fun j _ hj=>by
  rw[h1]at hj
  have hb:j/50<P.length:=by
   rw[h8]
   unfold aH
   omega
  have hp:=hT.2.2.2.2.2.1 _ (pS hb)
  have h9:(nl P).getD (j/50) 0=(P.getD (j/50) 0).toNat:=nf P _
  have h7:(P.getD (j/50) 0).toNat<T.length:=by omega
  obtain⟨pj,h6⟩:∃pj,pj=(P.getD (j/50) 0).toNat:=⟨_,rfl⟩
  rw[<- h6]at h9 h7
  have h5:T.getD pj []∈T:=iC h7
  have e:(T.map nl).getD ((nl P).getD (j/50) 0) []=nl (T.getD pj []):=by
   rw[h9,Na,Np,Na,Nc h7]
   rfl
  have h2:=hg.2.2 _ h5
  have ha:=hr j hj
  rw[e,bN,nf]
  exact⟨fM h2.2.1,by omega⟩) (fun j _ hj=>by
  rw[h1]at hj
  have ha:=hr j hj
  have h3:=hE j hj
  rw[nf,h1]
  constructor
  ·intro h4
   exact h3.1 (by omega)
  ·intro h4
   have:=h3.2 h4
   omega)
 rw[<- hk]at h;rw[h];simp
theorem nE{T:List (List Int)}{P L:List Int}{m:Int}(h:eX T P L m):cP T P=(gQ (T.map nl) (nl P),0):=Nf h.1
theorem xq{T:List (List Int)}{P L:List Int}{m:Int}(h:eX T P L m)(hM:eY L m):du T P L=((cP T P).1.length+(aT T P L).1.length,0):=by unfold du;rw[jQ h hM,Nf rfl]
theorem nC(w:World){L:List Int}{m:Int}(hM:eY L m):eX (ew L m).1 (ew L m).2.1 L m/\(ew L m).2.2=0/\(du (ew L m).1 (ew L m).2.1 L).1<=(du (aP L m).1 (aP L m).2.1 L).1:=by
 have hc:=mT w hM;have hf:=nI hM;have h0:(aG L m).2.2=0:=by rw[aG,Nf hM]
 have h1:(aP L m).2.2=0:=by rw[aP,Nf hM]
 unfold ew;rw[Nf hM];split;·exact⟨hf,h1,Nk _⟩
 ·rename_i h;exact⟨hc,h0,by omega⟩
