import Derived.Test.YthakcjehhlpjnaaGreatB15
set_option maxRecDepth 100000
namespace Go.Proofs.YthakcjehhlpjnaaGreat
open Go.RowKit
theorem aN.parts{w:World}{v:Value}{T:List (List Int)}{P:List Int}(h:aN w v T P):∃A n c B m d,v=.agg #[.slice A n c,.slice B m d]∧aN w (.agg #[.slice A n c,.slice B m d]) T P:=by
 obtain⟨A,n,c,B,m,d,hv,hr⟩:=id h
 exact⟨A,n,c,B,m,d,hv,by rw[← hv];exact h⟩
def EY(w:World)(g:Nat)(T:List (List Int))(P:List Int)(u v:Value):Prop:=Blk w g 52 #[u,v]∧aN w (.agg #[u,v]) T P
theorem EY.below{w w':World}{g:Nat}{T:List (List Int)}{P:List Int}{u v:Value}(h:EY w g T P u v)(hb:Below w.heap.size w w'):EY w' g T P u v:=
 ⟨aL hb h.1,h.2.below hb⟩
theorem EY.cells{w:World}{g:Nat}{T:List (List Int)}{P:List Int}{u v:Value}(h:EY w g T P u v):w.cell? ⟨g,0,none⟩=some u∧w.cell? ⟨g,1,none⟩=some v:=
 ⟨(ac h.1 0).trans rfl,(ac h.1 1).trans rfl⟩
theorem sK{w:World}{u v:Value}{T:List (List Int)}{P:List Int}(h:aN w (.agg #[u,v]) T P):EY (w.alloc (.cells #[u,v] 52)) w.heap.size T P u v∧Below w.heap.size w (w.alloc (.cells #[u,v] 52)):=
 ⟨⟨ag w _ _,h.below ((Below.refl _ _).alloc (ah _) _)⟩,(Below.refl _ _).alloc (ah _) _⟩
theorem DY{w:World}{a:List Nat×Nat×Nat}{e:Ending}{w':World}(h:aH w a e w'):∃A c,e=.returned (.tuple #[.slice A a.1.length c,.int .i64 a.2.1,.int .i64 a.2.2])∧a.1.length≤c∧aw w' A a.1.length a.1∧Below w.heap.size w w':=by
 obtain⟨v,rfl,ho,hb⟩:=h
 obtain⟨A,c,rfl,hc,_,_⟩:=aj ho
 exact⟨A,c,rfl,hc,aJ ho,hb⟩
theorem D5(s T:ByteArray)(bl:List Nat)(h:an bl)(hT:T=⟨(aK bl).toArray⟩):∃Z,al (s++T).data.toList=al s.data.toList++bl++Z∧an Z:=by
 have hp:=mO bl h
 refine⟨List.replicate (8*((bl.length+7) / 8) - bl.length) 0,?_,?_⟩
 ·have e:(s++T).data.toList=s.data.toList++aK bl:=by
   rw[hT]
   simp
  rw[e,kC,hp,List.append_assoc]
 ·intro b hb
  rw[(List.mem_replicate.1 hb).2]
  omega
theorem wj(l:List Nat):nl (zL l)=l:=by
 unfold nl zL
 rw[List.map_map]
 conv=>rhs;rw[← List.map_id l]
 apply List.map_congr_left
 intro x _
 show((x:Nat):Int).toNat=x
 omega
theorem Fv{L:List Int}(h:∀x∈L,0≤x):zL (nl L)=L:=by
 unfold nl zL
 rw[List.map_map]
 conv=>rhs;rw[← List.map_id L]
 apply List.map_congr_left
 intro x hx
 have:=h x hx
 show((x.toNat:Nat):Int)=x
 omega
theorem tB{l:List Nat}(h:aY (zL l))(pre rest:List Nat):ax (pre++(aX l++rest)) (pre.length:Nat) (l.length:Nat)=(l,pre.length+(aX l).length,0):=by
 have h1:=BA (jS h)
 rw[wj]at h1
 have h2:=h.1
 have h3:=h.2.1
 rw[eT]at h2 h3
 have:=oU (l:=l) h2 h3 h1 pre [] rest (fun bs n p=>rfl)
 rw[List.length_nil,Nat.add_zero,List.nil_append]at this
 unfold aX
 rw[List.append_assoc]
 rw[aX]at this
 exact this
theorem sn{n:Nat}:∀(Ts:List (List Nat)) (pre rest:List Nat) (acc:List (List Nat)),(∀ t∈Ts,t.length=n∧aY (zL t))→
 eU (pre++(Ts.flatMap aX++rest)) n Ts.length pre.length acc=(acc++Ts,pre.length+(Ts.flatMap aX).length,0)
 | [],pre,rest,acc,_=>by simp[eU]
 | t :: Ts,pre,rest,acc,h=>by
   have ht:=h t (List.mem_cons_self ..)
   have e:pre++((t :: Ts).flatMap aX++rest)=pre++(aX t++(Ts.flatMap aX++rest)):=by
    rw[List.flatMap_cons,List.append_assoc]
   have h1:=tB ht.2 pre (Ts.flatMap aX++rest)
   rw[ht.1]at h1
   rw[List.length_cons,kF,e,h1]
   show(if 0=0 then(if aY (zL t)then _ else _)else _)=_
   rw[if_pos rfl,if_pos ht.2]
   have e2:pre++(aX t++(Ts.flatMap aX++rest))=(pre++aX t)++(Ts.flatMap aX++rest):=by rw[List.append_assoc]
   have e3:pre.length+(aX t).length=(pre++aX t).length:=by rw[List.length_append]
   show eU _ n Ts.length (pre.length+(aX t).length) (acc++ [t])=_
   rw[e2,e3,sn Ts (pre++aX t) rest (acc++ [t]) fun u hu=>h u (List.mem_cons_of_mem _ hu)]
   rw[List.flatMap_cons,List.length_append,List.length_append,List.append_assoc]
   simp[Nat.add_assoc]
theorem tJ{x n:Nat}(h:x<2 ^ n)(rest:List Nat):val ((ai x n++rest).take n)=x:=by
 rw[List.take_left' (af n x),cV,Nat.mod_eq_of_lt h]
theorem AL{T:List (List Int)}{P L:List Int}{m:Int}(hg:eN T P L m)(hM:g9 L m)(B Z:List Nat):eJ (B++gB (T.map nl) (nl P)++Z) (B.length:Nat) m=(T,P,B.length+(gB (T.map nl) (nl P)).length,0):=by
 obtain⟨⟨hk,hf,hh,hi,hl,hb,hn⟩,hj,h0⟩:=hg
 have hm:=hM.1
 have hc:=hM.2.1
 obtain⟨Q,hQ⟩:∃Q,Q=aG [0,1,2,3,4,5] (nl P):=⟨_,rfl⟩
 obtain⟨S,hS⟩:∃S,S=(T.map nl).flatMap aX:=⟨_,rfl⟩
 have h6:gB (T.map nl) (nl P)=ai T.length 3++(ai P.length 15++(Q++S)):=by
  unfold gB
  rw[List.length_map,bz,←hQ,←hS,List.append_assoc,List.append_assoc]
 have h7:B++gB (T.map nl) (nl P)++Z=B++(ai T.length 3++(ai P.length 15++(Q++(S++Z)))):=by
  rw[h6]
  simp only[List.append_assoc]
 have h9:(gB (T.map nl) (nl P)).length=18+Q.length+S.length:=by
  rw[h6,List.length_append,List.length_append,List.length_append,af,af]
  omega
 rw[h9,h7]
 obtain⟨W,hW⟩:∃W,W=B++(ai T.length 3++(ai P.length 15++(Q++(S++Z)))):=⟨_,rfl⟩
 have h8:W.length=B.length+18+Q.length+S.length+Z.length:=by
  rw[hW]
  simp only[List.length_append,af]
  omega
 have h1:val ((W.drop B.length).take 3)=T.length:=by
  rw[hW,List.drop_left]
  exact tJ (by omega) _
 have he:P.length<2 ^ 15:=by
  have h:(2:Nat) ^ 15=32768:=by decide
  omega
 have h2:val ((W.drop (B.length+3)).take 15)=P.length:=by
  rw[hW,←List.drop_drop,List.drop_left,List.drop_left' (af _ _)]
  exact tJ he _
 have h3:aD W T.length P.length [0,1,2,3,4,5] (B.length+18) []=(nl P,B.length+18+Q.length,0):=by
  have ha:=BC hf
  have hx:∀x∈nl P,x<T.length:=by
   intro x hx
   obtain⟨y,hy,rfl⟩:=List.mem_map.1 hx
   have:=hb y hy
   omega
  have h:=r9 T.length (nl P) [0,1,2,3,4,5] (B++(ai T.length 3++ai P.length 15)) (S++Z) [] ha hx
  rw[← hQ,bz,List.nil_append]at h
  have e1:B++(ai T.length 3++ai P.length 15)++Q++(S++Z)=W:=by
   rw[hW]
   simp only[List.append_assoc]
  have e2:(B++(ai T.length 3++ai P.length 15)).length=B.length+18:=by
   simp only[List.length_append,af]
  rw[e1,e2]at h
  exact h
 have h4:eU W m.toNat T.length (B.length+18+Q.length) []=(T.map nl,B.length+18+Q.length+S.length,0):=by
  have h:=sn (n:=m.toNat) (T.map nl) (B++(ai T.length 3++(ai P.length 15++Q))) Z [] (fun t ht=>by
   obtain⟨u,hu,rfl⟩:=List.mem_map.1 ht
   have h5:=h0 u hu
   refine⟨by rw[bz];omega,?_⟩
   rw[Fv fun x hx=>by have:=h5.2.1.2.2.1 x hx;omega]
   exact h5.2.1)
  rw[← hS,List.length_map,List.nil_append]at h
  have e1:B++(ai T.length 3++(ai P.length 15++Q))++(S++Z)=W:=by
   rw[hW]
   simp only[List.append_assoc]
  have e2:(B++(ai T.length 3++(ai P.length 15++Q))).length=B.length+18+Q.length:=by
   simp only[List.length_append,af]
   omega
  rw[e1,e2]at h
  exact h
 rw[← hW]
 unfold eJ
 rw[if_neg (by rw[h8];omega),Int.toNat_natCast]
 unfold jl
 rw[if_neg (by rw[h8];omega),h1,if_neg (by omega),if_neg (by rw[h8];omega),h2,if_neg (by omega)]
 unfold rc
 rw[h3]
 show(if 0=0 then(if(eU W m.toNat T.length (B.length+18+Q.length) []).2.2=0 then _ else _)else _)=_
 rw[if_pos rfl,h4,if_pos rfl]
 have e5:(T.map nl).map zL=T:=by
  rw[List.map_map]
  conv=>rhs;rw[← List.map_id T]
  apply List.map_congr_left
  intro t ht
  exact Fv fun x hx=>by have:=(h0 t ht).2.1.2.2.1 x hx;omega
 have e6:zL (nl P)=P:=Fv fun x hx=>(hb x hx).1
 show((T.map nl).map zL,zL (nl P),B.length+18+Q.length+S.length,0)=_
 rw[e5,e6,show B.length+18+Q.length+S.length=B.length+(18+Q.length+S.length) by omega]
def kV(T:List (List Nat))(P L:List Nat)(i k:Nat):List Nat:=(List.range' i k).flatMap fun j=>bf (T.getD (P.getD (j / 50) 0) []) (L.getD j 0)
theorem zD(T:List (List Nat))(P L:List Nat)(i k:Nat):kV T P L i (k+1)=bf (T.getD (P.getD (i / 50) 0) []) (L.getD i 0)++kV T P L (i+1) k:=by
 unfold kV
 rw[List.range'_succ,List.flatMap_cons]
theorem ED(T:List (List Nat))(P L:List Nat)(q:Nat):kV T P L 0 q=cQ T P L q:=by
 unfold kV cQ
 rw[List.range_eq_range']
theorem D6(T:List (List Nat))(P L:List Nat)(i k:Nat):an (kV T P L i k):=fun b hb=>by
 unfold kV at hb
 obtain⟨j,_,hj⟩:=List.mem_flatMap.1 hb
 exact pH _ _ b hj
theorem tT{T:List (List Nat)}{P L:List Nat}{n0:Nat}(Z:List Nat)(hZ:an Z):∀(k i:Nat) (pre out:List Nat) (K:Nat),k+1≤K→i+(k+1)=L.length→
 (∀ j,i≤j→j<L.length→eu (T.getD (P.getD (j / 50) 0) [])∧L.getD j 0<(T.getD (P.getD (j / 50) 0) []).length)→(∀ j,i≤j→j<L.length→(L.getD j 0+1=n0↔j+1=L.length))→
 kA T P (pre++(kV T P L i (k+1)++Z)) n0 K i pre.length out=(out++L.drop i,pre.length+(kV T P L i (k+1)).length,0)
 | k,i,pre,out,0,hK,_,_,_=>by omega
 | k,i,pre,out,K+1,hK,hl,hT,hE=>by
   have h5:i<L.length:=by omega
   have h1:=hT i (ah _) h5
   have h2:=hE i (ah _) h5
   have h0:L.drop i=L.getD i 0 :: L.drop (i+1):=by
    rw[List.drop_eq_getElem_cons h5,List.getD_eq_getElem?_getD,List.getElem?_eq_getElem h5]
    rfl
   rw[lV,List.drop_left,zD,List.append_assoc]
   rw[DP h1.1 h1.2 _ ((D6 T P L (i+1) k).append hZ)]
   show(if L.getD i 0+1=n0 then _ else _)=_
   rw[List.length_append,ct,h0]
   by_cases e:L.getD i 0+1=n0
   ·have he:=h2.1 e
    rw[if_pos e]
    have hk:k=0:=by omega
    subst hk
    have hd:L.drop (i+1)= []:=List.drop_eq_nil_of_le (by omega)
    rw[hd]
    have hf:kV T P L (i+1) 0= []:=rfl
    rw[hf,List.length_nil,Nat.add_zero]
   ·rw[if_neg e]
    have h6:¬i+1=L.length:=fun h=>e (h2.2 h)
    obtain⟨k2,rfl⟩:∃k2,k=k2+1:=⟨k - 1,by omega⟩
    have e1:pre++(bf (T.getD (P.getD (i / 50) 0) []) (L.getD i 0)++(kV T P L (i+1) (k2+1)++Z))=(pre++bf (T.getD (P.getD (i / 50) 0) []) (L.getD i 0))++(kV T P L (i+1) (k2+1)++Z):=by rw[List.append_assoc]
    have e2:pre.length+(T.getD (P.getD (i / 50) 0) []).getD (L.getD i 0) 0=(pre++bf (T.getD (P.getD (i / 50) 0) []) (L.getD i 0)).length:=by rw[List.length_append,ct]
    rw[e1,e2,tT Z hZ k2 (i+1) _ _ K (by omega) (by omega) (fun j h3 h4=>hT j (by omega) h4) (fun j h3 h4=>hE j (by omega) h4)]
    rw[List.length_append,ct]
    simp[Nat.add_assoc]
def Gg(L:List Int)(m:Int):Prop:=∀j,j<L.length→(L.getD j 0+1=m↔j+1=L.length)
theorem Ck{T:List (List Int)}{P L:List Int}{m:Int}(hg:eN T P L m)(hM:g9 L m)(hE:Gg L m)(B Z:List Nat)(hZ:an Z):eK T P (B++cQ (T.map nl) (nl P) (nl L) L.length++Z) (B.length:Nat)=(nl L,B.length+(cQ (T.map nl) (nl P) (nl L) L.length).length,0):=by
 have h8:=hg.2.1
 have hT:=hg.1
 have h0:(T.getD 0 [])∈T:=ii (by have:=hT.1;omega)
 have hm:=(hg.2.2 _ h0).1
 have hc:=hM.2.2.1
 have h1:(nl L).length=L.length:=bz L
 have hr:∀j,j<L.length→0≤L.getD j 0∧L.getD j 0<m:=fun j hj=>hM.2.2.2.2 _ (qr hj)
 unfold eK
 rw[if_pos hT,if_neg (by simp only[List.length_append];omega),Int.toNat_natCast,List.append_assoc,←ED]
 obtain⟨k,hk⟩:∃k,L.length=k+1:=⟨L.length - 1,by omega⟩
 have hK:L.length≤50*P.length:=by
  rw[h8]
  unfold aQ
  omega
 have h:=tT (T:=T.map nl) (P:=nl P) (L:=nl L) (n0:=(T.getD 0 []).length) Z hZ k 0 B [] (50*P.length) (by omega) (by rw[h1];omega) (fun j _ hj=>by
  rw[h1]at hj
  have hb:j / 50<P.length:=by
   rw[h8]
   unfold aQ
   omega
  have hp:=hT.2.2.2.2.2.1 _ (qr hb)
  have h9:(nl P).getD (j / 50) 0=(P.getD (j / 50) 0).toNat:=ox P _
  have h7:(P.getD (j / 50) 0).toNat<T.length:=by omega
  obtain⟨pj,h6⟩:∃pj,pj=(P.getD (j / 50) 0).toNat:=⟨_,rfl⟩
  rw[← h6]at h9 h7
  have h5:T.getD pj []∈T:=ii h7
  have e:(T.map nl).getD ((nl P).getD (j / 50) 0) []=nl (T.getD pj []):=by
   rw[h9,List.getD_eq_getElem?_getD,List.getElem?_map,List.getD_eq_getElem?_getD,List.getElem?_eq_getElem h7]
   rfl
  have h2:=hg.2.2 _ h5
  have ha:=hr j hj
  rw[e,bz,ox]
  exact⟨fq h2.2.1,by omega⟩) (fun j _ hj=>by
  rw[h1]at hj
  have ha:=hr j hj
  have h3:=hE j hj
  rw[ox,h1]
  constructor
  ·intro h4
   exact h3.1 (by omega)
  ·intro h4
   have:=h3.2 h4
   omega)
 rw[← hk]at h
 rw[h]
 simp
theorem oE{T:List (List Int)}{P L:List Int}{m:Int}(h:eN T P L m):eG T P=(gB (T.map nl) (nl P),0):=if_pos h.1
theorem tQ{T:List (List Int)}{P L:List Int}{m:Int}(h:eN T P L m)(hM:g9 L m):ff T P L=((eG T P).1.length+(bD T P L).1.length,0):=by
 unfold ff
 rw[kJ h hM,if_pos rfl]
theorem oM(w:World){L:List Int}{m:Int}(hM:g9 L m):eN (fo L m).1 (fo L m).2.1 L m∧(fo L m).2.2=0∧(ff (fo L m).1 (fo L m).2.1 L).1≤(ff (aZ L m).1 (aZ L m).2.1 L).1:=by
 have hc:=p6 w hM
 have hf:=oJ hM
 have h0:(aU L m).2.2=0:=by rw[aU,if_pos hM]
 have h1:(aZ L m).2.2=0:=by rw[aZ,if_pos hM]
 unfold fo
 rw[if_pos hM]
 split
 ·exact⟨hf,h1,Nat.le_refl _⟩
 ·rename_i h
  exact⟨hc,h0,by omega⟩
end Go.Proofs.YthakcjehhlpjnaaGreat
