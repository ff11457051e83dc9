import Derived.Test.YthakcjehhlpjnaaGreatA16
set_option maxRecDepth 100000
namespace Go.Proofs.YthakcjehhlpjnaaGreat
open Go.RowKit
theorem aZ.parts{w:World}{v:Value}{T:List (List Int)}{P:List Int}(h:aZ w v T P):∃A n c B m d,v=.agg #[.slice A n c,.slice B m d]∧aZ w (.agg #[.slice A n c,.slice B m d]) T P:=by
 obtain⟨A,n,c,B,m,d,hv,hr⟩:=id h
 exact⟨A,n,c,B,m,d,hv,by rw[← hv];exact h⟩
theorem Ix:Tryz.prog.eqGuardType Tryz.prog.depth 24=false:=by kernel_rfl
theorem IP:Tryz.prog.stoodInHeld 24=false:=by kernel_rfl
theorem GZ:Tryz.prog.underlying 24=some (.struct (Tryz.prog.fieldsOf 24)):=by simp[Program.fieldsOf,Tryz.underlying24]
theorem EC(T:ByteArray)(n:Int)(w:World):(binOp .eql 24 (.agg #[.string T,.int .i64 n]) (.agg #[.string T,.int .i64 n])).run Tryz.prog w=.ok (.bool true) w:=by
 rw[run_eql_struct,run_equalIn_agg w 9999 24 _ _ GZ IP]
 simp[Program.fieldsOf,Tryz.underlying24,Op.eqFields,part,go_sem]
def Dg(w:World)(g:Nat)(T:List (List Int))(P:List Int)(u v:Value):Prop:=Blk w g 52 #[u,v]∧aZ w (.agg #[u,v]) T P
theorem Dg.below{w w':World}{g:Nat}{T:List (List Int)}{P:List Int}{u v:Value}(h:Dg w g T P u v)(hb:Below w.heap.size w w'):Dg w' g T P u v:=
 ⟨aM hb h.1,h.2.below hb⟩
theorem Dg.cells{w:World}{g:Nat}{T:List (List Int)}{P:List Int}{u v:Value}(h:Dg w g T P u v):w.cell? ⟨g,0,none⟩=some u∧w.cell? ⟨g,1,none⟩=some v:=
 ⟨(ac h.1 0).trans rfl,(ac h.1 1).trans rfl⟩
theorem wP{w:World}{u v:Value}{T:List (List Int)}{P:List Int}(h:aZ w (.agg #[u,v]) T P):Dg (w.alloc (.cells #[u,v] 52)) w.heap.size T P u v∧Below w.heap.size w (w.alloc (.cells #[u,v] 52)):=
 ⟨⟨ag w _ _,h.below ((Below.refl _ _).alloc (ah _) _)⟩,(Below.refl _ _).alloc (ah _) _⟩
theorem DV(s T:ByteArray)(bl:List Nat)(h:aw bl)(hT:T=⟨(aG bl).toArray⟩):∃Z,ak (s++T).data.toList=ak s.data.toList++bl++Z∧aw Z:=by
 have hp:=j4 bl h
 refine⟨List.replicate (8*((bl.length+7) / 8) - bl.length) 0,?_,?_⟩
 ·have e:(s++T).data.toList=s.data.toList++aG bl:=by
   rw[hT]
   simp
  rw[e,em,hp,List.append_assoc]
 ·intro b hb
  rw[(List.mem_replicate.1 hb).2]
  omega
theorem xq(l:List Nat):nl (zL l)=l:=by
 unfold nl zL
 rw[List.map_map]
 conv=>rhs;rw[← List.map_id l]
 apply List.map_congr_left
 intro x _
 show((x:Nat):Int).toNat=x
 omega
theorem EF{L:List Int}(h:∀x∈L,0≤x):zL (nl L)=L:=by
 unfold nl zL
 rw[List.map_map]
 conv=>rhs;rw[← List.map_id L]
 apply List.map_congr_left
 intro x hx
 have:=h x hx
 show((x.toNat:Nat):Int)=x
 omega
theorem sw{l:List Nat}(h:bL (zL l))(pre rest:List Nat):aE (pre++(aX l++rest)) (pre.length:Nat) (l.length:Nat)=(l,pre.length+(aX l).length,0):=by
 have h1:=Au (jz h)
 rw[xq]at h1
 have h2:=h.1
 have h3:=h.2.1
 rw[fG]at h2 h3
 have:=oD (l:=l) h2 h3 h1 pre [] rest (fun bs n p=>rfl)
 rw[List.length_nil,Nat.add_zero,List.nil_append]at this
 unfold aX
 rw[List.append_assoc]
 rw[aX]at this
 exact this
theorem rd{n:Nat}:∀(Ts:List (List Nat)) (pre rest:List Nat) (acc:List (List Nat)),(∀ t∈Ts,t.length=n∧bL (zL t))→
 fo (pre++(Ts.flatMap aX++rest)) n Ts.length pre.length acc=(acc++Ts,pre.length+(Ts.flatMap aX).length,0)
 | [],pre,rest,acc,_=>by simp[fo]
 | t :: Ts,pre,rest,acc,h=>by
   have ht:=h t (List.mem_cons_self ..)
   have e:pre++((t :: Ts).flatMap aX++rest)=pre++(aX t++(Ts.flatMap aX++rest)):=by
    rw[List.flatMap_cons,List.append_assoc]
   have h1:=sw ht.2 pre (Ts.flatMap aX++rest)
   rw[ht.1]at h1
   rw[List.length_cons,mj,e,h1]
   show(if 0=0 then(if bL (zL t)then _ else _)else _)=_
   rw[if_pos rfl,if_pos ht.2]
   have e2:pre++(aX t++(Ts.flatMap aX++rest))=(pre++aX t)++(Ts.flatMap aX++rest):=by rw[List.append_assoc]
   have e3:pre.length+(aX t).length=(pre++aX t).length:=by rw[List.length_append]
   show fo _ n Ts.length (pre.length+(aX t).length) (acc++ [t])=_
   rw[e2,e3,rd Ts (pre++aX t) rest (acc++ [t]) fun u hu=>h u (List.mem_cons_of_mem _ hu)]
   rw[List.flatMap_cons,List.length_append,List.length_append,List.append_assoc]
   simp[Nat.add_assoc]
theorem td{x n:Nat}(h:x<2 ^ n)(rest:List Nat):val ((aj x n++rest).take n)=x:=by
 rw[List.take_left' (af n x),dD,Nat.mod_eq_of_lt h]
theorem zw{T:List (List Int)}{P L:List Int}{m:Int}(hg:ed T P L m)(hM:gz L m)(B Z:List Nat):fp (B++gg (T.map nl) (nl P)++Z) (B.length:Nat) m=(T,P,B.length+(gg (T.map nl) (nl P)).length,0):=by
 obtain⟨⟨hk,hf,hh,hi,hl,hb,hn⟩,hj,h0⟩:=hg
 have hm:=hM.1
 have hc:=hM.2.1
 obtain⟨Q,hQ⟩:∃Q,Q=aH [0,1,2,3,4,5] (nl P):=⟨_,rfl⟩
 obtain⟨S,hS⟩:∃S,S=(T.map nl).flatMap aX:=⟨_,rfl⟩
 have h6:gg (T.map nl) (nl P)=aj T.length 3++(aj P.length 15++(Q++S)):=by
  unfold gg
  rw[List.length_map,bI,←hQ,←hS,List.append_assoc,List.append_assoc]
 have h7:B++gg (T.map nl) (nl P)++Z=B++(aj T.length 3++(aj P.length 15++(Q++(S++Z)))):=by
  rw[h6]
  simp only[List.append_assoc]
 have h9:(gg (T.map nl) (nl P)).length=18+Q.length+S.length:=by
  rw[h6,List.length_append,List.length_append,List.length_append,af,af]
  omega
 rw[h9,h7]
 obtain⟨W,hW⟩:∃W,W=B++(aj T.length 3++(aj P.length 15++(Q++(S++Z)))):=⟨_,rfl⟩
 have h8:W.length=B.length+18+Q.length+S.length+Z.length:=by
  rw[hW]
  simp only[List.length_append,af]
  omega
 have h1:val ((W.drop B.length).take 3)=T.length:=by
  rw[hW,List.drop_left]
  exact td (by omega) _
 have he:P.length<2 ^ 15:=by
  have h:(2:Nat) ^ 15=32768:=by decide
  omega
 have h2:val ((W.drop (B.length+3)).take 15)=P.length:=by
  rw[hW,←List.drop_drop,List.drop_left,List.drop_left' (af _ _)]
  exact td he _
 have h3:aF W T.length P.length [0,1,2,3,4,5] (B.length+18) []=(nl P,B.length+18+Q.length,0):=by
  have ha:=AF hf
  have hx:∀x∈nl P,x<T.length:=by
   intro x hx
   obtain⟨y,hy,rfl⟩:=List.mem_map.1 hx
   have:=hb y hy
   omega
  have h:=qK T.length (nl P) [0,1,2,3,4,5] (B++(aj T.length 3++aj P.length 15)) (S++Z) [] ha hx
  rw[← hQ,bI,List.nil_append]at h
  have e1:B++(aj T.length 3++aj P.length 15)++Q++(S++Z)=W:=by
   rw[hW]
   simp only[List.append_assoc]
  have e2:(B++(aj T.length 3++aj P.length 15)).length=B.length+18:=by
   simp only[List.length_append,af]
  rw[e1,e2]at h
  exact h
 have h4:fo W m.toNat T.length (B.length+18+Q.length) []=(T.map nl,B.length+18+Q.length+S.length,0):=by
  have h:=rd (n:=m.toNat) (T.map nl) (B++(aj T.length 3++(aj P.length 15++Q))) Z [] (fun t ht=>by
   obtain⟨u,hu,rfl⟩:=List.mem_map.1 ht
   have h5:=h0 u hu
   refine⟨by rw[bI];omega,?_⟩
   rw[EF fun x hx=>by have:=h5.2.1.2.2.1 x hx;omega]
   exact h5.2.1)
  rw[← hS,List.length_map,List.nil_append]at h
  have e1:B++(aj T.length 3++(aj P.length 15++Q))++(S++Z)=W:=by
   rw[hW]
   simp only[List.append_assoc]
  have e2:(B++(aj T.length 3++(aj P.length 15++Q))).length=B.length+18+Q.length:=by
   simp only[List.length_append,af]
   omega
  rw[e1,e2]at h
  exact h
 rw[← hW]
 unfold fp
 rw[if_neg (by rw[h8];omega),Int.toNat_natCast]
 unfold tx
 rw[if_neg (by rw[h8];omega),h1,if_neg (by omega),if_neg (by rw[h8];omega),h2,if_neg (by omega)]
 unfold xS
 rw[h3]
 show(if 0=0 then(if(fo W m.toNat T.length (B.length+18+Q.length) []).2.2=0 then _ else _)else _)=_
 rw[if_pos rfl,h4,if_pos rfl]
 have e5:(T.map nl).map zL=T:=by
  rw[List.map_map]
  conv=>rhs;rw[← List.map_id T]
  apply List.map_congr_left
  intro t ht
  exact EF fun x hx=>by have:=(h0 t ht).2.1.2.2.1 x hx;omega
 have e6:zL (nl P)=P:=EF fun x hx=>(hb x hx).1
 show((T.map nl).map zL,zL (nl P),B.length+18+Q.length+S.length,0)=_
 rw[e5,e6,show B.length+18+Q.length+S.length=B.length+(18+Q.length+S.length) by omega]
def kC(T:List (List Nat))(P L:List Nat)(i k:Nat):List Nat:=(List.range' i k).flatMap fun j=>dU (T.getD (P.getD (j / 50) 0) []) (L.getD j 0)
theorem yz(T:List (List Nat))(P L:List Nat)(i k:Nat):kC T P L i (k+1)=dU (T.getD (P.getD (i / 50) 0) []) (L.getD i 0)++kC T P L (i+1) k:=by
 unfold kC
 rw[List.range'_succ,List.flatMap_cons]
theorem Ck(T:List (List Nat))(P L:List Nat)(q:Nat):kC T P L 0 q=cQ T P L q:=by
 unfold kC cQ
 rw[List.range_eq_range']
theorem C7(T:List (List Nat))(P L:List Nat)(i k:Nat):aw (kC T P L i k):=fun b hb=>by
 unfold kC at hb
 obtain⟨j,_,hj⟩:=List.mem_flatMap.1 hb
 exact xh _ _ b hj
theorem t7{T:List (List Nat)}{P L:List Nat}{n0:Nat}(Z:List Nat)(hZ:aw Z):∀(k i:Nat) (pre out:List Nat) (K:Nat),k+1≤K→i+(k+1)=L.length→
 (∀ j,i≤j→j<L.length→fd (T.getD (P.getD (j / 50) 0) [])∧L.getD j 0<(T.getD (P.getD (j / 50) 0) []).length)→(∀ j,i≤j→j<L.length→(L.getD j 0+1=n0↔j+1=L.length))→
 lX T P (pre++(kC T P L i (k+1)++Z)) n0 K i pre.length out=(out++L.drop i,pre.length+(kC T P L i (k+1)).length,0)
 | k,i,pre,out,0,hK,_,_,_=>by omega
 | k,i,pre,out,K+1,hK,hl,hT,hE=>by
   have h5:i<L.length:=by omega
   have h1:=hT i (ah _) h5
   have h2:=hE i (ah _) h5
   have h0:L.drop i=L.getD i 0 :: L.drop (i+1):=by
    rw[List.drop_eq_getElem_cons h5,List.getD_eq_getElem?_getD,List.getElem?_eq_getElem h5]
    rfl
   rw[nT,List.drop_left,yz,List.append_assoc]
   rw[CR h1.1 h1.2 _ ((C7 T P L (i+1) k).append hZ)]
   show(if L.getD i 0+1=n0 then _ else _)=_
   rw[List.length_append,gJ,h0]
   by_cases e:L.getD i 0+1=n0
   ·have he:=h2.1 e
    rw[if_pos e]
    have hk:k=0:=by omega
    subst hk
    have hd:L.drop (i+1)= []:=List.drop_eq_nil_of_le (by omega)
    rw[hd]
    have hf:kC T P L (i+1) 0= []:=rfl
    rw[hf,List.length_nil,Nat.add_zero]
   ·rw[if_neg e]
    have h6:¬i+1=L.length:=fun h=>e (h2.2 h)
    obtain⟨k2,rfl⟩:∃k2,k=k2+1:=⟨k - 1,by omega⟩
    have e1:pre++(dU (T.getD (P.getD (i / 50) 0) []) (L.getD i 0)++(kC T P L (i+1) (k2+1)++Z))=(pre++dU (T.getD (P.getD (i / 50) 0) []) (L.getD i 0))++(kC T P L (i+1) (k2+1)++Z):=by rw[List.append_assoc]
    have e2:pre.length+(T.getD (P.getD (i / 50) 0) []).getD (L.getD i 0) 0=(pre++dU (T.getD (P.getD (i / 50) 0) []) (L.getD i 0)).length:=by rw[List.length_append,gJ]
    rw[e1,e2,t7 Z hZ k2 (i+1) _ _ K (by omega) (by omega) (fun j h3 h4=>hT j (by omega) h4) (fun j h3 h4=>hE j (by omega) h4)]
    rw[List.length_append,gJ]
    simp[Nat.add_assoc]
def Gd(L:List Int)(m:Int):Prop:=∀j,j<L.length→(L.getD j 0+1=m↔j+1=L.length)
theorem CP{T:List (List Int)}{P L:List Int}{m:Int}(hg:ed T P L m)(hM:gz L m)(hE:Gd L m)(B Z:List Nat)(hZ:aw Z):kK T P (B++cQ (T.map nl) (nl P) (nl L) L.length++Z) (B.length:Nat)=(nl L,B.length+(cQ (T.map nl) (nl P) (nl L) L.length).length,0):=by
 have h8:=hg.2.1
 have hT:=hg.1
 have h0:(T.getD 0 [])∈T:=mP (by have:=hT.1;omega)
 have hm:=(hg.2.2 _ h0).1
 have hc:=hM.2.2.1
 have h1:(nl L).length=L.length:=bI L
 have hr:∀j,j<L.length→0≤L.getD j 0∧L.getD j 0<m:=fun j hj=>hM.2.2.2.2 _ (pO hj)
 unfold kK
 rw[if_pos hT,if_neg (by simp only[List.length_append];omega),Int.toNat_natCast,List.append_assoc,←Ck]
 obtain⟨k,hk⟩:∃k,L.length=k+1:=⟨L.length - 1,by omega⟩
 have hK:L.length≤50*P.length:=by
  rw[h8]
  unfold aP
  omega
 have h:=t7 (T:=T.map nl) (P:=nl P) (L:=nl L) (n0:=(T.getD 0 []).length) Z hZ k 0 B [] (50*P.length) (by omega) (by rw[h1];omega) (fun j _ hj=>by
  rw[h1]at hj
  have hb:j / 50<P.length:=by
   rw[h8]
   unfold aP
   omega
  have hp:=hT.2.2.2.2.2.1 _ (pO hb)
  have h9:(nl P).getD (j / 50) 0=(P.getD (j / 50) 0).toNat:=qY P _
  have h7:(P.getD (j / 50) 0).toNat<T.length:=by omega
  obtain⟨pj,h6⟩:∃pj,pj=(P.getD (j / 50) 0).toNat:=⟨_,rfl⟩
  rw[← h6]at h9 h7
  have h5:T.getD pj []∈T:=mP h7
  have e:(T.map nl).getD ((nl P).getD (j / 50) 0) []=nl (T.getD pj []):=by
   rw[h9,List.getD_eq_getElem?_getD,List.getElem?_map,List.getD_eq_getElem?_getD,List.getElem?_eq_getElem h7]
   rfl
  have h2:=hg.2.2 _ h5
  have ha:=hr j hj
  rw[e,bI,qY]
  exact⟨fU h2.2.1,by omega⟩) (fun j _ hj=>by
  rw[h1]at hj
  have ha:=hr j hj
  have h3:=hE j hj
  rw[qY,h1]
  constructor
  ·intro h4
   exact h3.1 (by omega)
  ·intro h4
   have:=h3.2 h4
   omega)
 rw[← hk]at h
 rw[h]
 simp
theorem oe{T:List (List Int)}{P L:List Int}{m:Int}(h:ed T P L m):eh T P=(gg (T.map nl) (nl P),0):=if_pos h.1
theorem tc{T:List (List Int)}{P L:List Int}{m:Int}(h:ed T P L m)(hM:gz L m):eE T P L=((eh T P).1.length+(bw T P L).1.length,0):=by
 unfold eE
 rw[kx h hM,if_pos rfl]
theorem nP(w:World){L:List Int}{m:Int}(hM:gz L m):ed (eM L m).1 (eM L m).2.1 L m∧(eM L m).2.2=0∧(eE (eM L m).1 (eM L m).2.1 L).1≤(eE (aY L m).1 (aY L m).2.1 L).1:=by
 have hc:=pt w hM
 have hf:=oB hM
 have h0:(aV L m).2.2=0:=by rw[aV,if_pos hM]
 have h1:(aY L m).2.2=0:=by rw[aY,if_pos hM]
 unfold eM
 rw[if_pos hM]
 split
 ·exact⟨hf,h1,Nat.le_refl _⟩
 ·rename_i h
  exact⟨hc,h0,by omega⟩
end Go.Proofs.YthakcjehhlpjnaaGreat
