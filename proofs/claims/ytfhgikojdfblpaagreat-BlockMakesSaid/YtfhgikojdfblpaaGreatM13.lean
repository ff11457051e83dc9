import Derived.Test.YtfhgikojdfblpaaGreatM00
set_option maxRecDepth 100000
namespace Go.Proofs.YtfhgikojdfblpaaGreat
open _root_.Go.Proofs.Tryz
open Go.RowKit
def jq(w:World)(x n:Nat)(e:Ending)(w':World):Prop:=
 ∃g cap,e=.returned (.tuple #[.slice (some ⟨g,0,none⟩) n cap,.bool (decide (x<2^n))])/\w'.ownsRow w.heap.size 3 1 (.slice (some ⟨g,0,none⟩) n cap) n ((ah x n).map iv)/\Below w.heap.size w w'
theorem rF(x k:Nat):ah x (k+1)=(x/2^k%2)::ah x k:=by rw[RN k 1,jr];rfl
theorem Hf(q k x:Nat):((List.replicate (q+1) 0++ah x k).map iv).set q (.int .i64 (x/2^k%2:Nat))=(List.replicate q 0++ah x (k+1)).map iv:=by have h1:(List.replicate (q+1) 0++ah x k).map iv=List.replicate q (iv 0)++(iv 0::(ah x k).map iv):=(by rw[Px,Ni,Nz,Qh];rfl);rw[h1,List.set_append,Nd (by simp),NA,Oz,rF,Nz,Qh];rfl
theorem fu(w:World)(x n:Nat)(hx:x<2^64)(hn:n<=64):Calls prog 64 #[.int .u64 x,.int .i64 n] w (jq w x n):=by
 obtain⟨i3,hi,hf,hg,hh⟩:=N4 Tryz.info3;have HX:=aa hx;clear hx;go_enter func64,ntmps64;go_wp2_with (refine wpList_make_full w rfl _ _ 37 rfl w.heap.size 3 i3 (.int .i64 0) 1 underlying37 hi hf hg .i64 .i64 _ _ n rfl rfl rfl rfl ?b2 ?b3 ?b4 ?_)
 case b2=>rw[hh];omega
 case b3=>unfold maxLen;omega
 case b4=>exact Nk _
 intro w1 h6 h0;have hc:Below w.heap.size w w1:=(Nj _ _).grown h0 (ag _) (fun k hk=>by cases hk);have h8:w1.ownsRow w.heap.size 3 1 (.slice (some ⟨w.heap.size,0,none⟩) n n) n ((List.replicate n 0).map iv):=by have e:(madeCells #[Value.int .i64 0] n).toList=(List.replicate n 0).map iv:=(by rw[PX,Qh];rfl);rw[<- e];exact h6
 clear h6 h0;go_wp2;go_loopw [0,7] (fun v i wr=>∃r:Nat,r<=n/\i=.int .i64 ((r:Int)-1)/\v=.int .u64 (x/2^(n-r):Nat)/\wr.ownsRow w.heap.size 3 1 (.slice (some ⟨w.heap.size,0,none⟩) n n) n ((List.replicate r 0++ah x (n-r)).map iv)/\Below w.heap.size w wr) (fun _ i _=>(intOf i+1).toNat)
 case atStart=>exact⟨n,Nk _,rfl,by simp,by simpa [ah]using h8,hc⟩
 case round=>
  obtain⟨r,hr,rfl,rfl,h3,hb⟩:=hrel;have hy:x/2^(n-r)<18446744073709551616:=RQ (QK _ _) HX.out
  cases r with
  | zero=>have e1:((0:Nat):Int)-1= -1:=rfl;rw[e1];clear e1;simp only[QF,P6,Ok]at h3 hy |-;have h7:((x/2^n:Nat):Int)=0↔x<2^n:=(by rw[<- Nat.div_eq_zero_iff_lt (OE n)];omega);generalize x/2^n=y at*;have HD:=aa h7;clear h7;go_wp2;go_ret2;refine⟨w.heap.size,n,?_,h3,hb⟩;show Ending.returned (Value.tuple #[_,.bool ((y:Int)==0)])=_;have he:((y:Int)==0)=decide (x<2^n):=(by rw[Rf,Pn,ON];exact HD.out);rw[he];rfl
  | succ q=>
   have e1:((q+1:Nat):Int)-1=(q:Int):=(by omega);rw[e1];clear e1;have h1:=h3.cellAt q (by omega);have h2:=h3.frozenAt q;rw[Np,NW (by rw[NA];omega),OP,Nf]at h1;simp[iv]at h1;have h5:x/2^(n-(q+1))/2=x/2^(n-q):=(by rw[O0,<-Ot,Nat.succ_eq_add_one,show n-(q+1)+1=n-q by omega]);have ha:=(h3.stored q (.int .i64 (x/2^(n-(q+1))%2:Nat))).1;have h9:((List.replicate (q+1) 0++ah x (n-(q+1))).map iv).set q (.int .i64 (x/2^(n-(q+1))%2:Nat))=(List.replicate q 0++ah x (n-q)).map iv:=(by rw[show n-q=n-(q+1)+1 by omega];exact Hf q _ x);rw[h9]at ha;generalize x/2^(n-(q+1))=y at*;have HN:=aa h5;clear h5 h9;have h4:((y%2:Nat):Int)=(y:Int)%2:=(by omega);rw[h4]at ha;clear h4;go_wp2;go_roundw;case rel=>exact⟨q,by omega,rfl,by rw[<- HN.out,Int.natCast_ediv];rfl,ha,hb.setCell (p:=⟨w.heap.size,q,none⟩) (ag _) _⟩
   case measure=>simp[intOf]
theorem lj{w:World}{B:Nat}{v:Value}{l:List UInt8}(h:w.ownsRow B 5 1 v l.length (l.map bv)):(convert 69 9 v).run prog w=.ok (.string ⟨l.toArray⟩) w:=by
 rcases h.2 with⟨rfl,h0⟩|⟨g,cap,cur,rfl,_⟩;·have:l= []:=Nq h0;subst this;exact Qk w 69 5 underlying69 underlying5 0 0 9 underlying9
 ·have hn:∀j (hj:j<l.length),w.cell? ((⟨g,0,none⟩:Addr).add j)=some (.int .u8 (l[j].toNat:Int)):=(by intro j hj;have h1:=h.cells (g:=g) rfl j (.int .u8 (l[j].toNat:Int));exact h1 (by rw[Np,Nc hj];rfl));exact Qa w 69 9 5 ⟨g,0,none⟩ cap l underlying69 underlying5 underlying9 hn
def jM(L:List Nat)(i:Nat):List Nat:=(L.drop i).take 8++List.replicate (8-((L.drop i).take 8).length) 0
theorem xV(L:List Nat)(i:Nat):(jM L i).length=8:=by unfold jM;rw[Nb,NA];have:((L.drop i).take 8).length<=8:=(by rw[NB];omega);omega
theorem FR(L:List Nat)(i m:Nat)(hm:m<8):(jM L i)[m]? =some (L.getD (i+m) 0):=by
 unfold jM;rw[Na];by_cases h:i+m<L.length;·rw[NW (by rw[NB,Ny];omega),PN,Nf hm,O3,Nc h];rfl
 ·rw[NO (by rw[NB,Ny];omega),OP,Nf (by rw[NB,Ny];omega),Nw (by omega)];rfl
theorem CV(L:List Nat)(i:Nat)(h:au L):au (jM L i):=by refine((h.drop i).take 8).append ?_;intro b hb;have:=(List.mem_replicate.1 hb).2;omega
theorem Ik(k:Nat):val (List.replicate k 0)=0:=by rw[<- oA,eG,Nat.zero_mod]
theorem Dq(L:List Nat)(j:Nat)(h:8*j<L.length):aK (L.take (8*(j+1)))=aK (L.take (8*j))++ [UInt8.ofNat (val (jM L (8*j)))]:=by rw[show 8*(j+1)=8*j+8 by omega,List.take_add,ng j _ _ (by rw[NB];omega)];congr 1;have hl:((L.drop (8*j)).take 8).length<=8:=(by rw[NB];omega);rw[me _ (by rw[NB,Ny];omega) hl];unfold jM;rw[oY,Ik,NA,NY]
theorem CW(L:List Nat)(i m:Nat)(hm:m<8):val ((jM L i).take (m+1))=2*val ((jM L i).take m)+L.getD (i+m) 0:=by rw[Rq,FR L i m hm];exact iR _ _
theorem BS(w:World)(A:Option Addr)(n c:Nat)(L:List Nat)(hi:aB w A n L)(hb:au L)(hn:n<=1000000000):
 Calls prog 21 #[.slice A n c] w fun e w'=>e=.returned (.string ⟨(aK L).toArray⟩)/\Below w.heap.size w w':=by
 obtain⟨i5,h5,hq,hr,hs⟩:=N4 Tryz.info5;have hI:(0<n->∃b off,A=some ⟨b,off,none⟩/\b<w.heap.size/\∀i,i<n->w.cell? ⟨b,off+i,none⟩=some (.int .i64 (L.getD i 0))):=fun h=>by obtain⟨b,off,hA,hc⟩:=hi.2 h;exact⟨b,off,hA,No w _ (hc 0 h),hc⟩
 have HL:=aa hi.1;have HI:=aa hI;clear hi hI;go_enter func21,ntmps21;go_wp2;go_loopw [3,4] (fun v i wr=>∃j:Nat,8*j<=n+7/\i=.int .i64 (8*j:Nat)/\wr.ownsRow w.heap.size 5 1 v (aK (L.take (8*j))).length ((aK (L.take (8*j))).map bv)/\Below w.heap.size w wr) (fun _ i _=>n+8-(intOf i).toNat)
 case atStart=>exact⟨0,by omega,rfl,Nt _ _ _ _,Nj _ _⟩
 case round=>
  obtain⟨j,hj,rfl,h1,h6⟩:=hrel;have h8:=h6.size;by_cases h:8*j<n
  ·obtain⟨J,hJ⟩:∃J,J=8*j:=⟨_,rfl⟩;rw[<- hJ]at h1 h hj |-;have HJ:=aa hJ;clear hJ;obtain⟨b,off,rfl,ho,hc⟩:=HI.out (by omega);go_wp2;(go_loop [5,6] (fun x k=>∃m:Nat,m<=8/\k=.int .i64 m/\x=.int .i64 (val ((jM L J).take m))) (fun _ k=>8-(intOf k).toNat));case atStart=>exact⟨0,by omega,rfl,by simp[val]⟩
   case round=>
    obtain⟨m,hm,rfl,rfl⟩:=hrel;have hv:val ((jM L J).take m)<256:=(by refine OA (gH _ ((CV L J hb).take m)) (ND (Od (by omega) (show((jM L J).take m).length<=8 by rw[NB];omega)) (by decide)));by_cases h9:m<8
    ·have h0:=CW L J m h9;by_cases hp:J+m<n
     ·have hf:=(h6.cell (p:=⟨b,off+(J+m),none⟩) ho).trans (hc (J+m) hp);have hu:L.getD (J+m) 0<2:=oz L (J+m) hb;generalize val ((jM L J).take m)=X at*;generalize L.getD (J+m) 0=y at*;have HN:=aa h0;clear h0 hc;go_wp2;go_round;case rel=>exact⟨m+1,h9,by go_num,by rw[HN.out];congr 1;omega⟩
      case measure=>simp[intOf];omega
     ·have hh:L.getD (J+m) 0=0:=(by rw[Na,Nw (by rw[HL.out];omega)];rfl);rw[hh]at h0;generalize val ((jM L J).take m)=X at*;have HN:=aa h0;clear h0 hc hh;go_wp2;go_round;case rel=>exact⟨m+1,h9,by go_num,by rw[HN.out];congr 1;omega⟩
      case measure=>simp[intOf];omega
    ·obtain rfl:m=8:=(by omega);obtain⟨xs,he⟩:∃xs,xs=(aK (L.take J)).map bv:=⟨_,rfl⟩;rw[<- he]at h1;have HX:=aa he;clear he;have ht:(aK (L.take J)).length<=n:=(by rw[ee,NB];omega);generalize hpk:(aK (L.take J)).length=K at*;have HK:=aa hpk;clear hpk;rw[Nr (by rw[xV];exact Nk _)]at hv |-;generalize hev:val (jM L J)=X at*;have HE:=aa hev;clear hev hc;(go_wp2_with (at_builtin;refine N5 _ rfl _ _ 69 rfl w.heap.size 5 i5 (.int .u8 0) 1 1 underlying69 h5 hq hr hs rfl (by decide) _ _ _ rfl (h1.alloc _) ⟨wr.heap.size,0,none⟩ 1 1 [.int .u8 X] rfl rfl ?c1 ?c2 ?c3 ?c4 ?c5 ?_));case c2=>rfl
     case c3=>unfold maxLen;omega
     case c4=>omega
     case c5=>omega
     intro v2 w2 h3 h2 _;have hl:Below w.heap.size w w2:=(h6.alloc h8 _).grown h2 (by simp;omega) (fun k hk=>(h1.lt k hk).1);have ha:=Dq L j (by rw[HL.out,<-HJ.out];exact h);rw[<- HJ.out,HE.out]at ha;have h7:w2.ownsRow w.heap.size 5 1 v2 (aK (L.take (8*(j+1)))).length ((aK (L.take (8*(j+1)))).map bv):=(by rw[ha,Nb,NP,HK.out,Nz,<-HX.out];have:bv (UInt8.ofNat X)=.int .u8 X:=(by simp[bv];omega);rw[QG,this];exact h3);clear ha h3 h2 h1 h6;go_wp2;go_roundw;case rel=>exact⟨j+1,by rw[HJ.out]at h;omega,by rw[HJ.out];rfl,h7,hl⟩
     case measure=>simp[intOf];omega
  ·have h4:L.take (8*j)=L:=Nr (by rw[HL.out];omega);rw[h4]at h1;have hg:=lj h1;clear h4;go_wp2;go_ret;exact⟨rfl,h6⟩
theorem Dm(w:World)(A:Option Addr)(n c:Nat)(L:List Nat)(h:aB w A n L)(hb:au L)(hn:n<=64):
 Calls prog 163 #[.slice A n c] w fun e w'=>e=.returned (.int .u64 (val L))/\w=w':=by
 have HI:=aa h;clear h;go_enter func163,ntmps163;go_wp2;go_loop [3,4] (fun v i=>∃j x:Nat,j<=n/\i=.int .i64 j/\v=.int .u64 x/\x=val (L.take j)) (fun _ i=>n-(intOf i).toNat)
 case atStart=>exact⟨0,0,Ng _,rfl,rfl,by simp[val]⟩
 case round=>
  obtain⟨j,x,hj,rfl,rfl,hx⟩:=hrel;by_cases h:j<n
  ·obtain⟨hl,hc⟩:=HI.out;have HL:=aa hl;clear hl;obtain⟨b,off,rfl,h0⟩:=hc (by omega);have h1:=h0 j h;have h2:x<9223372036854775808:=(by rw[hx];refine OA (gH _ (hb.take j)) (ND (Od (by omega) (show(L.take j).length<=63 by rw[NB];omega)) (by decide)));obtain⟨y,hy⟩:∃y,y=L.getD j 0:=⟨_,rfl⟩;rw[<- hy]at h1;have h3:y<2:=(by rw[hy,Na,Nc (by rw[HL.out];exact h)];exact hb _ (NM _));have HX:=aa hx;clear hx;have HY:=aa hy;clear hy;clear hc h0;go_wp2;go_round;case rel=>
    refine⟨j+1,2*x+y,h,rfl,?_,?_⟩;·congr 1;omega
    ·rw[HX.out,HY.out,NF (by rw[HL.out];exact h),iR,Na,Nc (by rw[HL.out];exact h)];rfl
   case measure=>simp[intOf];omega
  ·obtain rfl:j=n:=(by omega);have HX:=aa hx;clear hx;go_wp2;go_ret;refine⟨?_,rfl⟩;rw[HX.out,Nr (by rw[HI.out.1];exact Nk _)];rfl
theorem JU(w:World)(s:ByteArray)(hs:s.size<=1000000):
 Calls prog 69 #[.string s] w fun e w'=>∃v,e=.returned v/\w'.ownsRow w.heap.size 3 1 v (8*s.size) ((ao s.data.toList).map iv)/\Below w.heap.size w w':=by
 obtain⟨i3,hi,hh,hl,hm⟩:=N4 Tryz.info3;go_enter func69,ntmps69;go_wp2;go_loopw [3,4] (fun v i wr=>∃j:Nat,j<=s.size/\i=.int .i64 j/\wr.ownsRow w.heap.size 3 1 v (8*j) ((ao (s.data.toList.take j)).map iv)/\Below w.heap.size w wr) (fun _ i _=>s.size-(intOf i).toNat)
 case atStart=>exact⟨0,Ng _,rfl,Nt _ _ _ _,Nj _ _⟩
 case round=>
  obtain⟨j,hj,rfl,h4,hb⟩:=hrel;rename_i v0 _;by_cases h:j<s.size
  ·go_wp2;obtain⟨wo,ho⟩:∃wo:World,wo=wr:=⟨_,rfl⟩;clear ho;(go_loopw [3,5] (fun v k wx=>∃m r:Nat,m+r=8/\k=.int .i64 ((r:Int)-1)/\wx.ownsRow w.heap.size 3 1 v (8*j+m) ((ao (s.data.toList.take j)++(ah (s[j]).toNat 8).take m).map iv)/\Below w.heap.size w wx) (fun _ k _=>(intOf k+1).toNat));case atStart=>exact⟨0,8,rfl,rfl,by simpa using h4,hb⟩
   case round=>
    obtain⟨m,r,h8,rfl,h0,h7⟩:=hrel;have hf:m<=8:=(by omega);have h5:=h7.size
    match r,h8 with
    | 0,h8=>
     obtain rfl:m=8:=(by omega);have e1:((0:Nat):Int)-1= -1:=rfl;rw[e1];clear e1;have h3:=h0;rw[Nr (show(ah (s[j]).toNat 8).length<=8 by rw[af];exact Nk _)]at h3;have HT:Hid (s.data.toList.take (j+1)=s.data.toList.take j++ [s[j]]):=(by have he:j<s.data.toList.length:=(by simpa using h);exact NF he);go_wp2;go_roundw;case rel=>refine⟨j+1,h,by go_num,?_,h7⟩;rw[HT.out,lN,fd,qK,NU];exact h3
     case measure=>simp[intOf];omega
    | q+1,h8=>
     have e1:((q+1:Nat):Int)-1=(q:Int):=(by omega);rw[e1];clear e1;obtain⟨xs,h9⟩:∃xs,xs=(ao (s.data.toList.take j)++(ah (s[j]).toNat 8).take m).map iv:=⟨_,rfl⟩;rw[<- h9]at h0;have HX:=aa h9;clear h9;have ha:(s[j].toNat:Int)<256:=(by have:=s[j].toNat_lt;omega);(go_wp2_with (at_builtin;refine N5 _ rfl _ _ 37 rfl w.heap.size 3 i3 (.int .i64 0) 1 8 underlying37 hi hh hl hm rfl (by decide) _ _ _ rfl (h0.alloc _) ⟨wr.heap.size,0,none⟩ 1 1 [.int .i64 (bits BinOp.and IntKind.i64 (s[j].toNat/2^q) 1)] rfl rfl ?c1 ?c2 ?c3 ?c4 ?c5 ?_));case c1=>exact Q2 _ _ _
     case c2=>intro u hu;simp at hu;subst hu;rfl
     case c3=>unfold maxLen;omega
     case c4=>omega
     case c5=>simp;omega
     intro v2 w2 h2 h1 _;have hc:Below w.heap.size w w2:=(h7.alloc h5 _).grown h1 (by simp;omega) (fun k hk=>(h0.lt k hk).1);have HE:=Lj _ q s[j].toNat_lt;rw[HE]at h2;clear HE;have h6:w2.ownsRow w.heap.size 3 1 v2 (8*j+(m+1)) ((ao (s.data.toList.take j)++(ah (s[j]).toNat 8).take (m+1)).map iv):=(by have hg:=nD 8 (s[j]).toNat m (by omega);rw[Rq,hg,<-Ni,Nz,<-HX.out,show 8-1-m=q by omega,<-OQ];exact h2);clear h2 h1 h0 h7;go_wp2;go_roundw;case rel=>exact⟨m+1,q,by omega,rfl,h6,hc⟩
     case measure=>simp[intOf]
  ·obtain rfl:j=s.size:=(by omega);go_wp2;go_ret;refine⟨_,rfl,?_,hb⟩;rw[Nr (by simp)]at h4;exact h4
