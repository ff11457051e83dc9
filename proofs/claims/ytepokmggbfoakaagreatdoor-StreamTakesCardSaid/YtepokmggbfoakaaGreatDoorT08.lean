import Derived.Test.YtepokmggbfoakaaGreatDoorT00
set_option maxRecDepth 100000
namespace Go.Proofs.YtepokmggbfoakaaGreatDoor
open _root_.Go.Proofs.Tryz
open Go.RowKit
def pJ(w:World)(x n:Nat)(e:Ending)(w':World):Prop:=
 ∃g cap,e=.returned (.tuple #[.slice (some ⟨g,0,none⟩) n cap,.bool (decide (x<2^n))])/\w'.ownsRow w.heap.size 3 1 (.slice (some ⟨g,0,none⟩) n cap) n ((ag x n).map iv)/\Below w.heap.size w w'
theorem qV(x k:Nat):ag x (k+1)=(x/2^k%2)::ag x k:=by rw[R0 k 1,ja];rfl
theorem Hf(q k x:Nat):((List.replicate (q+1) 0++ag x k).map iv).set q (.int .i64 (x/2^k%2:Nat))=(List.replicate q 0++ag x (k+1)).map iv:=by have h1:(List.replicate (q+1) 0++ag x k).map iv=List.replicate q (iv 0)++(iv 0::(ag x k).map iv):=(by rw[PC,Ni,NF,PW];rfl);rw[h1,List.set_append,Nf (by simp),NE,Ow,qV,NF,PW];rfl
theorem qB(w:World)(x n:Nat)(hx:x<2^64)(hn:n<=64):Calls prog 30 #[.int .u64 x,.int .i64 n] w (pJ w x n):=by
 obtain⟨i3,hi,hf,hg,hh⟩:=NY Tryz.info3;have HX:=aa hx;clear hx;go_enter func30,ntmps30;go_wp2_with (refine wpList_make_full w rfl _ _ 57 rfl w.heap.size 3 i3 (.int .i64 0) 1 underlying57 hi hf hg .i64 .i64 _ _ n rfl rfl rfl rfl ?b2 ?b3 ?b4 ?_)
 case b2=>rw[hh];omega
 case b3=>unfold maxLen;omega
 case b4=>exact Nm _
 intro w1 h6 h0;have hc:Below w.heap.size w w1:=(Nj _ _).grown h0 (ah _) (fun k hk=>by cases hk);have h8:w1.ownsRow w.heap.size 3 1 (.slice (some ⟨w.heap.size,0,none⟩) n n) n ((List.replicate n 0).map iv):=by have e:(madeCells #[Value.int .i64 0] n).toList=(List.replicate n 0).map iv:=(by rw[Qy,PW];rfl);rw[<- e];exact h6
 clear h6 h0;go_wp2;go_loopw [0,7] (fun v i wr=>∃r:Nat,r<=n/\i=.int .i64 ((r:Int)-1)/\v=.int .u64 (x/2^(n-r):Nat)/\wr.ownsRow w.heap.size 3 1 (.slice (some ⟨w.heap.size,0,none⟩) n n) n ((List.replicate r 0++ag x (n-r)).map iv)/\Below w.heap.size w wr) (fun _ i _=>(intOf i+1).toNat)
 case atStart=>exact⟨n,Nm _,rfl,by simp,by simpa [ag]using h8,hc⟩
 case round=>
  obtain⟨r,hr,rfl,rfl,h3,hb⟩:=hrel;have hy:x/2^(n-r)<18446744073709551616:=R4 (RP _ _) HX.out
  cases r with
  | zero=>have e1:((0:Nat):Int)-1= -1:=rfl;rw[e1];clear e1;simp only[Qf,PN,NX]at h3 hy |-;have h7:((x/2^n:Nat):Int)=0↔x<2^n:=(by rw[<- Nat.div_eq_zero_iff_lt (OT n)];omega);generalize x/2^n=y at*;have HD:=aa h7;clear h7;go_wp2;go_ret2;refine⟨w.heap.size,n,?_,h3,hb⟩;show Ending.returned (Value.tuple #[_,.bool ((y:Int)==0)])=_;have he:((y:Int)==0)=decide (x<2^n):=(by rw[Rg,O0,OU];exact HD.out);rw[he];rfl
  | succ q=>
   have e1:((q+1:Nat):Int)-1=(q:Int):=(by omega);rw[e1];clear e1;have h1:=h3.cellAt q (by omega);have h2:=h3.frozenAt q;rw[Np,NT (by rw[NE];omega),Pm,Ng (by omega)]at h1;simp[iv]at h1;have h5:x/2^(n-(q+1))/2=x/2^(n-q):=(by rw[PG,<-O4,Nat.succ_eq_add_one,show n-(q+1)+1=n-q by omega]);have ha:=(h3.stored q (.int .i64 (x/2^(n-(q+1))%2:Nat))).1;have h9:((List.replicate (q+1) 0++ag x (n-(q+1))).map iv).set q (.int .i64 (x/2^(n-(q+1))%2:Nat))=(List.replicate q 0++ag x (n-q)).map iv:=(by rw[show n-q=n-(q+1)+1 by omega];exact Hf q _ x);rw[h9]at ha;generalize x/2^(n-(q+1))=y at*;have HN:=aa h5;clear h5 h9;have h4:((y%2:Nat):Int)=(y:Int)%2:=(by omega);rw[h4]at ha;clear h4;go_wp2;go_roundw;case rel=>exact⟨q,by omega,rfl,by rw[<- HN.out,Int.natCast_ediv];rfl,ha,hb.setCell (p:=⟨w.heap.size,q,none⟩) (ah _) _⟩
   case measure=>simp[intOf]
theorem iz{w:World}{B:Nat}{v:Value}{l:List UInt8}(h:w.ownsRow B 5 1 v l.length (l.map bv)):(convert 39 9 v).run prog w=.ok (.string ⟨l.toArray⟩) w:=by
 rcases h.2 with⟨rfl,h0⟩|⟨g,cap,cur,rfl,_⟩;·have:l= []:=Nw h0;subst this;exact Qs w 39 5 underlying39 underlying5 0 0 9 underlying9
 ·have hn:∀j (hj:j<l.length),w.cell? ((⟨g,0,none⟩:Addr).add j)=some (.int .u8 (l[j].toNat:Int)):=(by intro j hj;have h1:=h.cells (g:=g) rfl j (.int .u8 (l[j].toNat:Int));exact h1 (by rw[Np,Nd hj];rfl));exact Qe w 39 9 5 ⟨g,0,none⟩ cap l underlying39 underlying5 underlying9 hn
theorem lD(w:World)(A:Option Addr)(n c:Nat)(L:List Nat)(h:aw w A n L)(hb:am L)(hn:n<=64):
 Calls prog 76 #[.slice A n c] w fun e w'=>e=.returned (.int .u64 (val L))/\w=w':=by
 have HI:=aa h;clear h;go_enter func76,ntmps76;go_wp2;go_loop [3,4] (fun v i=>∃j x:Nat,j<=n/\i=.int .i64 j/\v=.int .u64 x/\x=val (L.take j)) (fun _ i=>n-(intOf i).toNat)
 case atStart=>exact⟨0,0,Nh _,rfl,rfl,by simp[val]⟩
 case round=>
  obtain⟨j,x,hj,rfl,rfl,hx⟩:=hrel;by_cases h:j<n
  ·obtain⟨hl,hc⟩:=HI.out;have HL:=aa hl;clear hl;obtain⟨b,off,rfl,h0⟩:=hc (by omega);have h1:=h0 j h;have h2:x<9223372036854775808:=(by rw[hx];refine OM (fu _ (hb.take j)) (NH (Oj (by omega) (show(L.take j).length<=63 by rw[Nz];omega)) (by decide)));obtain⟨y,hy⟩:∃y,y=L.getD j 0:=⟨_,rfl⟩;rw[<- hy]at h1;have h3:y<2:=(by rw[hy,Nb,Nd (by rw[HL.out];exact h)];exact hb _ (NL _));have HX:=aa hx;clear hx;have HY:=aa hy;clear hy;clear hc h0;go_wp2;go_round;case rel=>
    refine⟨j+1,2*x+y,h,rfl,?_,?_⟩;·congr 1;omega
    ·rw[HX.out,HY.out,NI (by rw[HL.out];exact h),jL,Nb,Nd (by rw[HL.out];exact h)];rfl
   case measure=>simp[intOf];omega
  ·obtain rfl:j=n:=(by omega);have HX:=aa hx;clear hx;go_wp2;go_ret;refine⟨?_,rfl⟩;rw[HX.out,Nt (by rw[HI.out.1];exact Nm _)];rfl
theorem JR(w:World)(s:ByteArray)(hs:s.size<=1000000):
 Calls prog 26 #[.string s] w fun e w'=>∃v,e=.returned v/\w'.ownsRow w.heap.size 3 1 v (8*s.size) ((ai s.data.toList).map iv)/\Below w.heap.size w w':=by
 obtain⟨i3,hi,hh,hl,hm⟩:=NY Tryz.info3;go_enter func26,ntmps26;go_wp2;go_loopw [3,4] (fun v i wr=>∃j:Nat,j<=s.size/\i=.int .i64 j/\wr.ownsRow w.heap.size 3 1 v (8*j) ((ai (s.data.toList.take j)).map iv)/\Below w.heap.size w wr) (fun _ i _=>s.size-(intOf i).toNat)
 case atStart=>exact⟨0,Nh _,rfl,Ns _ _ _ _,Nj _ _⟩
 case round=>
  obtain⟨j,hj,rfl,h4,hb⟩:=hrel;rename_i v0 _;by_cases h:j<s.size
  ·go_wp2;obtain⟨wo,ho⟩:∃wo:World,wo=wr:=⟨_,rfl⟩;clear ho;(go_loopw [3,5] (fun v k wx=>∃m r:Nat,m+r=8/\k=.int .i64 ((r:Int)-1)/\wx.ownsRow w.heap.size 3 1 v (8*j+m) ((ai (s.data.toList.take j)++(ag (s[j]).toNat 8).take m).map iv)/\Below w.heap.size w wx) (fun _ k _=>(intOf k+1).toNat));case atStart=>exact⟨0,8,rfl,rfl,by simpa using h4,hb⟩
   case round=>
    obtain⟨m,r,h8,rfl,h0,h7⟩:=hrel;have hf:m<=8:=(by omega);have h5:=h7.size
    match r,h8 with
    | 0,h8=>
     obtain rfl:m=8:=(by omega);have e1:((0:Nat):Int)-1= -1:=rfl;rw[e1];clear e1;have h3:=h0;rw[Nt (show(ag (s[j]).toNat 8).length<=8 by rw[af];exact Nm _)]at h3;have HT:Hid (s.data.toList.take (j+1)=s.data.toList.take j++ [s[j]]):=(by have he:j<s.data.toList.length:=(by simpa using h);exact NI he);go_wp2;go_roundw;case rel=>refine⟨j+1,h,by go_num,?_,h7⟩;rw[HT.out,fw,eC,pV,NR];exact h3
     case measure=>simp[intOf];omega
    | q+1,h8=>
     have e1:((q+1:Nat):Int)-1=(q:Int):=(by omega);rw[e1];clear e1;obtain⟨xs,h9⟩:∃xs,xs=(ai (s.data.toList.take j)++(ag (s[j]).toNat 8).take m).map iv:=⟨_,rfl⟩;rw[<- h9]at h0;have HX:=aa h9;clear h9;have ha:(s[j].toNat:Int)<256:=(by have:=s[j].toNat_lt;omega);(go_wp2_with (at_builtin;refine Ob _ rfl _ _ 57 rfl w.heap.size 3 i3 (.int .i64 0) 1 8 underlying57 hi hh hl hm rfl (by decide) _ _ _ rfl (h0.alloc _) ⟨wr.heap.size,0,none⟩ 1 1 [.int .i64 (bits BinOp.and IntKind.i64 (s[j].toNat/2^q) 1)] rfl rfl ?c1 ?c2 ?c3 ?c4 ?c5 ?_));case c1=>exact Q7 _ _ _
     case c2=>intro u hu;simp at hu;subst hu;rfl
     case c3=>unfold maxLen;omega
     case c4=>omega
     case c5=>simp;omega
     intro v2 w2 h2 h1 _;have hc:Below w.heap.size w w2:=(h7.alloc h5 _).grown h1 (by simp;omega) (fun k hk=>(h0.lt k hk).1);have HE:=Ld _ q s[j].toNat_lt;rw[HE]at h2;clear HE;have h6:w2.ownsRow w.heap.size 3 1 v2 (8*j+(m+1)) ((ai (s.data.toList.take j)++(ag (s[j]).toNat 8).take (m+1)).map iv):=(by have hg:=mZ 8 (s[j]).toNat m (by omega);rw[List.take_add_one,hg,<-Ni,NF,<-HX.out,show 8-1-m=q by omega,<-OL];exact h2);clear h2 h1 h0 h7;go_wp2;go_roundw;case rel=>exact⟨m+1,q,by omega,rfl,h6,hc⟩
     case measure=>simp[intOf]
  ·obtain rfl:j=s.size:=(by omega);go_wp2;go_ret;refine⟨_,rfl,?_,hb⟩;rw[Nt (by simp)]at h4;exact h4
