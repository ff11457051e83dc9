import Derived.Test.YtfhgikojdfblpaaGreatM39
set_option maxHeartbeats 6400000
set_option maxRecDepth 100000
namespace Go.Proofs.YtfhgikojdfblpaaGreat
open _root_.Go.Proofs.Tryz
open Go.RowKit
theorem I9(w:World)(v:Value)(T:List (List Int))(P:List Int)(h:aJ w v T P)(A':Option Addr)(n' c':Nat)(L:List Int)(hL:L.length=n')(hq:n'<=2000000)(hP:aV T P)(hM:¬yR T P L):
 Calls prog 16 #[v,.slice A' n' c'] w (bn w (aT T P L)):=by
 rw[show aT T P L=([],110)from Nd hM];obtain⟨A,q,c,B,m,d,rfl,_,_,_,hi,_,ho⟩:=id h;have hj:=hi.1;have h7:Below w.heap.size w (w.alloc (.cells #[.slice A q c,.slice B m d] 43)):=(Nj _ _).alloc (ag _) _;have h9:=aj w 43 #[.slice A q c,.slice B m d];obtain⟨w1,h4⟩:∃w1,w1=w.alloc (.cells #[.slice A q c,.slice B m d] 43):=⟨_,rfl⟩;have hl:w1.heap.size=w.heap.size+1:=by rw[h4];simp
 rw[<- h4]at h7 h9;have h8:Below w1.heap.size w1 (w1.alloc (.cells #[.string ⟨#[]⟩,.int .i64 0] 24)):=(Nj _ _).alloc (ag _) _;have hk:=aO h8 h9;have hc:=aj w1 24 #[.string ⟨#[]⟩,.int .i64 0];rw[hl]at hc;have h0:=aq h7 h8;have hh:=aa h4.symm;have hf:Hid (∀ w2,w2=w1.alloc (.cells #[.string ⟨#[]⟩,.int .i64 0] 24)->Calls prog 49 #[.agg #[.slice A q c,.slice B m d]] w2.drew fun e w'=>e=.returned (.bool true)/\Below w2.heap.size w2.drew w'):=aa fun w2 e2=>by have h3:=dR w2.drew _ T P (h.below (by rw[e2];exact h0.drew));rw[Nn hP]at h3;exact h3
 have he:=aa fun(wx:World)=>kx wx n' (by omega);have h6:¬(aV T P/\aH n'<=m):=by rw[<- hL,<-hj];exact hM
 obtain⟨z,hz⟩:∃z,z=aH n':=⟨_,rfl⟩;have hr:z<=50000:=by rw[hz];unfold aH;omega
 rw[<- hz]at h6 he;unfold maxLen at ho;have hp:m<z:=by have:¬z<=m:=fun k=>h6 ⟨hP,k⟩;omega
 have h5:=aa hk;have hg:=aa hc;have hm:=aa h0;clear h hM h7 h9 h8 hk hc h0 hl h4 h6 hP hz hL hj hi;go_enter func16,ntmps16;go_upto_region 1 with fail;rw[hh.out];have HM:=aa (hf.out _ rfl);generalize w1.alloc (.cells #[.string ⟨#[]⟩,.int .i64 0] 24)=w2 at*;clear hh hf;have p0:w2.cell? ⟨w.heap.size,0,none⟩=some (.slice A q c):=(ac h5.out 0).trans rfl;have p1:w2.cell? ⟨w.heap.size,1,none⟩=some (.slice B m d):=(ac h5.out 1).trans rfl;have ha:w.heap.size<w2.heap.size:=aA h5.out;have hb:w.heap.size+1<w2.heap.size:=aA hg.out
 go_region_held3 (fun w'=>w'.cell? ⟨w.heap.size,0,none⟩=some (.slice A q c)/\w'.cell? ⟨w.heap.size,1,none⟩=some (.slice B m d))
  (first|exact⟨p0,p1⟩|exact⟨s0,s1⟩|go_keep)
  (first
    | (go_at_call 49;refine HM.out.mono ?_;rintro e w3 ⟨rfl,h1⟩
       have s0:w3.cell? ⟨w.heap.size,0,none⟩=some (.slice A q c):=(h1.cell (p:=⟨w.heap.size,0,none⟩) ha).trans p0
       have s1:w3.cell? ⟨w.heap.size,1,none⟩=some (.slice B m d):=(h1.cell (p:=⟨w.heap.size,1,none⟩) ha).trans p1)
    | (go_at_call 52;refine(he.out _).mono ?_;rintro e w4 ⟨rfl,rfl⟩))
 have h2:Blk w3 (w.heap.size+1) 24 #[.string ⟨#[]⟩,.int .i64 0]:=(h1.block (w.heap.size+1) hb).trans hg.out;have g0:=(ac h2 0).trans (rfl:_=some (Value.string ⟨#[]⟩));have g1:=(ac h2 1).trans (rfl:_=some (Value.int .i64 0));have f0:=ae h2 0;have f1:=ae h2 1;have hn:=aa (hm.out.drew.trans (h1.mono (NT ha)));clear h1 h2;go_wp2_with fail;refine NH (v:=.tuple #[.agg #[.string ⟨#[]⟩,.int .i64 0],.int .i64 110]) ?_ rfl ⟨rfl,(hn.out.setCell (p:=⟨w.heap.size+1,0,none⟩) (Pa _) _).setCell (p:=⟨w.heap.size+1,1,none⟩) (Pa _) _⟩;simp[results,results16,go_sem,g0,g1]
theorem I8(w:World)(v:Value)(T:List (List Int))(P:List Int)(h:aJ w v T P)(A':Option Addr)(n' c':Nat)(L:List Int)(hP:¬aV T P):
 Calls prog 16 #[v,.slice A' n' c'] w (bn w (aT T P L)):=by
 rw[show aT T P L=([],110)from Nd (fun k=>hP k.1)];obtain⟨A,q,c,B,m,d,rfl,_⟩:=id h;have h6:Below w.heap.size w (w.alloc (.cells #[.slice A q c,.slice B m d] 43)):=(Nj _ _).alloc (ag _) _;have h8:=aj w 43 #[.slice A q c,.slice B m d];obtain⟨w1,h4⟩:∃w1,w1=w.alloc (.cells #[.slice A q c,.slice B m d] 43):=⟨_,rfl⟩;have hj:w1.heap.size=w.heap.size+1:=by rw[h4];simp
 rw[<- h4]at h6 h8;have h7:Below w1.heap.size w1 (w1.alloc (.cells #[.string ⟨#[]⟩,.int .i64 0] 24)):=(Nj _ _).alloc (ag _) _;have hh:=aO h7 h8;have hb:=aj w1 24 #[.string ⟨#[]⟩,.int .i64 0];rw[hj]at hb;have h0:=aq h6 h7;have hf:=aa h4.symm;have hc:Hid (∀ w2,w2=w1.alloc (.cells #[.string ⟨#[]⟩,.int .i64 0] 24)->Calls prog 49 #[.agg #[.slice A q c,.slice B m d]] w2.drew fun e w'=>e=.returned (.bool false)/\Below w2.heap.size w2.drew w'):=aa fun w2 e2=>by have h3:=dR w2.drew _ T P (h.below (by rw[e2];exact h0.drew));rw[Nl hP]at h3;exact h3
 have h5:=aa hh;have he:=aa hb;have hk:=aa h0;clear h h6 h8 h7 hh hb h0 hj h4 hP;go_enter func16,ntmps16;go_upto_region 1 with fail;rw[hf.out];have HM:=aa (hc.out _ rfl);generalize w1.alloc (.cells #[.string ⟨#[]⟩,.int .i64 0] 24)=w2 at*;clear hf hc;have q0:w2.cell? ⟨w.heap.size,0,none⟩=some (.slice A q c):=(ac h5.out 0).trans rfl;have q1:w2.cell? ⟨w.heap.size,1,none⟩=some (.slice B m d):=(ac h5.out 1).trans rfl;have h9:w.heap.size<w2.heap.size:=aA h5.out;have ha:w.heap.size+1<w2.heap.size:=aA he.out;refine wp_region_held_drew (S:=fun w'=>w'.cell? ⟨w.heap.size,0,none⟩=some (.slice A q c)/\w'.cell? ⟨w.heap.size,1,none⟩=some (.slice B m d)) (by kernel_rfl) ⟨q0,q1⟩ (fun hHeld=> ?_);refine OH (i:=0) (v:=.agg #[.slice A q c,.slice B m d]) rfl (by kernel_rfl) (by kernel_rfl) (by kernel_rfl) (fun _ _ _ h=>h) (Or.inl ⟨by rfl,?hy⟩) (by assumption) ?_;case hy=>intro w hg;(try dsimp only at hg);obtain⟨s0,s1⟩:=hg;go_simp
 (try simp only[NX,NR,Act.put,NK,N3,NZ]);refine wpAnyH_ready (rs:= [1]) (by kernel_rfl) (by simp) (AllReadyH.cons rfl (fun K hK=> ?_) AllReadyH.nil);go_simp;go_at_call 49;refine HM.out.mono ?_;rintro e w3 ⟨rfl,h1⟩;have p0:w3.cell? ⟨w.heap.size,0,none⟩=some (.slice A q c):=(h1.cell (p:=⟨w.heap.size,0,none⟩) h9).trans q0;have p1:w3.cell? ⟨w.heap.size,1,none⟩=some (.slice B m d):=(h1.cell (p:=⟨w.heap.size,1,none⟩) h9).trans q1;have hi:Blk w3 (w.heap.size+1) 24 #[.string ⟨#[]⟩,.int .i64 0]:=(h1.block (w.heap.size+1) ha).trans he.out;have hl:=aa (hk.out.drew.trans (h1.mono (NT h9)));have h2:=aa hi;dsimp only;refine hK.out _ _ ⟨p0,p1⟩ (fun hHeld2=> ?_);clear hK K h1 HM hHeld hi;(try simp only[NX,NV,NR,Act.put,NK,N3,NZ]);refine OH (i:=2) (v:=.bool true) rfl (by kernel_rfl) (by kernel_rfl) (by kernel_rfl) (fun _ _ _ h=>h) (Or.inl ⟨by rfl,fun w _=>by go_simp⟩) (by assumption) ?_;(try simp only[NX,NV,NR,Act.put,NK,N3,NZ]);refine OH (i:=3) (v:=.bool true) rfl (by kernel_rfl) (by kernel_rfl) (by kernel_rfl) (fun _ _ _ h=>h) (Or.inl ⟨by rfl,fun w _=>by go_simp⟩) (by assumption) ?_;(try simp only[NX,NV,NR,Act.put,NK,N3,NZ]);refine OH (i:=4) (v:=undef) rfl (by kernel_rfl) (by kernel_rfl) (by kernel_rfl) (fun _ _ _ h=>h) (Or.inr ⟨by rfl,rfl⟩) (by assumption) ?_;(try simp only[NX,NV,NR,Act.put,NK,N3,NZ]);refine OH (i:=5) (v:=undef) rfl (by kernel_rfl) (by kernel_rfl) (by kernel_rfl) (fun _ _ _ h=>h) (Or.inr ⟨by rfl,rfl⟩) (by assumption) ?_;(try simp only[NX,NV,NR,Act.put,NK,N3,NZ]);refine OH (i:=6) (v:=undef) rfl (by kernel_rfl) (by kernel_rfl) (by kernel_rfl) (fun _ _ _ h=>h) (Or.inr ⟨by rfl,rfl⟩) (by assumption) ?_;(try simp only[NX,NV,NR,Act.put,NK,N3,NZ]);refine OH (i:=7) (v:=undef) rfl (by kernel_rfl) (by kernel_rfl) (by kernel_rfl) (fun _ _ _ h=>h) (Or.inr ⟨by rfl,rfl⟩) (by assumption) ?_;(try simp only[NX,NV,NR,Act.put,NK,N3,NZ]);refine OH (i:=8) (v:=undef) rfl (by kernel_rfl) (by kernel_rfl) (by kernel_rfl) (fun _ _ _ h=>h) (Or.inr ⟨by rfl,rfl⟩) (by assumption) ?_;(try simp only[NX,NV,NR,Act.put,NK,N3,NZ]);refine OH (i:=9) (v:=undef) rfl (by kernel_rfl) (by kernel_rfl) (by kernel_rfl) (fun _ _ _ h=>h) (Or.inr ⟨by rfl,rfl⟩) (by assumption) ?_;(try simp only[NX,NV,NR,Act.put,NK,N3,NZ]);refine OH (i:=10) (v:=undef) rfl (by kernel_rfl) (by kernel_rfl) (by kernel_rfl) (fun _ _ _ h=>h) (Or.inr ⟨by rfl,rfl⟩) (by assumption) ?_;(try simp only[NX,NV,NR,Act.put,NK,N3,NZ]);refine OH (i:=11) (v:=.bool true) rfl (by kernel_rfl) (by kernel_rfl) (by kernel_rfl) (fun _ _ _ h=>h) (Or.inl ⟨by rfl,fun w _=>by go_simp⟩) (by assumption) ?_;(try simp only[NX,NV,NR,Act.put,NK,N3,NZ]);refine wpAnyH_done (by kernel_rfl) ?_ _;have g0:=(ac h2.out 0).trans (rfl:_=some (Value.string ⟨#[]⟩));have g1:=(ac h2.out 1).trans (rfl:_=some (Value.int .i64 0));have f0:=ae h2.out 0;have f1:=ae h2.out 1;go_wp2_with fail;refine NH (v:=.tuple #[.agg #[.string ⟨#[]⟩,.int .i64 0],.int .i64 110]) ?_ rfl ⟨rfl,(hl.out.setCell (p:=⟨w.heap.size+1,0,none⟩) (Pa _) _).setCell (p:=⟨w.heap.size+1,1,none⟩) (Pa _) _⟩;simp[results,results16,go_sem,g0,g1]
theorem I7(w:World)(A:Option Addr)(n c:Nat)(L:List Int)(k:Nat)(hL:ZIn w A n L)(he:n<=c)(hn:n<=2000000)(hk:50*k<n):
 Calls prog 54 #[.slice A n c,.int .i64 k] w fun e w'=>∃c2,e=.returned (.slice (A.map fun x=>x.add (50*k)) (cH L k).length c2)/\(cH L k).length<=c2/\w'=w:=by
 have h0:=hL.1;obtain⟨m,hm⟩:∃m,m=(cH L k).length:=⟨_,rfl⟩;have h5:m=min 50 (n-50*k):=by rw[hm,gw,h0]
 obtain⟨b,off,rfl,_⟩:=hL.2 (by omega);obtain⟨lo,h1⟩:∃lo,lo=50*k:=⟨_,rfl⟩;have hf:(k:Int)*50=(lo:Int):=by omega
 rw[<- hm,<-h1,Ov,OT];obtain⟨hi,h3⟩:∃hi,hi=lo+50:=⟨_,rfl⟩;have hg:(lo:Int)+50=(hi:Int):=by omega
 have h8:lo<=3000000:=by omega
 have h6:hi<=3000000:=by omega
 by_cases e:n<hi;·have d4:((n:Int)<(hi:Int)):=(by omega);have ha:(n:Int)-(lo:Int)=(m:Int):=(by omega);have hb:n-lo=m:=(by omega);have h2:(0:Int)<=(lo:Int):=(by omega);have h9:(lo:Int)<=(n:Int):=(by omega);have hc:(n:Int)<=(c:Int):=(by omega);clear hL hm h5 h1 h0 h3;go_enter func54,ntmps54;go_wp2_with fail;go_ret;exact⟨_,rfl,by omega,rfl⟩
 ·have d4:¬((n:Int)<(hi:Int)):=(by omega);have ha:(hi:Int)-(lo:Int)=(m:Int):=(by omega);have hb:hi-lo=m:=(by omega);have h2:(0:Int)<=(lo:Int):=(by omega);have h4:(lo:Int)<=(hi:Int):=(by omega);have h7:(hi:Int)<=(c:Int):=(by omega);clear hL hm h5 h1 h0 h3;go_enter func54,ntmps54;go_wp2_with fail;go_ret;exact⟨_,rfl,by omega,rfl⟩
theorem J0{w:World}{A:Option Addr}{n k:Nat}{L:List Int}(h:ZIn w A n L)(hk:50*k<n):ZIn w (A.map fun x=>x.add (50*k)) (cH L k).length (cH L k):=by
 have hl:=gw L k;rw[h.1]at hl;have hc:=ZIn.cut (k:=(cH L k).length) (a:=50*k) h (by omega);have e:(L.drop (50*k)).take (cH L k).length=cH L k:=by
  have h2:(cH L k).length=min 50 (L.drop (50*k)).length:=by unfold cH;rw[NB]
  rw[h2];unfold cH;by_cases e:50<=(L.drop (50*k)).length;·rw[OJ e]
  ·rw[PQ (by omega),Nr (ag _),Nr (by omega)]
 rw[e]at hc;exact hc
def jR(T:List (List Int))(P L:List Int)(k:Nat):List Nat:=mE (nl (T.getD (P.getD k 0).toNat [])) (cH L k)
theorem xX(P:List Int)(k:Nat):(nl P).getD k 0=(P.getD k 0).toNat:=by unfold nl;rw[Na,Na,Np];cases P[k]? <;>rfl
theorem F6(T:List (List Int))(k:Nat):(T.map nl).getD k []=nl (T.getD k []):=by rw[Na,Na,Np];cases T[k]? <;>rfl
theorem pF(T:List (List Int))(P L:List Int)(k:Nat):∀m,m<=50->50*k+m<=L.length->
 dI (T.map nl) (nl P) (nl L) (50*k+m)=dI (T.map nl) (nl P) (nl L) (50*k)++mE (nl (T.getD (P.getD k 0).toNat [])) ((L.drop (50*k)).take m)
 | 0,_,_=>by simp[mE]
 | m+1,hm,hl=>by rw[<- OQ,ky,pF T P L k m (by omega) (by omega),show(50*k+m)/50=k by omega,xX,F6,xX];have e:(L.drop (50*k)).take (m+1)=(L.drop (50*k)).take m++ [L.getD (50*k+m) 0]:=(by rw[NF (by rw[Ny];omega),Rp,Na,Nc (by omega)];rfl);rw[e];unfold mE;rw[OF,Ni];simp
theorem oc(T:List (List Int))(P L:List Int):∀k,dI (T.map nl) (nl P) (nl L) (min (50*k) L.length)=((List.range k).map (jR T P L)).flatten
 | 0=>by simp[dI]
 | k+1=>by
  rw[Oh,Nz,Q9,<-oc T P L k];simp only[Ow,QC,Pg,List.flatten_nil,NU];by_cases h:50*k<=L.length
  ·obtain⟨m,hm⟩:∃m,m=min 50 (L.length-50*k):=⟨_,rfl⟩;rw[OJ h,show min (50*(k+1)) L.length=50*k+m by omega,pF T P L k m (by omega) (by omega)];congr 2;unfold cH;by_cases e:m=50;·rw[e]
   ·rw[Nr (by rw[Ny];omega),Nr (by rw[Ny];omega)]
  ·have e:jR T P L k= []:=(by unfold jR cH mE;rw[Pp (by omega)];rfl);rw[e,NU,PQ (by omega),PQ (by omega)]
theorem GQ(l:List Nat)(list:List Int):au (mE l list):=by unfold mE;intro b hb;obtain⟨x,_,hx⟩:=List.mem_flatMap.1 hb;exact aQ _ _ b hx
theorem DA{t:List Int}(ht:bK t)(list:List Int):(mE (nl t) list).length<=20*list.length:=by
 induction list with
 | nil=>simp[mE]
 | cons x list ih=>
  have e:mE (nl t) (x::list)=cV (nl t) x.toNat++mE (nl t) list:=rfl;have hc:(cV (nl t) x.toNat).length<=20:=by
   unfold cV;rw[af,xX];by_cases hx:x.toNat<t.length
   ·have:=(ht.2.2.1 (t.getD x.toNat 0) (by
     rw[Na,Nc hx]
     exact NM _)).2
    omega
   ·rw[Na,Nw (by omega)];exact Ng _
  rw[e,Nb,Ns];omega
theorem ub(T:List (List Int))(P L:List Int)(hT:∀k,bK (T.getD (P.getD k 0).toNat [])\/cH L k= []):∀k,((List.range k).map (jR T P L)).flatten.length<=1000*k
 | 0=>by simp
 | k+1=>by
  rw[Oh,Nz,Q9,Nb];have ih:=ub T P L hT k;have:(jR T P L k).length<=1000:=by
   unfold jR;rcases hT k with h|h;·have h2:=DA h (cH L k);have h3:=gw L k;omega
   ·rw[h];simp[mE]
  simp only[Ow,QC,Pg,List.flatten_nil,NU];omega
theorem JN{L:List Int}{x:Int}(hx:x∈L):∃k,k<aH L.length/\x∈cH L k:=by obtain⟨i,hi,rfl⟩:=Pr hx;refine⟨i/50,by unfold aH;omega,?_⟩;unfold cH;refine List.mem_take_iff_getElem.2 ⟨i%50,by rw[Ny];omega,?_⟩;rw[Rp];congr 1;omega
theorem J1{L:List Int}{k:Nat}{x:Int}(hx:x∈cH L k):x∈L:=OS (OC hx)
theorem Ja(w:World)(v:Value)(T:List (List Int))(P:List Int)(h:aJ w v T P)(A':Option Addr)(n' c':Nat)(L:List Int)(hL:ZIn w A' n' L)(p9:n'<=c')(p8:n'<=2000000)(hF:yR T P L):
 Calls prog 16 #[v,.slice A' n' c'] w (bn w (aT T P L)):=by
 have hP:=hF.1;obtain⟨A,q,c,B,m,d,rfl,hT,ps,hq,H7,pr,p7⟩:=id h;have HW:=hT.1;have HV:=H7.1;have hV:=hL.1;have pb:2<=q/\q<=6:=by have h1:=hP.1;have h2:=hP.2.1;omega
 have po:1<=m/\m<=32767:=by have h1:=hP.2.2.1;have h2:=hP.2.2.2.1;omega
 obtain⟨z,hz⟩:∃z,z=aH n':=⟨_,rfl⟩;have q1:z<=m:=by have:=hF.2;rw[hV,HV,<-hz]at this;exact this
 have q2:n'<=50*z/\50*z<n'+50:=by rw[hz];unfold aH;omega
 obtain⟨tb,tq,rfl,HY⟩:=hT.2 (by omega);obtain⟨b,off,rfl,ht⟩:=H7.2 (by omega);have HR:∀i,i<m->0<=P.getD i 0/\(P.getD i 0).toNat<q:=fun i hi=>by
  have:=hP.2.2.2.2.2.1 (P.getD i 0) (by
   rw[Na,Nc (by omega)]
   exact NM _)
  rw[HW]at this;omega
 have ho:∀i,i<q->(T.getD i []).length=(T.getD 0 []).length/\bK (T.getD i []):=fun i hi=>hP.2.2.2.2.1 _ (nU T i (by omega));obtain⟨m0,HD⟩:∃m0,m0=(T.getD 0 []).length:=⟨_,rfl⟩;rw[<- HD]at ho;have hA:aT T P L=if ∀x∈L,0<=x/\x<(m0:Int)then(((List.range z).map (jR T P L)).flatten,0)else([],60):=by unfold aT;rw[Nf hF,<-oc T P L z,PQ (by omega),HD]
 rw[hA];have HA:Below w.heap.size w (w.alloc (.cells #[.slice (some ⟨tb,tq,none⟩) q c,.slice (some ⟨b,off,none⟩) m d] 43)):=(Nj _ _).alloc (ag _) _;have HC:=aj w 43 #[.slice (some ⟨tb,tq,none⟩) q c,.slice (some ⟨b,off,none⟩) m d];obtain⟨w1,hY⟩:∃w1,w1=w.alloc (.cells #[.slice (some ⟨tb,tq,none⟩) q c,.slice (some ⟨b,off,none⟩) m d] 43):=⟨_,rfl⟩;have p2:w1.heap.size=w.heap.size+1:=by rw[hY];simp
 rw[<- hY]at HA HC;have HB:Below w1.heap.size w1 (w1.alloc (.cells #[.string ⟨#[]⟩,.int .i64 0] 24)):=(Nj _ _).alloc (ag _) _;have HU:=aO HB HC;have HG:=aj w1 24 #[.string ⟨#[]⟩,.int .i64 0];rw[p2]at HG;have hp:=aq HA HB;have HP:=aa hY.symm;have HN:Hid (∀ w2,w2=w1.alloc (.cells #[.string ⟨#[]⟩,.int .i64 0] 24)->Calls prog 49 #[.agg #[.slice (some ⟨tb,tq,none⟩) q c,.slice (some ⟨b,off,none⟩) m d]] w2.drew fun e w'=>e=.returned (.bool true)/\Below w2.heap.size w2.drew w'):=aa fun w2 e2=>by have h3:=dR w2.drew _ T P (h.below (by rw[e2];exact hp.drew));rw[Nn hP]at h3;exact h3
 have hM:=aa fun(wx:World)=>kx wx n' (by omega);rw[<- hz]at hM;unfold maxLen at p7;have d0:decide ((m:Int)<(z:Int))=false:=aR;have dn:¬m<z:=by omega
 have HO:=aa HY;have H1:=aa ht;have H3:=aa HR;have hn:=aa ho;have HL:=aa hL;have p4:=aa hV;have pk:=aa hz;have hN:=aa HU;have H4:=aa HG;have HK:=aa hp;have hl:Hid (∀ i,i<z->(¬ ∀x∈cH L i,0<=x/\x<(m0:Int))->∀w',Below w.heap.size w w'->bn w (if ∀x∈L,0<=x/\x<(m0:Int)then(((List.range z).map (jR T P L)).flatten,0)else([],60)) (.returned (.tuple #[.agg #[.string ⟨#[]⟩,.int .i64 0],.int .i64 60])) w'):=aa fun i _ hno w' hb=>by rw[Nd fun h0=>hno fun x hx=>h0 x (J1 hx)];exact⟨rfl,hb⟩
 have ha:Hid ((∀ j,j<z->∀x∈cH L j,0<=x/\x<(m0:Int))->∀w' X,X=((List.range z).map (jR T P L)).flatten->Below w.heap.size w w'->bn w (if ∀x∈L,0<=x/\x<(m0:Int)then(((List.range z).map (jR T P L)).flatten,0)else([],60)) (.returned (.tuple #[.agg #[.string ⟨(aK X).toArray⟩,.int .i64 X.length],.int .i64 0])) w'):=aa fun h0 w' X hX hb=>by (have:∀x∈L,0<=x/\x<(m0:Int):=fun x hx=>by obtain⟨k,hk,pf⟩:=JN hx;exact h0 k (by rw[hz,<-hV];exact hk) x pf);rw[Nf this,hX];exact⟨rfl,hb⟩
 generalize bn w (if ∀x∈L,0<=x/\x<(m0:Int)then(((List.range z).map (jR T P L)).flatten,0)else([],60))=PO at*;clear h hF HA HC HB HU HG hp p2 hY hP hz hL HV H7 hT HY ht HR ho hA hV HD HW;go_enter func16,ntmps16;go_upto_region 1 with fail;rw[HP.out];have HM:=aa (HN.out _ rfl);generalize w1.alloc (.cells #[.string ⟨#[]⟩,.int .i64 0] 24)=w2 at*;clear HP HN;have p0:w2.cell? ⟨w.heap.size,0,none⟩=some (.slice (some ⟨tb,tq,none⟩) q c):=(ac hN.out 0).trans rfl;have p1:w2.cell? ⟨w.heap.size,1,none⟩=some (.slice (some ⟨b,off,none⟩) m d):=(ac hN.out 1).trans rfl;have hW:w.heap.size<w2.heap.size:=aA hN.out;have hH:w.heap.size+1<w2.heap.size:=aA H4.out
 go_region_held3 (fun w'=>w'.cell? ⟨w.heap.size,0,none⟩=some (.slice (some ⟨tb,tq,none⟩) q c)/\w'.cell? ⟨w.heap.size,1,none⟩=some (.slice (some ⟨b,off,none⟩) m d))
  (first|exact⟨p0,p1⟩|exact⟨s0,s1⟩|go_keep)
  (first
    | (go_at_call 49;refine HM.out.mono ?_;rintro e w3 ⟨rfl,hB⟩
       have s0:w3.cell? ⟨w.heap.size,0,none⟩=some (.slice (some ⟨tb,tq,none⟩) q c):=(hB.cell (p:=⟨w.heap.size,0,none⟩) hW).trans p0
       have s1:w3.cell? ⟨w.heap.size,1,none⟩=some (.slice (some ⟨b,off,none⟩) m d):=(hB.cell (p:=⟨w.heap.size,1,none⟩) hW).trans p1)
    | (go_at_call 52;refine(hM.out _).mono ?_;rintro e w4 ⟨rfl,rfl⟩))
 have H5:Hid (Blk w3 (w.heap.size+1) 24 #[.string ⟨#[]⟩,.int .i64 0]):=aa ((hB.block (w.heap.size+1) hH).trans H4.out);have hK:=aa (HK.out.drew.trans (hB.mono (NT hW)));clear hB hN H4 HK HM p0 p1 hW hH;go_wp2_with fail;refine(hM.out _).mono ?_;rintro e w3 ⟨rfl,rfl⟩;clear hM;have he:=hK.out.size;have hh:=aA H5.out;go_wp2_with fail;go_loopw [6,7,8,9,26] (fun pv s7 s8 s9 iv' wx=>∃(i:Nat) (A9:Option Addr) (c9:Nat),i<=z/\iv'=.int .i64 i/\pv=.slice A9 i c9/\Pcs wx w3.heap.size (.slice A9 i c9) ((List.range i).map (jR T P L))/\Below w3.heap.size w3 wx/\Hid (∀ j,j<i->∀x∈cH L j,0<=x/\x<(m0:Int))) (fun _ _ _ _ iv' _=>z-(intOf iv').toNat)
 case atStart=>exact⟨0,none,0,Ng _,rfl,rfl,J3 _ _,Nj _ _,fun j hj=>absurd hj (O4 _)⟩
 case round=>
  rename World=>wx;obtain⟨i,A9,c9,hi,rfl,rfl,ht,hg,hS⟩:=hrel;by_cases e:i<z
  ·have pm:(0:Int)<=(i:Int):=(by omega);have pn:(i:Int)<(m:Int):=(by omega);have H6:50*i<n':=(by omega);obtain⟨pg,HI⟩:=H3.out i (by omega);obtain⟨y,hy⟩:∃y,y=(P.getD i 0).toNat:=⟨_,rfl⟩;have HZ:P.getD i 0=(y:Int):=(by omega);rw[<- hy]at HI;obtain⟨A2,c2,h1,h2,_,h4⟩:=HO.out y HI;obtain⟨htl,HX⟩:=hn.out y HI;have hD:∀W,Below wx.heap.size wx W->Below w.heap.size w W:=fun W hb=>(hK.out.trans (hg.mono he)).trans (hb.mono (ND he hg.size));have hs:=hD wx (Nj _ _);have c0:wx.cell? ⟨w.heap.size,0,none⟩=some (.slice (some ⟨tb,tq,none⟩) q c):=(hg.cell (p:=⟨w.heap.size,0,none⟩) (No w3 _ s0)).trans s0;have c1:wx.cell? ⟨w.heap.size,1,none⟩=some (.slice (some ⟨b,off,none⟩) m d):=(hg.cell (p:=⟨w.heap.size,1,none⟩) (No w3 _ s1)).trans s1;have c2':wx.cell? ⟨b,off+i,none⟩=some (.int .i64 (y:Int)):=(by rw[<- HZ];exact(hs.cell (p:=⟨b,off+i,none⟩) (No w _ (H1.out i (by omega)))).trans (H1.out i (by omega)));have c3:wx.cell? ⟨tb,tq+y,none⟩=some (.slice A2 m0 c2):=(by rw[<- htl];exact(hs.cell (p:=⟨tb,tq+y,none⟩) (No w _ h1)).trans h1);have h5:=aa fun(W:World) (hb:Below wx.heap.size wx W)=>I7 W A' n' c' L i (HL.out.below (hD W hb)) p9 p8 H6;have h6:=aa fun(W:World) (hb:Below wx.heap.size wx W) (cc:Nat) (hR:(cH L i).length<=cc)=>jJ W A2 (A'.map fun x=>x.add (50*i)) m0 c2 (cH L i).length cc (T.getD y []) (cH L i) (by rw[<- htl];exact h2.below (hD W hb)) (by rw[<- htl];exact h4) (J0 (HL.out.below (hD W hb)) H6) hR (by rw[gw];omega);(have hI:nj (T.getD y []) (cH L i)=if ∀x∈cH L i,0<=x/\x<(m0:Int)then(jR T P L i,0)else([],60):=by unfold nj jR;rw[Nf HX,htl,hy]);rw[hI]at h6;(obtain⟨⟨X,zz⟩,H8⟩:∃r:List Nat×Nat,r=if ∀x∈cH L i,0<=x/\x<(m0:Int)then(jR T P L i,0)else([],60):=⟨_,rfl⟩);rw[<- H8]at h6;have hO:=aa H8;have hm:=aa ht;have hf:=aa hg;have hw:=aa hS;have q0:(0:Int)<=(y:Int):=(by omega);have pj:(y:Int)<(q:Int):=(by omega);have bd:Below wx.heap.size wx wx.drew:=(Nj _ _).drew;have ba:Below wx.heap.size wx (wx.alloc (.cells #[.string ⟨#[]⟩,.int .i64 0] 24)).drew:=((Nj _ _).alloc (ag _) _).drew;have ka:Blk (wx.alloc (.cells #[.string ⟨#[]⟩,.int .i64 0] 24)).drew wx.heap.size 24 #[.string ⟨#[]⟩,.int .i64 0]:=aj wx _ _;have l0:=No wx _ c0;have l2:=No wx _ c2';have l3:=No wx _ c3;generalize (cH L i).length=pl at*;generalize (A'.map fun x=>x.add (50*i))=AP at*;clear ht hg hS hI H8 h1 h2 h4 htl HX hD hs hy HZ pg s0 s1 H6;go_upto_region 7 with fail;(go_cut [8,9]from 29 to 44 (fun s8 s9 wy=>∃b8,s8=.pointer (some ⟨b8,0,none⟩)/\s9=.int .i64 (zz:Nat)/\Blk wy b8 24 #[.string ⟨(aK X).toArray⟩,.int .i64 (X.length:Nat)]/\wx.heap.size<=b8/\Below wx.heap.size wx wy));case first=>
    go_region_held3 (fun w'=>w'.cell? ⟨w.heap.size,0,none⟩=some (.slice (some ⟨tb,tq,none⟩) q c)/\w'.cell? ⟨w.heap.size,1,none⟩=some (.slice (some ⟨b,off,none⟩) m d)/\w'.cell? ⟨b,off+i,none⟩=some (.int .i64 (y:Int))/\w'.cell? ⟨tb,tq+y,none⟩=some (.slice A2 m0 c2))
     (first|exact⟨c0,c1,c2',c3⟩|exact⟨t0,t1,t2,t3⟩|exact⟨u0,u1,u2,u3⟩|go_keep)
     (first
       | (go_at_call 54;(first|with_reducible refine(h5.out _ bd).mono ?_|with_reducible refine(h5.out _ ba).mono ?_);rintro e w7 ⟨cc,rfl,hR,rfl⟩)
       | (go_at_call 53;(with_reducible refine(h6.out _ bd cc hR).mono ?_);rintro e w9 ⟨rfl,h8⟩
          have t0:w9.cell? ⟨w.heap.size,0,none⟩=some (.slice (some ⟨tb,tq,none⟩) q c):=(h8.cell (p:=⟨w.heap.size,0,none⟩) l0).trans c0
          have t1:w9.cell? ⟨w.heap.size,1,none⟩=some (.slice (some ⟨b,off,none⟩) m d):=(h8.cell (p:=⟨w.heap.size,1,none⟩) l0).trans c1
          have t2:w9.cell? ⟨b,off+i,none⟩=some (.int .i64 (y:Int)):=(h8.cell (p:=⟨b,off+i,none⟩) l2).trans c2'
          have t3:w9.cell? ⟨tb,tq+y,none⟩=some (.slice A2 m0 c2):=(h8.cell (p:=⟨tb,tq+y,none⟩) l3).trans c3
          have h9:Below wx.heap.size wx w9:=bd.trans h8)
       | (go_at_call 53;(with_reducible refine(h6.out _ ba cc hR).mono ?_);rintro e w9 ⟨rfl,h8⟩
          have h9:Below wx.heap.size wx w9:=aq ba h8
          have t0:w9.cell? ⟨w.heap.size,0,none⟩=some (.slice (some ⟨tb,tq,none⟩) q c):=(h9.cell (p:=⟨w.heap.size,0,none⟩) l0).trans c0
          have t1:w9.cell? ⟨w.heap.size,1,none⟩=some (.slice (some ⟨b,off,none⟩) m d):=(h9.cell (p:=⟨w.heap.size,1,none⟩) l0).trans c1
          have t2:w9.cell? ⟨b,off+i,none⟩=some (.int .i64 (y:Int)):=(h9.cell (p:=⟨b,off+i,none⟩) l2).trans c2'
          have t3:w9.cell? ⟨tb,tq+y,none⟩=some (.slice A2 m0 c2):=(h9.cell (p:=⟨tb,tq+y,none⟩) l3).trans c3
          have k9:Blk w9 wx.heap.size 24 #[.string ⟨#[]⟩,.int .i64 0]:=(h8.block wx.heap.size (aA ka)).trans ka
          have x0:=(ac k9 0).trans (rfl:_=some (Value.string ⟨#[]⟩))
          have x1:=(ac k9 1).trans (rfl:_=some (Value.int .i64 0))
          have y0:=ae k9 0
          have y1:=ae k9 1
          have hC:Below wx.heap.size wx ((w9.setCell ⟨wx.heap.size,0,none⟩ (.string ⟨(aK X).toArray⟩)).setCell ⟨wx.heap.size,1,none⟩ (.int .i64 (X.length:Nat))):=(h9.setCell (p:=⟨wx.heap.size,0,none⟩) (ag _) _).setCell (p:=⟨wx.heap.size,1,none⟩) (ag _) _
          have u0:=(hC.cell (p:=⟨w.heap.size,0,none⟩) l0).trans c0
          have u1:=(hC.cell (p:=⟨w.heap.size,1,none⟩) l0).trans c1
          have u2:=(hC.cell (p:=⟨b,off+i,none⟩) l2).trans c2'
          have u3:=(hC.cell (p:=⟨tb,tq+y,none⟩) l3).trans c3))
    (all_goals go_wp2_with fail);all_goals go_meet
    all_goals first
     | exact⟨_,rfl,rfl,aj w9 _ _,h9.size,h9.alloc h9.size _⟩
     | exact⟨_,rfl,rfl,ay (ay k9 0 _) 1 _,Nk _,hC⟩
   case rest=>
    obtain⟨b8,rfl,rfl,hG,HT,hQ⟩:=hcut;have h7:=aq hf.out hQ;have hu:w3.heap.size<=wc.heap.size:=h7.size;by_cases h0:∀x∈cH L i,0<=x/\x<(m0:Int)
    ·have hv:=hO.out;rw[Nf h0]at hv;obtain⟨rfl,rfl⟩:X=jR T P L i/\zz=0:=by
      injection hv with e1 e2
      exact⟨e1,e2⟩
     have hZ:Hid (au (jR T P L i)):=aa (GQ _ _);have hE:∀j,j<i+1->∀x∈cH L j,0<=x/\x<(m0:Int):=fun j hj=>by
      by_cases ej:j=i;·rw[ej];exact h0
      ·exact hw.out j (by omega)
     have HF:(List.range (i+1)).map (jR T P L)=(List.range i).map (jR T P L)++ [jR T P L i]:=(by rw[Oh,Nz];rfl);obtain⟨X,hX⟩:∃X,X=jR T P L i:=⟨_,rfl⟩;rw[<- hX]at hG hZ HF;obtain⟨v5,w5,HH,hc,HS⟩:=uE wc w3.heap.size (.slice A9 i c9) _ X (hm.out.below hQ) hu (by simp;omega) hZ.out;rw[<- HF]at hc;obtain⟨A5,c5,rfl,_,_,_⟩:=ai hc.own;rw[Nu,NE]at hc HH;have x0:=(ac hG 0).trans (rfl:_=some (Value.string ⟨(aK X).toArray⟩));have x1:=(ac hG 1).trans (rfl:_=some (Value.int .i64 X.length));have p5:=aa HH;have H2:=aa hc;have p3:=aa (h7.trans HS);have H0:=aa hE;clear hG HT hQ h7 hu h0 hv hE HF hX HH hc HS hZ hO hm hf hw h5 h6 c0 c1 c2' c3 bd ba ka l0 l2 l3;(go_wp2_with (at_builtin;refine Lib.wpList_append_run _ rfl (.tmp 49) (.tmp 51) 90 90 rfl (.slice A9 i c9) (.slice (some ⟨wc.heap.size,0,none⟩) 1 1) rfl rfl _ w5 p5.out ?_));go_roundw;case rel=>exact⟨i+1,A5,c5,by omega,by go_num,rfl,H2.out,p3.out,H0.out⟩
     case measure=>simp[intOf];omega
    ·have hv:=hO.out;rw[Nd h0]at hv;obtain⟨rfl,rfl⟩:X= []/\zz=60:=by
      injection hv with e1 e2
      exact⟨e1,e2⟩
     have hr:=(h7.block (w.heap.size+1) hh).trans H5.out;have g0:=(ac (show Blk wc (w.heap.size+1) _ _ from hr) 0).trans (rfl:_=some (Value.string ⟨#[]⟩));have g1:=(ac (show Blk wc (w.heap.size+1) _ _ from hr) 1).trans (rfl:_=some (Value.int .i64 0));have f0:=ae (show Blk wc (w.heap.size+1) _ _ from hr) 0;have f1:=ae (show Blk wc (w.heap.size+1) _ _ from hr) 1;have HE:=aa (hl.out i e h0 _ (((hK.out.trans (h7.mono he)).setCell (p:=⟨w.heap.size+1,0,none⟩) (Pa _) (.string ⟨#[]⟩)).setCell (p:=⟨w.heap.size+1,1,none⟩) (Pa _) (.int .i64 0)));clear hG HT hQ h7 hu h0 hv hr hO hm hf hw h5 h6 c0 c1 c2' c3 bd ba ka l0 l2 l3 hl ha;go_wp2_with fail;refine NH (v:=.tuple #[.agg #[.string ⟨#[]⟩,.int .i64 0],.int .i64 60]) ?_ rfl HE.out;simp[results,results16,go_sem,g0,g1]
  ·obtain rfl:i=z:=by omega
   have p6:((List.range i).map (jR T P L)).flatten.length<=1000*i:=ub T P L (fun k=>by
    by_cases hk:k<m
    ·exact .inl (hn.out _ (H3.out k hk).2).2
    ·right
     unfold cH
     rw[Pp (by have:=p4.out;omega)]
     rfl) i
   have HJ:=aa (uF wx w3.heap.size (.slice A9 i c9) _ ht (by simp;omega) (by omega));obtain⟨X,hX⟩:∃X,X=((List.range i).map (jR T P L)).flatten:=⟨_,rfl⟩;rw[<- hX]at HJ;have HQ:=aa hX;have hf:=aa hg;have hw:=aa hS;clear ht hg hS p6 hX hl HO H1 H3 hn HL;go_wp2_with fail;refine HJ.out.mono ?_;rintro e w9 ⟨rfl,h8⟩;have hJ:=(an h8).blk ((hf.out.block (w.heap.size+1) hh).trans H5.out) aw aw;have g0:=(ac hJ 0).trans (rfl:_=some (Value.string ⟨#[]⟩));have g1:=(ac hJ 1).trans (rfl:_=some (Value.int .i64 0));have f0:=ae hJ 0;have f1:=ae hJ 1;have h9:=(hK.out.trans (hf.out.mono he)).trans (h8.mono (ND he hf.out.size));have HE:=aa (ha.out hw.out _ X HQ.out ((h9.setCell (p:=⟨w.heap.size+1,0,none⟩) (Pa _) (.string ⟨(aK X).toArray⟩)).setCell (p:=⟨w.heap.size+1,1,none⟩) (Pa _) (.int .i64 X.length)));clear hJ h8 h9 HJ hf hw ha HQ;go_wp2_with fail;refine NH (v:=.tuple #[.agg #[.string ⟨(aK X).toArray⟩,.int .i64 X.length],.int .i64 0]) ?_ rfl HE.out;simp[results,results16,go_sem,g0,g1]
theorem zY(w:World)(v:Value)(T:List (List Int))(P:List Int)(h:aJ w v T P)(A':Option Addr)(n' c':Nat)(L:List Int)(hL:ZIn w A' n' L)(h1:n'<=c')(h0:n'<=2000000):
 Calls prog 16 #[v,.slice A' n' c'] w (bn w (aT T P L)):=by
 by_cases hP:aV T P
 ·by_cases hM:yR T P L;·exact Ja w v T P h A' n' c' L hL h1 h0 hM
  ·exact I9 w v T P h A' n' c' L hL.1 h0 hP hM
 ·exact I8 w v T P h A' n' c' L hP
