import Derived.Test.YtfhgikojdfblpaaGreatM23
set_option maxHeartbeats 4000000
set_option maxRecDepth 100000
namespace Go.Proofs.YtfhgikojdfblpaaGreat.S05
open _root_.Go.Proofs.Tryz
def pre(s:List UInt8)(t i:Nat):List UInt8:=(List.range t).map fun k=>rat s (i+k)
theorem cI(s:List UInt8)(t i:Nat):(pre s t i).length=t:=by simp[pre]
theorem je(s:List UInt8)(t i k:Nat)(h:k<t):(pre s t i)[k]? =some (rat s (i+k)):=by unfold pre;rw[Np,NJ h];rfl
theorem sL(s:List UInt8)(t u i:Nat):pre s (t+u) i=pre s t i++pre s u (i+t):=by
 apply Ob;intro k;by_cases h:k<t;·rw[NW (by rw[cI];exact h),je s _ _ _ (by omega),je s _ _ _ h]
 ·by_cases h2:k<t+u;·rw[NO (by rw[cI];omega),cI,je s _ _ _ h2,je s _ _ _ (by omega),show i+t+(k-t)=i+k by omega]
  ·rw[Nw (by rw[cI];omega),Nw (by rw[Nb,cI,cI];omega)]
theorem EF(s:List UInt8)(t i:Nat):pre s t (i%s.length)=pre s t i:=by
 apply Ob;intro k;by_cases h:k<t;·rw[je s _ _ _ h,je s _ _ _ h,<-yw s (i%s.length+k),<-yw s (i+k),Nat.mod_add_mod]
 ·rw[Nw (by rw[cI];omega),Nw (by rw[cI];omega)]
theorem nQ(s:List UInt8)(i:Nat)(h:i<=s.length):pre s s.length i=dU s i:=by
 apply Ob;intro k;by_cases hk:k<s.length;·rw[je s _ _ _ hk,eF s i k h hk]
 ·rw[Nw (by rw[cI];omega),Nw (by rw[cQ];omega)]
theorem EG(s:List UInt8)(i:Nat):pre s 1 i= [rat s i]:=by simp[pre]
theorem Ey:∀(a b c d:List UInt8),a.length=b.length->(a++c<b++d↔a<b\/(a=b/\c<d))
 | [], [],c,d,_=>by simp
 | x::a, [],c,d,h=>by simp at h
 | [],y::b,c,d,h=>by simp at h
 | x::a,y::b,c,d,h=>by
  have ih:=Ey a b c d (by simpa using h);rw[Oq,Oq,Rw,Rw,ih];constructor
  ·rintro(h1|⟨h1,h2|⟨h2,h3⟩⟩);·exact .inl (.inl h1)
   ·exact .inl (.inr ⟨h1,h2⟩)
   ·exact .inr ⟨by rw[h1,h2],h3⟩
  ·rintro((h1|⟨h1,h2⟩)|⟨h1,h2⟩);·exact .inl h1
   ·exact .inr ⟨h1,.inl h2⟩
   ·injection h1 with h3 h4
    exact .inr ⟨h3,.inr ⟨h4,h2⟩⟩
theorem oT(s:List UInt8)(t u i j:Nat):pre s (t+u) i<pre s (t+u) j↔pre s t i<pre s t j\/(pre s t i=pre s t j/\pre s u (i+t)<pre s u (j+t)):=by rw[sL,sL];exact Ey _ _ _ _ (by rw[cI,cI])
theorem oS(s:List UInt8)(t u i j:Nat):pre s (t+u) i=pre s (t+u) j↔pre s t i=pre s t j/\pre s u (i+t)=pre s u (j+t):=by
 rw[sL,sL];constructor;·intro h;exact List.append_inj h (by rw[cI,cI])
 ·rintro⟨h1,h2⟩;rw[h1,h2]
theorem uM(s:List UInt8)(u i j:Nat)(hi:i<=s.length)(hj:j<=s.length):pre s (s.length+u) i=pre s (s.length+u) j↔dU s i=dU s j:=by
 rw[oS,nQ s i hi,nQ s j hj];constructor;·exact fun h=>h.1
 ·intro h;refine⟨h,?_⟩;have hk:=(yA s i j hi hj).1 h;apply Ob;intro k;by_cases h1:k<u;·rw[je s _ _ _ h1,je s _ _ _ h1,show i+s.length+k=i+(s.length+k) by omega,show j+s.length+k=j+(s.length+k) by omega,hk]
  ·rw[Nw (by rw[cI];omega),Nw (by rw[cI];omega)]
theorem Dw(s:List UInt8)(u i j:Nat)(hi:i<=s.length)(hj:j<=s.length)(h:pre s (s.length+u) i<pre s (s.length+u) j):dU s i<dU s j:=by
 rw[oT,nQ s i hi,nQ s j hj]at h;rcases h with h|⟨h,h2⟩;·exact h
 ·have h3:=((uM s u i j hi hj).2 h);rw[oS]at h3;rw[h3.2]at h2;exact absurd h2 (List.lt_irrefl _)
theorem Dy(s:List UInt8)(t i j:Nat)(ht:t<=s.length)(hi:i<=s.length)(hj:j<=s.length)(h:pre s t i<pre s t j):dU s i<dU s j:=by have h1:pre s (t+(s.length-t)) i<pre s (t+(s.length-t)) j:=(oT s t (s.length-t) i j).2 (.inl h);rw[show t+(s.length-t)=s.length by omega,nQ s i hi,nQ s j hj]at h1;exact h1
theorem Dz(s:List UInt8)(t i j:Nat)(hi:i<=s.length)(hj:j<=s.length)(h:pre s t i<pre s t j):dU s i<dU s j:=by
 rcases Nat.le_total t s.length with h1|h1;·exact Dy s t i j h1 hi hj h
 ·exact Dw s (t-s.length) i j hi hj (by rw[show s.length+(t-s.length)=t by omega];exact h)
theorem Dx(s:List UInt8)(t i j:Nat)(ht:s.length<=t)(hi:i<=s.length)(hj:j<=s.length)(h:pre s t i=pre s t j):dU s i=dU s j:=
 (uM s (t-s.length) i j hi hj).1 (by rw[show s.length+(t-s.length)=t by omega];exact h)
def Sem(s:List UInt8)(t:Nat)(R:Nat->Nat):Prop:=∀i j,i<s.length->j<s.length->((R i<R j↔pre s t i<pre s t j)/\(R i=R j↔pre s t i=pre s t j))
def ed(n t:Nat)(R:Nat->Nat)(i:Nat):Nat:=R (if n<=i+t then i+t-n else i+t)
def D8(n:Nat)(q key q':Nat->Nat):Prop:=∀i j,i<n->j<n->((q' i<q' j↔q i<q j\/(q i=q j/\key i<key j))/\(q' i=q' j↔q i=q j/\key i=key j))
theorem Kx(s:List UInt8)(t:Nat)(R q':Nat->Nat)(ht:t<s.length)(h:Sem s t R)(hf:D8 s.length R (ed s.length t R) q'):Sem s (t+t) q':=by
 have hm:∀i,i<s.length->(if s.length<=i+t then i+t-s.length else i+t)<s.length/\(if s.length<=i+t then i+t-s.length else i+t)=(i+t)%s.length:=by
  intro i hi;split;·rename_i h1;rw[Nat.mod_eq_sub_mod h1,NL (by omega)];exact⟨by omega,rfl⟩
  ·rw[NL (by omega)];exact⟨by omega,rfl⟩
 intro i j hi hj;have h1:=hf i j hi hj;have h2:=h i j hi hj;obtain⟨a1,a2⟩:=hm i hi;obtain⟨b1,b2⟩:=hm j hj;have h3:=h _ _ a1 b1;rw[show R (if s.length<=i+t then i+t-s.length else i+t)=ed s.length t R i from rfl,show R (if s.length<=j+t then j+t-s.length else j+t)=ed s.length t R j from rfl,a2,b2,EF,EF]at h3;rw[h1.1,h1.2,h2.1,h2.2,h3.1,h3.2,oT,oS];exact⟨Iff.rfl,Iff.rfl⟩
theorem Hc(s:List UInt8)(R q':Nat->Nat)(hR:∀i,i<s.length->R i=(rat s i).toNat)(hf:D8 s.length (fun _=>0) (ed s.length 0 R) q'):Sem s 1 q':=by
 intro i j hi hj;have h1:=hf i j hi hj;have e:∀i,i<s.length->ed s.length 0 R i=(rat s i).toNat:=fun i hi=>by unfold ed;rw[NY,Nd,hR i hi]
 rw[e i hi,e j hj]at h1;rw[h1.1,h1.2,EG,EG];constructor;·rw[Rw];simp[PM]
 ·constructor;·rintro⟨_,h⟩;rw[UInt8.toNat_inj.1 h]
  ·intro h;injection h with h
   exact⟨rfl,by rw[h]⟩
structure Sta (n:Nat) (q O M:Nat->Nat) (done:List (Nat×Nat)) (a b:Nat) (rest:List (Nat×Nat)):Prop where
 low:∀p,p<n->O p<n
 all:∀i,i<n->∃p,p<n/\O p=i
 sorted:∀p r,p<r->r<n->q (O p)<q (O r)\/(q (O p)=q (O r)/\O p<O r)
 grp:∀g,(g∈done\/g∈rest)->g.1<g.2/\g.2<=n/\∀p r,g.1<=p->p<g.2->r<n->(q (O p)=q (O r)↔g.1<=r/\r<g.2)
 made:∀g,g∈done->∀p,g.1<=p->p<g.2->M (O p)=g.1
 ones:∀p,p<n->(p<a\/b<=p)->(∀ g,(g∈done\/g∈rest)->p<g.1\/g.2<=p)->M (O p)=p/\∀r,r<n->q (O p)=q (O r)->r=p
 apart:(done++(a,b)::rest).Pairwise (fun g h=>g.2<=h.1)
 ab:a<=b/\b<=n
 edge:∀p r,a<=p->p<b->r<n->q (O p)=q (O r)->a<=r/\r<b
section
variable {n:Nat} {q O M:Nat->Nat} {done rest:List (Nat×Nat)} {a b:Nat}
theorem Sta.le(h:Sta n q O M done a b rest){p r:Nat}(hp:p<=r)(hr:r<n):q (O p)<=q (O r):=by
 rcases N1 p r with h1|h1;·rcases h.sorted p r h1 hr with h2|⟨h2,_⟩ <;>omega
 ·have e:p=r:=(by omega);rw[e];exact Nk _
theorem Sta.inj(h:Sta n q O M done a b rest){p r:Nat}(hp:p<n)(hr:r<n)(e:O p=O r):p=r:=by
 rcases OI p r with h1|h1|h1;·rcases h.sorted p r h1 hr with h2|⟨_,h2⟩ <;>rw[e]at h2 <;>omega
 ·exact h1
 ·rcases h.sorted r p h1 hp with h2|⟨_,h2⟩ <;>rw[e]at h2 <;>omega
theorem Sta.left(h:Sta n q O M done a b rest):∀g∈done,g.2<=a:=fun g hg=>(List.pairwise_append.1 h.apart).2.2 g hg (a,b) Nh
theorem Sta.right(h:Sta n q O M done a b rest):∀g∈rest,b<=g.1:=fun g hg=>(List.pairwise_cons.1 (List.pairwise_append.1 h.apart).2.1).1 g hg
theorem Sta.across(h:Sta n q O M done a b rest):∀g∈done,∀k∈rest,g.2<=k.1:=fun g hg k hk=>(List.pairwise_append.1 h.apart).2.2 g hg k (Nm _ hk)
theorem Sta.give(h:Sta n q O M done a b rest)(c:Nat)(he:a<c)(hi:c<=b)(ha:∀p,a<=p->p<c->q (O p)=q (O a))(hf:c<b->q (O c)≠q (O a))
 (M':Nat->Nat) (hb:∀p,a<=p->p<c->M' (O p)=a) (hc:∀p,p<n->(p<a\/c<=p)->M' (O p)=M (O p)):
 Sta n q O M' (if 1<c-a then done++ [(a,c)]else done) c b rest:=by
 have hh:=h.ab.2;have h9:∀g,g∈(if 1<c-a then done++ [(a,c)]else done)->g∈done\/g=(a,c):=by
  intro g hg;split at hg
  ·rcases List.mem_append.1 hg with h1|h1;·exact .inl h1
   ·exact .inr (List.mem_singleton.1 h1)
  ·exact .inl hg
 have h8:∀r,r<n->q (O a)=q (O r)->a<=r/\r<c:=by
  intro r hr e;obtain⟨h1,h2⟩:=h.edge a r (ag _) (by omega) hr e;refine⟨h1,?_⟩;rcases N1 r c with h3|h3;·exact h3
  ·have h4:=h.le (p:=a) (r:=c) (by omega) (by omega);have h5:=h.le h3 hr;exact absurd (by omega) (hf (by omega))
 refine⟨h.low,h.all,h.sorted,?_,?_,?_,?_,⟨hi,hh⟩,?_⟩
 ·rintro g (hg|hg)
  ·rcases h9 g hg with h1|rfl;·exact h.grp g (.inl h1)
   ·refine⟨he,by show c<=n;omega,fun p r h0 h7 hr=> ?_⟩;simp only at h0 h7 |-;rw[ha p h0 h7];constructor;·exact h8 r hr
    ·intro ⟨h1,h2⟩;exact(ha r h1 h2).symm
  ·exact h.grp g (.inr hg)
 ·intro g hg p h0 h7;rcases h9 g hg with h1|rfl;·have h2:=h.left g h1;have h3:=(h.grp g (.inl h1)).2.1;rw[hc p (by omega) (.inl (by omega))];exact h.made g h1 p h0 h7
  ·exact hb p h0 h7
 ·intro p hp hl hg;by_cases hn:a<=p/\p<c;·have hm:¬1<c-a:=(by intro h1;have:=hg (a,c) (.inl (by rw[Nf h1];simp));simp only at this;omega);have:p=a:=(by omega);subst this;refine⟨hb p (ag _) he,fun r hr e=> ?_⟩;have:=h8 r hr e;omega
  ·rw[hc p hp (by omega)];refine h.ones p hp (by omega) fun g hj=> ?_;rcases hj with h1|h1
   ·refine hg g (.inl ?_);split;·exact Pv _ h1
    ·exact h1
   ·exact hg g (.inr h1)
 ·have h1:=List.pairwise_append.1 h.apart;have h2:=List.pairwise_cons.1 h1.2.1;split
  ·rw[Ni];refine List.pairwise_append.2 ⟨h1.1,?_,?_⟩
   ·refine List.pairwise_cons.2 ⟨?_,?_⟩
    ·intro g hg;rcases List.mem_cons.1 hg with rfl|h3;·exact Nk _
     ·have:=h2.1 g h3;simp only at this |-;omega
    ·exact List.pairwise_cons.2 ⟨fun g hg=>h2.1 g hg,h2.2⟩
   ·intro g hg k hk;have h4:=h1.2.2 g hg (a,b) Nh;rcases List.mem_append.1 hk with h3|h3;·rw[List.mem_singleton.1 h3];exact h4
    ·rcases List.mem_cons.1 h3 with rfl|h5;·simp only at h4 |-;omega
     ·exact h1.2.2 g hg k (Nm _ h5)
  ·refine List.pairwise_append.2 ⟨h1.1,List.pairwise_cons.2 ⟨fun g hg=>h2.1 g hg,h2.2⟩,?_⟩;intro g hg k hk;have h4:=h1.2.2 g hg (a,b) Nh;rcases List.mem_cons.1 hk with rfl|h5;·simp only at h4 |-;omega
   ·exact h1.2.2 g hg k (Nm _ h5)
 ·intro p r h0 h7 hr e;obtain⟨h1,h2⟩:=h.edge p r (by omega) h7 hr e;refine⟨?_,h2⟩;rcases N1 r c with h3|h3;·have h4:=h.le (p:=r) (r:=c) (by omega) (by omega);have h5:=h.le (p:=c) (r:=p) h0 (by omega);have h6:=ha r h1 h3;exact absurd (by omega) (hf (by omega))
  ·exact h3
theorem Sta.parted{x f t:Nat}(h:Sta n q O M done x x ((f,t)::rest))(key q' O':Nat->Nat)
 (hm:∀i j,q' i<q' j↔q i<q j\/(q i=q j/\q i=q (O f)/\key i<key j)) (hb:∀i j,q' i=q' j↔q i=q j/\(q i=q (O f)->key i=key j))
 (h7:∀p,(p<f\/t<=p)->O' p=O p) (hh:∀p,f<=p->p<t->∃r,f<=r/\r<t/\O' p=O r) (ho:∀p,f<=p->p<t->∃r,f<=r/\r<t/\O' r=O p)
 (hS:∀p r,f<=p->p<r->r<t->key (O' p)<key (O' r)\/(key (O' p)=key (O' r)/\O' p<O' r)):
 Sta n q' O' M done f t rest:=by
 obtain⟨hj,hn,h8⟩:=h.grp (f,t) (.inr Nh);simp only at hj hn h8;have hq:∀p,p<n->q (O' p)=q (O p):=by
  intro p hp;by_cases h0:f<=p/\p<t;·obtain⟨r,he,hf,e⟩:=hh p h0.1 h0.2;rw[e];exact(h8 r p he hf hp).2 h0
  ·rw[h7 p (by omega)]
 have h0:∀p,p<n->(q (O' p)=q (O f)↔f<=p/\p<t):=by intro p hp;rw[hq p hp];have:=h8 f p (ag _) hj hp;rw[<- this];exact eq_comm
 have hy:=h.right;have hx:=h.left;refine⟨?_,?_,?_,?_,?_,?_,?_,⟨by omega,hn⟩,?_⟩
 ·intro p hp;by_cases hi:f<=p/\p<t;·obtain⟨r,he,hf,e⟩:=hh p hi.1 hi.2;rw[e];exact h.low r (by omega)
  ·rw[h7 p (by omega)];exact h.low p hp
 ·intro i hi;obtain⟨p,hp,rfl⟩:=h.all i hi;by_cases hi:f<=p/\p<t;·obtain⟨r,he,hf,e⟩:=ho p hi.1 hi.2;exact⟨r,by omega,e⟩
  ·exact⟨p,hp,h7 p (by omega)⟩
 ·intro p r hl hr;have hv:=hq p (by omega);have hw:=hq r hr;have h1:=h.le (p:=p) (r:=r) (by omega) hr;by_cases h2:q (O p)<q (O r);·exact .inl ((hm _ _).2 (.inl (by omega)))
  ·have h3:q (O' p)=q (O' r):=(by omega);by_cases h4:q (O' p)=q (O f)
   ·have ip:=(h0 p (by omega)).1 h4;have ir:=(h0 r hr).1 (by omega);rcases hS p r ip.1 hl ir.2 with h5|⟨h5,h6⟩;·exact .inl ((hm _ _).2 (.inr ⟨h3,h4,h5⟩))
    ·exact .inr ⟨(hb _ _).2 ⟨h3,fun _=>h5⟩,h6⟩
   ·have ip:¬(f<=p/\p<t):=fun h5=>h4 ((h0 p (by omega)).2 h5);have ir:¬(f<=r/\r<t):=fun h5=>h4 (by rw[h3];exact(h0 r hr).2 h5);refine .inr ⟨(hb _ _).2 ⟨h3,fun h5=>absurd h5 h4⟩,?_⟩;rw[h7 p (by omega),h7 r (by omega)];rcases h.sorted p r hl hr with h5|⟨_,h5⟩;·omega
    ·exact h5
 ·intro g hg;have hs:g∈done\/g∈(f,t)::rest:=hg.imp id (Nm _);have hu:g.2<=f\/t<=g.1:=by
   rcases hg with h1|h1;·exact .inl (h.across g h1 (f,t) Nh)
   ·have h2:=List.pairwise_append.1 h.apart;have h3:=List.pairwise_cons.1 (List.pairwise_cons.1 h2.2.1).2;exact .inr (h3.1 g h1)
  obtain⟨g1,g2,g3⟩:=h.grp g hs;refine⟨g1,g2,fun p r h9 ha hr=> ?_⟩;have h1:¬(f<=p/\p<t):=by omega
  have h2:q (O' p)≠q (O f):=fun e=>h1 ((h0 p (by omega)).1 e);rw[hb,hq p (by omega),hq r hr,<-g3 p r h9 ha hr];constructor;·exact fun e=>e.1
  ·intro e;refine⟨e,fun e2=>absurd ?_ h2⟩;rw[hq p (by omega)];exact e2
 ·intro g hg p h9 ha;have h1:g.2<=f:=h.across g hg (f,t) Nh;rw[h7 p (by omega)];exact h.made g hg p h9 ha
 ·intro p hp hc hg;have h1:¬(f<=p/\p<t):=by omega
  have h2:q (O' p)≠q (O f):=fun e=>h1 ((h0 p (by omega)).1 e);have h3:=h.ones p hp (by omega) fun g ht=>by
   rcases ht with h4|h4;·exact hg g (.inl h4)
   ·rcases List.mem_cons.1 h4 with rfl|h5;·exact hc
    ·exact hg g (.inr h5)
  rw[h7 p (by omega)];refine⟨h3.1,fun r hr e=> ?_⟩;have h4:=((hb _ _).1 e).1;rw[hq r hr]at h4;exact h3.2 r hr h4
 ·have h1:=List.pairwise_append.1 h.apart;refine List.pairwise_append.2 ⟨h1.1,(List.pairwise_cons.1 h1.2.1).2,fun g hg k hk=>h1.2.2 g hg k (Nm _ hk)⟩
 ·intro p r h9 ha hr e;have h4:=((hb _ _).1 e).1;have h5:=(h0 p (by omega)).2 ⟨h9,ha⟩;exact(h0 r hr).1 (by omega)
theorem Sta.rank{x:Nat}(h:Sta n q O M done x x []):∀i j,i<n->j<n->((M i<M j↔q i<q j)/\(M i=M j↔q i=q j)):=by
 have key:∀p r,p<n->r<n->(q (O p)<q (O r)->M (O p)<M (O r))/\(q (O p)=q (O r)->M (O p)=M (O r)):=by
  have st:∀p,p<n->M (O p)<=p/\q (O (M (O p)))=q (O p)/\∀r,r<n->q (O p)=q (O r)->M (O r)=M (O p):=by
   intro p hp;by_cases hg:∃g,g∈done/\g.1<=p/\p<g.2
   ·obtain⟨g,h6,h0,h7⟩:=hg;obtain⟨g1,g2,g3⟩:=h.grp g (.inl h6);have hm:=h.made g h6 p h0 h7;rw[hm];refine⟨h0,?_,fun r hr e=> ?_⟩;·exact(g3 g.1 p (ag _) g1 hp).2 ⟨h0,h7⟩
    ·have:=(g3 p r h0 h7 hr).1 e;exact h.made g h6 r this.1 this.2
   ·have h1:=h.ones p hp (by omega) fun g h0=>by
     rcases h0 with h4|h4;·have:¬(g.1<=p/\p<g.2):=fun h5=>hg ⟨g,h4,h5⟩;omega
     ·exact absurd h4 aw
    rw[h1.1];refine⟨Nk _,rfl,fun r hr e=> ?_⟩;rw[h1.2 r hr e];exact h1.1
  intro p r hp hr;obtain⟨p1,p2,p3⟩:=st p hp;obtain⟨r1,r2,r3⟩:=st r hr;refine⟨fun h8=> ?_,fun e=>(p3 r hr e).symm⟩;rcases N1 (M (O p)) (M (O r))with h1|h1;·exact h1
  ·have:=h.le h1 (by omega);omega
 intro i j hi hj;obtain⟨p,hp,rfl⟩:=h.all i hi;obtain⟨r,hr,rfl⟩:=h.all j hj;have h1:=key p r hp hr;have h2:=key r p hr hp;constructor
 ·constructor
  ·intro h8;rcases OI (q (O p)) (q (O r))with h3|h3|h3;·exact h3
   ·have:=h1.2 h3;omega
   ·have:=h2.1 h3;omega
  ·exact h1.1
 ·constructor
  ·intro e;rcases OI (q (O p)) (q (O r))with h3|h3|h3;·have:=h1.1 h3;omega
   ·exact h3
   ·have:=h2.1 h3;omega
  ·exact h1.2
theorem Sta.again{x:Nat}(h:Sta n q O M done x x []):Sta n M O M [] 0 0 done:=by
 have hr:=h.rank;have hl:=h.low;refine⟨hl,h.all,?_,?_,?_,?_,?_,⟨Nk _,Ng _⟩,?_⟩;·intro p r h3 hn;have h1:=hr (O p) (O r) (hl p (by omega)) (hl r hn);rw[h1.1,h1.2];exact h.sorted p r h3 hn
 ·rintro g (hg|hg);·exact absurd hg aw
  ·obtain⟨g1,g2,g3⟩:=h.grp g (.inl hg);refine⟨g1,g2,fun p r hp1 hp2 hn=> ?_⟩;rw[(hr (O p) (O r) (hl p (by omega)) (hl r hn)).2];exact g3 p r hp1 hp2 hn
 ·intro g hg;exact absurd hg aw
 ·intro p hp _ hg;have h1:=h.ones p hp (by omega) fun g h0=>by
   rcases h0 with h4|h4;·exact hg g (.inr h4)
   ·exact absurd h4 aw
  refine⟨h1.1,fun r hn e=>h1.2 r hn ?_⟩;exact((hr (O p) (O r) (hl p hp) (hl r hn)).2).1 e
 ·have h1:=List.pairwise_append.1 h.apart;refine List.pairwise_cons.2 ⟨fun g _=>Ng _,h1.1⟩
 ·intro p r h1 h2;omega
structure Rnd (n:Nat) (q0 key q O:Nat->Nat) (rest:List (Nat×Nat)):Prop where
 coarse:∀i j,q0 i<q0 j->q i<q j
 same:∀i j,q0 i=q0 j->key i=key j->q i=q j
 le:∀i j,q0 i=q0 j->key i<key j->q i<=q j
 fine:∀p r,p<n->r<n->(∀ g,g∈rest->p<g.1\/g.2<=p)->q (O p)=q (O r)->key (O p)=key (O r)
theorem GZ(h:Sta n q O M [] 0 0 rest)(key:Nat->Nat):Rnd n q key q O rest:=by
 refine⟨fun i j h=>h,fun i j h _=>h,fun i j h _=>Oi h,fun p r hp hr hg e=> ?_⟩;have h1:=h.ones p hp (by omega) fun g h0=>by
  rcases h0 with h4|h4;·exact absurd h4 aw
  ·exact hg g h4
 rw[h1.2 r hr e]
theorem Rnd.parted{x f t:Nat}{q0 key:Nat->Nat}(k:Rnd n q0 key q O ((f,t)::rest))(h:Sta n q O M done x x ((f,t)::rest))(q' O':Nat->Nat)
 (h9:∀i j,q' i<q' j↔q i<q j\/(q i=q j/\q i=q (O f)/\key i<key j)) (ha:∀i j,q' i=q' j↔q i=q j/\(q i=q (O f)->key i=key j))
 (he:∀p,(p<f\/t<=p)->O' p=O p) (hf:∀p,f<=p->p<t->∃r,f<=r/\r<t/\O' p=O r):Rnd n q0 key q' O' rest:=by
 obtain⟨hh,hm,h0⟩:=h.grp (f,t) (.inr Nh);simp only at hh hm h0;refine⟨fun i j h=>(h9 i j).2 (.inl (k.coarse i j h)),fun i j h1 h2=>(ha i j).2 ⟨k.same i j h1 h2,fun _=>h2⟩,fun i j h1 h2=> ?_,fun p r hp hr hg e=> ?_⟩
 ·have h3:=k.le i j h1 h2;rcases N1 (q i) (q j)with h4|h4;·exact NT ((h9 i j).2 (.inl h4))
  ·have h5:q i=q j:=(by omega);by_cases h6:q i=q (O f);·exact NT ((h9 i j).2 (.inr ⟨h5,h6,h2⟩))
   ·exact Oi ((ha i j).2 ⟨h5,fun h7=>absurd h7 h6⟩)
 ·obtain⟨e1,e2⟩:=(ha _ _).1 e;by_cases hi:f<=p/\p<t;·obtain⟨s,hb,hc,e3⟩:=hf p hi.1 hi.2;refine e2 ?_;rw[e3];exact(h0 s f hb hc (by omega)).2 ⟨Nk _,hh⟩
  ·have hj:=he p (by omega);have h8:¬(f<=r/\r<t):=(by intro h8;obtain⟨s,hb,hc,e3⟩:=hf r h8.1 h8.2;rw[hj,e3]at e1;exact hi ((h0 s p hb hc hp).1 e1.symm));have hl:=he r (by omega);rw[hj,hl]at e1 |-;refine k.fine p r hp hr (fun g hk=> ?_) e1;rcases List.mem_cons.1 hk with rfl|h5;·show p<f\/t<=p;omega
   ·exact hg g h5
theorem Rnd.finer{x:Nat}{q0 key:Nat->Nat}(k:Rnd n q0 key q O [])(h:Sta n q O M done x x []):D8 n q0 key M:=by
 intro i j hi hj;have hr:=h.rank i j hi hj;obtain⟨p,hp,rfl⟩:=h.all i hi;obtain⟨r,h0,rfl⟩:=h.all j hj;have f1:=k.fine p r hp h0 (fun g hg=>absurd hg aw);have c1:=k.coarse (O p) (O r);have c2:=k.coarse (O r) (O p);have s1:=k.same (O p) (O r);have l1:=k.le (O p) (O r);have l2:=k.le (O r) (O p);rw[hr.1,hr.2];generalize O p=i at*;generalize O r=j at*;constructor
 ·constructor
  ·intro h1;rcases OI (q0 i) (q0 j)with h2|h2|h2;·exact .inl h2
   ·rcases OI (key i) (key j)with h3|h3|h3;·exact .inr ⟨h2,h3⟩
    ·have:=s1 h2 h3;omega
    ·have:=l2 h2.symm h3;omega
   ·have:=c2 h2;omega
  ·rintro(h1|⟨h1,h2⟩);·exact c1 h1
   ·have h3:=l1 h1 h2;rcases N1 (q i) (q j)with h4|h4;·exact h4
    ·have:=f1 (by omega);omega
 ·constructor
  ·intro h1;refine⟨?_,f1 h1⟩;rcases OI (q0 i) (q0 j)with h2|h2|h2;·have:=c1 h2;omega
   ·exact h2
   ·have:=c2 h2;omega
  ·rintro⟨h1,h2⟩;exact s1 h1 h2
end
theorem vH(q key:Nat->Nat)(c B:Nat)(hB:∀i,key i<B):∃q':Nat->Nat,(∀ i j,q' i<q' j↔q i<q j\/(q i=q j/\q i=c/\key i<key j))/\(∀ i j,q' i=q' j↔q i=q j/\(q i=c->key i=key j)):=by
 have lt:∀x y k l:Nat,k<B->x<y->x*B+k<y*B+l:=by intro x y k l hk h;have:(x+1)*B<=y*B:=Qp B h;rw[PU,Rk]at this;omega
 have hk:∀i,(if q i=c then key i else 0)<B:=by
  intro i;split;·exact hB i
  ·have:=hB 0;omega
 refine⟨fun i=>q i*B+(if q i=c then key i else 0),fun i j=> ?_,fun i j=> ?_⟩
 ·show q i*B+(if q i=c then key i else 0)<q j*B+(if q j=c then key j else 0)↔_;rcases OI (q i) (q j)with h|h|h;·exact⟨fun _=>.inl h,fun _=>lt _ _ _ _ (hk i) h⟩
  ·rw[h];by_cases hc:q j=c
   ·rw[Nf hc,Nf hc];constructor;·intro h1;exact .inr ⟨rfl,hc,by omega⟩
    ·rintro(h1|⟨_,_,h1⟩) <;>omega
   ·rw[Nd hc,Nd hc];constructor;·intro h1;omega
    ·rintro(h1|⟨_,h1,_⟩);·omega
     ·exact absurd h1 hc
  ·have:=lt (q j) (q i) (if q j=c then key j else 0) (if q i=c then key i else 0) (hk j) h;constructor;·intro h1;omega
   ·rintro(h1|⟨h1,_⟩) <;>omega
 ·show q i*B+(if q i=c then key i else 0)=q j*B+(if q j=c then key j else 0)↔_;rcases OI (q i) (q j)with h|h|h
  ·have:=lt (q i) (q j) (if q i=c then key i else 0) (if q j=c then key j else 0) (hk i) h;constructor;·intro h1;omega
   ·rintro⟨h1,_⟩;omega
  ·rw[h];by_cases hc:q j=c
   ·rw[Nf hc,Nf hc];constructor;·intro h1;exact⟨rfl,fun _=>by omega⟩
    ·rintro⟨_,h1⟩;have:=h1 hc;omega
   ·rw[Nd hc,Nd hc];exact⟨fun _=>⟨rfl,fun h1=>absurd h1 hc⟩,fun _=>rfl⟩
  ·have:=lt (q j) (q i) (if q j=c then key j else 0) (if q i=c then key i else 0) (hk j) h;constructor;·intro h1;omega
   ·rintro⟨h1,_⟩;omega
theorem qW(n:Nat):∀(gs:List (Nat×Nat)) (lo:Nat),lo<=n->(∀ g∈gs,lo<=g.1/\g.1<g.2/\g.2<=n)->gs.Pairwise (fun g h=>g.2<=h.1)->gs.length<=n-lo
 | [],lo,_,_,_=>Ng _
 | g::gs,lo,hlo,h,hp=>by obtain⟨h1,h2,h3⟩:=h g Nh;have h0:=List.pairwise_cons.1 hp;have:=qW n gs g.2 h3 (fun k hk=>⟨h0.1 k hk,(h k (Nm _ hk)).2⟩) h0.2;rw[Ns];omega
theorem Sta.few{n:Nat}{q O M:Nat->Nat}{done rest:List (Nat×Nat)}{a b:Nat}(h:Sta n q O M done a b rest):done.length<=n/\rest.length<=n:=by have h1:=List.pairwise_append.1 h.apart;have h2:=List.pairwise_cons.1 h1.2.1;have:=qW n done 0 (Ng _) (fun g hg=>⟨Ng _,(h.grp g (.inl hg)).1,(h.grp g (.inl hg)).2.1⟩) h1.1;have:=qW n rest 0 (Ng _) (fun g hg=>⟨Ng _,(h.grp g (.inr hg)).1,(h.grp g (.inr hg)).2.1⟩) h2.2;omega
theorem LV(s:List UInt8)(L:List Nat)(M:Nat->Nat)(gs:List (Nat×Nat))(t:Nat)(hl:L.length=s.length)(h:Sta s.length M (fun p=>L.getD p 0) M [] 0 0 gs)(hs:Sem s t M)(he:gs= []\/s.length<=t):ep s L:=by
 have h0:∀p,(hp:p<L.length)->L.getD p 0=L[p]:=fun p hp=>by rw[Na,Nc hp];rfl
 constructor
 ·refine List.pairwise_iff_getElem.2 fun p r hp hr h8=> ?_;rw[<- h0 p hp,<-h0 r hr];have h6:=h.low p (by omega);have h7:=h.low r (by omega);have h5:=hs _ _ h6 h7;rcases h.sorted p r h8 (by omega)with h1|⟨h1,h2⟩;·exact .inl (Dz s t _ _ (by omega) (by omega) (h5.1.1 h1))
  ·rcases he with rfl|he;·have:=(h.ones p (by omega) (by omega) (fun g hg=>by rcases hg with h4|h4 <;>exact absurd h4 aw)).2 r (by omega) h1;omega
   ·exact .inr ⟨Dx s t _ _ he (by omega) (by omega) (h5.2.1 h1),h2⟩
 ·intro i;constructor;·intro hi;obtain⟨p,hp,rfl⟩:=Pr hi;have:=h.low p (by omega);simp only[h0 p hp]at this;exact this
  ·intro hi;obtain⟨p,hp,e⟩:=h.all i hi;have h3:p<L.length:=(by omega);rw[<- e];show L.getD p 0∈L;rw[h0 p h3];exact NM h3
open Go.RowKit
def dP(w:World)(g:Nat)(L:List Nat):Prop:=∃cs,Blk w g 3 cs/\∀i,i<L.length->cs[i]? =some (iv (L.getD i 0))
theorem dP.cell{w:World}{g:Nat}{L:List Nat}(h:dP w g L){i:Nat}(hi:i<L.length):w.cell? ⟨g,i,none⟩=some (.int .i64 (L.getD i 0:Nat)):=by obtain⟨cs,hb,hc⟩:=h;rw[ac hb,hc i hi];rfl
theorem dP.frozen{w:World}{g:Nat}{L:List Nat}(h:dP w g L)(i:Nat):w.frozen? ⟨g,i,none⟩=false:=by obtain⟨cs,hb,hc⟩:=h;exact ae hb i
theorem dP.lt{w:World}{g:Nat}{L:List Nat}(h:dP w g L):g<w.heap.size:=by obtain⟨cs,hb,hc⟩:=h;exact aA hb
theorem mS(L:List Nat)(i v p:Nat)(hi:i<L.length):(L.set i v).getD p 0=if p=i then v else L.getD p 0:=by
 rw[Na,Na,QQ];by_cases h:i=p;·subst h;rw[Nf rfl,Nf hi,Nf rfl];rfl
 ·rw[Nd h,Nd (fun e=>h e.symm)]
theorem dP.set{w:World}{g:Nat}{L:List Nat}(h:dP w g L){i:Nat}(hi:i<L.length)(v:Nat):dP (w.setCell ⟨g,i,none⟩ (.int .i64 v)) g (L.set i v):=by
 obtain⟨cs,hb,hc⟩:=h;refine⟨_,ay hb i (.int .i64 v),fun p hp=> ?_⟩;rw[P5]at hp;rw[O5,mS L i v p hi];have h1:i<cs.size:=by
  have:=hc i hi;rcases N1 i cs.size with h2|h2;·exact h2
  ·rw[Rt h2]at this;cases this
 by_cases e:i=p;·subst e;rw[Nf rfl,Nf h1,Nf rfl];rfl
 ·rw[Nd e,Nd (fun e2=>e e2.symm)];exact hc p hp
theorem _root_.Go.Proofs.YtfhgikojdfblpaaGreat.ak.irow{B:Nat}{ps:List Nat}{ts:List TypeId}{w w':World}(h:ak B ps ts w w'){g:Nat}{L:List Nat}(hr:dP w g L)(hp:g∉ps)(ht:3∉ts):dP w' g L:=by obtain⟨cs,hb,hc⟩:=hr;exact⟨cs,h.blk hb hp ht,hc⟩
theorem AD{w:World}{B n:Nat}{v:Value}{L:List Nat}(h:w.ownsRow B 3 1 v n (L.map iv))(hn:0<n):∃g cap,v=.slice (some ⟨g,0,none⟩) n cap/\n<=cap/\B<=g/\dP w g L/\L.length=n:=by
 have hl:=h.1;rw[Nu,Oc]at hl;rcases h.2 with⟨_,h0⟩|⟨g,cap,cur,rfl,hB,hh,h2,_,h4,h3⟩;·omega
 ·refine⟨g,cap,rfl,h2,hB,⟨cur,hh,fun i hi=> ?_⟩,hl⟩;have h1:(cur.toList.take (n*1))[i]? =(L.map iv)[i]? :=(by rw[h3]);rw[Pt (by omega),Np,Nc (by omega:i<L.length)]at h1;rw[<- Qm,h1,Na,Nc (by omega:i<L.length)];rfl
def qD(w:World)(rb ob n c t:Nat):Prop:=Blk w rb 120 #[.slice (some ⟨ob,0,none⟩) n c,.int .i64 t]
abbrev rp (rb:Nat):Value:=.pointer (some ⟨rb,0,none⟩)
theorem mQ(w:World)(rb ob n c t i:Nat)(R:List Nat)(hr:qD w rb ob n c t)(hR:dP w ob R)(hl:R.length=n)(hi:i<n)(ht:t<=n)(hn:n<=1000000):
 Calls prog 138 #[rp rb,.int .i64 i] w fun e w'=>e=.returned (.int .i64 (ed n t (fun k=>R.getD k 0) i:Nat))/\w=w':=by
 have c0:=ac hr 0;have c1:=ac hr 1;simp at c0 c1;by_cases h:n<=i+t;·have hk:ed n t (fun k=>R.getD k 0) i=R.getD (i+t-n) 0:=(by unfold ed;rw[Nf h]);have hc:=hR.cell (i:=i+t-n) (by omega);rw[hk];generalize R.getD (i+t-n) 0=v at*;have e1:((i:Int)+(t:Int)-(n:Int))=((i+t-n:Nat):Int):=(by omega);have e2:(((i:Int)+(t:Int)-(n:Int))).toNat=i+t-n:=(by omega);have d1:decide ((n:Int)<=(i:Int)+(t:Int))=true:=bE;go_enter func138,ntmps138;go_wp2_with fail;go_ret;exact⟨rfl,rfl⟩
 ·have hk:ed n t (fun k=>R.getD k 0) i=R.getD (i+t) 0:=(by unfold ed;rw[Nd h]);have hc:=hR.cell (i:=i+t) (by omega);rw[hk];generalize R.getD (i+t) 0=v at*;have e2:(((i:Int)+(t:Int))).toNat=i+t:=(by omega);have d1:decide ((n:Int)<=(i:Int)+(t:Int))=false:=aR;go_enter func138,ntmps138;go_wp2_with fail;go_ret;exact⟨rfl,rfl⟩
def fC(a b:Int):Int:=if a<b then -1 else if b<a then 1 else 0
theorem fQ(w:World)(a b:Int):Calls prog 180 #[.int .i64 a,.int .i64 b] w fun e w'=>e=.returned (.int .i64 (fC a b))/\w=w':=by
 obtain⟨v,hv⟩:∃v,v=fC a b:=⟨_,rfl⟩;have HV:=aa hv;unfold fC at hv;by_cases h1:a<b;·rw[Nf h1]at hv;have HW:=aa hv;clear hv;go_enter func180,ntmps180;go_wp2;go_ret;exact⟨by rw[<- HV.out,HW.out];rfl,rfl⟩
 ·by_cases h2:b<a;·rw[Nd h1,Nf h2]at hv;have HW:=aa hv;clear hv;go_enter func180,ntmps180;go_wp2;go_ret;exact⟨by rw[<- HV.out,HW.out];rfl,rfl⟩
  ·rw[Nd h1,Nd h2]at hv;have HW:=aa hv;clear hv;go_enter func180,ntmps180;go_wp2;go_ret;exact⟨by rw[<- HV.out,HW.out];rfl,rfl⟩
def cfN(key:Nat->Nat)(i j:Nat):Int:=if fC (key i) (key j)=0 then fC i j else fC (key i) (key j)
theorem ic(a b:Int):fC a b=0↔a=b:=by
 unfold fC;by_cases h1:a<b;·rw[Nf h1];omega
 ·by_cases h2:b<a;·rw[Nd h1,Nf h2];omega
  ·rw[Nd h1,Nd h2];omega
theorem jK(a b:Int):fC a b<0↔a<b:=by
 unfold fC;by_cases h1:a<b;·rw[Nf h1];omega
 ·by_cases h2:b<a;·rw[Nd h1,Nf h2];omega
  ·rw[Nd h1,Nd h2];omega
theorem Ei(key:Nat->Nat)(i j:Nat):cfN key i j<0↔key i<key j\/(key i=key j/\i<j):=by
 unfold cfN;by_cases h:fC (key i) (key j)=0;·rw[Nf h,jK];rw[ic]at h;omega
 ·rw[Nd h,jK];rw[ic]at h;omega
theorem zW(w:World)(rb ob n c t i j:Nat)(R:List Nat)(hr:qD w rb ob n c t)(hR:dP w ob R)(hl:R.length=n)(hi:i<n)(hj:j<n)(ht:t<=n)(hn:n<=1000000):
 Calls prog 137 #[rp rb,.int .i64 i,.int .i64 j] w fun e w'=>e=.returned (.int .i64 (cfN (ed n t fun k=>R.getD k 0) i j))/\w=w':=by
 have HA:=aa (mQ w rb ob n c t i R hr hR hl hi ht hn);have HB:=aa (mQ w rb ob n c t j R hr hR hl hj ht hn);generalize ed n t (fun k=>R.getD k 0)=key at*;have HC:=aa fun w1:World=>fQ w1 (key i) (key j);have HD:=aa fun w1:World=>fQ w1 (i:Nat) (j:Nat);obtain⟨v,hv⟩:∃v,v=cfN key i j:=⟨_,rfl⟩;rw[<- hv];unfold cfN at hv;generalize fC (key i) (key j)=a at*;generalize fC (i:Nat) (j:Nat)=b at*;generalize key i=ki at*;generalize key j=kj at*;by_cases h:a=0;·rw[Nf h]at hv;have HV:=aa hv;have d1:(a==0)=true:=(by rw[h];rfl);have d2:(a != 0)=false:=(by rw[h];rfl);clear hv h;go_enter func137,ntmps137;go_wp2_with fail;refine HA.out.mono ?_;rintro e w1 ⟨rfl,rfl⟩;go_wp2_with fail;refine HB.out.mono ?_;rintro e w1 ⟨rfl,rfl⟩;go_wp2_with fail;refine(HC.out _).mono ?_;rintro e w1 ⟨rfl,rfl⟩;go_wp2_with fail;refine(HD.out _).mono ?_;rintro e w1 ⟨rfl,rfl⟩;go_wp2_with fail;go_ret;exact⟨by rw[HV.out];rfl,rfl⟩
 ·rw[Nd h]at hv;have HV:=aa hv;have d1:(a==0)=false:=(by simpa using h);have d2:(a != 0)=true:=(by simpa using h);clear hv h;go_enter func137,ntmps137;go_wp2_with fail;refine HA.out.mono ?_;rintro e w1 ⟨rfl,rfl⟩;go_wp2_with fail;refine HB.out.mono ?_;rintro e w1 ⟨rfl,rfl⟩;go_wp2_with fail;refine(HC.out _).mono ?_;rintro e w1 ⟨rfl,rfl⟩;go_wp2_with fail;go_ret;exact⟨by rw[HV.out];rfl,rfl⟩
def iX(L:List (Nat×Nat)):List Value:=L.flatMap fun g=> [iv g.1,iv g.2]
theorem xY(L K:List (Nat×Nat)):iX (L++K)=iX L++iX K:=by simp[iX]
theorem F8(L:List (Nat×Nat)):∀k,(h:k<L.length)->(iX L)[2*k]? =some (iv L[k].1)/\(iX L)[2*k+1]? =some (iv L[k].2):=by
 induction L with
 | nil=>intro k h;simp at h
 | cons g L ih=>
  intro k h;have e:iX (g::L)=iv g.1::iv g.2::iX L:=rfl;rw[e]
  cases k with
  | zero=>exact⟨rfl,rfl⟩
  | succ k=>have:=ih k (by simpa using h);exact this
theorem Tryz.info122:(prog.info? 122).map (fun i=>(i.zero,i.size,i.bytes))=some (some (.agg #[.int .i64 0,.int .i64 0]),2,16):=by kernel_rfl
theorem _root_.Go.Proofs.YtfhgikojdfblpaaGreat.ak.grownP{B:Nat}{ps:List Nat}{ts:List TypeId}{w w' w'':World}(h:ak B ps ts w w'){row:Option Nat}(hg:w'.grownBy w'' row)(hB:B<=w'.heap.size)(hr:∀k,row=some k->B<=k/\k∈ps):ak B ps ts w w'':=
 ⟨h.below.grown hg hB (fun k hk=>(hr k hk).1),fun i cs t fr hh hi ht=>by
   have hk:=h.keep i cs t fr hh hi ht
   rw[hg.block i (Array.getElem?_eq_some_iff.1 hk).1 (fun e=>hi (hr i e.symm).2)]
   exact hk⟩
theorem gg{w:World}{g k:Nat}{t u:TypeId}{cs ds:Array Value}(h:Blk w g t cs)(k':Blk w k u ds)(h0:t≠u):g≠k:=by
 intro e;subst e;unfold Blk at h k';rw[h]at k';injection k' with k'
 injection k' with _ h2
 exact h0 h2
structure xB (w:World) (B a mb bo bm bl n co cm:Nat) (O M:List Nat) (lv:Value) (L:List (Nat×Nat)):Prop where
 qo:Blk w bo 37 #[.slice (some ⟨a,0,none⟩) n co]
 qm:Blk w bm 37 #[.slice (some ⟨mb,0,none⟩) n cm]
 ql:Blk w bl 123 #[lv]
 rO:dP w a O
 rM:dP w mb M
 lO:O.length=n
 lM:M.length=n
 nco:n<=co
 ne:a≠mb
 left:w.ownsRow B 122 2 lv L.length (iX L)
 hB:B<=mb/\B<=bl/\B<=w.heap.size
def yS(O M M':List Nat)(f t:Nat):Prop:=(∀ p,f<=p->p<t->M'.getD (O.getD p 0) 0=f)/\∀i,(∀ p,f<=p->p<t->O.getD p 0≠i)->M'.getD i 0=M.getD i 0
theorem C3{O M M1:List Nat}{f k:Nat}(h:yS O M M1 f k)(hf:f<=k)(hk:O.getD k 0<M1.length):yS O M (M1.set (O.getD k 0) f) f (k+1):=by
 refine⟨fun p h1 h2=> ?_,fun i hi=> ?_⟩
 ·rw[mS _ _ _ _ hk];by_cases e:O.getD p 0=O.getD k 0;·rw[Nf e]
  ·rw[Nd e];refine h.1 p h1 ?_;rcases N1 p k with h3|h3;·exact h3
   ·have:p=k:=(by omega);exact absurd (by rw[this]) e
 ·rw[mS _ _ _ _ hk,Nd (fun e=>hi k hf (by omega) e.symm)];exact h.2 i fun p h1 h2=>hi p h1 (by omega)
def yi(L:List (Nat×Nat))(f t:Nat):List (Nat×Nat):=if 1<t-f then L++ [(f,t)]else L
def It(w:World)(B a mb bo bm bl n co cm f t:Nat)(O M:List Nat)(lv:Value)(L:List (Nat×Nat))(e:Ending)(w':World):Prop:=
 ∃M' lv',e=.returned (.tuple #[])/\xB w' B a mb bo bm bl n co cm O M' lv' (yi L f t)/\yS O M M' f t/\
  (lv'.ownBlock=lv.ownBlock\/∀k,lv'.ownBlock=some k->w.heap.size<=k)/\ak B (mb::bl::lv.ownBlock.toList) [] w w'
theorem Au(w:World)(B a mb bo bm bl n co cm f t:Nat)(O M:List Nat)(lv:Value)(L:List (Nat×Nat))(h:xB w B a mb bo bm bl n co cm O M lv L)(hO:∀p,p<n->O.getD p 0<n)
 (hN:f<t) (hW:t<=n) (hn:n<=1000000) (hL:L.length<=1000000):
 Calls prog 135 #[.agg #[.int .i64 f,.int .i64 t],.pointer (some ⟨bo,0,none⟩),.pointer (some ⟨bm,0,none⟩),.pointer (some ⟨bl,0,none⟩)] w (It w B a mb bo bm bl n co cm f t O M lv L):=by
 have co0:=ac h.qo 0;have cm0:=ac h.qm 0;simp at co0 cm0;have hT:=aA h.qo;have hV:=aA h.ql;have hh:=h.nco;have hM:¬co=f:=by omega
 have e1:(f:Int)<=(t:Int):=by omega
 have e2:(t:Int)<=(co:Int):=by omega
 have e3:((t:Int)-(f:Int)).toNat=t-f:=by omega
 have HM:=aa h;clear h;go_enter func135,ntmps135;go_wp2_with fail;go_loopw [14] (fun x wr=>∃(k:Nat) (M':List Nat),f+k<=t/\x=.int .i64 k/\dP wr mb M'/\M'.length=n/\yS O M M' f (f+k)/\ak B [mb] [] (w.alloc (.cells #[.int .i64 f,.int .i64 t] 122)) wr) (fun x _=>t-f-(intOf x).toNat)
 case atStart=>refine⟨0,M,by omega,rfl,?_,HM.out.lM,⟨fun p h1 h2=>by omega,fun i _=>rfl⟩,ak.refl _ _ _ _⟩;exact((ak.refl w.heap.size [] [] w).alloc (ag _) _).irow HM.out.rM (by simp) (by simp)
 case round=>
  obtain⟨k,M1,hk,rfl,hR,hl,hg,hm⟩:=hrel;have h7:ak w.heap.size [] [] w (w.alloc (.cells #[.int .i64 f,.int .i64 t] 122)):=(ak.refl w.heap.size [] [] w).alloc (ag _) _;have ht:=HM.out.ne;have hP:=HM.out.rM.lt;have qm:=hm.blk (h7.blk HM.out.qm (by simp) (by simp)) (by simp;intro e;have:=HM.out.qm;obtain⟨cs,hb,_⟩:=HM.out.rM;rw[e]at this;unfold Blk at this hb;rw[this]at hb;cases hb) (by simp);have qa:=hm.irow (h7.irow HM.out.rO (by simp) (by simp)) (by simpa using ht) (by simp);have qb:=hm.blk (aj w 122 #[.int .i64 f,.int .i64 t]) (by simp;omega) (by simp);have b0:=ac qb 0;have b1:=ac qb 1;have m0:=ac qm 0;simp at b0 b1 m0;have h8:=aa hm;have hq:=aa qm;clear hm qm qb;by_cases hQ:f+k<t
  ·have hv:=hO (f+k) (by omega);have ha:=qa.cell (i:=f+k) (by rw[HM.out.lO];omega);obtain⟨v,ho⟩:∃v,v=O.getD (f+k) 0:=⟨_,rfl⟩;rw[<- ho]at ha hv;have hc:=hR.cell (i:=v) (by omega);have hf:=hR.frozen v;have HG:=aa (C3 hg (by omega) (by rw[<- ho];omega));rw[<- ho]at HG;have HR:=aa (hR.set (i:=v) (by omega) f);have HL:=aa hl;have HB:=aa HM.out.hB;clear hR hg hl qa ho;go_wp2_with fail;go_roundw;case rel=>refine⟨k+1,M1.set v f,by omega,by go_num,HR.out,by rw[P5];exact HL.out,HG.out,h8.out.set HB.out.1 (by simp) _⟩
   case measure=>simp[intOf];omega
  ·obtain rfl:t=f+k:=(by omega);obtain⟨ms,hH,_⟩:=id hR;have hE:bl≠mb:=(by obtain⟨cs,hb,_⟩:=HM.out.rM;exact gg HM.out.ql hb (by decide));have ql:=h8.out.blk (h7.blk HM.out.ql (by simp) (by simp)) (by simpa using hE) (by simp)
   have h9:=h8.out.row (h7.row HM.out.left (by simp) (by simp)) (fun k hk=>by
    obtain⟨cs,hb,_⟩:=(h7.irow HM.out.rM (by simp) (by simp))
    have:=dV (h7.row HM.out.left (by simp) (by simp)) hb (by decide) k hk
    simpa using this) (by simp)
   have c0:=ac ql 0;simp at c0
   have qo:=h8.out.blk (h7.blk HM.out.qo (by simp) (by simp)) (by
    obtain⟨cs,hb,_⟩:=HM.out.rM
    simpa using gg HM.out.qo hb (by decide)) (by simp)
   have hz:=h8.out.size;simp at hz;have he:=HM.out.hB;by_cases h1:1<f+k-f
   ·have d3:decide ((1:Int)<(f:Int)+(k:Int)-(f:Int))=true:=bE;obtain⟨i3,h3,hI,hJ,hK⟩:=N4 Tryz.info122;have HO:=aa h9;have hp:=aa ql;have HG:=aa hg;have HR:=aa hR;clear h9 ql hg hR hH;(go_wp2_with (at_builtin;refine wpList_append_own_at _ rfl _ _ 123 rfl B 122 i3 (.agg #[.int .i64 0,.int .i64 0]) 2 16 underlying123 h3 hI hJ hK rfl (by decide) lv L.length (iX L) rfl (HO.out.alloc _) ⟨wr.heap.size,0,none⟩ 1 1 [.int .i64 f,.int .i64 (f+k:Nat)] rfl rfl ?c1 ?c2 ?c3 ?c4 ?c5 ?_));case c1=>exact yN _ _ _ _
    case c2=>intro u hu;simp at hu;rcases hu with rfl|rfl <;>rfl
    case c3=>unfold maxLen;omega
    case c4=>omega
    case c5=>simp;omega
    intro lv' w2 h4 h0 _ hy;have hG:∀j,lv.ownBlock=some j->B<=j/\j<wr.heap.size:=HO.out.lt;have hs:∀j,lv.ownBlock=some j->j≠bl:=dV HO.out hp.out (by decide);have h6:Blk w2 bl 123 #[lv]:=(by unfold Blk;rw[h0.block bl (by simp;omega) (fun e=>hs bl e.symm rfl)];exact(O8 wr _ bl (by omega)).trans hp.out);have k0:=ac h6 0;have k1:=ae h6 0;simp at k0;have s2:ak B (bl::lv.ownBlock.toList) [] wr w2:=((ak.refl B _ _ wr).alloc (by omega) _).grownP h0 (by simp;omega) (fun j hj=>⟨(hG j hj).1,by rw[hj];simp⟩);obtain⟨A2,c2,rfl,_,_,_⟩:=ai h4;have hA:=aa hy;have hx:=aa h4;have HS2:=aa s2;have hw:=aa h6;clear hy h4 h0 s2 h6;go_wp2_with fail;(go_end0);have s3:ak B [bl] [] w2 (w2.setCell ⟨bl,0,none⟩ (.slice A2 (L.length+1) c2)):=(ak.refl B _ _ w2).set he.2.1 (by simp) _;have s4:ak B (bl::lv.ownBlock.toList) [] wr (w2.setCell ⟨bl,0,none⟩ (.slice A2 (L.length+1) c2)):=HS2.out.trans (s3.mono (ag _) (by simp) (by simp))
    have hS:ak B (mb::bl::lv.ownBlock.toList) [] w (w2.setCell ⟨bl,0,none⟩ (.slice A2 (L.length+1) c2)):=
     ((h7.mono he.2.2 (by simp) (by simp)).trans (h8.out.mono (ag _) (by simp) (by simp))).trans (s4.mono (ag _) (fun j hj=>Nm _ hj) (by simp))
    have hr:yi L f (f+k)=L++ [(f,f+k)]:=Nf h1;have nin:∀(g:Nat) (tt:TypeId) (cs:Array Value),Blk wr g tt cs->tt≠123->tt≠122->g∉bl::lv.ownBlock.toList:=by
     intro g tt cs hb hD hC hF;rcases List.mem_cons.1 hF with e|e;·exact gg hb hp.out hD e
     ·have hj:lv.ownBlock=some g:=Option.mem_toList.1 e;exact dV HO.out hb (Ne.symm hC) g hj rfl
    have qO4:=s4.irow qa (by obtain⟨cs,hb,_⟩:=qa;exact nin a 3 cs hb (by decide) (by decide)) (by simp);have qM4:=s4.irow HR.out (by obtain⟨cs,hb,_⟩:=HR.out;exact nin mb 3 cs hb (by decide) (by decide)) (by simp);have qo4:=s4.blk qo (nin bo 37 _ qo (by decide) (by decide)) (by simp);have qm4:=s4.blk hq.out (nin bm 37 _ hq.out (by decide) (by decide)) (by simp);have hX:=hS.size
    have hi:=s3.row hx.out (fun j hj=>by
     have:=dV hx.out hw.out (by decide) j hj
     simpa using this) (by simp)
    refine⟨M1,_,rfl,⟨qo4,qm4,ay hw.out 0 _,qO4,qM4,HM.out.lO,hl,hh,ht,?_,he.1,he.2.1,by omega⟩,HG.out,?_,hS⟩;·rw[hr,Nb,xY];exact hi
    ·rcases hA.out with h5|h5;·exact .inl h5
     ·refine .inr fun j hj=> ?_;rw[h5]at hj;simp at hj;omega
   ·have d3:decide ((1:Int)<(f:Int)+(k:Int)-(f:Int))=false:=aR;go_wp2_with fail;(go_end0);have hS:ak B (mb::bl::lv.ownBlock.toList) [] w wr:=(h7.mono HM.out.hB.2.2 (by simp) (by simp)).trans (h8.out.mono (ag _) (by simp) (by simp));have hr:yi L f (f+k)=L:=Nd h1;refine⟨M1,lv,rfl,⟨qo,hq.out,ql,qa,hR,HM.out.lO,hl,hh,ht,?_,he.1,he.2.1,by omega⟩,hg,.inl rfl,hS⟩;·rw[hr];exact h9
