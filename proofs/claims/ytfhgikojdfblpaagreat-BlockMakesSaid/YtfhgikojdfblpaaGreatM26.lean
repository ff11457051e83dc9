import Derived.Test.YtfhgikojdfblpaaGreatM25
import Derived.Shelf.SlSortCmp.Kit1
import Derived.Lib.SliceRun
import Derived.Lib.Bytealg
import Derived.Laws.Externs
set_option maxHeartbeats 4000000
set_option maxRecDepth 100000
namespace Go.Proofs.YtfhgikojdfblpaaGreat.S05
open _root_.Go.Proofs.Tryz
open Go.RowKit
def aU{k:Nat}(x:Fin (k+1)):Value:=.int .i64 (x.val:Nat)
def jD{k:Nat}(r:Value)(cf:Fin (k+1)->Fin (k+1)->Int)(blk off size:Nat)(w:World):Prop:=
 ∀(W:World) (dk:Array (Fin (k+1))),dk.size=size->SW aU w blk off dk W->∀x y,Calls prog 137 #[r,aU x,aU y] W fun e w'=>e=.returned (.int .i64 (cf x y))/\W=w'
def ou(N:Nat):Prop:=
 ∀(k:Nat) (r:Value) (cf:Fin (k+1)->Fin (k+1)->Int) (blk off cap:Nat) (d:Array (Fin (k+1))) (w:World),
  Go.Sort.SWO (ltOf cf)->jD r cf blk off d.size w->Go.Sort.Holds aU w blk off d->blk<w.heap.size->0<d.size->d.size<=N->
  Calls prog 136 #[.slice (some ⟨blk,off,none⟩) d.size cap,.func (.func 137) #[r] #[]] w fun e w'=>
   e=.returned (.tuple #[])/\∃d',Go.Sort.PermIn 0 d.size d d'/\Go.Sort.SortedIn (ltOf cf) 0 d.size d'/\SW aU w blk off d' w'
section
variable {k:Nat} {w W:World} {blk off:Nat} {dk:Array (Fin (k+1))}
theorem EK(h:SW aU w blk off dk W){g:Nat}(hg:g<w.heap.size)(h0:g≠blk):W.heap[g]? =w.heap[g]? :=by obtain⟨n,os,rfl⟩:=h;unfold sortWorld;rw[Go.Sort.heap_grow_old _ _ (by rw[size_putRow];exact hg)];unfold Go.Sort.putRow Go.Sort.mapBlock;simp only[QN];rw[Nd (fun e=>h0 e.symm)];rfl
theorem EL(h:SW aU w blk off dk W){B:Nat}(hB:B<=blk)(h0:B<=w.heap.size):ak B [blk] [] w W:=by
 have hs:=h.le;refine⟨⟨?_,?_,?_,hs,fun g hg=>EK h (by omega) (by omega)⟩,fun i cs t fr hh hi _=> ?_⟩;·obtain⟨n,os,rfl⟩:=h;rfl
 ·obtain⟨n,os,rfl⟩:=h;rfl
 ·obtain⟨n,os,rfl⟩:=h;rfl
 ·rw[EK h (Array.getElem?_eq_some_iff.1 hh).1 (by simpa using hi)];exact hh
theorem MJ(h:SW aU w blk off dk W){cs:Array Value}{t:TypeId}(hb:Blk w blk t cs):Blk W blk t (Go.Sort.putCells aU off dk cs):=by have h0:=aA hb;obtain⟨n,os,rfl⟩:=h;unfold Blk sortWorld;rw[Go.Sort.heap_grow_old _ _ (by rw[size_putRow];exact h0)];unfold Go.Sort.putRow Go.Sort.mapBlock;simp only[QN,if_true];rw[show (Go.Sort.ahead w n).heap[blk]? =some (.cells cs t (0,0))from hb];rfl
end
structure vV (n f t:Nat) (key:Nat->Nat) (O O':List Nat):Prop where
 len:O'.length=n
 out:∀p,(p<f\/t<=p)->O'.getD p 0=O.getD p 0
 of:∀p,f<=p->p<t->∃r,f<=r/\r<t/\O'.getD p 0=O.getD r 0
 has:∀p,f<=p->p<t->∃r,f<=r/\r<t/\O'.getD r 0=O.getD p 0
 sorted:∀p r,f<=p->p<r->r<t->key (O'.getD p 0)<key (O'.getD r 0)\/(key (O'.getD p 0)=key (O'.getD r 0)/\O'.getD p 0<O'.getD r 0)
theorem LX(k:Nat)(key:Nat->Nat):Go.Sort.SWO (ltOf fun x y:Fin (k+1)=>cfN key x.val y.val):=by
 have e:∀x y:Fin (k+1),ltOf (fun x y:Fin (k+1)=>cfN key x.val y.val) x y=decide (key x.val<key y.val\/(key x.val=key y.val/\x.val<y.val)):=by intro x y;unfold ltOf;exact decide_eq_decide.2 (Ei key x.val y.val)
 refine⟨fun x=> ?_,fun x y z h1 h2=> ?_,fun x y z h1 h2=> ?_⟩;·rw[e];simp
 ·rw[e]at *;simp only[PF]at *;omega
 ·rw[e]at *;simp only[Qy]at *;omega
theorem getElem!_mem{α:Type} [Inhabited α](d:Array α)(i:Nat)(h:i<d.size):d[i]! ∈d.toList:=by rw[getElem!_pos d i h];simp
theorem mem_getElem!{α:Type} [Inhabited α](d:Array α)(x:α)(h:x∈d.toList):∃i,i<d.size/\d[i]! =x:=by obtain⟨i,hi,e⟩:=Pr h;have h0:i<d.size:=(by simpa using hi);refine⟨i,h0,?_⟩;rw[getElem!_pos d i h0,<-e];simp
theorem LU(N:Nat)(S:ou N)(w:World)(B rb ob a n c t f tt co:Nat)(R O:List Nat)(hr:qD w rb ob n c t)(hR:dP w ob R)(hu:R.length=n)(hO:dP w a O)(hD:O.length=n)
 (hk:∀p,p<n->O.getD p 0<n) (hh:∀p r,p<n->r<n->O.getD p 0=O.getD r 0->p=r) (hC:f<tt) (hE:tt<=n) (hN:tt-f<=N) (ht:t<=n) (hn:n<=1000000) (hB:B<=a) (hw:a≠ob):
 Calls prog 136 #[.slice (some ⟨a,f,none⟩) (tt-f) co,.func (.func 137) #[rp rb] #[]] w fun e w'=>e=.returned (.tuple #[])/\∃O',vV n f tt (ed n t fun k=>R.getD k 0) O O'/\dP w' a O'/\ak B [a] [] w w':=by
 obtain⟨k,rfl⟩:∃k,n=k+1:=⟨n-1,by omega⟩;obtain⟨key,h8⟩:∃key,key=ed (k+1) t fun k=>R.getD k 0:=⟨_,rfl⟩;have hA:rb≠a:=by obtain⟨cs,hb,_⟩:=hO;exact gg hr hb (by decide)
 obtain⟨d,hd⟩:∃d:Array (Fin (k+1)),d=Array.ofFn (fun p:Fin (tt-f)=>(⟨O.getD (f+p.val) 0,hk _ (by omega)⟩:Fin (k+1))):=⟨_,rfl⟩;have ha:d.size=tt-f:=by rw[hd];simp
 have h6:∀j,j<tt-f->(d[j]!).val=O.getD (f+j) 0:=by intro j hj;rw[getElem!_pos d j (by omega)];simp only[hd,Array.getElem_ofFn]
 have hH:Go.Sort.Holds aU w a f d:=by intro j hj;refine⟨?_,hO.frozen _⟩;rw[hO.cell (i:=f+j) (by omega),aU,h6 j (by omega)]
 have hf:jD (rp rb) (fun x y:Fin (k+1)=>cfN key x.val y.val) a f d.size w:=by intro W dk _ he x y;have hm:=EL he (Ng a) (Ng _);have hz:qD W rb ob (k+1) c t:=hm.blk hr (by simpa using hA) (by simp);have ho:=hm.irow hR (by simpa using fun e=>hw e.symm) (by simp);have:=zW W rb ob (k+1) c t x.val y.val R hz ho hu x.isLt y.isLt ht hn;rw[<- h8]at this;exact this
 have hS:=S k (rp rb) (fun x y:Fin (k+1)=>cfN key x.val y.val) a f co d w (LX k key) hf hH hO.lt (by omega) (by omega);rw[ha]at hS;refine hS.mono ?_;rintro e w' ⟨rfl,d',⟨p1,_,p3⟩,h9,he⟩;refine⟨rfl,?_⟩;have h7:d'.size=tt-f:=by omega
 have h0:d'.toList.Perm d.toList:=by rw[show d'.extract 0 (tt-f)=d' by rw[<- h7];exact Ri ..,show d.extract 0 (tt-f)=d by rw[<- ha];exact Ri ..]at p3;exact p3
 have hv:d.toList.Nodup:=by refine List.pairwise_iff_getElem.2 fun i j hi hj hij e=> ?_;have hq:i<tt-f:=(by simpa [ha]using hi);have hs:j<tt-f:=(by simpa [ha]using hj);have e1:=h6 i hq;have e2:=h6 j hs;rw[getElem!_pos d i (by omega)]at e1;rw[getElem!_pos d j (by omega)]at e2;have e3:d[i]=d[j]:=(by simpa using e);rw[e3,e2]at e1;have:=hh _ _ (by omega) (by omega) e1;omega
 have hl:d'.toList.Nodup:=h0.nodup_iff.2 hv;refine⟨(List.range (k+1)).map (fun p=>if f<=p/\p<tt then(d'[p-f]!).val else O.getD p 0),?_,?_,EL he hB (by have:=hO.lt;omega)⟩
 ·have hg:∀p,p<k+1->((List.range (k+1)).map (fun p=>if f<=p/\p<tt then(d'[p-f]!).val else O.getD p 0)).getD p 0=if f<=p/\p<tt then(d'[p-f]!).val else O.getD p 0:=by intro p hp;rw[Na,Np,NJ hp];rfl
  rw[<- h8];refine⟨by simp,fun p hp=> ?_,fun p h1 h2=> ?_,fun p h1 h2=> ?_,fun p r h1 h2 h3=> ?_⟩
  ·by_cases h:p<k+1;·rw[hg p h,Nd]
   ·rw[Na,Na,Nw (by simp;omega),Nw (by omega)]
  ·rw[hg p (by omega),Nf ⟨h1,h2⟩];obtain⟨j,hj,e⟩:=mem_getElem! d _ (h0.mem_iff.1 (getElem!_mem d' (p-f) (by omega)));exact⟨f+j,by omega,by omega,by rw[<- e,h6 j (by omega)]⟩
  ·obtain⟨j,hj,e⟩:=mem_getElem! d' _ (h0.mem_iff.2 (getElem!_mem d (p-f) (by omega)));refine⟨f+j,by omega,by omega,?_⟩;rw[hg (f+j) (by omega),Nf ⟨by omega,by omega⟩,show f+j-f=j by omega,e,h6 _ (by omega),show f+(p-f)=p by omega]
  ·rw[hg p (by omega),hg r (by omega),Nf ⟨by omega,by omega⟩,Nf ⟨by omega,h3⟩];have h4:=h9 (p-f) (r-f) (Ng _) (by omega) (by omega);unfold ltOf at h4;simp only[Qy,Ei]at h4;have hx:(d'[p-f]!).val≠(d'[r-f]!).val:=(by intro e;have h5:=List.pairwise_iff_getElem.1 hl (p-f) (r-f) (by simp;omega) (by simp;omega) (by omega);refine h5 ?_;rw[getElem!_pos d' (p-f) (by omega),getElem!_pos d' (r-f) (by omega)]at e;simpa using Fin.ext e);omega
 ·obtain⟨cs,hb,hc⟩:=hO;refine⟨_,MJ he hb,fun p hp=> ?_⟩;have hy:p<k+1:=by simpa using hp
  rw[Na,Np,NJ hy];unfold Go.Sort.putCells;rw[Array.getElem?_mapIdx,hc p (by omega),Ov,h7];by_cases h:f<=p/\p<tt;·rw[Nf ⟨h.1,by omega⟩];show some (aU d'[p-f]!)=some (iv (if f<=p/\p<tt then(d'[p-f]!).val else O.getD p 0));rw[Nf h];rfl
  ·rw[Nd];show some (iv (O.getD p 0))=some (iv (if f<=p/\p<tt then(d'[p-f]!).val else O.getD p 0));rw[Nd h]
def EV(w:World)(n:Nat)(L:List Nat)(e:Ending)(w':World):Prop:=
 ∃g c,e=.returned (.slice (some ⟨g,0,none⟩) n c)/\n<=c/\dP w' g L/\w.heap.size<=g/\Below w.heap.size w w'
theorem nF(w:World)(g n c:Nat)(L:List Nat)(h:dP w g L)(hl:L.length=n)(h0:0<n)(hn:n<=1000000):
 Calls prog 90 #[.slice (some ⟨g,0,none⟩) n c] w (EV w n L):=by
 obtain⟨i3,h3,h9,ha,hb⟩:=N4 Tryz.info3;have q30:∀w1:World,(binOp .eql 37 (.slice (some ⟨g,0,none⟩) n c) (.slice none 0 0)).run prog w1=.ok (.bool false) w1:=fun w1=>Lib.run_eql_slice_nil w1 _ _ (some ⟨g,0,none⟩) n c 0 0 underlying37;have HH:=aa h;clear h;go_enter func90,ntmps90;go_wp2_with (at_builtin;refine wpList_append_own_at _ rfl _ _ 37 rfl w.heap.size 3 i3 (.int .i64 0) 1 8 underlying37 h3 h9 ha hb rfl (by decide) _ 0 [] rfl (OM w #[] 0 (ag _) (by unfold maxLen;omega) (by simp)) ⟨g,0,none⟩ n c (L.map iv) rfl ?c0 ?c1 ?c2 ?c3 ?c4 ?c5 ?_)
 case c0=>simp[hl]
 case c1=>intro j u hj;have h5:j<L.length:=(by have:=(List.getElem?_eq_some_iff.1 hj).1;simpa using this);rw[OT,N8];have h1:=(((ak.refl w.heap.size [] [] w).alloc (ag _) (.cells #[] 3)).irow HH.out (by simp) (by simp)).cell h5;rw[h1,<-hj,Np,Nc h5,Na,Nc h5];rfl
 case c2=>intro u hu;obtain⟨q,_,rfl⟩:=List.mem_map.1 hu;rfl
 case c3=>unfold maxLen;omega
 case c4=>omega
 case c5=>simp
 intro v' w' h4 h2 _ h7;have h6:Below w.heap.size w w':=((Nj _ _).alloc (ag _) _).grown h2 (by simp) (fun k hk=>by simp[Value.ownBlock]at hk;omega);obtain⟨g2,c2,rfl,h8,hB,hr,_⟩:=AD h4 h0;have HR:=aa hr;have HB:=aa h6;clear h4 h2 h7 hr h6;go_wp2_with fail;go_ret;exact⟨g2,c2,rfl,h8,HR.out,hB,HB.out⟩
def MQ(w:World)(gb:Nat)(G:List (Nat×Nat)):Prop:=∃cs,Blk w gb 122 cs/\∀k,(h:k<G.length)->cs[2*k]? =some (iv G[k].1)/\cs[2*k+1]? =some (iv G[k].2)
theorem xB.drewN{w:World}{B a mb bo bm bl n co cm:Nat}{O M:List Nat}{lv:Value}{L:List (Nat×Nat)}(h:xB w B a mb bo bm bl n co cm O M lv L)(k:Nat):xB (w.drewN k) B a mb bo bm bl n co cm O M lv L:=
 ⟨h.qo,h.qm,h.ql,h.rO,h.rM,h.lO,h.lM,h.nco,h.ne,h.left,h.hB⟩
structure Iz (w:World) (B a rb ob gb n co c cg t:Nat) (R O:List Nat) (G:List (Nat×Nat)):Prop where
 r:qD w rb ob n c t
 rR:dP w ob R
 lR:R.length=n
 rO:dP w a O
 lO:O.length=n
 g:MQ w gb G
 ne:a≠ob
 hB:B<=a/\B<=rb/\B<=w.heap.size
 nco:n<=co
 nn:0<n/\n<=1000000/\t<=n
 gc:G.length<=cg/\G.length<=1000000
def bw(L:List Nat):Nat->Nat:=fun p=>L.getD p 0
def Ix(w:World)(B a mb bo bm bl n co cm:Nat)(q key:Nat->Nat)(G:List (Nat×Nat))(k:Nat)(wr:World):Prop:=
 ∃(q':Nat->Nat) (O' M':List Nat) (lv:Value) (done:List (Nat×Nat)) (x:Nat),
  Sta n q' (bw O') (bw M') done x x (G.drop k)/\Rnd n q key q' (bw O') (G.drop k)/\xB wr w.heap.size a mb bo bm bl n co cm O' M' lv done/\ak B [a] [] w wr
theorem Ll(L:List Nat):∃K,∀i,bw L i<K:=by
 induction L with
 | nil=>exact⟨1,fun i=>by simp[bw]⟩
 | cons x L ih=>
  obtain⟨K,hK⟩:=ih;refine⟨K+x+1,fun i=> ?_⟩
  cases i with
  | zero=>show x<_;omega
  | succ i=>have:=hK i;show bw L i<_;omega
def yU(w:World)(B a mb bo bm bl n co cm:Nat)(q key:Nat->Nat)(rest:List (Nat×Nat))(f tt bg fr c:Nat)(wi:World):Prop:=
 ∃(q2:Nat->Nat) (O2 M2:List Nat) (lv:Value) (done:List (Nat×Nat)),
  Sta n q2 (bw O2) (bw M2) done fr tt rest/\Rnd n q key q2 (bw O2) rest/\xB wi w.heap.size a mb bo bm bl n co cm O2 M2 lv done/\ak B [a] [] w wi/\
  Blk wi bg 122 #[.int .i64 f,.int .i64 tt]/\(∀ j,lv.ownBlock=some j->j≠bg)/\(f<=fr/\fr<c/\c<=tt)/\(∀ p,fr<=p->p<c->q2 (bw O2 p)=q2 (bw O2 fr))/\
  (∀ p r,f<=p->p<tt->f<=r->r<tt->(q2 (bw O2 p)=q2 (bw O2 r)↔key (bw O2 p)=key (bw O2 r)))
section
variable {w wi:World} {B a mb bo bm bl n co cm:Nat} {q key:Nat->Nat} {rest:List (Nat×Nat)} {f tt bg fr c:Nat}
theorem AC{q1:Nat->Nat}{O1 M1 O2:List Nat}{lv:Value}{done:List (Nat×Nat)}{x:Nat}{wr w3:World}(h6:Sta n q1 (bw O1) (bw M1) done x x ((f,tt)::rest))(hi:Rnd n q key q1 (bw O1) ((f,tt)::rest))
 (h0:xB wr w.heap.size a mb bo bm bl n co cm O1 M1 lv done) (h5:ak B [a] [] w wr) (hB:B<=w.heap.size) (hK:∃K,∀i,key i<K)
 (h3:vV n f tt key O1 O2) (hk:dP w3 a O2) (h7:ak B [a] [] (wr.alloc (.cells #[.int .i64 f,.int .i64 tt] 122)) w3):yU w B a mb bo bm bl n co cm q key rest f tt wr.heap.size f (f+1) w3:=by
 obtain⟨K,hK⟩:=hK;obtain⟨q2,h1,h2⟩:=vH q1 key (q1 (bw O1 f)) K hK;have h9:=h6.grp (f,tt) (.inr Nh);have hn:f<tt:=h9.1;have h8:=h9.2.2;simp only at h8;have h4:∀p,f<=p->p<tt->q1 (bw O2 p)=q1 (bw O1 f):=by intro p ha hc;obtain⟨r,hg,hh,e⟩:=h3.of p ha hc;have e':bw O2 p=bw O1 r:=e;rw[e'];exact(h8 r f hg hh (by omega)).2 ⟨Nk _,hn⟩
 have s1:ak wr.heap.size [] [] wr (wr.alloc (.cells #[.int .i64 f,.int .i64 tt] 122)):=(ak.refl _ _ _ wr).alloc (ag _) _;have hz:=h5.size;have ho:=h7.size;simp at ho;have hl:∀{g:Nat} {t:TypeId} {cs:Array Value},Blk wr g t cs->t≠3->g∉ [a]:=by intro g t cs hb he;obtain⟨ds,hd,_⟩:=h0.rO;simpa using gg hb hd he
 have carry:∀{g:Nat} {t:TypeId} {cs:Array Value},Blk wr g t cs->t≠3->Blk w3 g t cs:=fun hb he=>h7.blk (s1.blk hb (by simp) (by simp)) (hl hb he) (by simp)
 have hm:Blk w3 wr.heap.size 122 #[.int .i64 f,.int .i64 tt]:=h7.blk (aj wr 122 _) (by
  have:=h0.rO.lt
  simp;omega) (by simp)
 have hf:w3.ownsRow w.heap.size 122 2 lv done.length (iX done):=h7.row (s1.row h0.left (by simp) (by simp)) (fun j hj=>by
  obtain⟨ds,hd,_⟩:=s1.irow h0.rO (by simp) (by simp)
  have:=dV (s1.row h0.left (by simp) (by simp)) hd (by decide) j hj
  simpa using this) (by simp)
 refine⟨q2,O2,M1,lv,done,h6.parted key q2 (bw O2) h1 h2 h3.out h3.of h3.has h3.sorted,hi.parted h6 q2 (bw O2) h1 h2 h3.out h3.of,?_,?_,hm,?_,⟨Nk _,by omega,by omega⟩,?_,?_⟩;·exact⟨carry h0.qo (by decide),carry h0.qm (by decide),carry h0.ql (by decide),hk,h7.irow (s1.irow h0.rM (by simp) (by simp)) (by simpa using fun e=>h0.ne e.symm) (by simp),h3.len,h0.lM,h0.nco,h0.ne,hf,h0.hB.1,h0.hB.2.1,by omega⟩
 ·exact(h5.trans ((s1.mono (by omega) (by simp) (by simp)))).trans h7
 ·intro j hj;have:=(h0.left.lt j hj).2;omega
 ·intro p ha hc;rw[show p=f by omega]
 ·intro p r ha hc hg hh;rw[h2,h4 p ha hc,h4 r hg hh];exact⟨fun h=>h.2 rfl,fun h=>⟨rfl,fun _=>h⟩⟩
theorem ui{q2:Nat->Nat}{O2 M2 M3:List Nat}{lv lv3:Value}{done:List (Nat×Nat)}{w3:World}(hB:B<=w.heap.size)
 (h3:Sta n q2 (bw O2) (bw M2) done fr tt rest) (h0:xB wi w.heap.size a mb bo bm bl n co cm O2 M2 lv done) (h5:ak B [a] [] w wi)
 (h6:Blk wi bg 122 #[.int .i64 f,.int .i64 tt]) (h7:∀j,lv.ownBlock=some j->j≠bg) (h1:fr<c) (h2:c<=tt) (ha:∀p,fr<=p->p<c->q2 (bw O2 p)=q2 (bw O2 fr)) (hb:c<tt->q2 (bw O2 c)≠q2 (bw O2 fr))
 (h4:yS O2 M2 M3 fr c) (h9:lv3.ownBlock=lv.ownBlock\/∀k,lv3.ownBlock=some k->wi.heap.size<=k) (h8:ak w.heap.size (mb::bl::lv.ownBlock.toList) [] wi w3):
 Sta n q2 (bw O2) (bw M3) (yi done fr c) c tt rest/\ak B [a] [] w w3/\Blk w3 bg 122 #[.int .i64 f,.int .i64 tt]/\(∀ j,lv3.ownBlock=some j->j≠bg):=by
 have hc:=h3.ab.2;refine⟨?_,?_,?_,?_⟩;·refine h3.give c h1 h2 ha hb (bw M3) h4.1 fun p hp ho=> ?_;refine h4.2 (bw O2 p) fun r hr1 hr2 e=> ?_;have:=h3.inj (p:=r) (r:=p) (by omega) hp e;omega
 ·refine h5.after h8 hB (fun i hi=> ?_) (by simp);rcases List.mem_cons.1 hi with rfl|hi;·exact .inr h0.hB.1
  ·rcases List.mem_cons.1 hi with rfl|hi;·exact .inr h0.hB.2.1
   ·exact .inr (h0.left.lt i (Option.mem_toList.1 hi)).1
 ·refine h8.blk h6 (fun hi=> ?_) (by simp);rcases List.mem_cons.1 hi with e|hi;·obtain⟨ds,hd,_⟩:=h0.rM;exact gg h6 hd (by decide) e
  ·rcases List.mem_cons.1 hi with e|hi;·exact gg h6 h0.ql (by decide) e
   ·exact h7 bg (Option.mem_toList.1 hi) rfl
 ·intro j hj e;have he:=aA h6;rcases h9 with h|h;·exact h7 j (by rw[<- h];exact hj) e
  ·have:=h j hj;omega
end
def vW(w:World)(B a rb n t:Nat)(q key:Nat->Nat)(e:Ending)(w':World):Prop:=
 ∃(lv:Value) (mb cm:Nat) (M' O':List Nat) (G':List (Nat×Nat)),e=.returned lv/\qD w' rb mb n cm t/\dP w' mb M'/\M'.length=n/\dP w' a O'/\O'.length=n/\a≠mb/\w.heap.size<=mb/\
  w'.ownsRow w.heap.size 122 2 lv G'.length (iX G')/\Sta n (bw M') (bw O') (bw M') [] 0 0 G'/\D8 n q key (bw M')/\ak B [a,rb] [] w w'
theorem G1(N:Nat)(S:ou N)(w:World)(B a rb ob gb n co c cg t:Nat)(R O:List Nat)(G:List (Nat×Nat))(q:Nat->Nat)(hp:Iz w B a rb ob gb n co c cg t R O G)(hN:n<=N)
 (hs:Sta n q (bw O) (bw R) [] 0 0 G):
 Calls prog 80 #[rp rb,.slice (some ⟨a,0,none⟩) n co,.slice (some ⟨gb,0,none⟩) G.length cg] w (vW w B a rb n t q (ed n t (bw R))):=by
 have HP:=aa hp;have HS:=aa hs;clear hp hs;have r0:=ac HP.out.r 0;have rlt:=aA HP.out.r;have alt:=HP.out.rO.lt;simp at r0;go_enter func80,ntmps80;go_wp2_with fail;refine(nF (w.alloc (.cells #[.slice (some ⟨a,0,none⟩) n co] 37)) ob n c R (((ak.refl w.heap.size [] [] w).alloc (ag _) _).irow HP.out.rR (by simp) (by simp)) HP.out.lR HP.out.nn.1 HP.out.nn.2.1).mono ?_;rintro e w1 ⟨mb,cm,rfl,HT,H8,H0,hT⟩;have HM:=hT.size;simp at H0 HM;have HD:=aa H8;have HB:=aa hT;clear H8 hT;go_wp2_with fail;have start:Ix w B a mb w.heap.size w1.heap.size (w1.heap.size+1) n co cm q (ed n t (bw R)) G 0 ((w1.alloc (.cells #[.slice (some ⟨mb,0,none⟩) n cm] 37)).alloc (.cells #[.slice none 0 0] 123)):=by
  have s0:ak w.heap.size [] [] w (w.alloc (.cells #[.slice (some ⟨a,0,none⟩) n co] 37)):=(ak.refl _ _ _ w).alloc (ag _) _;have s1:ak (w.alloc (.cells #[.slice (some ⟨a,0,none⟩) n co] 37)).heap.size [] [] (w.alloc (.cells #[.slice (some ⟨a,0,none⟩) n co] 37)) w1:=an HB.out;have s2:ak w1.heap.size [] [] w1 ((w1.alloc (.cells #[.slice (some ⟨mb,0,none⟩) n cm] 37)).alloc (.cells #[.slice none 0 0] 123)):=((ak.refl _ _ _ w1).alloc (ag _) _).alloc (by simp) _;refine⟨q,O,R,.slice none 0 0, [],0,HS.out,GZ HS.out _,⟨?_,?_,?_,?_,?_,HP.out.lO,HP.out.lR,HP.out.nco,by omega,Nt _ _ _ _,by omega,by omega,?_⟩,?_⟩;·exact s2.blk (s1.blk (aj w 37 _) (by simp) (by simp)) (by simp) (by simp)
  ·exact(((ak.refl (w1.heap.size+1) [] [] _).alloc (by simp) _).blk (aj w1 37 _) (by simp) (by simp))
  ·exact(by simpa using aj (w1.alloc (.cells #[.slice (some ⟨mb,0,none⟩) n cm] 37)) 123 #[.slice none 0 0]:Blk _ (w1.heap.size+1) 123 _)
  ·exact s2.irow (s1.irow (s0.irow HP.out.rO (by simp) (by simp)) (by simp) (by simp)) (by simp) (by simp)
  ·exact s2.irow HD.out (by simp) (by simp)
  ·simp;omega
  ·have hB:=HP.out.hB;exact((s0.mono hB.2.2 (by simp) (by simp)).trans (s1.mono (by simp;omega) (by simp) (by simp))).trans (s2.mono (by omega) (by simp) (by simp))
 have START:=aa start;clear start;generalize (w1.alloc (.cells #[.slice (some ⟨mb,0,none⟩) n cm] 37)).alloc (.cells #[.slice none 0 0] 123)=W1 at*;generalize w1.heap.size=bm at*;obtain⟨bo,HQ⟩:∃bo,bo=w.heap.size:=⟨_,rfl⟩;go_loopw [22] (fun x wr=>∃k:Nat,k<=G.length/\x=.int .i64 k/\Ix w B a mb w.heap.size bm (bm+1) n co cm q (ed n t (bw R)) G k wr) (fun x _=>G.length-(intOf x).toNat)
 case atStart=>exact⟨0,Ng _,rfl,START.out⟩
 case round=>
  obtain⟨k,hk,rfl,hE⟩:=hrel;by_cases H1:k<G.length
  ·obtain⟨q1,O1,M1,lv,done,x,h2,h4,h1,h0⟩:=hE;obtain⟨f,hf⟩:∃f,f=G[k].1:=⟨_,rfl⟩;obtain⟨tt,hM⟩:∃tt,tt=G[k].2:=⟨_,rfl⟩;obtain⟨gs,hV,hX⟩:=HP.out.g
   have hn:=h0.blk hV (by
    obtain⟨cs,hb,_⟩:=HP.out.rO
    simpa using gg hV hb (by decide)) (by simp)
   have g0:wr.cell? ⟨gb,k*2,none⟩=some (.int .i64 f):=(by rw[ac hn,Om,(hX k H1).1,hf];rfl);have g1:wr.cell? ⟨gb,k*2+1,none⟩=some (.int .i64 tt):=(by rw[ac hn,Om,(hX k H1).2,hM];rfl);have H5:G[k]=(f,tt):=(by rw[hf,hM]);have hg:G.drop k=(f,tt)::G.drop (k+1):=(by rw[NN H1,H5]);rw[hg]at h2 h4;have ho:=h2.grp (f,tt) (.inr Nh);have HH:f<tt:=ho.1;have HL:tt<=n:=ho.2.1;have hS:=aa h2;have hR:=aa h4;have h3:=aa h1;have h7:=aa h0;have HN:=aa hM;have b0:=ac h1.qo 0
   have r1:=h0.blk HP.out.r (by
    obtain⟨cs,hb,_⟩:=HP.out.rO
    simpa using gg HP.out.r hb (by decide)) (by simp)
   have r2:=h0.irow HP.out.rR (by simpa using fun e=>HP.out.ne e.symm) (by simp);have hC:=h2.low;have hy:=fun p r=>h2.inj (p:=p) (r:=r);have hA:=h1.lO;have HA:=h1.rO;simp at b0;have s1:ak wr.heap.size [] [] wr (wr.alloc (.cells #[.int .i64 f,.int .i64 tt] 122)):=(ak.refl _ _ _ wr).alloc (ag _) _;have hh:=LU N S (wr.alloc (.cells #[.int .i64 f,.int .i64 tt] 122)) B rb ob a n c t f tt (co-f) R O1 (s1.blk r1 (by simp) (by simp)) (s1.irow r2 (by simp) (by simp)) HP.out.lR (s1.irow HA (by simp) (by simp)) hA hC hy HH HL (by omega) HP.out.nn.2.2 HP.out.nn.2.1 HP.out.hB.1 HP.out.ne;have ht:=aa hh;have HK:=HP.out.nco;have HW:=HP.out.nn.2.1;have HV:=HP.out.gc.2;have HR:¬co=f:=(by omega);have e1:(f:Int)<=(tt:Int):=(by omega);have e2:(tt:Int)<=(co:Int):=(by omega);have HE:=aA h1.qo;clear h2 h4 h1 h0 hf hM H5 hg ho hV hn hX hh s1 r1 r2 hC hy hA HA;go_wp2_with fail;refine ht.out.mono ?_;rintro e w3 ⟨rfl,O2,hG,hH,hI⟩
   have inner:yU w B a mb w.heap.size bm (bm+1) n co cm q (ed n t (bw R)) (G.drop (k+1)) f tt wr.heap.size f (f+1) w3:=
    AC hS.out hR.out h3.out h7.out HP.out.hB.2.2 (by obtain⟨K,hK⟩:=Ll R;exact⟨K,fun i=>hK _⟩) hG hH hI
   have HC:=aa inner;have q3:Blk w3 wr.heap.size 122 #[.int .i64 f,.int .i64 tt]:=(by obtain⟨_,_,_,_,_,_,_,_,_,h,_⟩:=inner;exact h);have q30:=ac q3 0;have q31:=ac q3 1;simp at q30 q31;clear inner hG hH hI q3;go_wp2_with fail;obtain⟨wo,rfl⟩:∃wo,wo=wr:=⟨_,rfl⟩;(go_loopw [12,13] (fun x y wi=>∃fr c:Nat,x=.int .i64 fr/\y=.int .i64 c/\yU w B a mb w.heap.size bm (bm+1) n co cm q (ed n t (bw R)) (G.drop (k+1)) f tt wo.heap.size fr c wi) (fun _ y _=>tt-(intOf y).toNat));case atStart=>exact⟨f,f+1,rfl,by go_num,HC.out⟩
   case round=>
    obtain⟨fr,cc,rfl,rfl,q2,O2,M2,lv2,done2,h2,h4,h1,h0,hL,H7,hq,H4,hz⟩:=hrel;have HI:=ac hL 0;have HJ:=ac hL 1;have b0:=ac h1.qo 0;simp at HI HJ b0;have HO:=h2.ab.2;have HG:=h2.few;have hA:=h1.lO;have ISTA:=aa h2;have IRND:=aa h4;have IMEM:=aa h1;have ISTEP:=aa h0;have IBG:=aa hL;have ILV:=aa H7;have IEQ:=aa H4;have IKEY:=aa hz;have ILO:=aa hA;clear h2 h4 h1 h0 hL H7 H4 hz hA;by_cases HF:cc<tt
    ·have ca:=IMEM.out.rO.cell (i:=cc) (by rw[ILO.out];omega);have cf:=IMEM.out.rO.cell (i:=fr) (by rw[ILO.out];omega);obtain⟨u,hu⟩:∃u,u=O2.getD cc 0:=⟨_,rfl⟩;obtain⟨v,hv⟩:∃v,v=O2.getD fr 0:=⟨_,rfl⟩;have HX:u<n:=(by rw[hu];exact ISTA.out.low cc (by omega));have HY:v<n:=(by rw[hv];exact ISTA.out.low fr (by omega));have H6:=IKEY.out cc fr (by omega) HF hq.1 (by omega);rw[<- hu]at ca;rw[<- hv]at cf;have ha:q2 (bw O2 cc)=q2 (bw O2 fr)↔ed n t (bw R) u=ed n t (bw R) v:=by rw[hu,hv];exact H6
     have r1:=ISTEP.out.blk HP.out.r (by
      obtain⟨cs,hb,_⟩:=HP.out.rO
      simpa using gg HP.out.r hb (by decide)) (by simp)
     have r2:=ISTEP.out.irow HP.out.rR (by simpa using fun e=>HP.out.ne e.symm) (by simp);have HU:=aa fun(i:Nat) (hi:i<n) (W:World) (hW:W.heap=wr.heap)=>(mQ W rb ob n c t i R (by unfold qD Blk;rw[hW];exact r1) (by obtain⟨cs,hb,hc⟩:=r2;exact⟨cs,by unfold Blk;rw[hW];exact hb,hc⟩) HP.out.lR hi HP.out.nn.2.2 HP.out.nn.2.1).mono fun e W' h=>(⟨h.1,0,h.2.symm⟩:e=.returned (.int .i64 (ed n t (bw R) i:Nat))/\∃m,W'=W.drewN m);clear H6 r1 r2 hu hv;have d1:decide ((cc:Int)<(tt:Int))=true:=bE;obtain⟨ku,hY⟩:∃ku,ku=ed n t (bw R) u:=⟨_,rfl⟩;obtain⟨kv,hZ⟩:∃kv,kv=ed n t (bw R) v:=⟨_,rfl⟩;rw[<- hY,<-hZ]at ha;have H2:=aa hY;have H3:=aa hZ;clear hY hZ;by_cases hr:ku=kv
     ·have hF:=ha.2 hr;have hQ:=aa hF;have d2:((ku:Int) != (kv:Int))=false:=(by rw[hr];simp);have d3:((ku:Int)==(kv:Int))=true:=(by rw[hr];simp);clear ha hF hr;go_wp2_with fail;rw[H2.out,H3.out]at d2 d3;go_quiet ((go_at_call 138;exact NI (HU.out _ (by assumption) _ rfl)));go_wp2_with fail
      have hm:=aa (show yU w B a mb w.heap.size bm (bm+1) n co cm q (ed n t (bw R)) (G.drop (k+1)) f tt wo.heap.size fr (cc+1) (wr.drewN nq)from
       ⟨q2,O2,M2,lv2,done2,ISTA.out,IRND.out,IMEM.out.drewN nq,ISTEP.out.drewN nq,IBG.out,ILV.out,⟨hq.1,by omega,by omega⟩,fun p hp1 hp2=>by
         by_cases e:p=cc
         ·rw[e];exact hQ.out
         ·exact IEQ.out p hp1 (by omega),IKEY.out⟩)
      go_roundw;case rel=>exact⟨fr,cc+1,rfl,by go_num,hm.out⟩
      case measure=>simp[intOf];omega
     ·have hF:q2 (bw O2 cc)≠q2 (bw O2 fr):=fun e=>hr (ha.1 e);have hQ:=aa hF;have d2:((ku:Int) != (kv:Int))=true:=(by simp;omega);have d3:((ku:Int)==(kv:Int))=false:=(by simp;omega);clear ha hF hr;go_wp2_with fail;rw[H2.out,H3.out]at d2 d3;go_quiet ((go_at_call 138;exact NI (HU.out _ (by assumption) _ rfl)));have h5:=Au (wr.drewN nq) w.heap.size a mb w.heap.size bm (bm+1) n co cm fr cc O2 M2 lv2 done2 (IMEM.out.drewN nq) ISTA.out.low hq.2.1 (by omega) HP.out.nn.2.1 (by omega);have h6:=aa h5;clear h5;go_wp2_with fail;refine h6.out.mono ?_;rintro e w4 ⟨M3,lv3,rfl,hD,h9,hw,he⟩;obtain⟨s4,st4,bg4,lv4⟩:=ui HP.out.hB.2.2 ISTA.out (IMEM.out.drewN nq) (ISTEP.out.drewN nq) IBG.out ILV.out hq.2.1 hq.2.2 IEQ.out (fun _=>hQ.out) h9 hw he
      have hm:=aa (show yU w B a mb w.heap.size bm (bm+1) n co cm q (ed n t (bw R)) (G.drop (k+1)) f tt wo.heap.size cc (cc+1) w4 from
       ⟨q2,O2,M3,lv3,_,s4,IRND.out,hD,st4,bg4,lv4,⟨by omega,by omega,by omega⟩,fun p hp1 hp2=>by rw[show p=cc by omega],IKEY.out⟩)
      clear hD h9 hw he s4 st4 bg4 lv4;go_wp2_with fail;go_roundw;case rel=>exact⟨cc,cc+1,rfl,by go_num,hm.out⟩
      case measure=>simp[intOf];omega
    ·have d1:decide ((cc:Int)<(tt:Int))=false:=aR;have h5:=Au wr w.heap.size a mb w.heap.size bm (bm+1) n co cm fr cc O2 M2 lv2 done2 IMEM.out ISTA.out.low hq.2.1 (by omega) HP.out.nn.2.1 (by omega);have h6:=aa h5;obtain rfl:cc=tt:=(by omega);clear h5;go_wp2_with fail;refine h6.out.mono ?_;rintro e w4 ⟨M3,lv3,rfl,hD,h9,hw,he⟩;obtain⟨s4,st4,_,_⟩:=ui HP.out.hB.2.2 ISTA.out IMEM.out ISTEP.out IBG.out ILV.out hq.2.1 (ag _) IEQ.out (fun h=>absurd h (Rc _)) h9 hw he;have hP:=aa (show Ix w B a mb w.heap.size bm (bm+1) n co cm q (ed n t (bw R)) G (k+1) w4 from⟨q2,O2,M3,lv3,_,cc,s4,IRND.out,hD,st4⟩);clear hD h9 hw he s4 st4;go_wp2_with fail;go_roundw;case rel=>exact⟨k+1,by omega,by go_num,hP.out⟩
     case measure=>simp[intOf];omega
  ·obtain⟨q1,O1,M1,lv,done,x,h2,h4,h1,h0⟩:=hE;have hd:G.drop k= []:=Pp (by omega);rw[hd]at h2 h4;have hx:=h4.finer h2;have h8:=h2.again
   have r1:=h0.blk HP.out.r (by
    obtain⟨cs,hb,_⟩:=HP.out.rO
    simpa using gg HP.out.r hb (by decide)) (by simp)
   have m0:=ac h1.qm 0;have l0:=ac h1.ql 0;have c0:=ac r1 0;have c1:=ae r1 0;simp at m0 l0 c0;obtain⟨A2,c2,rfl,_,_,_⟩:=ai h1.left;(have l1:∀v,(wr.setCell ⟨rb,0,none⟩ v).cell? ⟨bm+1,0,none⟩=some (.slice A2 done.length c2):=fun v=>by rw[World.cell?_setCell_other _ _ _ _ (by intro e;simp only[PR]at e;omega)];exact l0);have L1:=l1 (.slice (some ⟨mb,0,none⟩) n cm);have h3:=aa h1;have h7:=aa h0;have hl:=aa h8;have hO:=aa hx;have hJ:=aa r1;have d1:decide ((k:Int)<(G.length:Int))=false:=aR;clear h2 h4 h1 h0 hx h8 r1 hd l1 l0;go_wp2_with fail;go_ret;have sx:ak B [rb] [] wr (wr.setCell ⟨rb,0,none⟩ (.slice (some ⟨mb,0,none⟩) n cm)):=(ak.refl B _ _ wr).set HP.out.hB.2.1 (by simp) _;refine⟨_,mb,cm,M1,O1,done,rfl,?_,?_,h3.out.lM,?_,h3.out.lO,h3.out.ne,by omega,?_,hl.out,hO.out,?_⟩;·exact ay hJ.out 0 _
   ·exact sx.irow h3.out.rM (by
     obtain⟨cs,hb,_⟩:=h3.out.rM
     simpa using fun e=>gg hJ.out hb (by decide) e.symm) (by simp)
   ·exact sx.irow h3.out.rO (by
     obtain⟨cs,hb,_⟩:=h3.out.rO
     simpa using fun e=>gg hJ.out hb (by decide) e.symm) (by simp)
   ·exact sx.row h3.out.left (fun j hj=>by
     have:=dV h3.out.left hJ.out (by decide) j hj
     simpa using this) (by simp)
   ·exact(h7.out.mono (ag _) (by simp) (by simp)).trans (sx.mono (ag _) (by simp) (by simp))
theorem dP.zeros(w:World)(n:Nat):dP (w.alloc (.cells (madeCells #[.int .i64 0] n) 3)) w.heap.size (List.replicate n 0):=by refine⟨_,aj w 3 _,fun i hi=> ?_⟩;rw[NA]at hi;rw[<- Qm,PX,OP,Nf hi];rw[Na,OP,Nf hi];rfl
def Iv(w:World)(a ob rb:Nat)(s:List UInt8)(k:Nat)(wr:World):Prop:=
 ∃O R:List Nat,O.length=s.length/\R.length=s.length/\dP wr a O/\dP wr ob R/\qD wr rb ob s.length s.length 0/\
  (∀ p,p<k->bw O p=p)/\(∀ p,p<k->bw R p=(rat s p).toNat)/\Below w.heap.size w wr
theorem Gl{w wr:World}{a ob rb:Nat}{s:List UInt8}{k:Nat}{O R:List Nat}(ha:w.heap.size<=a)(h0:a<ob)(h3:ob<rb)(hk:k<s.length)(hO:O.length=s.length)(hR:R.length=s.length)(rO:dP wr a O)(rR:dP wr ob R)
 (hr:qD wr rb ob s.length s.length 0) (h1:∀p,p<k->bw O p=p) (h2:∀p,p<k->bw R p=(rat s p).toNat) (hb:Below w.heap.size w wr) (m:Nat):
 Iv w a ob rb s (k+1) (((wr.setCell ⟨a,k,none⟩ (.int .i64 k)).setCell ⟨ob,k,none⟩ (.int .i64 ((rat s k).toNat:Nat))).drewN m):=by
 have s1:ak w.heap.size [a] [] wr (wr.setCell ⟨a,k,none⟩ (.int .i64 k)):=(ak.refl w.heap.size [a] [] wr).set (p:=⟨a,k,none⟩) ha Nh _
 have s2:ak w.heap.size [ob] [] (wr.setCell ⟨a,k,none⟩ (.int .i64 k)) ((wr.setCell ⟨a,k,none⟩ (.int .i64 k)).setCell ⟨ob,k,none⟩ (.int .i64 ((rat s k).toNat:Nat))):=
  (ak.refl w.heap.size [ob] [] _).set (p:=⟨ob,k,none⟩) (by show _<=ob;omega) Nh _
 refine⟨O.set k k,R.set k (rat s k).toNat,by rw[P5];exact hO,by rw[P5];exact hR,?_,?_,?_,fun p hp=> ?_,fun p hp=> ?_,?_⟩;·exact s2.irow (rO.set (i:=k) (by omega) k) (by simp;omega) (by simp)
 ·exact(s1.irow rR (by simp;omega) (by simp)).set (i:=k) (by omega) _
 ·exact s2.blk (s1.blk hr (by simp;omega) (by simp)) (by simp;omega) (by simp)
 ·unfold bw;rw[mS _ _ _ _ (by omega)];split;·rename_i e;exact e.symm
  ·exact h1 p (by omega)
 ·unfold bw;rw[mS _ _ _ _ (by omega)];split;·rename_i e;rw[e]
  ·exact h2 p (by omega)
 ·exact ax ((hb.trans (s1.below)).trans s2.below) m
theorem ox(w:World)(o:Obj):ak w.heap.size [] [] w (w.alloc o):=(ak.refl _ _ _ w).alloc (ag _) o
theorem sV(w:World)(o:Obj):(w.alloc o).heap.size=w.heap.size+1:=by simp
theorem Dg(w:World)(s:ByteArray):Iv w w.heap.size (w.heap.size+1) (w.heap.size+1+1) s.data.toList 0
 (((w.alloc (.cells (madeCells #[.int .i64 0] s.size) 3)).alloc (.cells (madeCells #[.int .i64 0] s.size) 3)).alloc (.cells #[.slice (some ⟨w.heap.size+1,0,none⟩) s.size s.size,.int .i64 0] 120)):=by
 have h0:s.data.toList.length=s.size:=rfl;have r1:=dP.zeros w s.size;have z1:=sV w (.cells (madeCells #[.int .i64 0] s.size) 3);have b1:Below w.heap.size w (w.alloc (.cells (madeCells #[.int .i64 0] s.size) 3)):=(Nj _ w).alloc (ag _) _;generalize w.alloc (.cells (madeCells #[.int .i64 0] s.size) 3)=w1 at*;have r2:=dP.zeros w1 s.size;have z2:=sV w1 (.cells (madeCells #[.int .i64 0] s.size) 3);have s2:=ox w1 (.cells (madeCells #[.int .i64 0] s.size) 3);generalize w1.alloc (.cells (madeCells #[.int .i64 0] s.size) 3)=w2 at*;have s3:=ox w2 (.cells #[.slice (some ⟨w.heap.size+1,0,none⟩) s.size s.size,.int .i64 0] 120);have r3:=aj w2 120 #[.slice (some ⟨w.heap.size+1,0,none⟩) s.size s.size,.int .i64 0];generalize w2.alloc (.cells #[.slice (some ⟨w.heap.size+1,0,none⟩) s.size s.size,.int .i64 0] 120)=w3 at*;refine⟨List.replicate s.size 0,List.replicate s.size 0,by rw[NA];exact h0.symm,by rw[NA];exact h0.symm,s3.irow (s2.irow r1 aw aw) aw aw,?_,?_,fun p h=>by omega,fun p h=>by omega,?_⟩;·have:=s3.irow r2 aw aw;rwa [z1]at this
 ·unfold qD;rw[h0];rwa [z2,z1]at r3
 ·exact(b1.trans (s2.below.mono (by omega))).trans (s3.below.mono (by omega))
theorem Hi(n:Nat)(O M:Nat->Nat)(h:0<n)(hO:∀p,p<n->O p=p):Sta n (fun _=>0) O M [] 0 0 [(0,n)]:=by
 refine⟨fun p hp=>by rw[hO p hp];exact hp,fun i hi=>⟨i,hi,hO i hi⟩,fun p r h1 h2=>.inr ⟨rfl,by rw[hO p (by omega),hO r h2];exact h1⟩,?_,fun g hg=>absurd hg aw,?_,?_,⟨Nk _,Ng _⟩,fun p r h1 h2=>by omega⟩
 ·rintro g (hg|hg);·exact absurd hg aw
  ·rw[List.mem_singleton.1 hg];exact⟨h,Nk _,fun p r h1 h2 h3=>⟨fun _=>⟨Ng _,h3⟩,fun _=>rfl⟩⟩
 ·intro p hp _ hg;have:=hg (0,n) (.inr Nh);simp only at this;omega
 ·simp
def K9(w:World)(rb n:Nat)(s:List UInt8)(g:Nat)(v:Value)(wr:World):Prop:=
 ∃(t:Nat) (O R:List Nat) (G:List (Nat×Nat)) (ob c:Nat),n-t<=g/\wr.ownsRow w.heap.size 122 2 v G.length (iX G)/\qD wr rb ob n c t/\dP wr ob R/\R.length=n/\dP wr w.heap.size O/\O.length=n/\w.heap.size≠ob/\Below w.heap.size w wr/\G.length<=1000000/\t<=2000000/\
  ((t=0/\G= [(0,n)]/\(∀ p,p<n->bw O p=p)/\∀p,p<n->bw R p=(rat s p).toNat)\/(1<=t/\Sta n (bw R) (bw O) (bw R) [] 0 0 G/\Sem s t (bw R)))
def Eb(w:World)(s:List UInt8)(e:Ending)(w':World):Prop:=
 ∃(g:Nat) (L:List Nat),e=.returned (.slice (some ⟨g,0,none⟩) s.length s.length)/\dP w' g L/\ep s L/\w.heap.size<=g/\Below w.heap.size w w'
theorem AY{w wr:World}{rb n g:Nat}{s:List UInt8}{v:Value}(h:K9 w rb n s g v wr)(hn:s.length=n)(he:∀(t:Nat) (G:List (Nat×Nat)) (ob c:Nat),wr.ownsRow w.heap.size 122 2 v G.length (iX G)->qD wr rb ob n c t->(G= []\/n<=t)):
 Eb w s (.returned (.slice (some ⟨w.heap.size,0,none⟩) s.length s.length)) wr:=by
 obtain⟨t,O,R,G,ob,c,_,h3,hr,hR,h9,hO,h6,ha,hb,_,_,h2⟩:=h;refine⟨w.heap.size,O,rfl,hO,?_,Nk _,hb⟩;have h1:=he t G ob c h3 hr;rcases h2 with⟨rfl,rfl,_,_⟩|⟨h8,h5,h4⟩
 ·have h7:n=0:=by
   rcases h1 with h1|h1;·cases h1
   ·omega
  have h0:O= []:=Nq (by omega);subst h0;exact⟨List.Pairwise.nil,fun i=>by rw[hn,h7];simp⟩
 ·subst hn;exact LV s O (bw R) G t h6 h5 h4 h1
theorem Aw{w:World}{B:Nat}{v:Value}{G:List (Nat×Nat)}(h:w.ownsRow B 122 2 v G.length (iX G))(h0:0<G.length):∃gb cg,v=.slice (some ⟨gb,0,none⟩) G.length cg/\G.length<=cg/\MQ w gb G:=by
 rcases h.2 with⟨_,h1⟩|⟨gb,cg,cur,rfl,_,hh,h2,_,_,h3⟩;·omega
 ·refine⟨gb,cg,rfl,h2,cur,hh,fun k hk=> ?_⟩;have hf:=F8 G k hk;rw[<- h3]at hf;rw[Pt (by omega),Pt (by omega)]at hf;simpa using hf
theorem GD{w wr w2:World}{rb n t:Nat}{s:List UInt8}{q:Nat->Nat}{R:List Nat}{e:Ending}(hn:s.length=n)(ht:t<n)(hk:n<=1000000)(hf:rb≠w.heap.size)(hg:w.heap.size<=rb)(h8:Below w.heap.size w wr)
 (hq:(t=0/\q=(fun _=>0)/\∀p,p<n->bw R p=(rat s p).toNat)\/(1<=t/\q=bw R/\Sem s t (bw R))) (h:vW wr w.heap.size w.heap.size rb n t q (ed n t (bw R)) e w2):
 ∃v mb cm,e=.returned v/\qD w2 rb mb n cm t/\∀t':Nat,t'=(if 2*t<1 then 1 else 2*t)->K9 w rb n s (n-t') v (w2.setCell ⟨rb,1,none⟩ (.int .i64 t')):=by
 obtain⟨v,mb,cm,M',O',G',rfl,hr,hM,ha,hO,hc,he,hi,h6,h4,h5,hh⟩:=h;refine⟨v,mb,cm,rfl,hr,fun t' ht'=> ?_⟩;have hz:=h8.size;have sx:ak w.heap.size [rb] [] w2 (w2.setCell ⟨rb,1,none⟩ (.int .i64 t')):=(ak.refl w.heap.size [rb] [] w2).set (p:=⟨rb,1,none⟩) hg Nh _;have h9:=h4.few
 have h0:(w2.setCell ⟨rb,1,none⟩ (.int .i64 t')).ownsRow wr.heap.size 122 2 v G'.length (iX G'):=sx.row h6 (fun j hj=>by
  have:=dV h6 hr (by decide) j hj
  simpa using this) aw
 refine⟨t',O',M',G',mb,cm,Nk _,⟨h0.1,?_⟩,?_,?_,ha,?_,hc,he,?_,by omega,?_,?_⟩
 ·rcases h0.2 with h1|⟨g,cap,cur,h1,h2,h3⟩;·exact .inl h1
  ·exact .inr ⟨g,cap,cur,h1,by omega,h3⟩
 ·exact ay hr 1 _
 ·exact sx.irow hM (by
   obtain⟨cs,hb,_⟩:=hM
   simpa using fun e=>gg hr hb (by decide) e.symm) aw
 ·exact sx.irow hO (by simpa using fun e=>hf e.symm) aw
 ·exact h8.trans (hh.below.trans sx.below)
 ·rw[ht'];split <;>omega
 ·subst hn;rcases hq with⟨rfl,rfl,hR⟩|⟨h1,rfl,h7⟩;·have e1:t'=1:=(by rw[ht',Nf]);refine .inr ⟨by omega,h4,?_⟩;rw[e1];exact Hc s (bw R) (bw M') hR h5
  ·have e1:t'=t+t:=(by rw[ht',Nd];omega);refine .inr ⟨by omega,h4,?_⟩;rw[e1];exact Kx s t (bw R) (bw M') ht h7 h5
theorem ri(N:Nat)(S:ou N)(w:World)(s:ByteArray)(hN:s.size<=N)(hs:s.size<=1000000):
 Calls prog 30 #[.string s] w (Eb w s.data.toList):=by
 obtain⟨i3,h3,hJ,hK,hL⟩:=N4 Tryz.info3;have hM:∀w1:World,(Instr.makeSlice 37 (.int .i64 s.size) (.int .i64 s.size)).run prog w1=.ok (.slice (some ⟨w1.heap.size,0,none⟩) s.size s.size) (w1.alloc (.cells (madeCells #[.int .i64 0] s.size) 3)):=by intro w1;have h:=Qv (P:=prog) w1 37 3 i3 (.int .i64 0) underlying37 h3 hJ .i64 .i64 (s.size:Int) (s.size:Int) (by omega) (by omega) (by rw[hL];omega) (by omega);rw[hK,Nv,Oc]at h;exact h
 have hC:s.data.toList.length=s.size:=rfl;have h7:=aa hC;clear hC;go_enter func30,ntmps30;go_wp2_with fail;have start:=Dg w s;obtain⟨a,ha⟩:∃a,a=w.heap.size:=⟨_,rfl⟩;obtain⟨ob,hz⟩:∃ob,ob=w.heap.size+1:=⟨_,rfl⟩;obtain⟨rb,hA⟩:∃rb,rb=w.heap.size+1+1:=⟨_,rfl⟩;have hG:ob<rb:=by omega
 rw[<- hA,<-hz]at start |-;generalize hWW:((w.alloc (.cells (madeCells #[.int .i64 0] s.size) 3)).alloc (.cells (madeCells #[.int .i64 0] s.size) 3)).alloc (.cells #[.slice (some ⟨ob,0,none⟩) s.size s.size,.int .i64 0] 120)=WW at start |-;clear hWW;have START:=aa start;clear start;have hv:w.heap.size<ob:=by omega
 clear hA hz ha;clear a;go_loopw [17] (fun x wr=>∃k:Nat,k<=s.size/\x=.int .i64 k/\Iv w w.heap.size ob rb s.data.toList k wr) (fun x _=>s.size-(intOf x).toNat)
 case atStart=>exact⟨0,Ng _,rfl,START.out⟩
 case round=>
  obtain⟨k,hk,rfl,O,R,hO,hR,rO,rR,hr,h1,h2,hb⟩:=hrel;by_cases hl:k<s.size
  ·have c0:=rO.cell (i:=k) (by rw[hO,h7.out];exact hl);have f0:=rO.frozen k;have r0:=ac hr 0;have c1:=rR.cell (i:=k) (by rw[hR,h7.out];exact hl);rw[h7.out]at r0;simp at r0;have hf:s[k]=rat s.data.toList k:=qp s k k (NL hl).symm hl;obtain⟨y,hy⟩:∃y,y=s[k].toNat:=⟨_,rfl⟩;have hQ:IntKind.i64.wrap (s[k].toNat:Int)=(y:Int):=(by rw[hy];have:=s[k].toNat_lt;exact IntWalk.i64_in _ (by omega));have NEXT:=aa fun m=>Gl (ag _) hv hG (by rw[h7.out];exact hl) hO hR rO rR hr h1 h2 hb m;go_wp2_with fail;have s1:ak w.heap.size [w.heap.size] [] wr (wr.setCell ⟨w.heap.size,k,none⟩ (.int .i64 k)):=(ak.refl w.heap.size [w.heap.size] [] wr).set (p:=⟨w.heap.size,k,none⟩) (ag _) Nh _;have r0':=ac (s1.blk hr (by simp;omega) (by simp)) 0;have c1':=(s1.irow rR (by simp;omega) (by simp)).cell (i:=k) (by rw[hR,h7.out];exact hl);have f1':=(s1.irow rR (by simp;omega) (by simp)).frozen k;rw[h7.out]at r0';simp at r0';rw[<- hf,<-hy]at NEXT;clear c0 f0 r0 c1 s1 hO hR rO rR hr h1 h2 hb hf;generalize wr.setCell ⟨w.heap.size,k,none⟩ (.int .i64 k)=W2 at*;clear hy;go_region;go_wp2_with fail;go_roundw;case rel=>exact⟨k+1,by omega,by go_num,NEXT.out 1⟩
   case measure=>simp[intOf];omega
  ·obtain rfl:k=s.size:=(by omega);have ord:K9 w rb s.size s.data.toList s.size (.slice (some ⟨wr.heap.size,0,none⟩) 1 1) (wr.alloc (.cells #[.int .i64 0,.int .i64 s.size] 122)):=by
    have s1:=ox wr (.cells #[.int .i64 0,.int .i64 s.size] 122);rw[h7.out]at hO hR hr
    refine⟨0,O,R, [(0,s.size)],ob,s.size,by omega,⟨rfl,.inr ⟨wr.heap.size,1,_,rfl,hb.size,aj wr 122 _,Nk _,by unfold maxLen;omega,rfl,rfl⟩⟩,s1.blk hr aw aw,s1.irow rR aw aw,hR,
     s1.irow rO aw aw,hO,by omega,aq hb s1.below,by simp,by omega,.inl ⟨rfl,rfl,h1,h2⟩⟩
   have hu:=aa ord;clear ord hO hR rO rR hr h1 h2 hb;go_wp2_with fail;(go_loopg [6] s.size (fun g v wr=>K9 w rb s.size s.data.toList g v wr));case atStart=>exact hu.out
   case round=>
    have h4:=hrel;obtain⟨t,O,R,G,ob2,c,hg,h5,hr,hR,ho,hO,hn,hp,hb,hE,hP,h6⟩:=hrel;have c0:=ac hr 0;have c1:=ac hr 1;simp at c0 c1;by_cases hI:t<s.size
    ·by_cases hD:0<G.length
     ·obtain⟨gb,cg,rfl,hF,hx⟩:=Aw h5 hD;have hB:w.heap.size<=rb:=(by omega);have hH:rb≠w.heap.size:=(by omega);obtain⟨q,hq,hm⟩:∃q:Nat->Nat,((t=0/\q=(fun _=>0)/\∀p,p<s.size->bw R p=(rat s.data.toList p).toNat)\/(1<=t/\q=bw R/\Sem s.data.toList t (bw R)))/\Sta s.size q (bw O) (bw R) [] 0 0 G:=by
       rcases h6 with⟨h1,rfl,h2,h3⟩|⟨h1,h2,h3⟩;·exact⟨fun _=>0,.inl ⟨h1,rfl,h3⟩,Hi s.size (bw O) (bw R) (by omega) h2⟩
       ·exact⟨bw R,.inr ⟨h1,rfl,h3⟩,h2⟩
      have hc:=G1 N S wr w.heap.size w.heap.size rb ob2 gb s.size s.size c cg t R O G q ⟨hr,hR,ho,hO,hn,hx,hp,⟨Nk _,hB,hb.size⟩,Nk _,⟨by omega,hs,by omega⟩,⟨hF,hE⟩⟩ hN hm;have hj:=aa hc;have HQ:=aa hq;have HB:=aa hb;clear h4 h5 hr hR ho hO hn hp hb h6 hx hc hq hm;go_wp2_with fail;refine hj.out.mono ?_;intro e w2 hi;obtain⟨v,mb,cm,rfl,hw,hh⟩:=GD h7.out hI hs hH hB HB.out HQ.out hi;have k1:=ac hw 1;have k2:=ae hw 1;simp at k1;have he:=aa hh;clear hi hw hh;by_cases h0:2*t<1
      ·have ht:=aa (he.out 1 (Nf h0).symm);go_wp2_with fail;(go_roundg (s.size-1));case measure=>omega
       case rel=>rw[show max (1:Int) (2*(t:Int))=((1:Nat):Int) by omega];exact ht.out
      ·have ht:=aa (he.out (2*t) (Nd h0).symm);go_wp2_with fail;(go_roundg (s.size-2*t));case measure=>omega
       case rel=>rw[show max (1:Int) (2*(t:Int))=((2*t:Nat):Int) by omega];exact ht.out
     ·have h9:=AY h4 h7.out (fun t' G' ob' c' hown' hr'=>by
       left
       obtain⟨A1,c1,e1,_⟩:=ai h5
       obtain⟨A2,c2,e2,_⟩:=ai hown'
       rw[e1]at e2
       simp only[Ol]at e2
       exact Nq (by omega))
      obtain⟨A1,c1',rfl,_⟩:=ai h5;have h8:=aa h9;rw[h7.out]at h8;clear h4 h5 hr hR ho hO hn hp hb h6 h9;go_wp2_with fail;go_ret;exact h8.out
    ·have h9:=AY h4 h7.out (fun t' G' ob' c' hown' hr'=>by
      right
      have e1:=ac hr 1
      have e2:=ac hr' 1
      simp at e1 e2
      rw[e1]at e2
      simp at e2
      omega)
     obtain⟨A1,c1',rfl,_⟩:=ai h5;have h8:=aa h9;rw[h7.out]at h8;clear h4 h5 hr hR ho hO hn hp hb h6 h9;go_wp2_with fail;go_ret;exact h8.out
theorem qY(w:World)(g n c k i:Nat)(L:List Nat)(h:dP w g L)(hl:L.length=n)(hk:k<n)(hv:L.getD k 0=i)(h0:∀q,q<k->L.getD q 0≠i)(hn:n<=1000000):
 Calls prog 31 #[.slice (some ⟨g,0,none⟩) n c,.int .i64 i] w fun e w'=>e=.returned (.int .i64 k)/\w=w':=by
 have HH:=aa h;have HL:=aa hl;have HV:=aa hv;have h1:=aa h0;clear h hl hv h0;go_enter func31,ntmps31;go_wp2_with fail;go_loop [8] (fun x=>∃q:Nat,q<=k/\x=.int .i64 q) (fun x=>n-(intOf x).toNat)
 case atStart=>exact⟨0,Ng _,rfl⟩
 case round=>
  obtain⟨q,hq,rfl⟩:=hrel;have hc:=HH.out.cell (i:=q) (by rw[HL.out];omega);by_cases e:q=k;·subst e;rw[HV.out]at hc;have d2:((i:Int)==(i:Int))=true:=O9 _;go_wp2_with fail;go_ret;exact⟨rfl,rfl⟩
  ·have h3:=h1.out q (by omega);obtain⟨v,h2⟩:∃v,v=L.getD q 0:=⟨_,rfl⟩;rw[<- h2]at hc h3;clear h2;have d2:((i:Int)==(v:Int))=false:=beq_false_of_ne (by omega);go_wp2_with fail;go_round;case rel=>exact⟨q+1,by omega,by go_num⟩
   case measure=>simp[intOf];omega
theorem rf{L:List Nat}(h:L.Nodup){i j:Nat}(hi:i<L.length)(hj:j<L.length)(e:L[i]=L[j]):i=j:=by
 have hp:=List.pairwise_iff_getElem.1 h;rcases OI i j with h1|h1|h1;·exact absurd e (hp i j hi hj h1)
 ·exact h1
 ·exact absurd e.symm (hp j i hj hi h1)
def B1(s:List UInt8)(i k:Nat):Prop:=∃L,ep s L/\k<L.length/\L.getD k 0=i
theorem mV{s:List UInt8}{L:List Nat}(h:ep s L)(i:Nat)(hi:i<s.length):∃k,k<L.length/\L.getD k 0=i/\∀q,q<k->L.getD q 0≠i:=by have h0:=(h.2 i).2 hi;obtain⟨k,hk,e⟩:=Pr h0;refine⟨k,hk,by rw[Na,Nc hk];exact e,fun q hq e2=> ?_⟩;rw[Na,Nc (by omega)]at e2;have h5:L[q]=L[k]:=(show L[q]=i from e2).trans e.symm;have:=rf (iL h) (by omega) hk h5;omega
