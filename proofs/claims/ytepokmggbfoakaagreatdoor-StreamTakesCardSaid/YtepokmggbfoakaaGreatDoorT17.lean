import Derived.Test.YtepokmggbfoakaaGreatDoorT16
import Derived.Shelf.SlSortCmp.Kit1
import Derived.Lib.SliceRun
import Derived.Lib.Bytealg
import Derived.Laws.Externs
set_option maxHeartbeats 4000000
set_option maxRecDepth 100000
namespace Go.Proofs.YtepokmggbfoakaaGreatDoor.S05
open _root_.Go.Proofs.Tryz
open Go.RowKit
def ew{k:Nat}(x:Fin (k+1)):Value:=.int .i64 (x.val:Nat)
def vE{k:Nat}(r:Value)(cf:Fin (k+1)->Fin (k+1)->Int)(blk off size:Nat)(w:World):Prop:=
 ∀(W:World) (dk:Array (Fin (k+1))),dk.size=size->SW ew w blk off dk W->∀x y,Calls prog 193 #[r,ew x,ew y] W fun e w'=>e=.returned (.int .i64 (cf x y))/\W=w'
def nK(N:Nat):Prop:=
 ∀(k:Nat) (r:Value) (cf:Fin (k+1)->Fin (k+1)->Int) (blk off cap:Nat) (d:Array (Fin (k+1))) (w:World),
  Go.Sort.SWO (ltOf cf)->vE r cf blk off d.size w->Go.Sort.Holds ew w blk off d->blk<w.heap.size->0<d.size->d.size<=N->
  Calls prog 192 #[.slice (some ⟨blk,off,none⟩) d.size cap,.func (.func 193) #[r] #[]] w fun e w'=>
   e=.returned (.tuple #[])/\∃d',Go.Sort.PermIn 0 d.size d d'/\Go.Sort.SortedIn (ltOf cf) 0 d.size d'/\SW ew w blk off d' w'
section
variable {k:Nat} {w W:World} {blk off:Nat} {dk:Array (Fin (k+1))}
theorem EH(h:SW ew w blk off dk W){g:Nat}(hg:g<w.heap.size)(h0:g≠blk):W.heap[g]? =w.heap[g]? :=by obtain⟨n,os,rfl⟩:=h;unfold sortWorld;rw[Go.Sort.heap_grow_old _ _ (by rw[size_putRow];exact hg)];unfold Go.Sort.putRow Go.Sort.mapBlock;simp only[QO];rw[Nf (fun e=>h0 e.symm)];rfl
theorem EI(h:SW ew w blk off dk W){B:Nat}(hB:B<=blk)(h0:B<=w.heap.size):al B [blk] [] w W:=by
 have hs:=h.le;refine⟨⟨?_,?_,?_,hs,fun g hg=>EH h (by omega) (by omega)⟩,fun i cs t fr hh hi _=> ?_⟩;·obtain⟨n,os,rfl⟩:=h;rfl
 ·obtain⟨n,os,rfl⟩:=h;rfl
 ·obtain⟨n,os,rfl⟩:=h;rfl
 ·rw[EH h (Array.getElem?_eq_some_iff.1 hh).1 (by simpa using hi)];exact hh
theorem MM(h:SW ew w blk off dk W){cs:Array Value}{t:TypeId}(hb:Blk w blk t cs):Blk W blk t (Go.Sort.putCells ew off dk cs):=by have h0:=az hb;obtain⟨n,os,rfl⟩:=h;unfold Blk sortWorld;rw[Go.Sort.heap_grow_old _ _ (by rw[size_putRow];exact h0)];unfold Go.Sort.putRow Go.Sort.mapBlock;simp only[QO,if_true];rw[show (Go.Sort.ahead w n).heap[blk]? =some (.cells cs t (0,0))from hb];rfl
end
structure vG (n f t:Nat) (key:Nat->Nat) (O O':List Nat):Prop where
 len:O'.length=n
 out:∀p,(p<f\/t<=p)->O'.getD p 0=O.getD p 0
 of:∀p,f<=p->p<t->∃r,f<=r/\r<t/\O'.getD p 0=O.getD r 0
 has:∀p,f<=p->p<t->∃r,f<=r/\r<t/\O'.getD r 0=O.getD p 0
 sorted:∀p r,f<=p->p<r->r<t->key (O'.getD p 0)<key (O'.getD r 0)\/(key (O'.getD p 0)=key (O'.getD r 0)/\O'.getD p 0<O'.getD r 0)
theorem LY(k:Nat)(key:Nat->Nat):Go.Sort.SWO (ltOf fun x y:Fin (k+1)=>cfN key x.val y.val):=by
 have e:∀x y:Fin (k+1),ltOf (fun x y:Fin (k+1)=>cfN key x.val y.val) x y=decide (key x.val<key y.val\/(key x.val=key y.val/\x.val<y.val)):=by intro x y;unfold ltOf;exact decide_eq_decide.2 (Ee key x.val y.val)
 refine⟨fun x=> ?_,fun x y z h1 h2=> ?_,fun x y z h1 h2=> ?_⟩;·rw[e];simp
 ·rw[e]at *;simp only[Qa]at *;omega
 ·rw[e]at *;simp only[QG]at *;omega
theorem getElem!_mem{α:Type} [Inhabited α](d:Array α)(i:Nat)(h:i<d.size):d[i]! ∈d.toList:=by rw[getElem!_pos d i h];simp
theorem mem_getElem!{α:Type} [Inhabited α](d:Array α)(x:α)(h:x∈d.toList):∃i,i<d.size/\d[i]! =x:=by obtain⟨i,hi,e⟩:=Pt h;have h0:i<d.size:=(by simpa using hi);refine⟨i,h0,?_⟩;rw[getElem!_pos d i h0,<-e];simp
theorem LR(N:Nat)(S:nK N)(w:World)(B rb ob a n c t f tt co:Nat)(R O:List Nat)(hr:pK w rb ob n c t)(hR:dh w ob R)(hu:R.length=n)(hO:dh w a O)(hD:O.length=n)
 (hk:∀p,p<n->O.getD p 0<n) (hh:∀p r,p<n->r<n->O.getD p 0=O.getD r 0->p=r) (hC:f<tt) (hE:tt<=n) (hN:tt-f<=N) (ht:t<=n) (hn:n<=1000000) (hB:B<=a) (hw:a≠ob):
 Calls prog 192 #[.slice (some ⟨a,f,none⟩) (tt-f) co,.func (.func 193) #[rp rb] #[]] w fun e w'=>e=.returned (.tuple #[])/\∃O',vG n f tt (dO n t fun k=>R.getD k 0) O O'/\dh w' a O'/\al B [a] [] w w':=by
 obtain⟨k,rfl⟩:∃k,n=k+1:=⟨n-1,by omega⟩;obtain⟨key,h8⟩:∃key,key=dO (k+1) t fun k=>R.getD k 0:=⟨_,rfl⟩;have hA:rb≠a:=by obtain⟨cs,hb,_⟩:=hO;exact gl hr hb (by decide)
 obtain⟨d,hd⟩:∃d:Array (Fin (k+1)),d=Array.ofFn (fun p:Fin (tt-f)=>(⟨O.getD (f+p.val) 0,hk _ (by omega)⟩:Fin (k+1))):=⟨_,rfl⟩;have ha:d.size=tt-f:=by rw[hd];simp
 have h6:∀j,j<tt-f->(d[j]!).val=O.getD (f+j) 0:=by intro j hj;rw[getElem!_pos d j (by omega)];simp only[hd,Array.getElem_ofFn]
 have hH:Go.Sort.Holds ew w a f d:=by intro j hj;refine⟨?_,hO.frozen _⟩;rw[hO.cell (i:=f+j) (by omega),ew,h6 j (by omega)]
 have hf:vE (rp rb) (fun x y:Fin (k+1)=>cfN key x.val y.val) a f d.size w:=by intro W dk _ he x y;have hm:=EI he (Nh a) (Nh _);have hz:pK W rb ob (k+1) c t:=hm.blk hr (by simpa using hA) (by simp);have ho:=hm.irow hR (by simpa using fun e=>hw e.symm) (by simp);have:=zA W rb ob (k+1) c t x.val y.val R hz ho hu x.isLt y.isLt ht hn;rw[<- h8]at this;exact this
 have hS:=S k (rp rb) (fun x y:Fin (k+1)=>cfN key x.val y.val) a f co d w (LY k key) hf hH hO.lt (by omega) (by omega);rw[ha]at hS;refine hS.mono ?_;rintro e w' ⟨rfl,d',⟨p1,_,p3⟩,h9,he⟩;refine⟨rfl,?_⟩;have h7:d'.size=tt-f:=by omega
 have h0:d'.toList.Perm d.toList:=by rw[show d'.extract 0 (tt-f)=d' by rw[<- h7];exact Ri ..,show d.extract 0 (tt-f)=d by rw[<- ha];exact Ri ..]at p3;exact p3
 have hv:d.toList.Nodup:=by refine List.pairwise_iff_getElem.2 fun i j hi hj hij e=> ?_;have hq:i<tt-f:=(by simpa [ha]using hi);have hs:j<tt-f:=(by simpa [ha]using hj);have e1:=h6 i hq;have e2:=h6 j hs;rw[getElem!_pos d i (by omega)]at e1;rw[getElem!_pos d j (by omega)]at e2;have e3:d[i]=d[j]:=(by simpa using e);rw[e3,e2]at e1;have:=hh _ _ (by omega) (by omega) e1;omega
 have hl:d'.toList.Nodup:=h0.nodup_iff.2 hv;refine⟨(List.range (k+1)).map (fun p=>if f<=p/\p<tt then(d'[p-f]!).val else O.getD p 0),?_,?_,EI he hB (by have:=hO.lt;omega)⟩
 ·have hg:∀p,p<k+1->((List.range (k+1)).map (fun p=>if f<=p/\p<tt then(d'[p-f]!).val else O.getD p 0)).getD p 0=if f<=p/\p<tt then(d'[p-f]!).val else O.getD p 0:=by intro p hp;rw[Nb,Np,NN hp];rfl
  rw[<- h8];refine⟨by simp,fun p hp=> ?_,fun p h1 h2=> ?_,fun p h1 h2=> ?_,fun p r h1 h2 h3=> ?_⟩
  ·by_cases h:p<k+1;·rw[hg p h,Nf (by omega)]
   ·rw[Nb,Nb,Ny (by simp;omega),Ny (by omega)]
  ·rw[hg p (by omega),Ng ⟨h1,h2⟩];obtain⟨j,hj,e⟩:=mem_getElem! d _ (h0.mem_iff.1 (getElem!_mem d' (p-f) (by omega)));exact⟨f+j,by omega,by omega,by rw[<- e,h6 j (by omega)]⟩
  ·obtain⟨j,hj,e⟩:=mem_getElem! d' _ (h0.mem_iff.2 (getElem!_mem d (p-f) (by omega)));refine⟨f+j,by omega,by omega,?_⟩;rw[hg (f+j) (by omega),Ng ⟨by omega,by omega⟩,show f+j-f=j by omega,e,h6 _ (by omega),show f+(p-f)=p by omega]
  ·rw[hg p (by omega),hg r (by omega),Ng ⟨by omega,by omega⟩,Ng ⟨by omega,h3⟩];have h4:=h9 (p-f) (r-f) (Nh _) (by omega) (by omega);unfold ltOf at h4;simp only[QG,Ee]at h4;have hx:(d'[p-f]!).val≠(d'[r-f]!).val:=(by intro e;have h5:=List.pairwise_iff_getElem.1 hl (p-f) (r-f) (by simp;omega) (by simp;omega) (by omega);refine h5 ?_;rw[getElem!_pos d' (p-f) (by omega),getElem!_pos d' (r-f) (by omega)]at e;simpa using Fin.ext e);omega
 ·obtain⟨cs,hb,hc⟩:=hO;refine⟨_,MM he hb,fun p hp=> ?_⟩;have hy:p<k+1:=by simpa using hp
  rw[Nb,Np,NN hy];unfold Go.Sort.putCells;rw[Array.getElem?_mapIdx,hc p (by omega),Oy,h7];by_cases h:f<=p/\p<tt;·rw[Ng ⟨h.1,by omega⟩];show some (ew d'[p-f]!)=some (iv (if f<=p/\p<tt then(d'[p-f]!).val else O.getD p 0));rw[Ng h];rfl
  ·rw[Nf (by omega)];show some (iv (O.getD p 0))=some (iv (if f<=p/\p<tt then(d'[p-f]!).val else O.getD p 0));rw[Nf h]
def ET(w:World)(n:Nat)(L:List Nat)(e:Ending)(w':World):Prop:=
 ∃g c,e=.returned (.slice (some ⟨g,0,none⟩) n c)/\n<=c/\dh w' g L/\w.heap.size<=g/\Below w.heap.size w w'
theorem m6(w:World)(g n c:Nat)(L:List Nat)(h:dh w g L)(hl:L.length=n)(h0:0<n)(hn:n<=1000000):
 Calls prog 152 #[.slice (some ⟨g,0,none⟩) n c] w (ET w n L):=by
 obtain⟨i3,h3,h9,ha,hb⟩:=NY Tryz.info3;have q30:∀w1:World,(binOp .eql 57 (.slice (some ⟨g,0,none⟩) n c) (.slice none 0 0)).run prog w1=.ok (.bool false) w1:=fun w1=>Lib.run_eql_slice_nil w1 _ _ (some ⟨g,0,none⟩) n c 0 0 underlying57;have HH:=aa h;clear h;go_enter func152,ntmps152;go_wp2_with (at_builtin;refine wpList_append_own_at _ rfl _ _ 57 rfl w.heap.size 3 i3 (.int .i64 0) 1 8 underlying57 h3 h9 ha hb rfl (by decide) _ 0 [] rfl (Pd w #[] 0 (ah _) (by unfold maxLen;omega) (by simp)) ⟨g,0,none⟩ n c (L.map iv) rfl ?c0 ?c1 ?c2 ?c3 ?c4 ?c5 ?_)
 case c0=>simp[hl]
 case c1=>intro j u hj;have h5:j<L.length:=(by have:=(List.getElem?_eq_some_iff.1 hj).1;simpa using this);rw[OX,N8];have h1:=(((al.refl w.heap.size [] [] w).alloc (ah _) (.cells #[] 3)).irow HH.out (by simp) (by simp)).cell h5;rw[h1,<-hj,Np,Nd h5,Nb,Nd h5];rfl
 case c2=>intro u hu;obtain⟨q,_,rfl⟩:=List.mem_map.1 hu;rfl
 case c3=>unfold maxLen;omega
 case c4=>omega
 case c5=>simp
 intro v' w' h4 h2 _ h7;have h6:Below w.heap.size w w':=((Nj _ _).alloc (ah _) _).grown h2 (by simp) (fun k hk=>by simp[Value.ownBlock]at hk;omega);obtain⟨g2,c2,rfl,h8,hB,hr,_⟩:=Al h4 h0;have HR:=aa hr;have HB:=aa h6;clear h4 h2 h7 hr h6;go_wp2_with fail;go_ret;exact⟨g2,c2,rfl,h8,HR.out,hB,HB.out⟩
def MT(w:World)(gb:Nat)(G:List (Nat×Nat)):Prop:=∃cs,Blk w gb 184 cs/\∀k,(h:k<G.length)->cs[2*k]? =some (iv G[k].1)/\cs[2*k+1]? =some (iv G[k].2)
theorem xq.drewN{w:World}{B a mb bo bm bl n co cm:Nat}{O M:List Nat}{lv:Value}{L:List (Nat×Nat)}(h:xq w B a mb bo bm bl n co cm O M lv L)(k:Nat):xq (w.drewN k) B a mb bo bm bl n co cm O M lv L:=
 ⟨h.qo,h.qm,h.ql,h.rO,h.rM,h.lO,h.lM,h.nco,h.ne,h.left,h.hB⟩
structure It (w:World) (B a rb ob gb n co c cg t:Nat) (R O:List Nat) (G:List (Nat×Nat)):Prop where
 r:pK w rb ob n c t
 rR:dh w ob R
 lR:R.length=n
 rO:dh w a O
 lO:O.length=n
 g:MT w gb G
 ne:a≠ob
 hB:B<=a/\B<=rb/\B<=w.heap.size
 nco:n<=co
 nn:0<n/\n<=1000000/\t<=n
 gc:G.length<=cg/\G.length<=1000000
def aW(L:List Nat):Nat->Nat:=fun p=>L.getD p 0
def Ir(w:World)(B a mb bo bm bl n co cm:Nat)(q key:Nat->Nat)(G:List (Nat×Nat))(k:Nat)(wr:World):Prop:=
 ∃(q':Nat->Nat) (O' M':List Nat) (lv:Value) (done:List (Nat×Nat)) (x:Nat),
  Sta n q' (aW O') (aW M') done x x (G.drop k)/\Rnd n q key q' (aW O') (G.drop k)/\xq wr w.heap.size a mb bo bm bl n co cm O' M' lv done/\al B [a] [] w wr
theorem Lf(L:List Nat):∃K,∀i,aW L i<K:=by
 induction L with
 | nil=>exact⟨1,fun i=>by simp[aW]⟩
 | cons x L ih=>
  obtain⟨K,hK⟩:=ih;refine⟨K+x+1,fun i=> ?_⟩
  cases i with
  | zero=>show x<_;omega
  | succ i=>have:=hK i;show aW L i<_;omega
def yL(w:World)(B a mb bo bm bl n co cm:Nat)(q key:Nat->Nat)(rest:List (Nat×Nat))(f tt bg fr c:Nat)(wi:World):Prop:=
 ∃(q2:Nat->Nat) (O2 M2:List Nat) (lv:Value) (done:List (Nat×Nat)),
  Sta n q2 (aW O2) (aW M2) done fr tt rest/\Rnd n q key q2 (aW O2) rest/\xq wi w.heap.size a mb bo bm bl n co cm O2 M2 lv done/\al B [a] [] w wi/\
  Blk wi bg 184 #[.int .i64 f,.int .i64 tt]/\(∀ j,lv.ownBlock=some j->j≠bg)/\(f<=fr/\fr<c/\c<=tt)/\(∀ p,fr<=p->p<c->q2 (aW O2 p)=q2 (aW O2 fr))/\
  (∀ p r,f<=p->p<tt->f<=r->r<tt->(q2 (aW O2 p)=q2 (aW O2 r)↔key (aW O2 p)=key (aW O2 r)))
section
variable {w wi:World} {B a mb bo bm bl n co cm:Nat} {q key:Nat->Nat} {rest:List (Nat×Nat)} {f tt bg fr c:Nat}
theorem Ak{q1:Nat->Nat}{O1 M1 O2:List Nat}{lv:Value}{done:List (Nat×Nat)}{x:Nat}{wr w3:World}(h6:Sta n q1 (aW O1) (aW M1) done x x ((f,tt)::rest))(hi:Rnd n q key q1 (aW O1) ((f,tt)::rest))
 (h0:xq wr w.heap.size a mb bo bm bl n co cm O1 M1 lv done) (h5:al B [a] [] w wr) (hB:B<=w.heap.size) (hK:∃K,∀i,key i<K)
 (h3:vG n f tt key O1 O2) (hk:dh w3 a O2) (h7:al B [a] [] (wr.alloc (.cells #[.int .i64 f,.int .i64 tt] 184)) w3):yL w B a mb bo bm bl n co cm q key rest f tt wr.heap.size f (f+1) w3:=by
 obtain⟨K,hK⟩:=hK;obtain⟨q2,h1,h2⟩:=vq q1 key (q1 (aW O1 f)) K hK;have h9:=h6.grp (f,tt) (.inr Nl);have hn:f<tt:=h9.1;have h8:=h9.2.2;simp only at h8;have h4:∀p,f<=p->p<tt->q1 (aW O2 p)=q1 (aW O1 f):=by intro p ha hc;obtain⟨r,hg,hh,e⟩:=h3.of p ha hc;have e':aW O2 p=aW O1 r:=e;rw[e'];exact(h8 r f hg hh (by omega)).2 ⟨Nm _,hn⟩
 have s1:al wr.heap.size [] [] wr (wr.alloc (.cells #[.int .i64 f,.int .i64 tt] 184)):=(al.refl _ _ _ wr).alloc (ah _) _;have hz:=h5.size;have ho:=h7.size;simp at ho;have hl:∀{g:Nat} {t:TypeId} {cs:Array Value},Blk wr g t cs->t≠3->g∉ [a]:=by intro g t cs hb he;obtain⟨ds,hd,_⟩:=h0.rO;simpa using gl hb hd he
 have carry:∀{g:Nat} {t:TypeId} {cs:Array Value},Blk wr g t cs->t≠3->Blk w3 g t cs:=fun hb he=>h7.blk (s1.blk hb (by simp) (by simp)) (hl hb he) (by simp)
 have hm:Blk w3 wr.heap.size 184 #[.int .i64 f,.int .i64 tt]:=h7.blk (aj wr 184 _) (by
  have:=h0.rO.lt
  simp;omega) (by simp)
 have hf:w3.ownsRow w.heap.size 184 2 lv done.length (iQ done):=h7.row (s1.row h0.left (by simp) (by simp)) (fun j hj=>by
  obtain⟨ds,hd,_⟩:=s1.irow h0.rO (by simp) (by simp)
  have:=dJ (s1.row h0.left (by simp) (by simp)) hd (by decide) j hj
  simpa using this) (by simp)
 refine⟨q2,O2,M1,lv,done,h6.parted key q2 (aW O2) h1 h2 h3.out h3.of h3.has h3.sorted,hi.parted h6 q2 (aW O2) h1 h2 h3.out h3.of,?_,?_,hm,?_,⟨Nm _,by omega,by omega⟩,?_,?_⟩;·exact⟨carry h0.qo (by decide),carry h0.qm (by decide),carry h0.ql (by decide),hk,h7.irow (s1.irow h0.rM (by simp) (by simp)) (by simpa using fun e=>h0.ne e.symm) (by simp),h3.len,h0.lM,h0.nco,h0.ne,hf,h0.hB.1,h0.hB.2.1,by omega⟩
 ·exact(h5.trans ((s1.mono (by omega) (by simp) (by simp)))).trans h7
 ·intro j hj;have:=(h0.left.lt j hj).2;omega
 ·intro p ha hc;rw[show p=f by omega]
 ·intro p r ha hc hg hh;rw[h2,h4 p ha hc,h4 r hg hh];exact⟨fun h=>h.2 rfl,fun h=>⟨rfl,fun _=>h⟩⟩
theorem t6{q2:Nat->Nat}{O2 M2 M3:List Nat}{lv lv3:Value}{done:List (Nat×Nat)}{w3:World}(hB:B<=w.heap.size)
 (h3:Sta n q2 (aW O2) (aW M2) done fr tt rest) (h0:xq wi w.heap.size a mb bo bm bl n co cm O2 M2 lv done) (h5:al B [a] [] w wi)
 (h6:Blk wi bg 184 #[.int .i64 f,.int .i64 tt]) (h7:∀j,lv.ownBlock=some j->j≠bg) (h1:fr<c) (h2:c<=tt) (ha:∀p,fr<=p->p<c->q2 (aW O2 p)=q2 (aW O2 fr)) (hb:c<tt->q2 (aW O2 c)≠q2 (aW O2 fr))
 (h4:yK O2 M2 M3 fr c) (h9:lv3.ownBlock=lv.ownBlock\/∀k,lv3.ownBlock=some k->wi.heap.size<=k) (h8:al w.heap.size (mb::bl::lv.ownBlock.toList) [] wi w3):
 Sta n q2 (aW O2) (aW M3) (x9 done fr c) c tt rest/\al B [a] [] w w3/\Blk w3 bg 184 #[.int .i64 f,.int .i64 tt]/\(∀ j,lv3.ownBlock=some j->j≠bg):=by
 have hc:=h3.ab.2;refine⟨?_,?_,?_,?_⟩;·refine h3.give c h1 h2 ha hb (aW M3) h4.1 fun p hp ho=> ?_;refine h4.2 (aW O2 p) fun r hr1 hr2 e=> ?_;have:=h3.inj (p:=r) (r:=p) (by omega) hp e;omega
 ·refine h5.after h8 hB (fun i hi=> ?_) (by simp);rcases List.mem_cons.1 hi with rfl|hi;·exact .inr h0.hB.1
  ·rcases List.mem_cons.1 hi with rfl|hi;·exact .inr h0.hB.2.1
   ·exact .inr (h0.left.lt i (Option.mem_toList.1 hi)).1
 ·refine h8.blk h6 (fun hi=> ?_) (by simp);rcases List.mem_cons.1 hi with e|hi;·obtain⟨ds,hd,_⟩:=h0.rM;exact gl h6 hd (by decide) e
  ·rcases List.mem_cons.1 hi with e|hi;·exact gl h6 h0.ql (by decide) e
   ·exact h7 bg (Option.mem_toList.1 hi) rfl
 ·intro j hj e;have he:=az h6;rcases h9 with h|h;·exact h7 j (by rw[<- h];exact hj) e
  ·have:=h j hj;omega
end
def vH(w:World)(B a rb n t:Nat)(q key:Nat->Nat)(e:Ending)(w':World):Prop:=
 ∃(lv:Value) (mb cm:Nat) (M' O':List Nat) (G':List (Nat×Nat)),e=.returned lv/\pK w' rb mb n cm t/\dh w' mb M'/\M'.length=n/\dh w' a O'/\O'.length=n/\a≠mb/\w.heap.size<=mb/\
  w'.ownsRow w.heap.size 184 2 lv G'.length (iQ G')/\Sta n (aW M') (aW O') (aW M') [] 0 0 G'/\D7 n q key (aW M')/\al B [a,rb] [] w w'
theorem G1(N:Nat)(S:nK N)(w:World)(B a rb ob gb n co c cg t:Nat)(R O:List Nat)(G:List (Nat×Nat))(q:Nat->Nat)(hp:It w B a rb ob gb n co c cg t R O G)(hN:n<=N)
 (hs:Sta n q (aW O) (aW R) [] 0 0 G):
 Calls prog 142 #[rp rb,.slice (some ⟨a,0,none⟩) n co,.slice (some ⟨gb,0,none⟩) G.length cg] w (vH w B a rb n t q (dO n t (aW R))):=by
 have HP:=aa hp;have HS:=aa hs;clear hp hs;have r0:=ac HP.out.r 0;have rlt:=az HP.out.r;have alt:=HP.out.rO.lt;simp at r0;go_enter func142,ntmps142;go_wp2_with fail;refine(m6 (w.alloc (.cells #[.slice (some ⟨a,0,none⟩) n co] 57)) ob n c R (((al.refl w.heap.size [] [] w).alloc (ah _) _).irow HP.out.rR (by simp) (by simp)) HP.out.lR HP.out.nn.1 HP.out.nn.2.1).mono ?_;rintro e w1 ⟨mb,cm,rfl,HW,HB,H0,hT⟩;have HO:=hT.size;simp at H0 HO;have HF:=aa HB;have HD:=aa hT;clear HB hT;go_wp2_with fail;have start:Ir w B a mb w.heap.size w1.heap.size (w1.heap.size+1) n co cm q (dO n t (aW R)) G 0 ((w1.alloc (.cells #[.slice (some ⟨mb,0,none⟩) n cm] 57)).alloc (.cells #[.slice none 0 0] 185)):=by
  have s0:al w.heap.size [] [] w (w.alloc (.cells #[.slice (some ⟨a,0,none⟩) n co] 57)):=(al.refl _ _ _ w).alloc (ah _) _;have s1:al (w.alloc (.cells #[.slice (some ⟨a,0,none⟩) n co] 57)).heap.size [] [] (w.alloc (.cells #[.slice (some ⟨a,0,none⟩) n co] 57)) w1:=an HD.out;have s2:al w1.heap.size [] [] w1 ((w1.alloc (.cells #[.slice (some ⟨mb,0,none⟩) n cm] 57)).alloc (.cells #[.slice none 0 0] 185)):=((al.refl _ _ _ w1).alloc (ah _) _).alloc (by simp) _;refine⟨q,O,R,.slice none 0 0, [],0,HS.out,GZ HS.out _,⟨?_,?_,?_,?_,?_,HP.out.lO,HP.out.lR,HP.out.nco,by omega,Ns _ _ _ _,by omega,by omega,?_⟩,?_⟩;·exact s2.blk (s1.blk (aj w 57 _) (by simp) (by simp)) (by simp) (by simp)
  ·exact(((al.refl (w1.heap.size+1) [] [] _).alloc (by simp) _).blk (aj w1 57 _) (by simp) (by simp))
  ·exact(by simpa using aj (w1.alloc (.cells #[.slice (some ⟨mb,0,none⟩) n cm] 57)) 185 #[.slice none 0 0]:Blk _ (w1.heap.size+1) 185 _)
  ·exact s2.irow (s1.irow (s0.irow HP.out.rO (by simp) (by simp)) (by simp) (by simp)) (by simp) (by simp)
  ·exact s2.irow HF.out (by simp) (by simp)
  ·simp;omega
  ·have hB:=HP.out.hB;exact((s0.mono hB.2.2 (by simp) (by simp)).trans (s1.mono (by simp;omega) (by simp) (by simp))).trans (s2.mono (by omega) (by simp) (by simp))
 have START:=aa start;clear start;generalize (w1.alloc (.cells #[.slice (some ⟨mb,0,none⟩) n cm] 57)).alloc (.cells #[.slice none 0 0] 185)=W1 at*;generalize w1.heap.size=bm at*;obtain⟨bo,HT⟩:∃bo,bo=w.heap.size:=⟨_,rfl⟩;go_loopw [22] (fun x wr=>∃k:Nat,k<=G.length/\x=.int .i64 k/\Ir w B a mb w.heap.size bm (bm+1) n co cm q (dO n t (aW R)) G k wr) (fun x _=>G.length-(intOf x).toNat)
 case atStart=>exact⟨0,Nh _,rfl,START.out⟩
 case round=>
  obtain⟨k,hk,rfl,hE⟩:=hrel;by_cases H1:k<G.length
  ·obtain⟨q1,O1,M1,lv,done,x,h2,h4,h1,h0⟩:=hE;obtain⟨f,hf⟩:∃f,f=G[k].1:=⟨_,rfl⟩;obtain⟨tt,hM⟩:∃tt,tt=G[k].2:=⟨_,rfl⟩;obtain⟨gs,hV,hX⟩:=HP.out.g
   have hn:=h0.blk hV (by
    obtain⟨cs,hb,_⟩:=HP.out.rO
    simpa using gl hV hb (by decide)) (by simp)
   have g0:wr.cell? ⟨gb,k*2,none⟩=some (.int .i64 f):=(by rw[ac hn,Oq,(hX k H1).1,hf];rfl);have g1:wr.cell? ⟨gb,k*2+1,none⟩=some (.int .i64 tt):=(by rw[ac hn,Oq,(hX k H1).2,hM];rfl);have H5:G[k]=(f,tt):=(by rw[hf,hM]);have hg:G.drop k=(f,tt)::G.drop (k+1):=(by rw[NP H1,H5]);rw[hg]at h2 h4;have ho:=h2.grp (f,tt) (.inr Nl);have HJ:f<tt:=ho.1;have HN:tt<=n:=ho.2.1;have hS:=aa h2;have hR:=aa h4;have h3:=aa h1;have h7:=aa h0;have HQ:=aa hM;have b0:=ac h1.qo 0
   have r1:=h0.blk HP.out.r (by
    obtain⟨cs,hb,_⟩:=HP.out.rO
    simpa using gl HP.out.r hb (by decide)) (by simp)
   have r2:=h0.irow HP.out.rR (by simpa using fun e=>HP.out.ne e.symm) (by simp);have hC:=h2.low;have hy:=fun p r=>h2.inj (p:=p) (r:=r);have hA:=h1.lO;have HC:=h1.rO;simp at b0;have s1:al wr.heap.size [] [] wr (wr.alloc (.cells #[.int .i64 f,.int .i64 tt] 184)):=(al.refl _ _ _ wr).alloc (ah _) _;have hh:=LR N S (wr.alloc (.cells #[.int .i64 f,.int .i64 tt] 184)) B rb ob a n c t f tt (co-f) R O1 (s1.blk r1 (by simp) (by simp)) (s1.irow r2 (by simp) (by simp)) HP.out.lR (s1.irow HC (by simp) (by simp)) hA hC hy HJ HN (by omega) HP.out.nn.2.2 HP.out.nn.2.1 HP.out.hB.1 HP.out.ne;have ht:=aa hh;have HM:=HP.out.nco;have HY:=HP.out.nn.2.1;have HX:=HP.out.gc.2;have HV:¬co=f:=(by omega);have e1:(f:Int)<=(tt:Int):=(by omega);have e2:(tt:Int)<=(co:Int):=(by omega);have HG:=az h1.qo;clear h2 h4 h1 h0 hf hM H5 hg ho hV hn hX hh s1 r1 r2 hC hy hA HC;go_wp2_with fail;refine ht.out.mono ?_;rintro e w3 ⟨rfl,O2,hG,hH,hI⟩
   have inner:yL w B a mb w.heap.size bm (bm+1) n co cm q (dO n t (aW R)) (G.drop (k+1)) f tt wr.heap.size f (f+1) w3:=
    Ak hS.out hR.out h3.out h7.out HP.out.hB.2.2 (by obtain⟨K,hK⟩:=Lf R;exact⟨K,fun i=>hK _⟩) hG hH hI
   have HE:=aa inner;have q3:Blk w3 wr.heap.size 184 #[.int .i64 f,.int .i64 tt]:=(by obtain⟨_,_,_,_,_,_,_,_,_,h,_⟩:=inner;exact h);have q30:=ac q3 0;have q31:=ac q3 1;simp at q30 q31;clear inner hG hH hI q3;go_wp2_with fail;obtain⟨wo,rfl⟩:∃wo,wo=wr:=⟨_,rfl⟩;(go_loopw [12,13] (fun x y wi=>∃fr c:Nat,x=.int .i64 fr/\y=.int .i64 c/\yL w B a mb w.heap.size bm (bm+1) n co cm q (dO n t (aW R)) (G.drop (k+1)) f tt wo.heap.size fr c wi) (fun _ y _=>tt-(intOf y).toNat));case atStart=>exact⟨f,f+1,rfl,by go_num,HE.out⟩
   case round=>
    obtain⟨fr,cc,rfl,rfl,q2,O2,M2,lv2,done2,h2,h4,h1,h0,hL,HA,hq,H4,hz⟩:=hrel;have HK:=ac hL 0;have HL:=ac hL 1;have b0:=ac h1.qo 0;simp at HK HL b0;have HR:=h2.ab.2;have HI:=h2.few;have hA:=h1.lO;have ISTA:=aa h2;have IRND:=aa h4;have IMEM:=aa h1;have ISTEP:=aa h0;have IBG:=aa hL;have ILV:=aa HA;have IEQ:=aa H4;have IKEY:=aa hz;have ILO:=aa hA;clear h2 h4 h1 h0 hL HA H4 hz hA;by_cases HH:cc<tt
    ·have ca:=IMEM.out.rO.cell (i:=cc) (by rw[ILO.out];omega);have cf:=IMEM.out.rO.cell (i:=fr) (by rw[ILO.out];omega);obtain⟨u,hu⟩:∃u,u=O2.getD cc 0:=⟨_,rfl⟩;obtain⟨v,hv⟩:∃v,v=O2.getD fr 0:=⟨_,rfl⟩;have HZ:u<n:=(by rw[hu];exact ISTA.out.low cc (by omega));have p0:v<n:=(by rw[hv];exact ISTA.out.low fr (by omega));have H8:=IKEY.out cc fr (by omega) HH hq.1 (by omega);rw[<- hu]at ca;rw[<- hv]at cf;have ha:q2 (aW O2 cc)=q2 (aW O2 fr)↔dO n t (aW R) u=dO n t (aW R) v:=by rw[hu,hv];exact H8
     have r1:=ISTEP.out.blk HP.out.r (by
      obtain⟨cs,hb,_⟩:=HP.out.rO
      simpa using gl HP.out.r hb (by decide)) (by simp)
     have r2:=ISTEP.out.irow HP.out.rR (by simpa using fun e=>HP.out.ne e.symm) (by simp);have HU:=aa fun(i:Nat) (hi:i<n) (W:World) (hW:W.heap=wr.heap)=>(mz W rb ob n c t i R (by unfold pK Blk;rw[hW];exact r1) (by obtain⟨cs,hb,hc⟩:=r2;exact⟨cs,by unfold Blk;rw[hW];exact hb,hc⟩) HP.out.lR hi HP.out.nn.2.2 HP.out.nn.2.1).mono fun e W' h=>(⟨h.1,0,h.2.symm⟩:e=.returned (.int .i64 (dO n t (aW R) i:Nat))/\∃m,W'=W.drewN m);clear H8 r1 r2 hu hv;have d1:decide ((cc:Int)<(tt:Int))=true:=aX (by omega);obtain⟨ku,hY⟩:∃ku,ku=dO n t (aW R) u:=⟨_,rfl⟩;obtain⟨kv,hZ⟩:∃kv,kv=dO n t (aW R) v:=⟨_,rfl⟩;rw[<- hY,<-hZ]at ha;have H2:=aa hY;have H3:=aa hZ;clear hY hZ;by_cases hr:ku=kv
     ·have hF:=ha.2 hr;have hQ:=aa hF;have d2:((ku:Int) != (kv:Int))=false:=(by rw[hr];simp);have d3:((ku:Int)==(kv:Int))=true:=(by rw[hr];simp);clear ha hF hr;go_wp2_with fail;rw[H2.out,H3.out]at d2 d3;go_quiet ((go_at_call 194;exact P8 (HU.out _ (by assumption) _ rfl)));go_wp2_with fail
      have hm:=aa (show yL w B a mb w.heap.size bm (bm+1) n co cm q (dO n t (aW R)) (G.drop (k+1)) f tt wo.heap.size fr (cc+1) (wr.drewN nq)from
       ⟨q2,O2,M2,lv2,done2,ISTA.out,IRND.out,IMEM.out.drewN nq,ISTEP.out.drewN nq,IBG.out,ILV.out,⟨hq.1,by omega,by omega⟩,fun p hp1 hp2=>by
         by_cases e:p=cc
         ·rw[e];exact hQ.out
         ·exact IEQ.out p hp1 (by omega),IKEY.out⟩)
      go_roundw;case rel=>exact⟨fr,cc+1,rfl,by go_num,hm.out⟩
      case measure=>simp[intOf];omega
     ·have hF:q2 (aW O2 cc)≠q2 (aW O2 fr):=fun e=>hr (ha.1 e);have hQ:=aa hF;have d2:((ku:Int) != (kv:Int))=true:=(by simp;omega);have d3:((ku:Int)==(kv:Int))=false:=(by simp;omega);clear ha hF hr;go_wp2_with fail;rw[H2.out,H3.out]at d2 d3;go_quiet ((go_at_call 194;exact P8 (HU.out _ (by assumption) _ rfl)));have h5:=Ac (wr.drewN nq) w.heap.size a mb w.heap.size bm (bm+1) n co cm fr cc O2 M2 lv2 done2 (IMEM.out.drewN nq) ISTA.out.low hq.2.1 (by omega) HP.out.nn.2.1 (by omega);have h6:=aa h5;clear h5;go_wp2_with fail;refine h6.out.mono ?_;rintro e w4 ⟨M3,lv3,rfl,hD,h9,hw,he⟩;obtain⟨s4,st4,bg4,lv4⟩:=t6 HP.out.hB.2.2 ISTA.out (IMEM.out.drewN nq) (ISTEP.out.drewN nq) IBG.out ILV.out hq.2.1 hq.2.2 IEQ.out (fun _=>hQ.out) h9 hw he
      have hm:=aa (show yL w B a mb w.heap.size bm (bm+1) n co cm q (dO n t (aW R)) (G.drop (k+1)) f tt wo.heap.size cc (cc+1) w4 from
       ⟨q2,O2,M3,lv3,_,s4,IRND.out,hD,st4,bg4,lv4,⟨by omega,by omega,by omega⟩,fun p hp1 hp2=>by rw[show p=cc by omega],IKEY.out⟩)
      clear hD h9 hw he s4 st4 bg4 lv4;go_wp2_with fail;go_roundw;case rel=>exact⟨cc,cc+1,rfl,by go_num,hm.out⟩
      case measure=>simp[intOf];omega
    ·have d1:decide ((cc:Int)<(tt:Int))=false:=aD (by omega);have h5:=Ac wr w.heap.size a mb w.heap.size bm (bm+1) n co cm fr cc O2 M2 lv2 done2 IMEM.out ISTA.out.low hq.2.1 (by omega) HP.out.nn.2.1 (by omega);have h6:=aa h5;obtain rfl:cc=tt:=(by omega);clear h5;go_wp2_with fail;refine h6.out.mono ?_;rintro e w4 ⟨M3,lv3,rfl,hD,h9,hw,he⟩;obtain⟨s4,st4,_,_⟩:=t6 HP.out.hB.2.2 ISTA.out IMEM.out ISTEP.out IBG.out ILV.out hq.2.1 (ah _) IEQ.out (fun h=>absurd h (Rd _)) h9 hw he;have hP:=aa (show Ir w B a mb w.heap.size bm (bm+1) n co cm q (dO n t (aW R)) G (k+1) w4 from⟨q2,O2,M3,lv3,_,cc,s4,IRND.out,hD,st4⟩);clear hD h9 hw he s4 st4;go_wp2_with fail;go_roundw;case rel=>exact⟨k+1,by omega,by go_num,hP.out⟩
     case measure=>simp[intOf];omega
  ·obtain⟨q1,O1,M1,lv,done,x,h2,h4,h1,h0⟩:=hE;have hd:G.drop k= []:=OY (by omega);rw[hd]at h2 h4;have hx:=h4.finer h2;have h8:=h2.again
   have r1:=h0.blk HP.out.r (by
    obtain⟨cs,hb,_⟩:=HP.out.rO
    simpa using gl HP.out.r hb (by decide)) (by simp)
   have m0:=ac h1.qm 0;have l0:=ac h1.ql 0;have c0:=ac r1 0;have c1:=ae r1 0;simp at m0 l0 c0;obtain⟨A2,c2,rfl,_,_,_⟩:=ak h1.left;(have l1:∀v,(wr.setCell ⟨rb,0,none⟩ v).cell? ⟨bm+1,0,none⟩=some (.slice A2 done.length c2):=fun v=>by rw[World.cell?_setCell_other _ _ _ _ (by intro e;simp only[Qi]at e;omega)];exact l0);have L1:=l1 (.slice (some ⟨mb,0,none⟩) n cm);have h3:=aa h1;have h7:=aa h0;have hl:=aa h8;have hO:=aa hx;have hJ:=aa r1;have d1:decide ((k:Int)<(G.length:Int))=false:=aD (by omega);clear h2 h4 h1 h0 hx h8 r1 hd l1 l0;go_wp2_with fail;go_ret;have sx:al B [rb] [] wr (wr.setCell ⟨rb,0,none⟩ (.slice (some ⟨mb,0,none⟩) n cm)):=(al.refl B _ _ wr).set HP.out.hB.2.1 (by simp) _;refine⟨_,mb,cm,M1,O1,done,rfl,?_,?_,h3.out.lM,?_,h3.out.lO,h3.out.ne,by omega,?_,hl.out,hO.out,?_⟩;·exact au hJ.out 0 _
   ·exact sx.irow h3.out.rM (by
     obtain⟨cs,hb,_⟩:=h3.out.rM
     simpa using fun e=>gl hJ.out hb (by decide) e.symm) (by simp)
   ·exact sx.irow h3.out.rO (by
     obtain⟨cs,hb,_⟩:=h3.out.rO
     simpa using fun e=>gl hJ.out hb (by decide) e.symm) (by simp)
   ·exact sx.row h3.out.left (fun j hj=>by
     have:=dJ h3.out.left hJ.out (by decide) j hj
     simpa using this) (by simp)
   ·exact(h7.out.mono (ah _) (by simp) (by simp)).trans (sx.mono (ah _) (by simp) (by simp))
theorem dh.zeros(w:World)(n:Nat):dh (w.alloc (.cells (madeCells #[.int .i64 0] n) 3)) w.heap.size (List.replicate n 0):=by refine⟨_,aj w 3 _,fun i hi=> ?_⟩;rw[NE]at hi;rw[<- QP,Qy,Pm,Ng hi];rw[Nb,Pm,Ng hi];rfl
def Iq(w:World)(a ob rb:Nat)(s:List UInt8)(k:Nat)(wr:World):Prop:=
 ∃O R:List Nat,O.length=s.length/\R.length=s.length/\dh wr a O/\dh wr ob R/\pK wr rb ob s.length s.length 0/\
  (∀ p,p<k->aW O p=p)/\(∀ p,p<k->aW R p=(rat s p).toNat)/\Below w.heap.size w wr
theorem Gn{w wr:World}{a ob rb:Nat}{s:List UInt8}{k:Nat}{O R:List Nat}(ha:w.heap.size<=a)(h0:a<ob)(h3:ob<rb)(hk:k<s.length)(hO:O.length=s.length)(hR:R.length=s.length)(rO:dh wr a O)(rR:dh wr ob R)
 (hr:pK wr rb ob s.length s.length 0) (h1:∀p,p<k->aW O p=p) (h2:∀p,p<k->aW R p=(rat s p).toNat) (hb:Below w.heap.size w wr) (m:Nat):
 Iq w a ob rb s (k+1) (((wr.setCell ⟨a,k,none⟩ (.int .i64 k)).setCell ⟨ob,k,none⟩ (.int .i64 ((rat s k).toNat:Nat))).drewN m):=by
 have s1:al w.heap.size [a] [] wr (wr.setCell ⟨a,k,none⟩ (.int .i64 k)):=(al.refl w.heap.size [a] [] wr).set (p:=⟨a,k,none⟩) ha Nl _
 have s2:al w.heap.size [ob] [] (wr.setCell ⟨a,k,none⟩ (.int .i64 k)) ((wr.setCell ⟨a,k,none⟩ (.int .i64 k)).setCell ⟨ob,k,none⟩ (.int .i64 ((rat s k).toNat:Nat))):=
  (al.refl w.heap.size [ob] [] _).set (p:=⟨ob,k,none⟩) (by show _<=ob;omega) Nl _
 refine⟨O.set k k,R.set k (rat s k).toNat,by rw[Qb];exact hO,by rw[Qb];exact hR,?_,?_,?_,fun p hp=> ?_,fun p hp=> ?_,?_⟩;·exact s2.irow (rO.set (i:=k) (by omega) k) (by simp;omega) (by simp)
 ·exact(s1.irow rR (by simp;omega) (by simp)).set (i:=k) (by omega) _
 ·exact s2.blk (s1.blk hr (by simp;omega) (by simp)) (by simp;omega) (by simp)
 ·unfold aW;rw[mB _ _ _ _ (by omega)];split;·rename_i e;exact e.symm
  ·exact h1 p (by omega)
 ·unfold aW;rw[mB _ _ _ _ (by omega)];split;·rename_i e;rw[e]
  ·exact h2 p (by omega)
 ·exact ay ((hb.trans (s1.below)).trans s2.below) m
theorem nM(w:World)(o:Obj):al w.heap.size [] [] w (w.alloc o):=(al.refl _ _ _ w).alloc (ah _) o
theorem sJ(w:World)(o:Obj):(w.alloc o).heap.size=w.heap.size+1:=by simp
theorem C0(w:World)(s:ByteArray):Iq w w.heap.size (w.heap.size+1) (w.heap.size+1+1) s.data.toList 0
 (((w.alloc (.cells (madeCells #[.int .i64 0] s.size) 3)).alloc (.cells (madeCells #[.int .i64 0] s.size) 3)).alloc (.cells #[.slice (some ⟨w.heap.size+1,0,none⟩) s.size s.size,.int .i64 0] 182)):=by
 have h0:s.data.toList.length=s.size:=rfl;have r1:=dh.zeros w s.size;have z1:=sJ w (.cells (madeCells #[.int .i64 0] s.size) 3);have b1:Below w.heap.size w (w.alloc (.cells (madeCells #[.int .i64 0] s.size) 3)):=(Nj _ w).alloc (ah _) _;generalize w.alloc (.cells (madeCells #[.int .i64 0] s.size) 3)=w1 at*;have r2:=dh.zeros w1 s.size;have z2:=sJ w1 (.cells (madeCells #[.int .i64 0] s.size) 3);have s2:=nM w1 (.cells (madeCells #[.int .i64 0] s.size) 3);generalize w1.alloc (.cells (madeCells #[.int .i64 0] s.size) 3)=w2 at*;have s3:=nM w2 (.cells #[.slice (some ⟨w.heap.size+1,0,none⟩) s.size s.size,.int .i64 0] 182);have r3:=aj w2 182 #[.slice (some ⟨w.heap.size+1,0,none⟩) s.size s.size,.int .i64 0];generalize w2.alloc (.cells #[.slice (some ⟨w.heap.size+1,0,none⟩) s.size s.size,.int .i64 0] 182)=w3 at*;refine⟨List.replicate s.size 0,List.replicate s.size 0,by rw[NE];exact h0.symm,by rw[NE];exact h0.symm,s3.irow (s2.irow r1 ar ar) ar ar,?_,?_,fun p h=>by omega,fun p h=>by omega,?_⟩;·have:=s3.irow r2 ar ar;rwa [z1]at this
 ·unfold pK;rw[h0];rwa [z2,z1]at r3
 ·exact(b1.trans (s2.below.mono (by omega))).trans (s3.below.mono (by omega))
theorem Hi(n:Nat)(O M:Nat->Nat)(h:0<n)(hO:∀p,p<n->O p=p):Sta n (fun _=>0) O M [] 0 0 [(0,n)]:=by
 refine⟨fun p hp=>by rw[hO p hp];exact hp,fun i hi=>⟨i,hi,hO i hi⟩,fun p r h1 h2=>.inr ⟨rfl,by rw[hO p (by omega),hO r h2];exact h1⟩,?_,fun g hg=>absurd hg ar,?_,?_,⟨Nm _,Nh _⟩,fun p r h1 h2=>by omega⟩
 ·rintro g (hg|hg);·exact absurd hg ar
  ·rw[List.mem_singleton.1 hg];exact⟨h,Nm _,fun p r h1 h2 h3=>⟨fun _=>⟨Nh _,h3⟩,fun _=>rfl⟩⟩
 ·intro p hp _ hg;have:=hg (0,n) (.inr Nl);simp only at this;omega
 ·simp
def K7(w:World)(rb n:Nat)(s:List UInt8)(g:Nat)(v:Value)(wr:World):Prop:=
 ∃(t:Nat) (O R:List Nat) (G:List (Nat×Nat)) (ob c:Nat),n-t<=g/\wr.ownsRow w.heap.size 184 2 v G.length (iQ G)/\pK wr rb ob n c t/\dh wr ob R/\R.length=n/\dh wr w.heap.size O/\O.length=n/\w.heap.size≠ob/\Below w.heap.size w wr/\G.length<=1000000/\t<=2000000/\
  ((t=0/\G= [(0,n)]/\(∀ p,p<n->aW O p=p)/\∀p,p<n->aW R p=(rat s p).toNat)\/(1<=t/\Sta n (aW R) (aW O) (aW R) [] 0 0 G/\Sem s t (aW R)))
def D8(w:World)(s:List UInt8)(e:Ending)(w':World):Prop:=
 ∃(g:Nat) (L:List Nat),e=.returned (.slice (some ⟨g,0,none⟩) s.length s.length)/\dh w' g L/\eT s L/\w.heap.size<=g/\Below w.heap.size w w'
theorem AF{w wr:World}{rb n g:Nat}{s:List UInt8}{v:Value}(h:K7 w rb n s g v wr)(hn:s.length=n)(he:∀(t:Nat) (G:List (Nat×Nat)) (ob c:Nat),wr.ownsRow w.heap.size 184 2 v G.length (iQ G)->pK wr rb ob n c t->(G= []\/n<=t)):
 D8 w s (.returned (.slice (some ⟨w.heap.size,0,none⟩) s.length s.length)) wr:=by
 obtain⟨t,O,R,G,ob,c,_,h3,hr,hR,h9,hO,h6,ha,hb,_,_,h2⟩:=h;refine⟨w.heap.size,O,rfl,hO,?_,Nm _,hb⟩;have h1:=he t G ob c h3 hr;rcases h2 with⟨rfl,rfl,_,_⟩|⟨h8,h5,h4⟩
 ·have h7:n=0:=by
   rcases h1 with h1|h1;·cases h1
   ·omega
  have h0:O= []:=Nw (by omega);subst h0;exact⟨List.Pairwise.nil,fun i=>by rw[hn,h7];simp⟩
 ·subst hn;exact LU s O (aW R) G t h6 h5 h4 h1
theorem Ae{w:World}{B:Nat}{v:Value}{G:List (Nat×Nat)}(h:w.ownsRow B 184 2 v G.length (iQ G))(h0:0<G.length):∃gb cg,v=.slice (some ⟨gb,0,none⟩) G.length cg/\G.length<=cg/\MT w gb G:=by
 rcases h.2 with⟨_,h1⟩|⟨gb,cg,cur,rfl,_,hh,h2,_,_,h3⟩;·omega
 ·refine⟨gb,cg,rfl,h2,cur,hh,fun k hk=> ?_⟩;have hf:=F8 G k hk;rw[<- h3]at hf;rw[PY (by omega),PY (by omega)]at hf;simpa using hf
theorem GC{w wr w2:World}{rb n t:Nat}{s:List UInt8}{q:Nat->Nat}{R:List Nat}{e:Ending}(hn:s.length=n)(ht:t<n)(hk:n<=1000000)(hf:rb≠w.heap.size)(hg:w.heap.size<=rb)(h8:Below w.heap.size w wr)
 (hq:(t=0/\q=(fun _=>0)/\∀p,p<n->aW R p=(rat s p).toNat)\/(1<=t/\q=aW R/\Sem s t (aW R))) (h:vH wr w.heap.size w.heap.size rb n t q (dO n t (aW R)) e w2):
 ∃v mb cm,e=.returned v/\pK w2 rb mb n cm t/\∀t':Nat,t'=(if 2*t<1 then 1 else 2*t)->K7 w rb n s (n-t') v (w2.setCell ⟨rb,1,none⟩ (.int .i64 t')):=by
 obtain⟨v,mb,cm,M',O',G',rfl,hr,hM,ha,hO,hc,he,hi,h6,h4,h5,hh⟩:=h;refine⟨v,mb,cm,rfl,hr,fun t' ht'=> ?_⟩;have hz:=h8.size;have sx:al w.heap.size [rb] [] w2 (w2.setCell ⟨rb,1,none⟩ (.int .i64 t')):=(al.refl w.heap.size [rb] [] w2).set (p:=⟨rb,1,none⟩) hg Nl _;have h9:=h4.few
 have h0:(w2.setCell ⟨rb,1,none⟩ (.int .i64 t')).ownsRow wr.heap.size 184 2 v G'.length (iQ G'):=sx.row h6 (fun j hj=>by
  have:=dJ h6 hr (by decide) j hj
  simpa using this) ar
 refine⟨t',O',M',G',mb,cm,Nm _,⟨h0.1,?_⟩,?_,?_,ha,?_,hc,he,?_,by omega,?_,?_⟩
 ·rcases h0.2 with h1|⟨g,cap,cur,h1,h2,h3⟩;·exact .inl h1
  ·exact .inr ⟨g,cap,cur,h1,by omega,h3⟩
 ·exact au hr 1 _
 ·exact sx.irow hM (by
   obtain⟨cs,hb,_⟩:=hM
   simpa using fun e=>gl hr hb (by decide) e.symm) ar
 ·exact sx.irow hO (by simpa using fun e=>hf e.symm) ar
 ·exact h8.trans (hh.below.trans sx.below)
 ·rw[ht'];split <;>omega
 ·subst hn;rcases hq with⟨rfl,rfl,hR⟩|⟨h1,rfl,h7⟩;·have e1:t'=1:=(by rw[ht',Ng (by omega)]);refine .inr ⟨by omega,h4,?_⟩;rw[e1];exact Hc s (aW R) (aW M') hR h5
  ·have e1:t'=t+t:=(by rw[ht',Nf (by omega)];omega);refine .inr ⟨by omega,h4,?_⟩;rw[e1];exact Kn s t (aW R) (aW M') ht h7 h5
theorem qw(N:Nat)(S:nK N)(w:World)(s:ByteArray)(hN:s.size<=N)(hs:s.size<=1000000):
 Calls prog 88 #[.string s] w (D8 w s.data.toList):=by
 obtain⟨i3,h3,hJ,hK,hL⟩:=NY Tryz.info3;have hM:∀w1:World,(Instr.makeSlice 57 (.int .i64 s.size) (.int .i64 s.size)).run prog w1=.ok (.slice (some ⟨w1.heap.size,0,none⟩) s.size s.size) (w1.alloc (.cells (madeCells #[.int .i64 0] s.size) 3)):=by intro w1;have h:=QZ (P:=prog) w1 57 3 i3 (.int .i64 0) underlying57 h3 hJ .i64 .i64 (s.size:Int) (s.size:Int) (by omega) (by omega) (by rw[hL];omega) (by omega);rw[hK,Nn,Of]at h;exact h
 have hC:s.data.toList.length=s.size:=rfl;have h7:=aa hC;clear hC;go_enter func88,ntmps88;go_wp2_with fail;have start:=C0 w s;obtain⟨a,ha⟩:∃a,a=w.heap.size:=⟨_,rfl⟩;obtain⟨ob,hz⟩:∃ob,ob=w.heap.size+1:=⟨_,rfl⟩;obtain⟨rb,hA⟩:∃rb,rb=w.heap.size+1+1:=⟨_,rfl⟩;have hG:ob<rb:=by omega
 rw[<- hA,<-hz]at start |-;generalize hWW:((w.alloc (.cells (madeCells #[.int .i64 0] s.size) 3)).alloc (.cells (madeCells #[.int .i64 0] s.size) 3)).alloc (.cells #[.slice (some ⟨ob,0,none⟩) s.size s.size,.int .i64 0] 182)=WW at start |-;clear hWW;have START:=aa start;clear start;have hv:w.heap.size<ob:=by omega
 clear hA hz ha;clear a;go_loopw [17] (fun x wr=>∃k:Nat,k<=s.size/\x=.int .i64 k/\Iq w w.heap.size ob rb s.data.toList k wr) (fun x _=>s.size-(intOf x).toNat)
 case atStart=>exact⟨0,Nh _,rfl,START.out⟩
 case round=>
  obtain⟨k,hk,rfl,O,R,hO,hR,rO,rR,hr,h1,h2,hb⟩:=hrel;by_cases hl:k<s.size
  ·have c0:=rO.cell (i:=k) (by rw[hO,h7.out];exact hl);have f0:=rO.frozen k;have r0:=ac hr 0;have c1:=rR.cell (i:=k) (by rw[hR,h7.out];exact hl);rw[h7.out]at r0;simp at r0;have hf:s[k]=rat s.data.toList k:=ED s k k (NJ hl).symm hl;obtain⟨y,hy⟩:∃y,y=s[k].toNat:=⟨_,rfl⟩;have hQ:IntKind.i64.wrap (s[k].toNat:Int)=(y:Int):=(by rw[hy];have:=s[k].toNat_lt;exact IntWalk.i64_in _ (by omega));have NEXT:=aa fun m=>Gn (ah _) hv hG (by rw[h7.out];exact hl) hO hR rO rR hr h1 h2 hb m;go_wp2_with fail;have s1:al w.heap.size [w.heap.size] [] wr (wr.setCell ⟨w.heap.size,k,none⟩ (.int .i64 k)):=(al.refl w.heap.size [w.heap.size] [] wr).set (p:=⟨w.heap.size,k,none⟩) (ah _) Nl _;have r0':=ac (s1.blk hr (by simp;omega) (by simp)) 0;have c1':=(s1.irow rR (by simp;omega) (by simp)).cell (i:=k) (by rw[hR,h7.out];exact hl);have f1':=(s1.irow rR (by simp;omega) (by simp)).frozen k;rw[h7.out]at r0';simp at r0';rw[<- hf,<-hy]at NEXT;clear c0 f0 r0 c1 s1 hO hR rO rR hr h1 h2 hb hf;generalize wr.setCell ⟨w.heap.size,k,none⟩ (.int .i64 k)=W2 at*;clear hy;go_region;go_wp2_with fail;go_roundw;case rel=>exact⟨k+1,by omega,by go_num,NEXT.out 1⟩
   case measure=>simp[intOf];omega
  ·obtain rfl:k=s.size:=(by omega);have ord:K7 w rb s.size s.data.toList s.size (.slice (some ⟨wr.heap.size,0,none⟩) 1 1) (wr.alloc (.cells #[.int .i64 0,.int .i64 s.size] 184)):=by
    have s1:=nM wr (.cells #[.int .i64 0,.int .i64 s.size] 184);rw[h7.out]at hO hR hr
    refine⟨0,O,R, [(0,s.size)],ob,s.size,by omega,⟨rfl,.inr ⟨wr.heap.size,1,_,rfl,hb.size,aj wr 184 _,Nm _,by unfold maxLen;omega,rfl,rfl⟩⟩,s1.blk hr ar ar,s1.irow rR ar ar,hR,
     s1.irow rO ar ar,hO,by omega,ap hb s1.below,by simp,by omega,.inl ⟨rfl,rfl,h1,h2⟩⟩
   have hu:=aa ord;clear ord hO hR rO rR hr h1 h2 hb;go_wp2_with fail;(go_loopg [6] s.size (fun g v wr=>K7 w rb s.size s.data.toList g v wr));case atStart=>exact hu.out
   case round=>
    have h4:=hrel;obtain⟨t,O,R,G,ob2,c,hg,h5,hr,hR,ho,hO,hn,hp,hb,hE,hP,h6⟩:=hrel;have c0:=ac hr 0;have c1:=ac hr 1;simp at c0 c1;by_cases hI:t<s.size
    ·by_cases hD:0<G.length
     ·obtain⟨gb,cg,rfl,hF,hx⟩:=Ae h5 hD;have hB:w.heap.size<=rb:=(by omega);have hH:rb≠w.heap.size:=(by omega);obtain⟨q,hq,hm⟩:∃q:Nat->Nat,((t=0/\q=(fun _=>0)/\∀p,p<s.size->aW R p=(rat s.data.toList p).toNat)\/(1<=t/\q=aW R/\Sem s.data.toList t (aW R)))/\Sta s.size q (aW O) (aW R) [] 0 0 G:=by
       rcases h6 with⟨h1,rfl,h2,h3⟩|⟨h1,h2,h3⟩;·exact⟨fun _=>0,.inl ⟨h1,rfl,h3⟩,Hi s.size (aW O) (aW R) (by omega) h2⟩
       ·exact⟨aW R,.inr ⟨h1,rfl,h3⟩,h2⟩
      have hc:=G1 N S wr w.heap.size w.heap.size rb ob2 gb s.size s.size c cg t R O G q ⟨hr,hR,ho,hO,hn,hx,hp,⟨Nm _,hB,hb.size⟩,Nm _,⟨by omega,hs,by omega⟩,⟨hF,hE⟩⟩ hN hm;have hj:=aa hc;have HQ:=aa hq;have HB:=aa hb;clear h4 h5 hr hR ho hO hn hp hb h6 hx hc hq hm;go_wp2_with fail;refine hj.out.mono ?_;intro e w2 hi;obtain⟨v,mb,cm,rfl,hw,hh⟩:=GC h7.out hI hs hH hB HB.out HQ.out hi;have k1:=ac hw 1;have k2:=ae hw 1;simp at k1;have he:=aa hh;clear hi hw hh;by_cases h0:2*t<1
      ·have ht:=aa (he.out 1 (Ng h0).symm);go_wp2_with fail;(go_roundg (s.size-1));case measure=>omega
       case rel=>rw[show max (1:Int) (2*(t:Int))=((1:Nat):Int) by omega];exact ht.out
      ·have ht:=aa (he.out (2*t) (Nf h0).symm);go_wp2_with fail;(go_roundg (s.size-2*t));case measure=>omega
       case rel=>rw[show max (1:Int) (2*(t:Int))=((2*t:Nat):Int) by omega];exact ht.out
     ·have h9:=AF h4 h7.out (fun t' G' ob' c' hown' hr'=>by
       left
       obtain⟨A1,c1,e1,_⟩:=ak h5
       obtain⟨A2,c2,e2,_⟩:=ak hown'
       rw[e1]at e2
       simp only[Ou]at e2
       exact Nw (by omega))
      obtain⟨A1,c1',rfl,_⟩:=ak h5;have h8:=aa h9;rw[h7.out]at h8;clear h4 h5 hr hR ho hO hn hp hb h6 h9;go_wp2_with fail;go_ret;exact h8.out
    ·have h9:=AF h4 h7.out (fun t' G' ob' c' hown' hr'=>by
      right
      have e1:=ac hr 1
      have e2:=ac hr' 1
      simp at e1 e2
      rw[e1]at e2
      simp at e2
      omega)
     obtain⟨A1,c1',rfl,_⟩:=ak h5;have h8:=aa h9;rw[h7.out]at h8;clear h4 h5 hr hR ho hO hn hp hb h6 h9;go_wp2_with fail;go_ret;exact h8.out
theorem qj(w:World)(g n c k i:Nat)(L:List Nat)(h:dh w g L)(hl:L.length=n)(hk:k<n)(hv:L.getD k 0=i)(h0:∀q,q<k->L.getD q 0≠i)(hn:n<=1000000):
 Calls prog 89 #[.slice (some ⟨g,0,none⟩) n c,.int .i64 i] w fun e w'=>e=.returned (.int .i64 k)/\w=w':=by
 have HH:=aa h;have HL:=aa hl;have HV:=aa hv;have h1:=aa h0;clear h hl hv h0;go_enter func89,ntmps89;go_wp2_with fail;go_loop [8] (fun x=>∃q:Nat,q<=k/\x=.int .i64 q) (fun x=>n-(intOf x).toNat)
 case atStart=>exact⟨0,Nh _,rfl⟩
 case round=>
  obtain⟨q,hq,rfl⟩:=hrel;have hc:=HH.out.cell (i:=q) (by rw[HL.out];omega);by_cases e:q=k;·subst e;rw[HV.out]at hc;have d2:((i:Int)==(i:Int))=true:=OK _;go_wp2_with fail;go_ret;exact⟨rfl,rfl⟩
  ·have h3:=h1.out q (by omega);obtain⟨v,h2⟩:∃v,v=L.getD q 0:=⟨_,rfl⟩;rw[<- h2]at hc h3;clear h2;have d2:((i:Int)==(v:Int))=false:=Qw (by omega);go_wp2_with fail;go_round;case rel=>exact⟨q+1,by omega,by go_num⟩
   case measure=>simp[intOf];omega
theorem wO{L:List Nat}(h:L.Nodup){i j:Nat}(hi:i<L.length)(hj:j<L.length)(e:L[i]=L[j]):i=j:=by
 have hp:=List.pairwise_iff_getElem.1 h;rcases OJ i j with h1|h1|h1;·exact absurd e (hp i j hi hj h1)
 ·exact h1
 ·exact absurd e.symm (hp j i hj hi h1)
def BG(s:List UInt8)(i k:Nat):Prop:=∃L,eT s L/\k<L.length/\L.getD k 0=i
theorem rm{s:List UInt8}{L:List Nat}(h:eT s L)(i:Nat)(hi:i<s.length):∃k,k<L.length/\L.getD k 0=i/\∀q,q<k->L.getD q 0≠i:=by have h0:=(h.2 i).2 hi;obtain⟨k,hk,e⟩:=Pt h0;refine⟨k,hk,by rw[Nb,Nd hk];exact e,fun q hq e2=> ?_⟩;rw[Nb,Nd (by omega)]at e2;have h5:L[q]=L[k]:=(show L[q]=i from e2).trans e.symm;have:=wO (jZ h) (by omega) hk h5;omega
