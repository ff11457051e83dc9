import Derived.Test.YthakcjehhlpjnaaGreatRows
import Derived.WalkKit
import Derived.WalkLawsBesides
import Derived.WalkSpells
import Derived.Below
import Derived.Maps.AppendAt
import Derived.Deep.Draws
import Derived.LoopTactic
import Derived.Deep.LoopGhost
import Derived.Lib.Hide
import Derived.Outline
import Derived.RegionTactic
import Derived.BigRegion
import Derived.BigQuiet
import Derived.Deep.QuietTactic
import Derived.Deep.DeepFit
import Derived.OwnWalk
import Derived.Laws.AppendOwn
import Derived.IntWalk
import Derived.Deep.DeepCutAuto
import Derived.Deep.RegionHeld3
import Derived.StillTailTactics
import Derived.Laws.BitsAllLaws
import Derived.Laws.IdiomStrings
import Derived.Laws.BytesArg
import Derived.Laws.StructEq
import Derived.Deep.AppendLies
import Derived.ProofKit
import Derived.OpenShut
import Derived.Carry
import Derived.ChangeMaps5
import Derived.ChangeSlices
import Derived.Deep.WholeRow
import Derived.Laws.Rows
import Derived.Laws.ResultCell
set_option maxRecDepth 100000
namespace Go.Proofs.YthakcjehhlpjnaaGreat
theorem az{α:Type _}{a:α}:a∉([]:List α):=List.not_mem_nil
theorem ah(n:Nat):n≤n:=Nat.le_refl n
theorem au{p:Prop}[Decidable p](h:¬p):decide p=false:=decide_eq_false h
theorem aC{p:Prop}[Decidable p](h:p):decide p=true:=decide_eq_true h
def aj(v:Nat):Nat→List Nat
 | 0=> []
 | n+1=>aj (v / 2) n++ [v % 2]
def val(l:List Nat):Nat:=l.foldl (fun a b=>2*a+b) 0
theorem af(n:Nat):∀v,(aj v n).length=n:=by
 induction n with
 | zero=>intro v;rfl
 | succ n ih=>intro v;simp[aj,ih]
theorem ik(b:Nat):∀v a,aj v (a+b)=aj (v / 2 ^ b) a++aj v b:=by
 induction b with
 | zero=>intro v a;simp[aj]
 | succ b ih=>
   intro v a
   show aj v (a+b+1)=_
   rw[aj,ih,aj,←List.append_assoc,Nat.div_div_eq_div_mul,Nat.pow_succ,Nat.mul_comm]
theorem jJ(l:List Nat)(b:Nat):val (l++ [b])=2*val l+b:=by simp[val]
theorem rx{p:List Nat→Prop}(h0:p [])(h1:∀m b,p m→p (m++ [b])):∀l,p l:=by
 have H:∀r:List Nat,p r.reverse:=by
  intro r
  induction r with
  | nil=>exact h0
  | cons b r ih=>rw[List.reverse_cons];exact h1 _ _ ih
 intro l
 have:=H l.reverse
 rwa [List.reverse_reverse]at this
theorem qP(m:List Nat):∀l,val (l++m)=val l*2 ^ m.length+val m:=by
 refine rx (p:=fun m=>∀l,val (l++m)=val l*2 ^ m.length+val m) ?_ ?_ m
 ·intro l;simp[val]
 ·intro m b ih l
  rw[← List.append_assoc,jJ,ih,jJ]
  simp[Nat.pow_succ]
  rw[Nat.mul_add,←Nat.mul_assoc,Nat.add_assoc]
  congr 1
  rw[Nat.mul_comm 2 (val l),Nat.mul_assoc,Nat.mul_comm 2]
theorem dD(n:Nat):∀v,val (aj v n)=v % 2 ^ n:=by
 induction n with
 | zero=>intro v;simp[aj,val,Nat.mod_one]
 | succ n ih=>
   intro v
   rw[aj,jJ,ih,Nat.pow_succ,Nat.mul_comm (2 ^ n) 2,Nat.mod_mul]
   omega
def aw(l:List Nat):Prop:=∀b∈l,b<2
theorem aJ(n:Nat):∀v,aw (aj v n):=by
 induction n with
 | zero=>intro v b h;simp[aj]at h
 | succ n ih=>
   intro v b h
   simp[aj]at h
   rcases h with h | h
   ·exact ih _ b h
   ·subst h;omega
theorem aw.append{a b:List Nat}(ha:aw a)(hb:aw b):aw (a++b):=by
 intro x hx
 rcases List.mem_append.1 hx with h | h
 ·exact ha x h
 ·exact hb x h
theorem aw.left{a b:List Nat}(h:aw (a++b)):aw a:=fun x hx=>h x (List.mem_append_left _ hx)
theorem aw.take{a:List Nat}(h:aw a)(n:Nat):aw (a.take n):=fun x hx=>h x (List.mem_of_mem_take hx)
theorem aw.drop{a:List Nat}(h:aw a)(n:Nat):aw (a.drop n):=fun x hx=>h x (List.mem_of_mem_drop hx)
theorem iA(l:List Nat):aw l→val l<2 ^ l.length:=by
 refine rx (p:=fun l=>aw l→val l<2 ^ l.length) ?_ ?_ l
 ·intro _;simp[val]
 ·intro m b ih h
  have h1:=ih h.left
  have h2:=h b (by simp)
  rw[jJ]
  simp[Nat.pow_succ]
  omega
theorem fP(l:List Nat):aw l→aj (val l) l.length=l:=by
 refine rx (p:=fun l=>aw l→aj (val l) l.length=l) ?_ ?_ l
 ·intro _;rfl
 ·intro m b ih h
  have h1:=ih h.left
  have h2:=h b (by simp)
  rw[List.length_append,List.length_singleton,aj,jJ,show(2*val m+b) / 2=val m by omega,h1,show(2*val m+b) % 2=b by omega]
def nr:Nat→List Nat→List UInt8
 | 0,_=> []
 | k+1,l=>if l= []then []else UInt8.ofNat (val (l.take 8)*2 ^ (8 - l.length)) :: nr k (l.drop 8)
def aG(l:List Nat):List UInt8:=nr l.length l
theorem ic(k:Nat):nr k []= []:=by cases k <;>simp[nr]
theorem rc(k:Nat):∀(l:List Nat),l.length≤k→nr k l=aG l:=by
 suffices H:∀(k j:Nat) (l:List Nat),l.length≤k→l.length≤j→nr k l=nr j l from fun l h=>H k l.length l h (ah _)
 intro k
 induction k with
 | zero=>
   intro j l h h'
   have:l= []:=List.eq_nil_of_length_eq_zero (by omega)
   subst this
   rw[ic,ic]
 | succ k ih=>
   intro j l h h'
   cases j with
   | zero=>
     have:l= []:=List.eq_nil_of_length_eq_zero (by omega)
     subst this
     rw[ic,ic]
   | succ j=>
     by_cases e:l= []
     ·subst e;rw[ic,ic]
     ·have hp:0<l.length:=List.length_pos_iff.2 e
      simp only[nr,e,if_false]
      rw[ih j (l.drop 8) (by simp;omega) (by simp;omega)]
theorem Et:aG []= []:=rfl
theorem oo(l:List Nat)(h:l≠ []):aG l=UInt8.ofNat (val (l.take 8)*2 ^ (8 - l.length)) :: aG (l.drop 8):=by
 have hp:0<l.length:=List.length_pos_iff.2 h
 rw[← rc (l.length+1) l (by omega)]
 simp only[nr,h,if_false]
 rw[rc _ _ (by simp)]
theorem mg(l:List Nat)(h:0<l.length)(h8:l.length≤8):aG l= [UInt8.ofNat (val l*2 ^ (8 - l.length))]:=by
 rw[oo l (List.length_pos_iff.1 h),List.take_of_length_le h8,List.drop_of_length_le h8,Et]
theorem kb(a b:List Nat)(h:a.length=8):aG (a++b)=UInt8.ofNat (val a) :: aG b:=by
 rw[oo (a++b) (by intro e;have:=congrArg List.length e;rw[List.length_append,List.length_nil]at this;omega),List.take_append_of_le_length (by omega),List.take_of_length_le (by omega),List.drop_append_of_le_length (by omega),List.drop_of_length_le (by omega)]
 simp[h]
theorem pq(k:Nat):∀a b:List Nat,a.length=8*k→aG (a++b)=aG a++aG b:=by
 induction k with
 | zero=>
   intro a b h
   have:a= []:=List.eq_nil_of_length_eq_zero (by omega)
   subst this
   rfl
 | succ k ih=>
   intro a b h
   have e:a=a.take 8++a.drop 8:=(List.take_append_drop 8 a).symm
   have h1:(a.take 8).length=8:=by simp;omega
   have h2:(a.drop 8).length=8*k:=by simp;omega
   rw[e,List.append_assoc,kb _ _ h1,kb _ _ h1,ih _ _ h2,List.cons_append]
theorem dG(l:List Nat):(aG l).length=(l.length+7) / 8:=by
 have H:∀(n:Nat) (l:List Nat),l.length≤n→(aG l).length=(l.length+7) / 8:=by
  intro n
  induction n with
  | zero=>
    intro l h
    have:l= []:=List.eq_nil_of_length_eq_zero (by omega)
    subst this;rfl
  | succ n ih=>
    intro l h
    by_cases e:l= []
    ·subst e;rfl
    ·have hp:0<l.length:=List.length_pos_iff.2 e
     rw[oo l e,List.length_cons,ih _ (by simp;omega)]
     simp;omega
 exact H l.length l (ah _)
theorem yJ(l:List Nat):aG l=aG (l.take (8*(l.length / 8)))++aG (l.drop (8*(l.length / 8))):=by
 conv=>lhs;rw[← List.take_append_drop (8*(l.length / 8)) l]
 exact pq (l.length / 8) _ _ (by simp;omega)
theorem FT(a b s:Nat)(h:b<2 ^ s):(a*2 ^ s) ||| b=a*2 ^ s+b:=by
 rw[Nat.mul_comm,Nat.two_pow_add_eq_or_of_lt h]
theorem C0(l m:List Nat)(hm:0<m.length)(hr:l.length % 8+m.length≤8)(hb:aw m):
 aG (l++m)=aG (l.take (8*(l.length / 8)))++ [UInt8.ofNat ((val (l.drop (8*(l.length / 8)))*2 ^ (8 - l.length % 8)) ||| (val m*2 ^ (8 - l.length % 8 - m.length)))]:=by
 have e:l++m=l.take (8*(l.length / 8))++(l.drop (8*(l.length / 8))++m):=by rw[← List.append_assoc,List.take_append_drop]
 have hl:(l.drop (8*(l.length / 8))++m).length=l.length % 8+m.length:=by simp;omega
 rw[e,pq (l.length / 8) _ _ (by simp;omega),mg (l.drop (8*(l.length / 8))++m) (by omega) (by omega),qP,hl]
 congr 3
 have hv:=iA m hb
 generalize val (List.drop (8*(l.length / 8)) l)=R
 generalize val m=M at*
 generalize hr':l.length % 8=r at*
 generalize m.length=k at*
 have e1:8 - r=k+(8 - r - k):=by omega
 have h0:M*2 ^ (8 - r - k)<2 ^ (8 - r):=by
  conv=>rhs;rw[e1,Nat.pow_add]
  exact Nat.mul_lt_mul_of_pos_right hv (Nat.two_pow_pos _)
 rw[FT _ _ _ h0,Nat.add_mul]
 conv=>rhs;lhs;rw[e1,Nat.pow_add]
 rw[show 8 - (r+k)=8 - r - k by omega,Nat.mul_assoc]
def ak(l:List UInt8):List Nat:=l.flatMap fun c=>aj c.toNat 8
theorem tX:ak []= []:=rfl
theorem dS(c:UInt8)(l:List UInt8):ak (c :: l)=aj c.toNat 8++ak l:=rfl
theorem em(a b:List UInt8):ak (a++b)=ak a++ak b:=by simp[ak]
theorem ax(l:List UInt8):(ak l).length=8*l.length:=by
 induction l with
 | nil=>rfl
 | cons c l ih=>rw[dS,List.length_append,af,ih,List.length_cons];omega
theorem aS(l:List UInt8):aw (ak l):=by
 induction l with
 | nil=>intro b h;simp[ak]at h
 | cons c l ih=>rw[dS];exact(aJ _ _).append ih
theorem nS(n:Nat):∀v i,i<n→(aj v n)[i]? =some (v / 2 ^ (n - 1 - i) % 2):=by
 induction n with
 | zero=>intro v i h;omega
 | succ n ih=>
   intro v i h
   rw[aj]
   by_cases h1:i<n
   ·rw[List.getElem?_append_left (by rw[af];exact h1),ih _ _ h1,Nat.div_div_eq_div_mul,show n+1 - 1 - i=(n - 1 - i)+1 by omega,Nat.pow_succ,Nat.mul_comm]
   ·obtain rfl:i=n:=by omega
    rw[List.getElem?_append_right (by rw[af];exact Nat.le_refl _),af]
    simp
theorem Bv(l:List UInt8):∀i,i<8*l.length→(ak l)[i]? =some ((l.getD (i / 8) 0).toNat / 2 ^ (7 - i % 8) % 2):=by
 induction l with
 | nil=>intro i h;simp at h
 | cons c l ih=>
   intro i h
   rw[dS]
   by_cases h8:i<8
   ·rw[List.getElem?_append_left (by rw[af];exact h8),nS _ _ _ h8,show i / 8=0 by omega,show i % 8=i by omega]
    rfl
   ·rw[List.getElem?_append_right (by rw[af];omega),af,ih (i - 8) (by rw[List.length_cons]at h;omega),show i / 8=(i - 8) / 8+1 by omega,show(i - 8) % 8=i % 8 by omega]
    rfl
theorem rB(n:Nat):aj 0 n=List.replicate n 0:=by
 induction n with
 | zero=>rfl
 | succ n ih=>rw[aj,Nat.zero_div,ih,Nat.zero_mod,List.replicate_succ']
theorem kV(v k n:Nat):aj (v*2 ^ k) (n+k)=aj v n++List.replicate k 0:=by
 rw[ik,Nat.mul_div_cancel _ (Nat.two_pow_pos k)]
 congr 1
 have:∀(k v:Nat),aj (v*2 ^ k) k=List.replicate k 0:=by
  intro k
  induction k with
  | zero=>intro v;rfl
  | succ k ih=>
    intro v
    rw[aj,Nat.pow_succ,←Nat.mul_assoc,Nat.mul_div_cancel _ (by omega),ih,Nat.mul_mod_left,List.replicate_succ']
 exact this k v
theorem j4(L:List Nat):aw L→ak (aG L)=L++List.replicate (8*((L.length+7) / 8) - L.length) 0:=by
 have H:∀(n:Nat) (L:List Nat),L.length≤n→aw L→ak (aG L)=L++List.replicate (8*((L.length+7) / 8) - L.length) 0:=by
  intro n
  induction n with
  | zero=>
    intro L h _
    have:L= []:=List.eq_nil_of_length_eq_zero (by omega)
    subst this;rfl
  | succ n ih=>
    intro L h hb
    by_cases h8:L.length≤8
    ·by_cases h0:L.length=0
     ·have:L= []:=List.eq_nil_of_length_eq_zero h0
      subst this;rfl
     ·have hv:=iA L hb
      have h5:val L*2 ^ (8 - L.length)<256:=by
       have h2:(256:Nat)=2 ^ L.length*2 ^ (8 - L.length):=by rw[← Nat.pow_add,show L.length+(8 - L.length)=8 by omega]
       rw[h2]
       exact Nat.mul_lt_mul_of_pos_right hv (Nat.two_pow_pos _)
      rw[mg L (by omega) h8,dS,tX,List.append_nil,UInt8.toNat_ofNat',Nat.mod_eq_of_lt h5]
      have h3:=kV (val L) (8 - L.length) L.length
      rw[show L.length+(8 - L.length)=8 by omega,fP L hb]at h3
      rw[h3]
      congr 2
      omega
    ·have e:L=L.take 8++L.drop 8:=(List.take_append_drop 8 L).symm
     have h1:(L.take 8).length=8:=by simp;omega
     have h4:aw (L.take 8):=hb.take 8
     have hv:=iA _ h4
     rw[h1]at hv
     have h3:=fP _ h4
     rw[h1]at h3
     conv=>lhs;rw[e]
     rw[kb _ _ h1,dS,UInt8.toNat_ofNat',Nat.mod_eq_of_lt hv,h3,ih _ (by simp;omega) (hb.drop 8),←List.append_assoc,←e,List.length_drop]
     congr 2
     omega
 exact H L.length L (ah _)
theorem ro(l:List UInt8):aG (ak l)=l:=by
 induction l with
 | nil=>rfl
 | cons c l ih=>
   rw[dS,kb _ _ (af _ _),ih,dD]
   congr 1
   rw[Nat.mod_eq_of_lt c.toNat_lt]
   simp
open Go.RowKit
theorem aa{p:Prop}(h:p):Hid p:=Lib.hid h
def Blk(w:World)(g:Nat)(t:TypeId)(cs:Array Value):Prop:=w.heap[g]? =some (.cells cs t (0,0))
theorem aA{w:World}{g:Nat}{t:TypeId}{cs:Array Value}(h:Blk w g t cs):g<w.heap.size:=(Array.getElem?_eq_some_iff.1 h).1
theorem ac{w:World}{g:Nat}{t:TypeId}{cs:Array Value}(h:Blk w g t cs)(i:Nat):w.cell? ⟨g,i,none⟩=cs[i]? :=cell_of_row w g i cs t (0,0) h
theorem ae{w:World}{g:Nat}{t:TypeId}{cs:Array Value}(h:Blk w g t cs)(i:Nat):w.frozen? ⟨g,i,none⟩=false:=frozen_of_row w g i cs t h
theorem ag(w:World)(t:TypeId)(cs:Array Value):Blk (w.alloc (.cells cs t)) w.heap.size t cs:=heap_alloc_new w _
theorem ay{w:World}{g:Nat}{t:TypeId}{cs:Array Value}(h:Blk w g t cs)(i:Nat)(u:Value):Blk (w.setCell ⟨g,i,none⟩ u) g t (cs.setIfInBounds i u):=heap_setCell_same w g i cs t u h
structure ai (B:Nat) (ps:List Nat) (ts:List TypeId) (w w':World):Prop where
 below:Below B w w'
 keep:∀k cs t fr,w.heap[k]? =some (.cells cs t fr)→k∉ps→t∉ts→w'.heap[k]? =some (.cells cs t fr)
section
variable {B:Nat} {ps:List Nat} {ts:List TypeId} {w w' w'':World}
theorem ai.refl(B:Nat)(ps:List Nat)(ts:List TypeId)(w:World):ai B ps ts w w:=⟨Below.refl _ _,fun _ _ _ _ h _ _=>h⟩
theorem ai.trans(h:ai B ps ts w w')(k:ai B ps ts w' w''):ai B ps ts w w'':=
 ⟨h.below.trans k.below,fun i cs t fr hh hp ht=>k.keep i cs t fr (h.keep i cs t fr hh hp ht) hp ht⟩
theorem ai.mono{B':Nat}{ps':List Nat}{ts':List TypeId}(h:ai B ps ts w w')(hB:B'≤B)(hp:∀k∈ps,k∈ps')(ht:∀t∈ts,t∈ts'):ai B' ps' ts' w w':=
 ⟨h.below.mono hB,fun i cs t fr hh hp' ht'=>h.keep i cs t fr hh (fun x=>hp' (hp _ x)) (fun x=>ht' (ht _ x))⟩
theorem ai.after{B':Nat}{ps':List Nat}{ts':List TypeId}(h:ai B ps ts w w')(k:ai B' ps' ts' w' w'')(hB:B≤B')(hp:∀i∈ps',i∈ps∨w.heap.size≤i)(ht:∀t∈ts',t∈ts):ai B ps ts w w'':=
 ⟨h.below.trans (k.below.mono hB),fun i cs t fr hh hi ht'=>k.keep i cs t fr (h.keep i cs t fr hh hi ht')
   (fun e=>(hp i e).elim hi (fun g=>by have:=(Array.getElem?_eq_some_iff.1 hh).1;omega)) (fun e=>ht' (ht t e))⟩
theorem ai.size(h:ai B ps ts w w'):w.heap.size≤w'.heap.size:=h.below.size
theorem ai.drew(h:ai B ps ts w w'):ai B ps ts w w'.drew:=⟨h.below.drew,h.keep⟩
theorem ai.drewN(h:ai B ps ts w w')(n:Nat):ai B ps ts w (w'.drewN n):=⟨⟨h.below.os,h.below.tape,h.below.output,h.below.size,h.below.block⟩,h.keep⟩
theorem ai.alloc(h:ai B ps ts w w')(hB:B≤w'.heap.size)(o:Obj):ai B ps ts w (w'.alloc o):=
 ⟨h.below.alloc hB o,fun i cs t fr hh hp ht=>by
   have:=h.keep i cs t fr hh hp ht
   exact(Below.heap_alloc w' o i (Array.getElem?_eq_some_iff.1 this).1).trans this⟩
theorem ai.set(h:ai B ps ts w w'){p:Addr}(hB:B≤p.block)(hp:p.block∈ps)(u:Value):ai B ps ts w (w'.setCell p u):=
 ⟨h.below.setCell hB u,fun i cs t fr hh hi ht=>by
   rw[Below.heap_setCell w' p u i (fun e=>hi (e ▸ hp))]
   exact h.keep i cs t fr hh hi ht⟩
theorem ai.setT(h:ai B ps ts w w'){p:Addr}(hB:B≤p.block){cs:Array Value}{t:TypeId}{fr:Nat×Nat}(hb:w'.heap[p.block]? =some (.cells cs t fr))(hp:t∈ts)(u:Value):ai B ps ts w (w'.setCell p u):=
 ⟨h.below.setCell hB u,fun i cs' t' fr' hh hi ht=>by
   have hk:=h.keep i cs' t' fr' hh hi ht
   by_cases e:i=p.block
   ·subst e
    rw[hb]at hk
    injection hk with hk
    injection hk with _ h2
    exact absurd (h2 ▸ hp) ht
   ·rw[Below.heap_setCell w' p u i e]
    exact hk⟩
theorem ai.grown(h:ai B ps ts w w'){row:Option Nat}(hg:w'.grownBy w'' row)(hB:B≤w'.heap.size)
 (hr:∀k,row=some k→B≤k∧∃cs t fr,w'.heap[k]? =some (.cells cs t fr)∧t∈ts):ai B ps ts w w'':=
 ⟨h.below.grown hg hB (fun k hk=>(hr k hk).1),fun i cs t fr hh hi ht=>by
   have hk:=h.keep i cs t fr hh hi ht
   rw[hg.block i (Array.getElem?_eq_some_iff.1 hk).1 ?_]
   ·exact hk
   ·intro e
    obtain⟨_,cs',t',fr',hb,h0⟩:=hr i e.symm
    rw[hb]at hk
    injection hk with hk
    injection hk with _ h2
    exact ht (h2 ▸ h0)⟩
theorem ai.blk(h:ai B ps ts w w'){g:Nat}{t:TypeId}{cs:Array Value}(hb:Blk w g t cs)(hp:g∉ps)(ht:t∉ts):Blk w' g t cs:=h.keep _ _ _ _ hb hp ht
theorem ai.row(h:ai B ps ts w w'){base:Nat}{t:TypeId}{size n:Nat}{v:Value}{xs:List Value}(hr:w.ownsRow base t size v n xs)(hp:∀k,v.ownBlock=some k→k∉ps)(ht:t∉ts):w'.ownsRow base t size v n xs:=by
 refine⟨hr.1,?_⟩
 rcases hr.2 with h1 | ⟨g,cap,cur,hv,hg,hh,rest⟩
 ·exact .inl h1
 ·exact .inr ⟨g,cap,cur,hv,hg,h.keep _ _ _ _ hh (hp g (by rw[hv];rfl)) ht,rest⟩
end
theorem uv{w:World}{base:Nat}{e:TypeId}{size n:Nat}{v:Value}{xs:List Value}(h:w.ownsRow base e size v n xs):
 ∀k,v.ownBlock=some k→base≤k∧∃cs t fr,w.heap[k]? =some (.cells cs t fr)∧t∈ [e]:=by
 intro k hk
 rcases h.2 with⟨rfl,_⟩ | ⟨g,cap,cur,rfl,hb,hg,_⟩
 ·simp[Value.ownBlock]at hk
 ·simp[Value.ownBlock]at hk
  subst hk
  exact⟨hb,cur,e,(0,0),hg,by simp⟩
theorem cJ{w:World}{base:Nat}{e t:TypeId}{size n g:Nat}{v:Value}{xs:List Value}{cs:Array Value}(h:w.ownsRow base e size v n xs)(hg:Blk w g t cs)(h0:e≠t):∀k,v.ownBlock=some k→k≠g:=by
 intro k hk he
 obtain⟨_,cs',t',fr',hb,ht⟩:=uv h k hk
 subst he
 unfold Blk at hg
 rw[hg]at hb
 injection hb with hb
 injection hb with _ h2
 simp at ht
 exact h0 (by rw[← ht,←h2])
def bv(c:UInt8):Value:=.int .u8 c.toNat
theorem Tryz.info5:(Tryz.prog.info? 5).map (fun i=>(i.zero,i.size,i.bytes))=some (some (.int .u8 0),1,1):=by kernel_rfl
theorem Tryz.info3:(Tryz.prog.info? 3).map (fun i=>(i.zero,i.size,i.bytes))=some (some (.int .i64 0),1,8):=by kernel_rfl
theorem an{w w':World}(h:Below w.heap.size w w'):ai w.heap.size [] [] w w':=
 ⟨h,fun k _ _ _ hh _ _=>(h.block k (Array.getElem?_eq_some_iff.1 hh).1).trans hh⟩
theorem ao{w w1 w2:World}(h:Below w.heap.size w w1)(k:Below w1.heap.size w1 w2):Below w.heap.size w w2:=h.trans (k.mono h.size)
theorem aM{w w':World}{g:Nat}{t:TypeId}{cs:Array Value}(hb:Below w.heap.size w w')(h:Blk w g t cs):Blk w' g t cs:=(an hb).blk h List.not_mem_nil List.not_mem_nil
theorem cn{w w1:World}{o:Obj}(h:w1=w.alloc o):Below w.heap.size w w1:=by rw[h];exact(Below.refl _ _).alloc (Nat.le_refl _) _
theorem fh{w w1:World}{t:TypeId}{cs:Array Value}(h:w1=w.alloc (.cells cs t)):Blk w1 w.heap.size t cs:=by rw[h];exact ag w _ _
theorem aL{B:Nat}{a w:World}(h:Below B a w)(k:Nat):Below B a (w.drewN k):=⟨h.os,h.tape,h.output,h.size,h.block⟩
theorem uE(w:World)(a b:Value)(t:TypeId):∀(j:Nat) (u:Value), [a,b][j]? =some u→(w.alloc (.cells #[a,b] t)).cell? ((⟨w.heap.size,0,none⟩:Addr).add j)=some u:=by
 intro j u hu
 rw[Addr.add_lit,ac (ag w t #[a,b])]
 simpa using hu
theorem aq{w:World}{B:Nat}{e:TypeId}{size n:Nat}{v:Value}{xs:List Value}(h:w.ownsRow B e size v n xs):∃A cap,v=.slice A n cap∧n≤cap∧cap≤maxLen∧(0<n→∃g,A=some ⟨g,0,none⟩):=by
 rcases h.2 with⟨rfl,rfl⟩ | ⟨g,cap,cur,rfl,_,_,hn,hm,_⟩
 ·exact⟨none,0,rfl,Nat.le_refl _,by unfold maxLen;omega,fun h=>by omega⟩
 ·exact⟨some ⟨g,0,none⟩,cap,rfl,hn,hm,fun _=>⟨g,rfl⟩⟩
def iv(b:Nat):Value:=.int .i64 b
def aT(w:World)(A:Option Addr)(n:Nat)(L:List Nat):Prop:=
 L.length=n∧(0<n→∃b off,A=some ⟨b,off,none⟩∧∀i,i<n→w.cell? ⟨b,off+i,none⟩=some (.int .i64 (L.getD i 0)))
theorem bR{w:World}{B n cap:Nat}{A:Option Addr}{L:List Nat}(h:w.ownsRow B 3 1 (.slice A n cap) n (L.map iv)):aT w A n L:=by
 have hl:=h.1
 rw[List.length_map,Nat.mul_one]at hl
 refine⟨hl,fun hn=> ?_⟩
 obtain⟨A',cap',hv,_,_,hg⟩:=aq h
 simp only[Value.slice.injEq]at hv
 obtain⟨rfl,_,rfl⟩:=hv
 obtain⟨g,rfl⟩:=hg hn
 refine⟨g,0,rfl,fun i hi=> ?_⟩
 rw[Nat.zero_add,h.cellAt i (by omega),List.getElem?_map,List.getD_eq_getElem?_getD,List.getElem?_eq_getElem (by omega)]
 rfl
theorem iW(w:World)(B:Nat)(v:Value)(n:Nat)(xs:List Value)(h5:w.ownsRow B 3 1 v n xs)(A:Option Addr)(k c:Nat)(L:List Nat)(hi:aT w A k L)(hf:n+k≤1000000000)(hB:B≤w.heap.size):
 ∃v' w',(Builtin.append_ #[36,36] 36 #[v,.slice A k c]).run Tryz.prog w=.ok v' w'∧w'.ownsRow B 3 1 v' (n+k) (xs++L.map iv)∧w.grownBy w' v.ownBlock:=by
 obtain⟨i3,h3,h9,ha,hb⟩:=info_parts Tryz.info3
 have hl:=hi.1
 rcases A with _ | ad
 ·have hk:k=0:=by
   rcases Nat.eq_zero_or_pos k with h0 | h0
   ·exact h0
   ·obtain⟨b,off,h,_⟩:=hi.2 h0
    cases h
  subst hk
  have hL:L= []:=List.eq_nil_of_length_eq_zero hl
  subst hL
  refine⟨v,w,?_,by simpa using h5,⟨rfl,rfl,rfl,Nat.le_refl _,fun _ _ _=>rfl⟩⟩
  rcases h5.2 with⟨rfl,rfl⟩ | ⟨g,cap,cur,rfl,_,_,h8,_⟩
  ·simp[Builtin.append_,run_underlying Tryz.underlying36,sizeOf,typeInfo,h3,Builtin.lenOf,Builtin.firstCells]
  ·simp[Builtin.append_,run_underlying Tryz.underlying36,sizeOf,typeInfo,h3,Builtin.lenOf,Builtin.firstCells,h8,storeCells]
 ·have h6:∀j u,(L.map iv)[j]? =some u→w.cell? (ad.add j)=some u:=by
   intro j u hu
   have h7:j<k:=by
    have:=(List.getElem?_eq_some_iff.1 hu).1
    rw[List.length_map]at this
    omega
   obtain⟨b,off,he,hc⟩:=hi.2 (by omega)
   injection he with he
   subst he
   rw[Addr.add_lit,hc j h7,←hu,List.getElem?_map,List.getD_eq_getElem?_getD,List.getElem?_eq_getElem (by omega)]
   rfl
  obtain⟨v',w',h1,h2,h4,_⟩:=run_append_own (P:=Tryz.prog) w B 36 36 3 i3 (.int .i64 0) 1 8 Tryz.underlying36 h3 h9 ha hb rfl (by decide) v n xs h5 ad k c (L.map iv) (by rw[List.length_map,hl,Nat.mul_one]) h6
   (fun u hu=>by obtain⟨q,_,rfl⟩:=List.mem_map.1 hu;rfl) (by unfold maxLen;omega) (by omega) hB
  exact⟨v',w',h1,h2,h4⟩
theorem pD{ops:Array Oper}{o:Oper}{a:Act}{w w':World}{K:Act→World→Prop}{Q:Exit→Act→World→Prop}{E:Prop}{v':Value}(h1:o.guard=none)(s x:Operand)(t:TypeId)
 (ho:o.op=.call { callee:=.builtin .append,args:=#[s,x],argTypes:=#[t,t] }) (vs vx:Value) (hs:a.eval s=vs) (hx:a.eval x=vx)
 (h0:(Builtin.append_ #[t,t] o.type #[vs,vx]).run Tryz.prog w=.ok v' w') (h:K (a.put o.dst v') w'):
 if Region.wanted o (yielded ops a.tmps)=true then Oper.wp Tryz.prog o a w K Q else E:=by
 have hw:Region.wanted o (yielded ops a.tmps)=true:=by simp[Region.wanted,h1]
 rw[if_pos hw]
 unfold Oper.wp execOp
 simp only[ho,resolve,invoke,builtin,Sem.run_bind,Sem.run_pure,Result.andThen_ok,List.map_toArray,List.map_cons,List.map_nil,hs,hx,h0]
 exact h
theorem Ia(l:List Nat)(i:Nat)(hb:aw l):l.getD i 0<2:=by
 rw[List.getD_eq_getElem?_getD]
 rcases h:l[i]? with _ | b
 ·simp
 ·exact hb b (List.mem_of_getElem? h)
open Go.ChangeShapes Go.WideShapes Go.ChangeAt Go.RowKit
theorem own:ownKnob Tryz.prog.godebug=none:=by kernel_rfl
theorem EE:laidOutB Tryz.prog=true:=by kernel_rfl
theorem sM{H:Type}{enc:TypeId×Value→H}{W W':World}(hb:Below W.heap.size W W'):∀{ts:List TypeId} {vs:List Value} {ds:List (DataW H)} {ps:List MemPlace},
 (∀ t∈ts,Tryz.prog.readableRec t=true∧t<Tryz.prog.types.size)→(∀ x∈ps,x.block<W.heap.size)→
 DataW.TrodAll enc Tryz.prog W 0 (fun _=>true) true ts vs ds ps→DataW.TrodAll enc Tryz.prog W' 0 (fun b=>decide (b<W.heap.size)) true ts vs ds ps
 | [],_,_,_,_,_,h=>by
   obtain⟨rfl,rfl,rfl⟩:=trodAll_nil h
   exact trodAll_mk0
 | t :: ts,_,_,_,ht,hlt,h=>by
   obtain⟨v,vs,d,ds,p,q,rfl,rfl,rfl,h1,h2⟩:=trodAll_cons h
   exact trodAll_cons_mk (Below.trod EE (ht t (by simp)).1 (ht t (by simp)).2 h1 hb (fun x hx=>hlt x (by simp[hx])))
    (sM hb (fun t' h'=>ht t' (by simp[h'])) (fun x hx=>hlt x (by simp[hx])) h2)
theorem qA{H:Type}{enc:TypeId×Value→H}{f:Func}{s:ChangeSpec}{W W':World}{args:Array Value}{ds:List (DataW H)}{before:List MemPlace}
 (hW:DataW.Whole enc Tryz.prog f.params.toList s.vars false W args.toList ds [] before) (hs:s.vars= []) (hb:Below W.heap.size W W')
 (hp:f.params.toList.all (fun t=>Tryz.prog.readableRec t&&decide (t<Tryz.prog.types.size))=true) (hr:f.resultTypes=#[4])
 (h0:s.fn H (ds++ [])={ results:= [.lit (.bool true)],args:=ds }):s.post enc Tryz.prog f false true false false W args (.bool true) W':=by
 have h2:=hW.lt
 have h1:=hW
 obtain⟨p,q,hA,hV,rfl,_,_⟩:=hW
 rw[hs]at hV
 obtain⟨_,rfl⟩:=trodVars_none hV
 rw[List.append_nil]at h2 h1
 refine⟨ds, [],p, [],p, [],h1,?_,?_,?_,hb.frame _,fun h=>by cases h⟩
 ·rw[h0,hr]
  exact trodAll_cons_mk (shut_bool Tryz.underlying4 _) trodAll_mk0
 ·rw[h0]
  exact sM hb (fun t ht=>by simpa using List.all_eq_true.1 hp t ht) h2 hA
 ·rw[hs,h0]
  rfl
theorem cH(w:World)(v:Value)(t:TypeId):∀(j:Nat) (u:Value), [v][j]? =some u→(w.alloc (.cells #[v] t)).cell? ((⟨w.heap.size,0,none⟩:Addr).add j)=some u:=by
 intro j u hu
 have hj:j=0:=by
  have:=(List.getElem?_eq_some_iff.1 hu).1
  simp at this
  exact this
 subst hj
 simp at hu
 subst hu
 rw[Addr.add_lit,ac (ag w t _)]
 rfl
def ZIn(w:World)(A:Option Addr)(n:Nat)(L:List Int):Prop:=
 L.length=n∧(0<n→∃b off,A=some ⟨b,off,none⟩∧∀i,i<n→w.cell? ⟨b,off+i,none⟩=some (.int .i64 (L.getD i 0)))
theorem ZIn.below{w w':World}{A:Option Addr}{n:Nat}{L:List Int}(h:ZIn w A n L)(hb:Below w.heap.size w w'):ZIn w' A n L:=by
 refine⟨h.1,fun hn=> ?_⟩
 obtain⟨b,off,rfl,hc⟩:=h.2 hn
 exact⟨b,off,rfl,fun i hi=>(hb.cell (p:=⟨b,off+i,none⟩) (World.block_lt_of_cell? w _ (hc i hi))).trans (hc i hi)⟩
theorem cU{w w':World}{A:Option Addr}{n:Nat}{L:List Nat}(h:aT w A n L)(hb:Below w.heap.size w w'):aT w' A n L:=by
 refine⟨h.1,fun hn=> ?_⟩
 obtain⟨b,off,rfl,hc⟩:=h.2 hn
 refine⟨b,off,rfl,fun i hi=> ?_⟩
 exact(hb.cell (p:=⟨b,off+i,none⟩) (World.block_lt_of_cell? w _ (hc i hi))).trans (hc i hi)
theorem dP{w:World}{A:Option Addr}{n:Nat}{L:List Nat}(h:aT w A n L):ZIn w A n (L.map fun(x:Nat)=>(x:Int)):=by
 refine⟨by rw[List.length_map];exact h.1,fun hn=> ?_⟩
 obtain⟨b,off,rfl,hc⟩:=h.2 hn
 refine⟨b,off,rfl,fun i hi=> ?_⟩
 rw[hc i hi,List.getD_eq_getElem?_getD,List.getD_eq_getElem?_getD,List.getElem?_map,List.getElem?_eq_getElem (by rw[h.1];exact hi)]
 rfl
variable {P:Program}
theorem je{o:Oper}{a:Act}{w:World}{next:Act→World→Prop}{Q:Exit→Act→World→Prop}{ty t:TypeId}{p:Operand}{g n:Nat}{e:TypeId}{cs:Array Value}{fr:Nat×Nat}
 (h0:o.op=.load ty p) (hp:a.eval p=.pointer (some ⟨g,0,none⟩)) (hg:w.heap[g]? =some (.cells cs t fr)) (hu:P.underlying ty=some (.array n e)) (hi:(P.info? ty).map (·.size)=some cs.size)
 (hn:next (a.put o.dst (.agg cs)) w):Oper.wp P o a w next Q:=by
 unfold Oper.wp
 have h:(execOp a.eval o).run P w=.ok (.value (.agg cs)) w:=by
  have:=run_loadVar_row (P:=P) w g t ty cs fr _ hg hu rfl hi
  simp only[execOp,h0,hp,Instr.loadAt,Instr.sureAddr,Sem.run_bind,Sem.run_pure,Result.andThen,this]
 rw[h]
 exact hn
theorem gV{fn:Func}{p:Tmp}{ty t:TypeId}{tmps:Array Value}{w:World}{g n:Nat}{e:TypeId}{cs:Array Value}{fr:Nat×Nat}(h:fn.results=#[.cell p ty])
 (hp:tmps.getD p undef=.pointer (some ⟨g,0,none⟩)) (hg:w.heap[g]? =some (.cells cs t fr)) (hu:P.underlying ty=some (.array n e)) (hi:(P.info? ty).map (·.size)=some cs.size):
 (results fn tmps).run P w=.ok (.agg cs) w:=by
 have:=run_loadVar_row (P:=P) w g t ty cs fr _ hg hu rfl hi
 rw[Array.getD_eq_getD_getElem?]at hp
 simp only[results,h]
 simp[hp,asAddr,this]
theorem bQ{w:World}{t ty:TypeId}{g:Nat}{old cs:Array Value}(hg:w.heap[g]? =some (.cells old t (0,0)))(hi:(P.info? ty).map (·.size)=some cs.size)(ho:old.size=cs.size)(h1:cs.all (·.oneCell')=true):
 (storeCells ⟨g,0,none⟩ cs.toList 0).run P w=.ok () (w.setRow g cs):=by
 have:=run_storeVar_row (P:=P) w g t ty old cs hg hi ho h1
 cases hq:P.info? ty with
 | none=>simp[hq]at hi
 | some i=>
   have hs:cs.size=i.size:=by simp[hq]at hi;omega
   simpa [storeVar,sizeOf,typeInfo,hq,Value.cells,hs]using this
theorem below_setRow{B:Nat}{w w':World}(h:Below B w w'){g:Nat}(hg:B≤g)(cs:Array Value):Below B w (w'.setRow g cs):=
 ⟨h.os,h.tape,h.output,by rw[size_setRow];exact h.size,fun k hk=>by rw[setRow_other _ _ _ _ (by omega)];exact h.block k hk⟩
theorem bj(w:World)(o:Obj)(k:Nat)(h:k<w.heap.size):(w.alloc o).heap[k]? =w.heap[k]? :=by
 show(w.heap.push o)[k]? =_
 rw[Array.getElem?_push,if_neg (by omega)]
end Go.Proofs.YthakcjehhlpjnaaGreat
