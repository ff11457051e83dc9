import Derived.Test.YthakcjehhlpjnaaGreatRows
import Derived.WalkKit
import Derived.WalkLawsBesides
import Derived.WalkSpells
import Derived.Below
import Derived.Maps.AppendAt
import Derived.Deep.Draws
import Derived.LoopTactic
import Derived.Deep.LoopGhost
import Derived.Lib.Hide
import Derived.Outline
import Derived.RegionTactic
import Derived.BigRegion
import Derived.BigQuiet
import Derived.Deep.QuietTactic
import Derived.Deep.DeepFit
import Derived.OwnWalk
import Derived.Laws.AppendOwn
import Derived.IntWalk
import Derived.Deep.DeepCutAuto
import Derived.Deep.RegionHeld3
import Derived.StillTailTactics
import Derived.Laws.BitsAllLaws
import Derived.Laws.IdiomStrings
import Derived.Laws.BytesArg
import Derived.Laws.StructEq
import Derived.Deep.AppendLies
import Derived.ProofKit
import Derived.OpenShut
import Derived.Carry
import Derived.ChangeMaps5
import Derived.ChangeSlices
import Derived.Deep.WholeRow
import Derived.Laws.Rows
import Derived.Laws.ResultCell
set_option maxRecDepth 100000
namespace Go.Proofs.YthakcjehhlpjnaaGreat
theorem aq{α:Type _}{a:α}:a∉([]:List α):=List.not_mem_nil
theorem ah(n:Nat):n≤n:=Nat.le_refl n
theorem ao{p:Prop}[Decidable p](h:¬p):decide p=false:=decide_eq_false h
theorem ar{p:Prop}[Decidable p](h:p):decide p=true:=decide_eq_true h
def ai(v:Nat):Nat→List Nat
 | 0=> []
 | n+1=>ai (v / 2) n++ [v % 2]
def val(l:List Nat):Nat:=l.foldl (fun a b=>2*a+b) 0
theorem af(n:Nat):∀v,(ai v n).length=n:=by
 induction n with
 | zero=>intro v;rfl
 | succ n ih=>intro v;simp[ai,ih]
theorem ix(b:Nat):∀v a,ai v (a+b)=ai (v / 2 ^ b) a++ai v b:=by
 induction b with
 | zero=>intro v a;simp[ai]
 | succ b ih=>
   intro v a
   show ai v (a+b+1)=_
   rw[ai,ih,ai,←List.append_assoc,Nat.div_div_eq_div_mul,Nat.pow_succ,Nat.mul_comm]
theorem i9(l:List Nat)(b:Nat):val (l++ [b])=2*val l+b:=by simp[val]
theorem rJ{p:List Nat→Prop}(h0:p [])(h1:∀m b,p m→p (m++ [b])):∀l,p l:=by
 have H:∀r:List Nat,p r.reverse:=by
  intro r
  induction r with
  | nil=>exact h0
  | cons b r ih=>rw[List.reverse_cons];exact h1 _ _ ih
 intro l
 have:=H l.reverse
 rwa [List.reverse_reverse]at this
theorem rK(m:List Nat):∀l,val (l++m)=val l*2 ^ m.length+val m:=by
 refine rJ (p:=fun m=>∀l,val (l++m)=val l*2 ^ m.length+val m) ?_ ?_ m
 ·intro l;simp[val]
 ·intro m b ih l
  rw[← List.append_assoc,i9,ih,i9]
  simp[Nat.pow_succ]
  rw[Nat.mul_add,←Nat.mul_assoc,Nat.add_assoc]
  congr 1
  rw[Nat.mul_comm 2 (val l),Nat.mul_assoc,Nat.mul_comm 2]
theorem cV(n:Nat):∀v,val (ai v n)=v % 2 ^ n:=by
 induction n with
 | zero=>intro v;simp[ai,val,Nat.mod_one]
 | succ n ih=>
   intro v
   rw[ai,i9,ih,Nat.pow_succ,Nat.mul_comm (2 ^ n) 2,Nat.mod_mul]
   omega
def an(l:List Nat):Prop:=∀b∈l,b<2
theorem aE(n:Nat):∀v,an (ai v n):=by
 induction n with
 | zero=>intro v b h;simp[ai]at h
 | succ n ih=>
   intro v b h
   simp[ai]at h
   rcases h with h | h
   ·exact ih _ b h
   ·subst h;omega
theorem an.append{a b:List Nat}(ha:an a)(hb:an b):an (a++b):=by
 intro x hx
 rcases List.mem_append.1 hx with h | h
 ·exact ha x h
 ·exact hb x h
theorem an.left{a b:List Nat}(h:an (a++b)):an a:=fun x hx=>h x (List.mem_append_left _ hx)
theorem an.take{a:List Nat}(h:an a)(n:Nat):an (a.take n):=fun x hx=>h x (List.mem_of_mem_take hx)
theorem an.drop{a:List Nat}(h:an a)(n:Nat):an (a.drop n):=fun x hx=>h x (List.mem_of_mem_drop hx)
theorem eD(l:List Nat):an l→val l<2 ^ l.length:=by
 refine rJ (p:=fun l=>an l→val l<2 ^ l.length) ?_ ?_ l
 ·intro _;simp[val]
 ·intro m b ih h
  have h1:=ih h.left
  have h2:=h b (by simp)
  rw[i9]
  simp[Nat.pow_succ]
  omega
theorem eQ(l:List Nat):an l→ai (val l) l.length=l:=by
 refine rJ (p:=fun l=>an l→ai (val l) l.length=l) ?_ ?_ l
 ·intro _;rfl
 ·intro m b ih h
  have h1:=ih h.left
  have h2:=h b (by simp)
  rw[List.length_append,List.length_singleton,ai,i9,show(2*val m+b) / 2=val m by omega,h1,show(2*val m+b) % 2=b by omega]
def nT:Nat→List Nat→List UInt8
 | 0,_=> []
 | k+1,l=>if l= []then []else UInt8.ofNat (val (l.take 8)*2 ^ (8 - l.length)) :: nT k (l.drop 8)
def aK(l:List Nat):List UInt8:=nT l.length l
theorem iA(k:Nat):nT k []= []:=by cases k <;>simp[nT]
theorem rm(k:Nat):∀(l:List Nat),l.length≤k→nT k l=aK l:=by
 suffices H:∀(k j:Nat) (l:List Nat),l.length≤k→l.length≤j→nT k l=nT j l from fun l h=>H k l.length l h (ah _)
 intro k
 induction k with
 | zero=>
   intro j l h h'
   have:l= []:=List.eq_nil_of_length_eq_zero (by omega)
   subst this
   rw[iA,iA]
 | succ k ih=>
   intro j l h h'
   cases j with
   | zero=>
     have:l= []:=List.eq_nil_of_length_eq_zero (by omega)
     subst this
     rw[iA,iA]
   | succ j=>
     by_cases e:l= []
     ·subst e;rw[iA,iA]
     ·have hp:0<l.length:=List.length_pos_iff.2 e
      simp only[nT,e,if_false]
      rw[ih j (l.drop 8) (by simp;omega) (by simp;omega)]
theorem E6:aK []= []:=rfl
theorem o4(l:List Nat)(h:l≠ []):aK l=UInt8.ofNat (val (l.take 8)*2 ^ (8 - l.length)) :: aK (l.drop 8):=by
 have hp:0<l.length:=List.length_pos_iff.2 h
 rw[← rm (l.length+1) l (by omega)]
 simp only[nT,h,if_false]
 rw[rm _ _ (by simp)]
theorem mG(l:List Nat)(h:0<l.length)(h8:l.length≤8):aK l= [UInt8.ofNat (val l*2 ^ (8 - l.length))]:=by
 rw[o4 l (List.length_pos_iff.1 h),List.take_of_length_le h8,List.drop_of_length_le h8,E6]
theorem mN(a b:List Nat)(h:a.length=8):aK (a++b)=UInt8.ofNat (val a) :: aK b:=by
 rw[o4 (a++b) (by intro e;have:=congrArg List.length e;rw[List.length_append,List.length_nil]at this;omega),List.take_append_of_le_length (by omega),List.take_of_length_le (by omega),List.drop_append_of_le_length (by omega),List.drop_of_length_le (by omega)]
 simp[h]
theorem pY(k:Nat):∀a b:List Nat,a.length=8*k→aK (a++b)=aK a++aK b:=by
 induction k with
 | zero=>
   intro a b h
   have:a= []:=List.eq_nil_of_length_eq_zero (by omega)
   subst this
   rfl
 | succ k ih=>
   intro a b h
   have e:a=a.take 8++a.drop 8:=(List.take_append_drop 8 a).symm
   have h1:(a.take 8).length=8:=by simp;omega
   have h2:(a.drop 8).length=8*k:=by simp;omega
   rw[e,List.append_assoc,mN _ _ h1,mN _ _ h1,ih _ _ h2,List.cons_append]
theorem eB(l:List Nat):(aK l).length=(l.length+7) / 8:=by
 have H:∀(n:Nat) (l:List Nat),l.length≤n→(aK l).length=(l.length+7) / 8:=by
  intro n
  induction n with
  | zero=>
    intro l h
    have:l= []:=List.eq_nil_of_length_eq_zero (by omega)
    subst this;rfl
  | succ n ih=>
    intro l h
    by_cases e:l= []
    ·subst e;rfl
    ·have hp:0<l.length:=List.length_pos_iff.2 e
     rw[o4 l e,List.length_cons,ih _ (by simp;omega)]
     simp;omega
 exact H l.length l (ah _)
theorem AR(l:List Nat):aK l=aK (l.take (8*(l.length / 8)))++aK (l.drop (8*(l.length / 8))):=by
 conv=>lhs;rw[← List.take_append_drop (8*(l.length / 8)) l]
 exact pY (l.length / 8) _ _ (by simp;omega)
theorem Fx(a b s:Nat)(h:b<2 ^ s):(a*2 ^ s) ||| b=a*2 ^ s+b:=by
 rw[Nat.mul_comm,Nat.two_pow_add_eq_or_of_lt h]
theorem EP(l m:List Nat)(hm:0<m.length)(hr:l.length % 8+m.length≤8)(hb:an m):
 aK (l++m)=aK (l.take (8*(l.length / 8)))++ [UInt8.ofNat ((val (l.drop (8*(l.length / 8)))*2 ^ (8 - l.length % 8)) ||| (val m*2 ^ (8 - l.length % 8 - m.length)))]:=by
 have e:l++m=l.take (8*(l.length / 8))++(l.drop (8*(l.length / 8))++m):=by rw[← List.append_assoc,List.take_append_drop]
 have hl:(l.drop (8*(l.length / 8))++m).length=l.length % 8+m.length:=by simp;omega
 rw[e,pY (l.length / 8) _ _ (by simp;omega),mG (l.drop (8*(l.length / 8))++m) (by omega) (by omega),rK,hl]
 congr 3
 have hv:=eD m hb
 generalize val (List.drop (8*(l.length / 8)) l)=R
 generalize val m=M at*
 generalize hr':l.length % 8=r at*
 generalize m.length=k at*
 have e1:8 - r=k+(8 - r - k):=by omega
 have h0:M*2 ^ (8 - r - k)<2 ^ (8 - r):=by
  conv=>rhs;rw[e1,Nat.pow_add]
  exact Nat.mul_lt_mul_of_pos_right hv (Nat.two_pow_pos _)
 rw[Fx _ _ _ h0,Nat.add_mul]
 conv=>rhs;lhs;rw[e1,Nat.pow_add]
 rw[show 8 - (r+k)=8 - r - k by omega,Nat.mul_assoc]
def al(l:List UInt8):List Nat:=l.flatMap fun c=>ai c.toNat 8
theorem pa:al []= []:=rfl
theorem eC(c:UInt8)(l:List UInt8):al (c :: l)=ai c.toNat 8++al l:=rfl
theorem kC(a b:List UInt8):al (a++b)=al a++al b:=by simp[al]
theorem aA(l:List UInt8):(al l).length=8*l.length:=by
 induction l with
 | nil=>rfl
 | cons c l ih=>rw[eC,List.length_append,af,ih,List.length_cons];omega
theorem aM(l:List UInt8):an (al l):=by
 induction l with
 | nil=>intro b h;simp[al]at h
 | cons c l ih=>rw[eC];exact(aE _ _).append ih
theorem lY(n:Nat):∀v i,i<n→(ai v n)[i]? =some (v / 2 ^ (n - 1 - i) % 2):=by
 induction n with
 | zero=>intro v i h;omega
 | succ n ih=>
   intro v i h
   rw[ai]
   by_cases h1:i<n
   ·rw[List.getElem?_append_left (by rw[af];exact h1),ih _ _ h1,Nat.div_div_eq_div_mul,show n+1 - 1 - i=(n - 1 - i)+1 by omega,Nat.pow_succ,Nat.mul_comm]
   ·obtain rfl:i=n:=by omega
    rw[List.getElem?_append_right (by rw[af];exact Nat.le_refl _),af]
    simp
theorem Es(l:List UInt8):∀i,i<8*l.length→(al l)[i]? =some ((l.getD (i / 8) 0).toNat / 2 ^ (7 - i % 8) % 2):=by
 induction l with
 | nil=>intro i h;simp at h
 | cons c l ih=>
   intro i h
   rw[eC]
   by_cases h8:i<8
   ·rw[List.getElem?_append_left (by rw[af];exact h8),lY _ _ _ h8,show i / 8=0 by omega,show i % 8=i by omega]
    rfl
   ·rw[List.getElem?_append_right (by rw[af];omega),af,ih (i - 8) (by rw[List.length_cons]at h;omega),show i / 8=(i - 8) / 8+1 by omega,show(i - 8) % 8=i % 8 by omega]
    rfl
theorem r4(n:Nat):ai 0 n=List.replicate n 0:=by
 induction n with
 | zero=>rfl
 | succ n ih=>rw[ai,Nat.zero_div,ih,Nat.zero_mod,List.replicate_succ']
theorem ll(v k n:Nat):ai (v*2 ^ k) (n+k)=ai v n++List.replicate k 0:=by
 rw[ix,Nat.mul_div_cancel _ (Nat.two_pow_pos k)]
 congr 1
 have:∀(k v:Nat),ai (v*2 ^ k) k=List.replicate k 0:=by
  intro k
  induction k with
  | zero=>intro v;rfl
  | succ k ih=>
    intro v
    rw[ai,Nat.pow_succ,←Nat.mul_assoc,Nat.mul_div_cancel _ (by omega),ih,Nat.mul_mod_left,List.replicate_succ']
 exact this k v
theorem mO(L:List Nat):an L→al (aK L)=L++List.replicate (8*((L.length+7) / 8) - L.length) 0:=by
 have H:∀(n:Nat) (L:List Nat),L.length≤n→an L→al (aK L)=L++List.replicate (8*((L.length+7) / 8) - L.length) 0:=by
  intro n
  induction n with
  | zero=>
    intro L h _
    have:L= []:=List.eq_nil_of_length_eq_zero (by omega)
    subst this;rfl
  | succ n ih=>
    intro L h hb
    by_cases h8:L.length≤8
    ·by_cases h0:L.length=0
     ·have:L= []:=List.eq_nil_of_length_eq_zero h0
      subst this;rfl
     ·have hv:=eD L hb
      have h5:val L*2 ^ (8 - L.length)<256:=by
       have h2:(256:Nat)=2 ^ L.length*2 ^ (8 - L.length):=by rw[← Nat.pow_add,show L.length+(8 - L.length)=8 by omega]
       rw[h2]
       exact Nat.mul_lt_mul_of_pos_right hv (Nat.two_pow_pos _)
      rw[mG L (by omega) h8,eC,pa,List.append_nil,UInt8.toNat_ofNat',Nat.mod_eq_of_lt h5]
      have h3:=ll (val L) (8 - L.length) L.length
      rw[show L.length+(8 - L.length)=8 by omega,eQ L hb]at h3
      rw[h3]
      congr 2
      omega
    ·have e:L=L.take 8++L.drop 8:=(List.take_append_drop 8 L).symm
     have h1:(L.take 8).length=8:=by simp;omega
     have h4:an (L.take 8):=hb.take 8
     have hv:=eD _ h4
     rw[h1]at hv
     have h3:=eQ _ h4
     rw[h1]at h3
     conv=>lhs;rw[e]
     rw[mN _ _ h1,eC,UInt8.toNat_ofNat',Nat.mod_eq_of_lt hv,h3,ih _ (by simp;omega) (hb.drop 8),←List.append_assoc,←e,List.length_drop]
     congr 2
     omega
 exact H L.length L (ah _)
open Go.RowKit
theorem aa{p:Prop}(h:p):Hid p:=Lib.hid h
def Blk(w:World)(g:Nat)(t:TypeId)(cs:Array Value):Prop:=w.heap[g]? =some (.cells cs t (0,0))
theorem ay{w:World}{g:Nat}{t:TypeId}{cs:Array Value}(h:Blk w g t cs):g<w.heap.size:=(Array.getElem?_eq_some_iff.1 h).1
theorem ac{w:World}{g:Nat}{t:TypeId}{cs:Array Value}(h:Blk w g t cs)(i:Nat):w.cell? ⟨g,i,none⟩=cs[i]? :=cell_of_row w g i cs t (0,0) h
theorem ae{w:World}{g:Nat}{t:TypeId}{cs:Array Value}(h:Blk w g t cs)(i:Nat):w.frozen? ⟨g,i,none⟩=false:=frozen_of_row w g i cs t h
theorem ag(w:World)(t:TypeId)(cs:Array Value):Blk (w.alloc (.cells cs t)) w.heap.size t cs:=heap_alloc_new w _
theorem au{w:World}{g:Nat}{t:TypeId}{cs:Array Value}(h:Blk w g t cs)(i:Nat)(u:Value):Blk (w.setCell ⟨g,i,none⟩ u) g t (cs.setIfInBounds i u):=heap_setCell_same w g i cs t u h
structure ak (B:Nat) (ps:List Nat) (ts:List TypeId) (w w':World):Prop where
 below:Below B w w'
 keep:∀k cs t fr,w.heap[k]? =some (.cells cs t fr)→k∉ps→t∉ts→w'.heap[k]? =some (.cells cs t fr)
section
variable {B:Nat} {ps:List Nat} {ts:List TypeId} {w w' w'':World}
theorem ak.refl(B:Nat)(ps:List Nat)(ts:List TypeId)(w:World):ak B ps ts w w:=⟨Below.refl _ _,fun _ _ _ _ h _ _=>h⟩
theorem ak.trans(h:ak B ps ts w w')(k:ak B ps ts w' w''):ak B ps ts w w'':=
 ⟨h.below.trans k.below,fun i cs t fr hh hp ht=>k.keep i cs t fr (h.keep i cs t fr hh hp ht) hp ht⟩
theorem ak.mono{B':Nat}{ps':List Nat}{ts':List TypeId}(h:ak B ps ts w w')(hB:B'≤B)(hp:∀k∈ps,k∈ps')(ht:∀t∈ts,t∈ts'):ak B' ps' ts' w w':=
 ⟨h.below.mono hB,fun i cs t fr hh hp' ht'=>h.keep i cs t fr hh (fun x=>hp' (hp _ x)) (fun x=>ht' (ht _ x))⟩
theorem ak.after{B':Nat}{ps':List Nat}{ts':List TypeId}(h:ak B ps ts w w')(k:ak B' ps' ts' w' w'')(hB:B≤B')(hp:∀i∈ps',i∈ps∨w.heap.size≤i)(ht:∀t∈ts',t∈ts):ak B ps ts w w'':=
 ⟨h.below.trans (k.below.mono hB),fun i cs t fr hh hi ht'=>k.keep i cs t fr (h.keep i cs t fr hh hi ht')
   (fun e=>(hp i e).elim hi (fun g=>by have:=(Array.getElem?_eq_some_iff.1 hh).1;omega)) (fun e=>ht' (ht t e))⟩
theorem ak.size(h:ak B ps ts w w'):w.heap.size≤w'.heap.size:=h.below.size
theorem ak.drew(h:ak B ps ts w w'):ak B ps ts w w'.drew:=⟨h.below.drew,h.keep⟩
theorem ak.drewN(h:ak B ps ts w w')(n:Nat):ak B ps ts w (w'.drewN n):=⟨⟨h.below.os,h.below.tape,h.below.output,h.below.size,h.below.block⟩,h.keep⟩
theorem ak.alloc(h:ak B ps ts w w')(hB:B≤w'.heap.size)(o:Obj):ak B ps ts w (w'.alloc o):=
 ⟨h.below.alloc hB o,fun i cs t fr hh hp ht=>by
   have:=h.keep i cs t fr hh hp ht
   exact(Below.heap_alloc w' o i (Array.getElem?_eq_some_iff.1 this).1).trans this⟩
theorem ak.set(h:ak B ps ts w w'){p:Addr}(hB:B≤p.block)(hp:p.block∈ps)(u:Value):ak B ps ts w (w'.setCell p u):=
 ⟨h.below.setCell hB u,fun i cs t fr hh hi ht=>by
   rw[Below.heap_setCell w' p u i (fun e=>hi (e ▸ hp))]
   exact h.keep i cs t fr hh hi ht⟩
theorem ak.setT(h:ak B ps ts w w'){p:Addr}(hB:B≤p.block){cs:Array Value}{t:TypeId}{fr:Nat×Nat}(hb:w'.heap[p.block]? =some (.cells cs t fr))(hp:t∈ts)(u:Value):ak B ps ts w (w'.setCell p u):=
 ⟨h.below.setCell hB u,fun i cs' t' fr' hh hi ht=>by
   have hk:=h.keep i cs' t' fr' hh hi ht
   by_cases e:i=p.block
   ·subst e
    rw[hb]at hk
    injection hk with hk
    injection hk with _ h2
    exact absurd (h2 ▸ hp) ht
   ·rw[Below.heap_setCell w' p u i e]
    exact hk⟩
theorem ak.grown(h:ak B ps ts w w'){row:Option Nat}(hg:w'.grownBy w'' row)(hB:B≤w'.heap.size)
 (hr:∀k,row=some k→B≤k∧∃cs t fr,w'.heap[k]? =some (.cells cs t fr)∧t∈ts):ak B ps ts w w'':=
 ⟨h.below.grown hg hB (fun k hk=>(hr k hk).1),fun i cs t fr hh hi ht=>by
   have hk:=h.keep i cs t fr hh hi ht
   rw[hg.block i (Array.getElem?_eq_some_iff.1 hk).1 ?_]
   ·exact hk
   ·intro e
    obtain⟨_,cs',t',fr',hb,h0⟩:=hr i e.symm
    rw[hb]at hk
    injection hk with hk
    injection hk with _ h2
    exact ht (h2 ▸ h0)⟩
theorem ak.blk(h:ak B ps ts w w'){g:Nat}{t:TypeId}{cs:Array Value}(hb:Blk w g t cs)(hp:g∉ps)(ht:t∉ts):Blk w' g t cs:=h.keep _ _ _ _ hb hp ht
theorem ak.row(h:ak B ps ts w w'){base:Nat}{t:TypeId}{size n:Nat}{v:Value}{xs:List Value}(hr:w.ownsRow base t size v n xs)(hp:∀k,v.ownBlock=some k→k∉ps)(ht:t∉ts):w'.ownsRow base t size v n xs:=by
 refine⟨hr.1,?_⟩
 rcases hr.2 with h1 | ⟨g,cap,cur,hv,hg,hh,rest⟩
 ·exact .inl h1
 ·exact .inr ⟨g,cap,cur,hv,hg,h.keep _ _ _ _ hh (hp g (by rw[hv];rfl)) ht,rest⟩
end
theorem va{w:World}{base:Nat}{e:TypeId}{size n:Nat}{v:Value}{xs:List Value}(h:w.ownsRow base e size v n xs):
 ∀k,v.ownBlock=some k→base≤k∧∃cs t fr,w.heap[k]? =some (.cells cs t fr)∧t∈ [e]:=by
 intro k hk
 rcases h.2 with⟨rfl,_⟩ | ⟨g,cap,cur,rfl,hb,hg,_⟩
 ·simp[Value.ownBlock]at hk
 ·simp[Value.ownBlock]at hk
  subst hk
  exact⟨hb,cur,e,(0,0),hg,by simp⟩
theorem cI{w:World}{base:Nat}{e t:TypeId}{size n g:Nat}{v:Value}{xs:List Value}{cs:Array Value}(h:w.ownsRow base e size v n xs)(hg:Blk w g t cs)(h0:e≠t):∀k,v.ownBlock=some k→k≠g:=by
 intro k hk he
 obtain⟨_,cs',t',fr',hb,ht⟩:=va h k hk
 subst he
 unfold Blk at hg
 rw[hg]at hb
 injection hb with hb
 injection hb with _ h2
 simp at ht
 exact h0 (by rw[← ht,←h2])
def bv(c:UInt8):Value:=.int .u8 c.toNat
theorem Tryz.info5:(Tryz.prog.info? 5).map (fun i=>(i.zero,i.size,i.bytes))=some (some (.int .u8 0),1,1):=by kernel_rfl
theorem Tryz.info3:(Tryz.prog.info? 3).map (fun i=>(i.zero,i.size,i.bytes))=some (some (.int .i64 0),1,8):=by kernel_rfl
theorem am{w w':World}(h:Below w.heap.size w w'):ak w.heap.size [] [] w w':=
 ⟨h,fun k _ _ _ hh _ _=>(h.block k (Array.getElem?_eq_some_iff.1 hh).1).trans hh⟩
theorem ap{w w1 w2:World}(h:Below w.heap.size w w1)(k:Below w1.heap.size w1 w2):Below w.heap.size w w2:=h.trans (k.mono h.size)
theorem aL{w w':World}{g:Nat}{t:TypeId}{cs:Array Value}(hb:Below w.heap.size w w')(h:Blk w g t cs):Blk w' g t cs:=(am hb).blk h List.not_mem_nil List.not_mem_nil
theorem bR{w w1:World}{o:Obj}(h:w1=w.alloc o):Below w.heap.size w w1:=by rw[h];exact(Below.refl _ _).alloc (Nat.le_refl _) _
theorem ee{w w1:World}{t:TypeId}{cs:Array Value}(h:w1=w.alloc (.cells cs t)):Blk w1 w.heap.size t cs:=by rw[h];exact ag w _ _
theorem az{B:Nat}{a w:World}(h:Below B a w)(k:Nat):Below B a (w.drewN k):=⟨h.os,h.tape,h.output,h.size,h.block⟩
theorem u7(w:World)(a b:Value)(t:TypeId):∀(j:Nat) (u:Value), [a,b][j]? =some u→(w.alloc (.cells #[a,b] t)).cell? ((⟨w.heap.size,0,none⟩:Addr).add j)=some u:=by
 intro j u hu
 rw[Addr.add_lit,ac (ag w t #[a,b])]
 simpa using hu
theorem aj{w:World}{B:Nat}{e:TypeId}{size n:Nat}{v:Value}{xs:List Value}(h:w.ownsRow B e size v n xs):∃A cap,v=.slice A n cap∧n≤cap∧cap≤maxLen∧(0<n→∃g,A=some ⟨g,0,none⟩):=by
 rcases h.2 with⟨rfl,rfl⟩ | ⟨g,cap,cur,rfl,_,_,hn,hm,_⟩
 ·exact⟨none,0,rfl,Nat.le_refl _,by unfold maxLen;omega,fun h=>by omega⟩
 ·exact⟨some ⟨g,0,none⟩,cap,rfl,hn,hm,fun _=>⟨g,rfl⟩⟩
def iv(b:Nat):Value:=.int .i64 b
def aw(w:World)(A:Option Addr)(n:Nat)(L:List Nat):Prop:=
 L.length=n∧(0<n→∃b off,A=some ⟨b,off,none⟩∧∀i,i<n→w.cell? ⟨b,off+i,none⟩=some (.int .i64 (L.getD i 0)))
theorem aw.nil{w:World}{A:Option Addr}{n k a:Nat}{L:List Nat}(h:aw w A n L)(hk:k=0)(_hak:a+k≤n):aw w A k ((L.drop a).take k):=by
 have:=h.1
 subst hk
 exact⟨by simp,fun h=>by omega⟩
theorem aw.cut{w:World}{A:Option Addr}{n k a:Nat}{L:List Nat}(h:aw w A n L)(h0:a+k≤n):aw w (Option.map (fun x=>x.add a) A) k ((L.drop a).take k):=by
 refine⟨by rw[List.length_take,List.length_drop,h.1];omega,fun hk=> ?_⟩
 obtain⟨b,off,rfl,hc⟩:=h.2 (by omega)
 refine⟨b,off+a,by rw[Option.map_some,Addr.add_lit],fun i hi=> ?_⟩
 rw[Nat.add_assoc,hc (a+i) (by omega),List.getD_eq_getElem?_getD,List.getD_eq_getElem?_getD,List.getElem?_take,if_pos hi,List.getElem?_drop]
theorem aJ{w:World}{B n cap:Nat}{A:Option Addr}{L:List Nat}(h:w.ownsRow B 3 1 (.slice A n cap) n (L.map iv)):aw w A n L:=by
 have hl:=h.1
 rw[List.length_map,Nat.mul_one]at hl
 refine⟨hl,fun hn=> ?_⟩
 obtain⟨A',cap',hv,_,_,hg⟩:=aj h
 simp only[Value.slice.injEq]at hv
 obtain⟨rfl,_,rfl⟩:=hv
 obtain⟨g,rfl⟩:=hg hn
 refine⟨g,0,rfl,fun i hi=> ?_⟩
 rw[Nat.zero_add,h.cellAt i (by omega),List.getElem?_map,List.getD_eq_getElem?_getD,List.getElem?_eq_getElem (by omega)]
 rfl
theorem jf(w:World)(B:Nat)(v:Value)(n:Nat)(xs:List Value)(h5:w.ownsRow B 3 1 v n xs)(A:Option Addr)(k c:Nat)(L:List Nat)(hi:aw w A k L)(hf:n+k≤1000000000)(hB:B≤w.heap.size):
 ∃v' w',(Builtin.append_ #[36,36] 36 #[v,.slice A k c]).run Tryz.prog w=.ok v' w'∧w'.ownsRow B 3 1 v' (n+k) (xs++L.map iv)∧w.grownBy w' v.ownBlock:=by
 obtain⟨i3,h3,h9,ha,hb⟩:=info_parts Tryz.info3
 have hl:=hi.1
 rcases A with _ | ad
 ·have hk:k=0:=by
   rcases Nat.eq_zero_or_pos k with h0 | h0
   ·exact h0
   ·obtain⟨b,off,h,_⟩:=hi.2 h0
    cases h
  subst hk
  have hL:L= []:=List.eq_nil_of_length_eq_zero hl
  subst hL
  refine⟨v,w,?_,by simpa using h5,⟨rfl,rfl,rfl,Nat.le_refl _,fun _ _ _=>rfl⟩⟩
  rcases h5.2 with⟨rfl,rfl⟩ | ⟨g,cap,cur,rfl,_,_,h8,_⟩
  ·simp[Builtin.append_,run_underlying Tryz.underlying36,sizeOf,typeInfo,h3,Builtin.lenOf,Builtin.firstCells]
  ·simp[Builtin.append_,run_underlying Tryz.underlying36,sizeOf,typeInfo,h3,Builtin.lenOf,Builtin.firstCells,h8,storeCells]
 ·have h6:∀j u,(L.map iv)[j]? =some u→w.cell? (ad.add j)=some u:=by
   intro j u hu
   have h7:j<k:=by
    have:=(List.getElem?_eq_some_iff.1 hu).1
    rw[List.length_map]at this
    omega
   obtain⟨b,off,he,hc⟩:=hi.2 (by omega)
   injection he with he
   subst he
   rw[Addr.add_lit,hc j h7,←hu,List.getElem?_map,List.getD_eq_getElem?_getD,List.getElem?_eq_getElem (by omega)]
   rfl
  obtain⟨v',w',h1,h2,h4,_⟩:=run_append_own (P:=Tryz.prog) w B 36 36 3 i3 (.int .i64 0) 1 8 Tryz.underlying36 h3 h9 ha hb rfl (by decide) v n xs h5 ad k c (L.map iv) (by rw[List.length_map,hl,Nat.mul_one]) h6
   (fun u hu=>by obtain⟨q,_,rfl⟩:=List.mem_map.1 hu;rfl) (by unfold maxLen;omega) (by omega) hB
  exact⟨v',w',h1,h2,h4⟩
theorem qf{ops:Array Oper}{o:Oper}{a:Act}{w w':World}{K:Act→World→Prop}{Q:Exit→Act→World→Prop}{E:Prop}{v':Value}(h1:o.guard=none)(s x:Operand)(t:TypeId)
 (ho:o.op=.call { callee:=.builtin .append,args:=#[s,x],argTypes:=#[t,t] }) (vs vx:Value) (hs:a.eval s=vs) (hx:a.eval x=vx)
 (h0:(Builtin.append_ #[t,t] o.type #[vs,vx]).run Tryz.prog w=.ok v' w') (h:K (a.put o.dst v') w'):
 if Region.wanted o (yielded ops a.tmps)=true then Oper.wp Tryz.prog o a w K Q else E:=by
 have hw:Region.wanted o (yielded ops a.tmps)=true:=by simp[Region.wanted,h1]
 rw[if_pos hw]
 unfold Oper.wp execOp
 simp only[ho,resolve,invoke,builtin,Sem.run_bind,Sem.run_pure,Result.andThen_ok,List.map_toArray,List.map_cons,List.map_nil,hs,hx,h0]
 exact h
theorem oV(l:List Nat)(i:Nat)(hb:an l):l.getD i 0<2:=by
 rw[List.getD_eq_getElem?_getD]
 rcases h:l[i]? with _ | b
 ·simp
 ·exact hb b (List.mem_of_getElem? h)
theorem I3(c e:Nat)(hc:c<256):bits .and .i64 ((c:Int) / 2 ^ e) 1=((c / 2 ^ e % 2:Nat):Int):=by
 have h1:((c:Int) / 2 ^ e)=((c / 2 ^ e:Nat):Int):=by rw[Int.natCast_ediv,Int.natCast_pow];rfl
 have h0:c / 2 ^ e<256:=Nat.lt_of_le_of_lt (Nat.div_le_self _ _) hc
 rw[h1]
 generalize c / 2 ^ e=d at*
 show IntKind.i64.wrap ((BitVec.ofInt 64 (d:Int) &&& BitVec.ofInt 64 1).toNat:Int)=_
 rw[BitVec.toNat_and,BitVec.ofInt_natCast,BitVec.toNat_ofNat,Nat.mod_eq_of_lt (show d<2 ^ 64 by omega),show(BitVec.ofInt 64 1).toNat=1 from rfl,nat_mask1,IntKind.wrap_i64]
 omega
open Go.ChangeShapes Go.WideShapes Go.ChangeAt Go.RowKit
theorem own:ownKnob Tryz.prog.godebug=none:=by kernel_rfl
theorem G8:laidOutB Tryz.prog=true:=by kernel_rfl
theorem ud{H:Type}{enc:TypeId×Value→H}{W W':World}(hb:Below W.heap.size W W'):∀{ts:List TypeId} {vs:List Value} {ds:List (DataW H)} {ps:List MemPlace},
 (∀ t∈ts,Tryz.prog.readableRec t=true∧t<Tryz.prog.types.size)→(∀ x∈ps,x.block<W.heap.size)→
 DataW.TrodAll enc Tryz.prog W 0 (fun _=>true) true ts vs ds ps→DataW.TrodAll enc Tryz.prog W' 0 (fun b=>decide (b<W.heap.size)) true ts vs ds ps
 | [],_,_,_,_,_,h=>by
   obtain⟨rfl,rfl,rfl⟩:=trodAll_nil h
   exact trodAll_mk0
 | t :: ts,_,_,_,ht,hlt,h=>by
   obtain⟨v,vs,d,ds,p,q,rfl,rfl,rfl,h1,h2⟩:=trodAll_cons h
   exact trodAll_cons_mk (Below.trod G8 (ht t (by simp)).1 (ht t (by simp)).2 h1 hb (fun x hx=>hlt x (by simp[hx])))
    (ud hb (fun t' h'=>ht t' (by simp[h'])) (fun x hx=>hlt x (by simp[hx])) h2)
theorem F4{H:Type}{enc:TypeId×Value→H}{f:Func}{s:ChangeSpec}{W W':World}{args:Array Value}{ds:List (DataW H)}{before:List MemPlace}
 (hW:DataW.Whole enc Tryz.prog f.params.toList s.vars false W args.toList ds [] before) (hs:s.vars= []) (hb:Below W.heap.size W W')
 (hp:f.params.toList.all (fun t=>Tryz.prog.readableRec t&&decide (t<Tryz.prog.types.size))=true) (hr:f.resultTypes=#[4])
 (h0:s.fn H (ds++ [])={ results:= [.lit (.bool true)],args:=ds }):s.post enc Tryz.prog f false true false false W args (.bool true) W':=by
 have h2:=hW.lt
 have h1:=hW
 obtain⟨p,q,hA,hV,rfl,_,_⟩:=hW
 rw[hs]at hV
 obtain⟨_,rfl⟩:=trodVars_none hV
 rw[List.append_nil]at h2 h1
 refine⟨ds, [],p, [],p, [],h1,?_,?_,?_,hb.frame _,fun h=>by cases h⟩
 ·rw[h0,hr]
  exact trodAll_cons_mk (shut_bool Tryz.underlying4 _) trodAll_mk0
 ·rw[h0]
  exact ud hb (fun t ht=>by simpa using List.all_eq_true.1 hp t ht) h2 hA
 ·rw[hs,h0]
  rfl
theorem bi(w:World)(v:Value)(t:TypeId):∀(j:Nat) (u:Value), [v][j]? =some u→(w.alloc (.cells #[v] t)).cell? ((⟨w.heap.size,0,none⟩:Addr).add j)=some u:=by
 intro j u hu
 have hj:j=0:=by
  have:=(List.getElem?_eq_some_iff.1 hu).1
  simp at this
  exact this
 subst hj
 simp at hu
 subst hu
 rw[Addr.add_lit,ac (ag w t _)]
 rfl
def ZIn(w:World)(A:Option Addr)(n:Nat)(L:List Int):Prop:=
 L.length=n∧(0<n→∃b off,A=some ⟨b,off,none⟩∧∀i,i<n→w.cell? ⟨b,off+i,none⟩=some (.int .i64 (L.getD i 0)))
theorem ZIn.below{w w':World}{A:Option Addr}{n:Nat}{L:List Int}(h:ZIn w A n L)(hb:Below w.heap.size w w'):ZIn w' A n L:=by
 refine⟨h.1,fun hn=> ?_⟩
 obtain⟨b,off,rfl,hc⟩:=h.2 hn
 exact⟨b,off,rfl,fun i hi=>(hb.cell (p:=⟨b,off+i,none⟩) (World.block_lt_of_cell? w _ (hc i hi))).trans (hc i hi)⟩
theorem bF{w w':World}{A:Option Addr}{n:Nat}{L:List Nat}(h:aw w A n L)(hb:Below w.heap.size w w'):aw w' A n L:=by
 refine⟨h.1,fun hn=> ?_⟩
 obtain⟨b,off,rfl,hc⟩:=h.2 hn
 refine⟨b,off,rfl,fun i hi=> ?_⟩
 exact(hb.cell (p:=⟨b,off+i,none⟩) (World.block_lt_of_cell? w _ (hc i hi))).trans (hc i hi)
theorem cR{w:World}{A:Option Addr}{n:Nat}{L:List Nat}(h:aw w A n L):ZIn w A n (L.map fun(x:Nat)=>(x:Int)):=by
 refine⟨by rw[List.length_map];exact h.1,fun hn=> ?_⟩
 obtain⟨b,off,rfl,hc⟩:=h.2 hn
 refine⟨b,off,rfl,fun i hi=> ?_⟩
 rw[hc i hi,List.getD_eq_getElem?_getD,List.getD_eq_getElem?_getD,List.getElem?_map,List.getElem?_eq_getElem (by rw[h.1];exact hi)]
 rfl
variable {P:Program}
theorem jc{o:Oper}{a:Act}{w:World}{next:Act→World→Prop}{Q:Exit→Act→World→Prop}{ty t:TypeId}{p:Operand}{g n:Nat}{e:TypeId}{cs:Array Value}{fr:Nat×Nat}
 (h0:o.op=.load ty p) (hp:a.eval p=.pointer (some ⟨g,0,none⟩)) (hg:w.heap[g]? =some (.cells cs t fr)) (hu:P.underlying ty=some (.array n e)) (hi:(P.info? ty).map (·.size)=some cs.size)
 (hn:next (a.put o.dst (.agg cs)) w):Oper.wp P o a w next Q:=by
 unfold Oper.wp
 have h:(execOp a.eval o).run P w=.ok (.value (.agg cs)) w:=by
  have:=run_loadVar_row (P:=P) w g t ty cs fr _ hg hu rfl hi
  simp only[execOp,h0,hp,Instr.loadAt,Instr.sureAddr,Sem.run_bind,Sem.run_pure,Result.andThen,this]
 rw[h]
 exact hn
theorem il{fn:Func}{p:Tmp}{ty t:TypeId}{tmps:Array Value}{w:World}{g n:Nat}{e:TypeId}{cs:Array Value}{fr:Nat×Nat}(h:fn.results=#[.cell p ty])
 (hp:tmps.getD p undef=.pointer (some ⟨g,0,none⟩)) (hg:w.heap[g]? =some (.cells cs t fr)) (hu:P.underlying ty=some (.array n e)) (hi:(P.info? ty).map (·.size)=some cs.size):
 (results fn tmps).run P w=.ok (.agg cs) w:=by
 have:=run_loadVar_row (P:=P) w g t ty cs fr _ hg hu rfl hi
 rw[Array.getD_eq_getD_getElem?]at hp
 simp only[results,h]
 simp[hp,asAddr,this]
theorem bV{w:World}{t ty:TypeId}{g:Nat}{old cs:Array Value}(hg:w.heap[g]? =some (.cells old t (0,0)))(hi:(P.info? ty).map (·.size)=some cs.size)(ho:old.size=cs.size)(h1:cs.all (·.oneCell')=true):
 (storeCells ⟨g,0,none⟩ cs.toList 0).run P w=.ok () (w.setRow g cs):=by
 have:=run_storeVar_row (P:=P) w g t ty old cs hg hi ho h1
 cases hq:P.info? ty with
 | none=>simp[hq]at hi
 | some i=>
   have hs:cs.size=i.size:=by simp[hq]at hi;omega
   simpa [storeVar,sizeOf,typeInfo,hq,Value.cells,hs]using this
theorem below_setRow{B:Nat}{w w':World}(h:Below B w w'){g:Nat}(hg:B≤g)(cs:Array Value):Below B w (w'.setRow g cs):=
 ⟨h.os,h.tape,h.output,by rw[size_setRow];exact h.size,fun k hk=>by rw[setRow_other _ _ _ _ (by omega)];exact h.block k hk⟩
theorem bn(w:World)(o:Obj)(k:Nat)(h:k<w.heap.size):(w.alloc o).heap[k]? =w.heap[k]? :=by
 show(w.heap.push o)[k]? =_
 rw[Array.getElem?_push,if_neg (by omega)]
end Go.Proofs.YthakcjehhlpjnaaGreat
