import Derived.Test.YtepokmggbfoakaaGreatDoorRows
import Derived.WalkKit
import Derived.WalkLawsBesides
import Derived.WalkSpells
import Derived.Below
import Derived.Maps.AppendAt
import Derived.Deep.Draws
import Derived.LoopTactic
import Derived.Deep.LoopGhost
import Derived.Lib.Hide
import Derived.Outline
import Derived.RegionTactic
import Derived.BigRegion
import Derived.BigQuiet
import Derived.Deep.QuietTactic
import Derived.Deep.DeepFit
import Derived.OwnWalk
import Derived.Laws.AppendOwn
import Derived.IntWalk
import Derived.Deep.DeepCutAuto
import Derived.Deep.RegionHeld3
import Derived.StillTailTactics
import Derived.Laws.BitsAllLaws
import Derived.Laws.IdiomStrings
import Derived.Laws.BytesArg
import Derived.Laws.StructEq
import Derived.Deep.AppendLies
import Derived.ProofKit
import Derived.OpenShut
import Derived.Carry
import Derived.ChangeMaps5
import Derived.ChangeSlices
import Derived.Deep.WholeRow
import Derived.Laws.Rows
import Derived.Laws.ResultCell
set_option maxRecDepth 100000
namespace Go.Proofs.YtepokmggbfoakaaGreatDoor
abbrev LR:=@List.length_append
abbrev LU:=@List.getD_eq_getElem?_getD
abbrev LV:=@List.getElem?_eq_getElem
abbrev LW:=@if_neg
abbrev LX:=@if_pos
abbrev LY:=@Nat.zero_le
abbrev LZ:=@List.append_assoc
abbrev L4:=@List.mem_cons_self
abbrev L5:=@Nat.le_refl
abbrev L6:=@Go.RowKit.Below.refl
abbrev L7:=@decide_eq_false
abbrev L8:=@decide_eq_true
abbrev L9:=@Int.toNat_natCast
abbrev Ma:=@List.mem_cons_of_mem
abbrev Mb:=@List.length_cons
abbrev Mc:=@List.length_drop
abbrev Md:=@Go.World.block_lt_of_cell?
abbrev Me:=@List.getElem?_map
abbrev Mf:=@List.getElem?_eq_none
abbrev Mg:=@List.eq_nil_of_length_eq_zero
abbrev Mh:=@List.take_of_length_le
abbrev Mi:=@List.length_map
abbrev Mj:=@List.length_take
abbrev Mk:=@Nat.le_trans
abbrev Ml:=@Go.World.ownsRow_nil
abbrev Mm:=@Go.bodyPost_ret
abbrev Mn:=@List.take_succ_eq_append_getElem
abbrev Mo:=@List.length_replicate
abbrev Mp:=@Go.Calls.quiet_of
abbrev Mq:=@List.length_singleton
abbrev Mr:=@beq_eq_false_iff_ne
abbrev Ms:=@Nat.mod_eq_of_lt
abbrev Mt:=@List.length_range
abbrev Mu:=@List.getElem_mem
abbrev Mv:=@List.append_nil
abbrev Mw:=@List.map_append
abbrev Mx:=@List.getElem?_range
abbrev My:=@Option.some.inj
abbrev Mz:=@List.nil_append
abbrev MA:=@List.drop_eq_getElem_cons
abbrev MB:=@Nat.le_of_lt
abbrev MC:=@List.getElem?_append_right
abbrev MD:=@List.flatMap_cons
abbrev ME:=@List.getElem?_append_left
abbrev MF:=@Nat.lt_or_ge
abbrev MG:=@Nat.zero_add
abbrev MH:=@List.length_nil
abbrev MI:=@List.cons_append
abbrev MJ:=@List.map_congr_left
abbrev MK:=@List.mem_singleton
abbrev ML:=@List.ext_getElem?
abbrev MM:=@Nat.add_zero
abbrev MN:=@Nat.min_eq_left
abbrev MO:=@List.setIfInBounds_toArray
abbrev MP:=@List.drop_of_length_le
abbrev MQ:=@List.range_succ
abbrev MR:=@Nat.mul_one
abbrev MS:=@Option.some.injEq
abbrev MT:=@Go.info_parts
abbrev MU:=@Nat.mul_comm
abbrev MV:=@Go.IntKind.wrap_i64
abbrev MW:=@Nat.pow_le_pow_right
abbrev MX:=@List.map_map
abbrev MY:=@List.take_append_drop
abbrev MZ:=@Go.Exit.noGoto_ret
abbrev M4:=@UInt8.toNat_ofNat'
abbrev M6:=@List.getElem_cons_zero
abbrev M7:=@Go.World.size_alloc
abbrev M8:=@List.map_cons
abbrev M9:=@List.flatMap_append
abbrev Na:=@List.getElem_cons_succ
abbrev Nb:=@List.take_append_of_le_length
abbrev Nc:=@List.drop_append_of_le_length
abbrev Nd:=@List.getElem_toArray
abbrev Nf:=@Nat.lt_trichotomy
abbrev Ng:=@Nat.sub_self
abbrev Nh:=@List.set_cons_succ
abbrev Ni:=@ByteArray.size_extract
abbrev Nj:=@List.Pairwise.imp_of_mem
abbrev Nk:=@List.nodup_range
abbrev Nl:=@Go.World.ownsRow.lt
abbrev Nm:=@Nat.two_pow_pos
abbrev Nn:=@Option.map_some
abbrev No:=@Go.wpList_append_own
abbrev Np:=@Nat.lt_of_lt_of_le
abbrev Nq:=@List.set_cons_zero
abbrev Nr:=@Nat.le_of_eq
abbrev Ns:=@Go.Value.slice.injEq
abbrev Nt:=@List.drop_eq_nil_of_le
abbrev Nu:=@Nat.add_assoc
abbrev Nv:=@decide_eq_true_iff
abbrev Nw:=@Nat.mul_lt_mul_of_pos_right
abbrev Ny:=@Nat.add_sub_cancel_left
abbrev Nz:=@Nat.mul_assoc
abbrev NA:=@List.mem_of_mem_drop
abbrev NC:=@Go.World.ownsRow.cellAt
abbrev ND:=@Nat.pow_succ
abbrev NE:=@Go.RowKit.Below.heap_setCell
abbrev NF:=@Nat.eq_zero_or_pos
abbrev NH:=@Go.World.ownsRow_made
abbrev NI:=@not_not_intro
abbrev NJ:=@List.replicate_succ
abbrev NK:=@List.take_succ_cons
abbrev NL:=@List.idxOf_lt_length_of_mem
abbrev NM:=@Nat.testBit_eq_decide_div_mod_eq
abbrev NN:=@Array.getElem?_setIfInBounds_ne
abbrev NO:=@List.mem_of_mem_take
abbrev NP:=@List.perm_ext_iff_of_nodup
abbrev NR:=@Nat.le_succ
abbrev NS:=@List.drop_left
abbrev NT:=@Go.RowKit.Below.heap_alloc
abbrev NU:=@List.getElem_of_mem
abbrev NV:=@beq_iff_eq
abbrev NW:=@List.getElem?_take_of_lt
abbrev NX:=@Go.Addr.add_lit
abbrev NY:=@Nat.not_lt_zero
abbrev NZ:=@Array.getElem?_setIfInBounds
abbrev N3:=@List.getElem?_drop
abbrev N4:=@List.mem_append_left
abbrev N5:=@Nat.pow_add
abbrev N8:=@List.getElem?_replicate
abbrev N9:=@Nat.min_eq_right
abbrev Oa:=@List.sum_cons
abbrev Ob:=@List.mem_cons
abbrev Oc:=@List.length_pos_of_mem
abbrev Od:=@List.pairwise_map
abbrev Oe:=@bne_iff_ne
abbrev Of:=@UInt8.lt_iff_toNat_lt
abbrev Og:=@Nat.lt_succ_self
abbrev Oh:=@Go.World.ownsRow.kept
abbrev Oi:=@beq_self_eq_true
abbrev Oj:=@Prod.mk.injEq
abbrev Ok:=@Array.size_setIfInBounds
abbrev Ol:=@Go.results_none
abbrev Om:=@Go.World.setCell_alloc_past
abbrev On:=@Nat.add_mul
abbrev Oo:=@List.mem_of_getElem?
abbrev Oq:=@UInt8.toNat_lt
abbrev Ot:=@Nat.pow_lt_pow_right
abbrev Ou:=@Go.returnsInHanded_of_change_and
abbrev Ov:=@List.length_set
abbrev Ow:=@beq_false_of_ne
abbrev Ox:=@Go.ByteArray.toList_eq
abbrev Oy:=@Nat.div_div_eq_div_mul
abbrev Oz:=@Array.getElem_setIfInBounds
abbrev OA:=@Go.wp_region_lit
abbrev OB:=@Go.wpAnyH_take
abbrev OC:=@List.countP_cons
abbrev OD:=@Nat.shiftLeft_eq
abbrev OE:=@Go.run_underlying
abbrev OF:=@List.drop_drop
abbrev OG:=@Nat.mod_lt
abbrev OH:=@Nat.lt_of_mul_lt_mul_right
abbrev OI:=@Nat.xor_lt_two_pow
abbrev OJ:=@List.take_zero
abbrev OK:=@List.mem_append_right
abbrev OL:=@List.countP_le_length
abbrev OM:=@Nat.shiftRight_eq_div_pow
abbrev ON:=@List.replicate_succ'
abbrev OP:=@of_decide_eq_true
abbrev OQ:=@Nat.mul_le_mul_right
abbrev OR:=@decide_eq_true_eq
abbrev OS:=@Nat.eq_of_testBit_eq
abbrev OT:=@UInt8.ofNat_toNat
abbrev OU:=@List.size_toArray
abbrev OV:=@Go.Addr.mk.injEq
abbrev OW:=@List.replicate_append_replicate
abbrev OX:=@Int.toNat_of_nonneg
abbrev OY:=@List.replicate_zero
abbrev OZ:=@bne_eq_false_iff_eq
abbrev O0:=@Nat.le_add_right
abbrev O3:=@List.take_length
abbrev O4:=@decide_eq_false_iff_not
abbrev O5:=@Int.eq_ofNat_of_zero_le
abbrev O8:=@Go.OpenClaim.holds_of_wide
abbrev O9:=@Go.setRow_heap
abbrev Pa:=@List.map_nil
abbrev Pb:=@Go.run_convert_bytes_back
abbrev Pd:=@List.getElem?_take
abbrev Pe:=@Array.getElem?_modify
abbrev Pg:=@Go.run_convert_bytes_nil
abbrev Ph:=@Array.getElem?_toList
abbrev Pi:=@List.getElem_take
abbrev Pj:=@Array.all_eq_true
abbrev Pk:=@List.flatten_cons
abbrev Pm:=@Array.getElem?_setIfInBounds_self_of_lt
abbrev Pn:=@Go.heap_alloc_new
abbrev Po:=@List.mem_range
abbrev Pp:=@List.nodup_iff_pairwise_ne
abbrev Pq:=@List.map_id
abbrev Pr:=@Int.le_refl
abbrev Ps:=@Array.getElem?_append_left
abbrev Pt:=@Int.natCast_emod
abbrev Pu:=@Nat.pow_zero
abbrev Pv:=@Nat.sub_zero
abbrev Pw:=@List.flatMap_nil
abbrev Px:=@Nat.zero_testBit
abbrev Py:=@Go.ChangeMaps.open_string
abbrev Pz:=@Go.Calls.quiet_of_same
abbrev PA:=@List.flatten_append
abbrev PC:=@Nat.lt_irrefl
abbrev PD:=@Go.run_make
abbrev PE:=@List.eq_of_mem_replicate
abbrev PF:=@ByteArray.ext
abbrev PG:=@List.nodup_cons
abbrev PH:=@List.map_const'
abbrev PI:=@Int.natCast_pow
abbrev PJ:=@Int.natCast_mul
abbrev PM:=@List.drop_left'
abbrev PN:=@Array.extract_size
abbrev PP:=@List.countP_append
abbrev PQ:=@List.filter_append
abbrev PR:=@Nat.one_mul
abbrev PT:=@List.getElem?_cons_succ
abbrev PU:=@Array.ext
abbrev PV:=@Go.run_append_own
abbrev PW:=@Go.World.ownsRow.frozenAt
abbrev PX:=@List.take_take
abbrev PY:=@List.getElem_drop
abbrev PZ:=@List.drop_zero
abbrev P0:=@Array.getElem?_eq_none
abbrev P3:=@List.pairwise_lt_range
abbrev P4:=@List.filter_congr
abbrev P5:=@List.countP_singleton
abbrev P6:=@List.cons_lt_cons_iff
abbrev P7:=@List.length_filter_le
abbrev P8:=@List.flatMap_map
abbrev P9:=@List.drop_length
abbrev Qa:=@Nat.div_eq_of_lt
abbrev Qb:=@Go.IntKind.wrap_u64
abbrev Qc:=@List.getElem_map
abbrev Qd:=@List.flatten_nil
abbrev Qe:=@Nat.xor_assoc
abbrev Qf:=@if_false
abbrev Qg:=@Go.World.ownsRow.stored
abbrev Qh:=@Go.toList_madeCells_one
abbrev Qi:=@Nat.div_one
abbrev Qj:=@Array.toArray_toList
abbrev Qk:=@Bool.eq_iff_iff
abbrev Ql:=@List.take_left'
abbrev Qm:=@Go.Obj.cells.injEq
abbrev Qn:=@Nat.testBit_xor
abbrev Qo:=@UInt8.lt_irrefl
abbrev Qp:=@Go.World.ownsRow.alloc
abbrev Qq:=@Nat.mul_le_mul_left
abbrev Qr:=@List.getD_cons_succ
abbrev Qs:=@Nat.testBit_div_two
abbrev Qt:=@Array.toList_append
abbrev Qu:=@Array.length_toList
abbrev Qv:=@Nat.testBit_two_pow
abbrev Qw:=@Nat.zero_ne_add_one
abbrev Qx:=@Nat.add_comm
abbrev Qy:=@Go.zero_of_info
abbrev Qz:=@Nat.mul_div_cancel
abbrev QA:=@List.Perm.refl
abbrev QB:=@List.append_of_mem
abbrev QC:=@Go.size_madeCells
abbrev QD:=@Nat.add_sub_cancel
abbrev QE:=@List.map_singleton
abbrev QF:=@Go.run_storeCells_new
abbrev QG:=@Go.run_copy_cells
abbrev QH:=@List.map_take
theorem ay{α:Type _}{a:α}:a∉([]:List α):=List.not_mem_nil
theorem ag(n:Nat):n≤n:=L5 n
theorem aN{p:Prop}[Decidable p](h:¬p):decide p=false:=L7 h
theorem bD{p:Prop}[Decidable p](h:p):decide p=true:=L8 h
def aj(v:Nat):Nat→List Nat
 | 0=> []
 | n+1=>aj (v / 2) n++ [v % 2]
def val(l:List Nat):Nat:=l.foldl (fun a b=>2*a+b) 0
theorem af(n:Nat):∀v,(aj v n).length=n:=by
 induction n with
 | zero=>intro v;rfl
 | succ n ih=>intro v;simp[aj,ih]
theorem i4(b:Nat):∀v a,aj v (a+b)=aj (v / 2 ^ b) a++aj v b:=by
 induction b with
 | zero=>intro v a;simp[aj]
 | succ b ih=>intro v a;show aj v (a+b+1)=_;rw[aj,ih,aj,←LZ,Oy,ND,MU]
theorem k6(l:List Nat)(b:Nat):val (l++ [b])=2*val l+b:=by simp[val]
theorem ui{p:List Nat→Prop}(h0:p [])(h1:∀m b,p m→p (m++ [b])):∀l,p l:=by
 have H:∀r:List Nat,p r.reverse:=by
  intro r
  induction r with
  | nil=>exact h0
  | cons b r ih=>rw[List.reverse_cons];exact h1 _ _ ih
 intro l;have:=H l.reverse;rwa [List.reverse_reverse]at this
theorem uC(m:List Nat):∀l,val (l++m)=val l*2 ^ m.length+val m:=by
 refine ui (p:=fun m=>∀l,val (l++m)=val l*2 ^ m.length+val m) ?_ ?_ m;·intro l;simp[val]
 ·intro m b ih l;rw[← LZ,k6,ih,k6];simp[ND];rw[Nat.mul_add,←Nz,Nu];congr 1;rw[MU 2 (val l),Nz,MU 2]
theorem dW(n:Nat):∀v,val (aj v n)=v % 2 ^ n:=by
 induction n with
 | zero=>intro v;simp[aj,val,Nat.mod_one]
 | succ n ih=>intro v;rw[aj,k6,ih,ND,MU (2 ^ n) 2,Nat.mod_mul];omega
def au(l:List Nat):Prop:=∀b∈l,b<2
theorem aD(n:Nat):∀v,au (aj v n):=by
 induction n with
 | zero=>intro v b h;simp[aj]at h
 | succ n ih=>
  intro v b h;simp[aj]at h;rcases h with h | h;·exact ih _ b h
  ·subst h;omega
theorem au.append{a b:List Nat}(ha:au a)(hb:au b):au (a++b):=by
 intro x hx;rcases List.mem_append.1 hx with h | h;·exact ha x h
 ·exact hb x h
theorem au.left{a b:List Nat}(h:au (a++b)):au a:=fun x hx=>h x (N4 _ hx)
theorem au.take{a:List Nat}(h:au a)(n:Nat):au (a.take n):=fun x hx=>h x (NO hx)
theorem au.drop{a:List Nat}(h:au a)(n:Nat):au (a.drop n):=fun x hx=>h x (NA hx)
theorem iE(l:List Nat):au l→val l<2 ^ l.length:=by
 refine ui (p:=fun l=>au l→val l<2 ^ l.length) ?_ ?_ l;·intro _;simp[val]
 ·intro m b ih h;have h1:=ih h.left;have h2:=h b (by simp);rw[k6];simp[ND];omega
theorem i6(l:List Nat):au l→aj (val l) l.length=l:=by
 refine ui (p:=fun l=>au l→aj (val l) l.length=l) ?_ ?_ l;·intro _;rfl
 ·intro m b ih h;have h1:=ih h.left;have h2:=h b (by simp);rw[LR,Mq,aj,k6,show(2*val m+b) / 2=val m by omega,h1,show(2*val m+b) % 2=b by omega]
def oS:Nat→List Nat→List UInt8
 | 0,_=> []
 | k+1,l=>if l= []then []else UInt8.ofNat (val (l.take 8)*2 ^ (8 - l.length)) :: oS k (l.drop 8)
def pack(l:List Nat):List UInt8:=oS l.length l
theorem jc(k:Nat):oS k []= []:=by cases k <;>simp[oS]
theorem tN(k:Nat):∀(l:List Nat),l.length≤k→oS k l=pack l:=by
 suffices H:∀(k j:Nat) (l:List Nat),l.length≤k→l.length≤j→oS k l=oS j l from fun l h=>H k l.length l h (ag _)
 intro k
 induction k with
 | zero=>intro j l h h';have:l= []:=Mg (by omega);subst this;rw[jc,jc]
 | succ k ih=>
  intro j l h h'
  cases j with
  | zero=>have:l= []:=Mg (by omega);subst this;rw[jc,jc]
  | succ j=>
   by_cases e:l= [];·subst e;rw[jc,jc]
   ·simp only[oS,e,Qf];rw[ih j (l.drop 8) (by simp;omega) (by simp;omega)]
theorem I1:pack []= []:=rfl
theorem qc(l:List Nat)(h:l≠ []):pack l=UInt8.ofNat (val (l.take 8)*2 ^ (8 - l.length)) :: pack (l.drop 8):=by rw[← tN (l.length+1) l (by omega)];simp only[oS,h,Qf];rw[tN _ _ (by simp)]
theorem nK(l:List Nat)(h:0<l.length)(h8:l.length≤8):pack l= [UInt8.ofNat (val l*2 ^ (8 - l.length))]:=by rw[qc l (List.length_pos_iff.1 h),Mh h8,MP h8,I1]
theorem lA(a b:List Nat)(h:a.length=8):pack (a++b)=UInt8.ofNat (val a) :: pack b:=by rw[qc (a++b) (by intro e;have:=congrArg List.length e;rw[LR,MH]at this;omega),Nb (by omega),Mh (by omega),Nc (by omega),MP (by omega)];simp[h]
theorem qY(k:Nat):∀a b:List Nat,a.length=8*k→pack (a++b)=pack a++pack b:=by
 induction k with
 | zero=>intro a b h;have:a= []:=Mg (by omega);subst this;rfl
 | succ k ih=>intro a b h;have e:a=a.take 8++a.drop 8:=(MY 8 a).symm;have h1:(a.take 8).length=8:=(by simp;omega);have h2:(a.drop 8).length=8*k:=(by simp;omega);rw[e,LZ,lA _ _ h1,lA _ _ h1,ih _ _ h2,MI]
theorem a8(l:List Nat):(pack l).length=(l.length+7) / 8:=by
 have H:∀(n:Nat) (l:List Nat),l.length≤n→(pack l).length=(l.length+7) / 8:=by
  intro n
  induction n with
  | zero=>intro l h;have:l= []:=Mg (by omega);subst this;rfl
  | succ n ih=>
   intro l h;by_cases e:l= [];·subst e;rfl
   ·have hp:0<l.length:=List.length_pos_iff.2 e;rw[qc l e,Mb,ih _ (by simp;omega)];simp;omega
 exact H l.length l (ag _)
theorem CA(l:List Nat):pack l=pack (l.take (8*(l.length / 8)))++pack (l.drop (8*(l.length / 8))):=by (conv=>lhs;rw[← MY (8*(l.length / 8)) l]);exact qY (l.length / 8) _ _ (by simp;omega)
theorem I0(a b s:Nat)(h:b<2 ^ s):(a*2 ^ s) ||| b=a*2 ^ s+b:=by rw[MU,Nat.two_pow_add_eq_or_of_lt h]
theorem FS(l m:List Nat)(hm:0<m.length)(hr:l.length % 8+m.length≤8)(hb:au m):
 pack (l++m)=pack (l.take (8*(l.length / 8)))++ [UInt8.ofNat ((val (l.drop (8*(l.length / 8)))*2 ^ (8 - l.length % 8)) ||| (val m*2 ^ (8 - l.length % 8 - m.length)))]:=by have e:l++m=l.take (8*(l.length / 8))++(l.drop (8*(l.length / 8))++m):=(by rw[← LZ,MY]);have hl:(l.drop (8*(l.length / 8))++m).length=l.length % 8+m.length:=(by simp;omega);rw[e,qY (l.length / 8) _ _ (by simp;omega),nK (l.drop (8*(l.length / 8))++m) (by omega) (by omega),uC,hl];congr 3;have hv:=iE m hb;generalize val (List.drop (8*(l.length / 8)) l)=R;generalize val m=M at*;generalize hr':l.length % 8=r at*;generalize m.length=k at*;have e1:8 - r=k+(8 - r - k):=(by omega);have h0:M*2 ^ (8 - r - k)<2 ^ (8 - r):=(by (conv=>rhs;rw[e1,N5]);exact Nw hv (Nm _));rw[I0 _ _ _ h0,On];(conv=>rhs;lhs;rw[e1,N5]);rw[show 8 - (r+k)=8 - r - k by omega,Nz]
def ai(l:List UInt8):List Nat:=l.flatMap fun c=>aj c.toNat 8
theorem vk:ai []= []:=rfl
theorem eM(c:UInt8)(l:List UInt8):ai (c :: l)=aj c.toNat 8++ai l:=rfl
theorem fV(a b:List UInt8):ai (a++b)=ai a++ai b:=by simp[ai]
theorem aw(l:List UInt8):(ai l).length=8*l.length:=by
 induction l with
 | nil=>rfl
 | cons c l ih=>rw[eM,LR,af,ih,Mb];omega
theorem aI(l:List UInt8):au (ai l):=by
 induction l with
 | nil=>intro b h;simp[ai]at h
 | cons c l ih=>rw[eM];exact(aD _ _).append ih
theorem pG(n:Nat):∀v i,i<n→(aj v n)[i]? =some (v / 2 ^ (n - 1 - i) % 2):=by
 induction n with
 | zero=>intro v i h;omega
 | succ n ih=>
  intro v i h;rw[aj];by_cases h1:i<n;·rw[ME (by rw[af];exact h1),ih _ _ h1,Oy,show n+1 - 1 - i=(n - 1 - i)+1 by omega,ND,MU]
  ·obtain rfl:i=n:=(by omega);rw[MC (by rw[af];exact L5 _),af];simp
theorem Er(l:List UInt8):∀i,i<8*l.length→(ai l)[i]? =some ((l.getD (i / 8) 0).toNat / 2 ^ (7 - i % 8) % 2):=by
 induction l with
 | nil=>intro i h;simp at h
 | cons c l ih=>
  intro i h;rw[eM];by_cases h8:i<8;·rw[ME (by rw[af];exact h8),pG _ _ _ h8,show i / 8=0 by omega,show i % 8=i by omega];rfl
  ·rw[MC (by rw[af];omega),af,ih (i - 8) (by rw[Mb]at h;omega),show i / 8=(i - 8) / 8+1 by omega,show(i - 8) % 8=i % 8 by omega];rfl
theorem sj(n:Nat):aj 0 n=List.replicate n 0:=by
 induction n with
 | zero=>rfl
 | succ n ih=>rw[aj,Nat.zero_div,ih,Nat.zero_mod,ON]
theorem lZ(v k n:Nat):aj (v*2 ^ k) (n+k)=aj v n++List.replicate k 0:=by
 rw[i4,Qz _ (Nm k)];congr 1;have:∀(k v:Nat),aj (v*2 ^ k) k=List.replicate k 0:=by
  intro k
  induction k with
  | zero=>intro v;rfl
  | succ k ih=>intro v;rw[aj,ND,←Nz,Qz _ (by omega),ih,Nat.mul_mod_left,ON]
 exact this k v
theorem lk(L:List Nat):au L→ai (pack L)=L++List.replicate (8*((L.length+7) / 8) - L.length) 0:=by
 have H:∀(n:Nat) (L:List Nat),L.length≤n→au L→ai (pack L)=L++List.replicate (8*((L.length+7) / 8) - L.length) 0:=by
  intro n
  induction n with
  | zero=>intro L h _;have:L= []:=Mg (by omega);subst this;rfl
  | succ n ih=>
   intro L h hb;by_cases h8:L.length≤8
   ·by_cases h0:L.length=0;·have:L= []:=Mg h0;subst this;rfl
    ·have hv:=iE L hb;have h5:val L*2 ^ (8 - L.length)<256:=(by have h2:(256:Nat)=2 ^ L.length*2 ^ (8 - L.length):=(by rw[← N5,show L.length+(8 - L.length)=8 by omega]);rw[h2];exact Nw hv (Nm _));rw[nK L (by omega) h8,eM,vk,Mv,M4,Ms h5];have h3:=lZ (val L) (8 - L.length) L.length;rw[show L.length+(8 - L.length)=8 by omega,i6 L hb]at h3;rw[h3];congr 2;omega
   ·have e:L=L.take 8++L.drop 8:=(MY 8 L).symm;have h1:(L.take 8).length=8:=(by simp;omega);have h4:au (L.take 8):=hb.take 8;have hv:=iE _ h4;rw[h1]at hv;have h3:=i6 _ h4;rw[h1]at h3;(conv=>lhs;rw[e]);rw[lA _ _ h1,eM,M4,Ms hv,h3,ih _ (by simp;omega) (hb.drop 8),←LZ,←e,Mc];congr 2;omega
 exact H L.length L (ag _)
theorem tO(l:List UInt8):pack (ai l)=l:=by
 induction l with
 | nil=>rfl
 | cons c l ih=>rw[eM,lA _ _ (af _ _),ih,dW];congr 1;rw[Ms c.toNat_lt];simp
open Go.RowKit
theorem aa{p:Prop}(h:p):Hid p:=Lib.hid h
def Blk(w:World)(g:Nat)(t:TypeId)(cs:Array Value):Prop:=w.heap[g]? =some (.cells cs t (0,0))
theorem aB{w:World}{g:Nat}{t:TypeId}{cs:Array Value}(h:Blk w g t cs):g<w.heap.size:=(Array.getElem?_eq_some_iff.1 h).1
theorem ac{w:World}{g:Nat}{t:TypeId}{cs:Array Value}(h:Blk w g t cs)(i:Nat):w.cell? ⟨g,i,none⟩=cs[i]? :=cell_of_row w g i cs t (0,0) h
theorem ae{w:World}{g:Nat}{t:TypeId}{cs:Array Value}(h:Blk w g t cs)(i:Nat):w.frozen? ⟨g,i,none⟩=false:=frozen_of_row w g i cs t h
theorem ah(w:World)(t:TypeId)(cs:Array Value):Blk (w.alloc (.cells cs t)) w.heap.size t cs:=Pn w _
theorem az{w:World}{g:Nat}{t:TypeId}{cs:Array Value}(h:Blk w g t cs)(i:Nat)(u:Value):Blk (w.setCell ⟨g,i,none⟩ u) g t (cs.setIfInBounds i u):=heap_setCell_same w g i cs t u h
structure ak (B:Nat) (ps:List Nat) (ts:List TypeId) (w w':World):Prop where
 below:Below B w w'
 keep:∀k cs t fr,w.heap[k]? =some (.cells cs t fr)→k∉ps→t∉ts→w'.heap[k]? =some (.cells cs t fr)
section
variable {B:Nat} {ps:List Nat} {ts:List TypeId} {w w' w'':World}
theorem ak.refl(B:Nat)(ps:List Nat)(ts:List TypeId)(w:World):ak B ps ts w w:=⟨L6 _ _,fun _ _ _ _ h _ _=>h⟩
theorem ak.trans(h:ak B ps ts w w')(k:ak B ps ts w' w''):ak B ps ts w w'':=
 ⟨h.below.trans k.below,fun i cs t fr hh hp ht=>k.keep i cs t fr (h.keep i cs t fr hh hp ht) hp ht⟩
theorem ak.mono{B':Nat}{ps':List Nat}{ts':List TypeId}(h:ak B ps ts w w')(hB:B'≤B)(hp:∀k∈ps,k∈ps')(ht:∀t∈ts,t∈ts'):ak B' ps' ts' w w':=
 ⟨h.below.mono hB,fun i cs t fr hh hp' ht'=>h.keep i cs t fr hh (fun x=>hp' (hp _ x)) (fun x=>ht' (ht _ x))⟩
theorem ak.after{B':Nat}{ps':List Nat}{ts':List TypeId}(h:ak B ps ts w w')(k:ak B' ps' ts' w' w'')(hB:B≤B')(hp:∀i∈ps',i∈ps∨w.heap.size≤i)(ht:∀t∈ts',t∈ts):ak B ps ts w w'':=
 ⟨h.below.trans (k.below.mono hB),fun i cs t fr hh hi ht'=>k.keep i cs t fr (h.keep i cs t fr hh hi ht')
   (fun e=>(hp i e).elim hi (fun g=>by have:=(Array.getElem?_eq_some_iff.1 hh).1;omega)) (fun e=>ht' (ht t e))⟩
theorem ak.size(h:ak B ps ts w w'):w.heap.size≤w'.heap.size:=h.below.size
theorem ak.drew(h:ak B ps ts w w'):ak B ps ts w w'.drew:=⟨h.below.drew,h.keep⟩
theorem ak.drewN(h:ak B ps ts w w')(n:Nat):ak B ps ts w (w'.drewN n):=⟨⟨h.below.os,h.below.tape,h.below.output,h.below.size,h.below.block⟩,h.keep⟩
theorem ak.alloc(h:ak B ps ts w w')(hB:B≤w'.heap.size)(o:Obj):ak B ps ts w (w'.alloc o):=
 ⟨h.below.alloc hB o,fun i cs t fr hh hp ht=>by
   have:=h.keep i cs t fr hh hp ht
   exact(NT w' o i (Array.getElem?_eq_some_iff.1 this).1).trans this⟩
theorem ak.set(h:ak B ps ts w w'){p:Addr}(hB:B≤p.block)(hp:p.block∈ps)(u:Value):ak B ps ts w (w'.setCell p u):=
 ⟨h.below.setCell hB u,fun i cs t fr hh hi ht=>by
   rw[NE w' p u i (fun e=>hi (e ▸ hp))]
   exact h.keep i cs t fr hh hi ht⟩
theorem ak.setT(h:ak B ps ts w w'){p:Addr}(hB:B≤p.block){cs:Array Value}{t:TypeId}{fr:Nat×Nat}(hb:w'.heap[p.block]? =some (.cells cs t fr))(hp:t∈ts)(u:Value):ak B ps ts w (w'.setCell p u):=
 ⟨h.below.setCell hB u,fun i cs' t' fr' hh hi ht=>by
   have hk:=h.keep i cs' t' fr' hh hi ht
   by_cases e:i=p.block
   ·subst e
    rw[hb]at hk
    injection hk with hk
    injection hk with _ h2
    exact absurd (h2 ▸ hp) ht
   ·rw[NE w' p u i e]
    exact hk⟩
theorem ak.grown(h:ak B ps ts w w'){row:Option Nat}(hg:w'.grownBy w'' row)(hB:B≤w'.heap.size)
 (hr:∀k,row=some k→B≤k∧∃cs t fr,w'.heap[k]? =some (.cells cs t fr)∧t∈ts):ak B ps ts w w'':=
 ⟨h.below.grown hg hB (fun k hk=>(hr k hk).1),fun i cs t fr hh hi ht=>by
   have hk:=h.keep i cs t fr hh hi ht
   rw[hg.block i (Array.getElem?_eq_some_iff.1 hk).1 ?_]
   ·exact hk
   ·intro e
    obtain⟨_,cs',t',fr',hb,h0⟩:=hr i e.symm
    rw[hb]at hk
    injection hk with hk
    injection hk with _ h2
    exact ht (h2 ▸ h0)⟩
theorem ak.blk(h:ak B ps ts w w'){g:Nat}{t:TypeId}{cs:Array Value}(hb:Blk w g t cs)(hp:g∉ps)(ht:t∉ts):Blk w' g t cs:=h.keep _ _ _ _ hb hp ht
theorem ak.row(h:ak B ps ts w w'){base:Nat}{t:TypeId}{size n:Nat}{v:Value}{xs:List Value}(hr:w.ownsRow base t size v n xs)(hp:∀k,v.ownBlock=some k→k∉ps)(ht:t∉ts):w'.ownsRow base t size v n xs:=by
 refine⟨hr.1,?_⟩;rcases hr.2 with h1 | ⟨g,cap,cur,hv,hg,hh,rest⟩;·exact .inl h1
 ·exact .inr ⟨g,cap,cur,hv,hg,h.keep _ _ _ _ hh (hp g (by rw[hv];rfl)) ht,rest⟩
end
theorem xI{w:World}{base:Nat}{e:TypeId}{size n:Nat}{v:Value}{xs:List Value}(h:w.ownsRow base e size v n xs):
 ∀k,v.ownBlock=some k→base≤k∧∃cs t fr,w.heap[k]? =some (.cells cs t fr)∧t∈ [e]:=by
 intro k hk;rcases h.2 with⟨rfl,_⟩ | ⟨g,cap,cur,rfl,hb,hg,_⟩;·simp[Value.ownBlock]at hk
 ·simp[Value.ownBlock]at hk;subst hk;exact⟨hb,cur,e,(0,0),hg,by simp⟩
theorem dD{w:World}{base:Nat}{e t:TypeId}{size n g:Nat}{v:Value}{xs:List Value}{cs:Array Value}(h:w.ownsRow base e size v n xs)(hg:Blk w g t cs)(h0:e≠t):∀k,v.ownBlock=some k→k≠g:=by
 intro k hk he;obtain⟨_,cs',t',fr',hb,ht⟩:=xI h k hk;subst he;unfold Blk at hg;rw[hg]at hb;injection hb with hb
 injection hb with _ h2
 simp at ht;exact h0 (by rw[← ht,←h2])
def bv(c:UInt8):Value:=.int .u8 c.toNat
theorem Tryz.info5:(Tryz.prog.info? 5).map (fun i=>(i.zero,i.size,i.bytes))=some (some (.int .u8 0),1,1):=by kernel_rfl
theorem Tryz.info3:(Tryz.prog.info? 3).map (fun i=>(i.zero,i.size,i.bytes))=some (some (.int .i64 0),1,8):=by kernel_rfl
theorem an{w w':World}(h:Below w.heap.size w w'):ak w.heap.size [] [] w w':=
 ⟨h,fun k _ _ _ hh _ _=>(h.block k (Array.getElem?_eq_some_iff.1 hh).1).trans hh⟩
theorem aq{w w1 w2:World}(h:Below w.heap.size w w1)(k:Below w1.heap.size w1 w2):Below w.heap.size w w2:=h.trans (k.mono h.size)
theorem aP{w w':World}{g:Nat}{t:TypeId}{cs:Array Value}(hb:Below w.heap.size w w')(h:Blk w g t cs):Blk w' g t cs:=(an hb).blk h List.not_mem_nil List.not_mem_nil
theorem b9{w w1:World}{o:Obj}(h:w1=w.alloc o):Below w.heap.size w w1:=by rw[h];exact(L6 _ _).alloc (L5 _) _
theorem fL{w w1:World}{t:TypeId}{cs:Array Value}(h:w1=w.alloc (.cells cs t)):Blk w1 w.heap.size t cs:=by rw[h];exact ah w _ _
theorem aL{B:Nat}{a w:World}(h:Below B a w)(k:Nat):Below B a (w.drewN k):=⟨h.os,h.tape,h.output,h.size,h.block⟩
theorem rP(w:World)(a b:Value)(t:TypeId):∀(j:Nat) (u:Value), [a,b][j]? =some u→(w.alloc (.cells #[a,b] t)).cell? ((⟨w.heap.size,0,none⟩:Addr).add j)=some u:=by intro j u hu;rw[NX,ac (ah w t #[a,b])];simpa using hu
theorem ao{w:World}{B:Nat}{e:TypeId}{size n:Nat}{v:Value}{xs:List Value}(h:w.ownsRow B e size v n xs):∃A cap,v=.slice A n cap∧n≤cap∧cap≤maxLen∧(0<n→∃g,A=some ⟨g,0,none⟩):=by
 rcases h.2 with⟨rfl,rfl⟩ | ⟨g,cap,cur,rfl,_,_,hn,hm,_⟩;·exact⟨none,0,rfl,L5 _,by unfold maxLen;omega,fun h=>by omega⟩
 ·exact⟨some ⟨g,0,none⟩,cap,rfl,hn,hm,fun _=>⟨g,rfl⟩⟩
def iv(b:Nat):Value:=.int .i64 b
def aU(w:World)(A:Option Addr)(n:Nat)(L:List Nat):Prop:=
 L.length=n∧(0<n→∃b off,A=some ⟨b,off,none⟩∧∀i,i<n→w.cell? ⟨b,off+i,none⟩=some (.int .i64 (L.getD i 0)))
theorem ct{w:World}{B n cap:Nat}{A:Option Addr}{L:List Nat}(h:w.ownsRow B 3 1 (.slice A n cap) n (L.map iv)):aU w A n L:=by have hl:=h.1;rw[Mi,MR]at hl;refine⟨hl,fun hn=> ?_⟩;obtain⟨A',cap',hv,_,_,hg⟩:=ao h;simp only[Ns]at hv;obtain⟨rfl,_,rfl⟩:=hv;obtain⟨g,rfl⟩:=hg hn;refine⟨g,0,rfl,fun i hi=> ?_⟩;rw[MG,h.cellAt i (by omega),Me,LU,LV (by omega)];rfl
theorem jK(w:World)(B:Nat)(v:Value)(n:Nat)(xs:List Value)(h5:w.ownsRow B 3 1 v n xs)(A:Option Addr)(k c:Nat)(L:List Nat)(hi:aU w A k L)(hf:n+k≤1000000000)(hB:B≤w.heap.size):
 ∃v' w',(Builtin.append_ #[57,57] 57 #[v,.slice A k c]).run Tryz.prog w=.ok v' w'∧w'.ownsRow B 3 1 v' (n+k) (xs++L.map iv)∧w.grownBy w' v.ownBlock:=by
 obtain⟨i3,h3,h9,ha,hb⟩:=MT Tryz.info3;have hl:=hi.1;rcases A with _ | ad
 ·have hk:k=0:=by
   rcases NF k with h0 | h0;·exact h0
   ·obtain⟨b,off,h,_⟩:=hi.2 h0;cases h
  subst hk;have hL:L= []:=Mg hl;subst hL;refine⟨v,w,?_,by simpa using h5,⟨rfl,rfl,rfl,L5 _,fun _ _ _=>rfl⟩⟩;rcases h5.2 with⟨rfl,rfl⟩ | ⟨g,cap,cur,rfl,_,_,h8,_⟩;·simp[Builtin.append_,OE Tryz.underlying57,sizeOf,typeInfo,h3,Builtin.lenOf,Builtin.firstCells]
  ·simp[Builtin.append_,OE Tryz.underlying57,sizeOf,typeInfo,h3,Builtin.lenOf,Builtin.firstCells,h8,storeCells]
 ·have h6:∀j u,(L.map iv)[j]? =some u→w.cell? (ad.add j)=some u:=by
   intro j u hu;have h7:j<k:=(by have:=(List.getElem?_eq_some_iff.1 hu).1;rw[Mi]at this;omega);obtain⟨b,off,he,hc⟩:=hi.2 (by omega);injection he with he
   subst he;rw[NX,hc j h7,←hu,Me,LU,LV (by omega)];rfl
  obtain⟨v',w',h1,h2,h4,_⟩:=PV (P:=Tryz.prog) w B 57 57 3 i3 (.int .i64 0) 1 8 Tryz.underlying57 h3 h9 ha hb rfl (by decide) v n xs h5 ad k c (L.map iv) (by rw[Mi,hl,MR]) h6
   (fun u hu=>by obtain⟨q,_,rfl⟩:=List.mem_map.1 hu;rfl) (by unfold maxLen;omega) (by omega) hB
  exact⟨v',w',h1,h2,h4⟩
theorem fz{ops:Array Oper}{o:Oper}{a:Act}{w w':World}{K:Act→World→Prop}{Q:Exit→Act→World→Prop}{E:Prop}{v':Value}(h1:o.guard=none)(s x:Operand)(t:TypeId)
 (ho:o.op=.call { callee:=.builtin .append,args:=#[s,x],argTypes:=#[t,t] }) (vs vx:Value) (hs:a.eval s=vs) (hx:a.eval x=vx)
 (h0:(Builtin.append_ #[t,t] o.type #[vs,vx]).run Tryz.prog w=.ok v' w') (h:K (a.put o.dst v') w'):
 if Region.wanted o (yielded ops a.tmps)=true then Oper.wp Tryz.prog o a w K Q else E:=by have hw:Region.wanted o (yielded ops a.tmps)=true:=(by simp[Region.wanted,h1]);rw[LX hw];unfold Oper.wp execOp;simp only[ho,resolve,invoke,builtin,Sem.run_bind,Sem.run_pure,Result.andThen_ok,List.map_toArray,M8,Pa,hs,hx,h0];exact h
theorem Lc(l:List Nat)(i:Nat)(hb:au l):l.getD i 0<2:=by
 rw[LU];rcases h:l[i]? with _ | b;·simp
 ·exact hb b (Oo h)
open Go.ChangeShapes Go.WideShapes Go.ChangeAt Go.RowKit
theorem own:ownKnob Tryz.prog.godebug=none:=by kernel_rfl
theorem IE:laidOutB Tryz.prog=true:=by kernel_rfl
theorem vg{H:Type}{enc:TypeId×Value→H}{W W':World}(hb:Below W.heap.size W W'):∀{ts:List TypeId} {vs:List Value} {ds:List (DataW H)} {ps:List MemPlace},
 (∀ t∈ts,Tryz.prog.readableRec t=true∧t<Tryz.prog.types.size)→(∀ x∈ps,x.block<W.heap.size)→
 DataW.TrodAll enc Tryz.prog W 0 (fun _=>true) true ts vs ds ps→DataW.TrodAll enc Tryz.prog W' 0 (fun b=>decide (b<W.heap.size)) true ts vs ds ps
 | [],_,_,_,_,_,h=>by obtain⟨rfl,rfl,rfl⟩:=trodAll_nil h;exact trodAll_mk0
 | t :: ts,_,_,_,ht,hlt,h=>by
  obtain⟨v,vs,d,ds,p,q,rfl,rfl,rfl,h1,h2⟩:=trodAll_cons h
  exact trodAll_cons_mk (Below.trod IE (ht t (by simp)).1 (ht t (by simp)).2 h1 hb (fun x hx=>hlt x (by simp[hx])))
   (vg hb (fun t' h'=>ht t' (by simp[h'])) (fun x hx=>hlt x (by simp[hx])) h2)
theorem oJ{H:Type}{enc:TypeId×Value→H}{f:Func}{s:ChangeSpec}{W W':World}{args:Array Value}{ds:List (DataW H)}{before:List MemPlace}
 (hW:DataW.Whole enc Tryz.prog f.params.toList s.vars false W args.toList ds [] before) (hs:s.vars= []) (hb:Below W.heap.size W W')
 (hp:f.params.toList.all (fun t=>Tryz.prog.readableRec t&&decide (t<Tryz.prog.types.size))=true) (hr:f.resultTypes=#[4])
 (h0:s.fn H (ds++ [])={ results:= [.lit (.bool true)],args:=ds }):s.post enc Tryz.prog f false true false false W args (.bool true) W':=by
 have h2:=hW.lt;have h1:=hW;obtain⟨p,q,hA,hV,rfl,_,_⟩:=hW;rw[hs]at hV;obtain⟨_,rfl⟩:=trodVars_none hV;rw[Mv]at h2 h1;refine⟨ds, [],p, [],p, [],h1,?_,?_,?_,hb.frame _,fun h=>by cases h⟩;·rw[h0,hr];exact trodAll_cons_mk (shut_bool Tryz.underlying4 _) trodAll_mk0
 ·rw[h0];exact vg hb (fun t ht=>by simpa using List.all_eq_true.1 hp t ht) h2 hA
 ·rw[hs,h0];rfl
theorem cQ(w:World)(v:Value)(t:TypeId):∀(j:Nat) (u:Value), [v][j]? =some u→(w.alloc (.cells #[v] t)).cell? ((⟨w.heap.size,0,none⟩:Addr).add j)=some u:=by intro j u hu;have hj:j=0:=(by have:=(List.getElem?_eq_some_iff.1 hu).1;simp at this;exact this);subst hj;simp at hu;subst hu;rw[NX,ac (ah w t _)];rfl
def ZIn(w:World)(A:Option Addr)(n:Nat)(L:List Int):Prop:=
 L.length=n∧(0<n→∃b off,A=some ⟨b,off,none⟩∧∀i,i<n→w.cell? ⟨b,off+i,none⟩=some (.int .i64 (L.getD i 0)))
theorem ZIn.below{w w':World}{A:Option Addr}{n:Nat}{L:List Int}(h:ZIn w A n L)(hb:Below w.heap.size w w'):ZIn w' A n L:=by refine⟨h.1,fun hn=> ?_⟩;obtain⟨b,off,rfl,hc⟩:=h.2 hn;exact⟨b,off,rfl,fun i hi=>(hb.cell (p:=⟨b,off+i,none⟩) (Md w _ (hc i hi))).trans (hc i hi)⟩
theorem dG{w w':World}{A:Option Addr}{n:Nat}{L:List Nat}(h:aU w A n L)(hb:Below w.heap.size w w'):aU w' A n L:=by refine⟨h.1,fun hn=> ?_⟩;obtain⟨b,off,rfl,hc⟩:=h.2 hn;refine⟨b,off,rfl,fun i hi=> ?_⟩;exact(hb.cell (p:=⟨b,off+i,none⟩) (Md w _ (hc i hi))).trans (hc i hi)
theorem eC{w:World}{A:Option Addr}{n:Nat}{L:List Nat}(h:aU w A n L):ZIn w A n (L.map fun(x:Nat)=>(x:Int)):=by refine⟨by rw[Mi];exact h.1,fun hn=> ?_⟩;obtain⟨b,off,rfl,hc⟩:=h.2 hn;refine⟨b,off,rfl,fun i hi=> ?_⟩;rw[hc i hi,LU,LU,Me,LV (by rw[h.1];exact hi)];rfl
theorem wK{w:World}{a:Addr}{v:Value}(h:w.cell? a=some v):a=⟨a.block,a.off,none⟩:=by
 unfold World.cell? at h;split at h
 ·split at h;·cases h
  ·rename_i hs
   cases a with
   | mk b o s=>
    cases s with
    | none=>rfl
    | some s=>simp at hs
 ·cases h
variable {P:Program}
theorem jZ{o:Oper}{a:Act}{w:World}{next:Act→World→Prop}{Q:Exit→Act→World→Prop}{ty t:TypeId}{p:Operand}{g n:Nat}{e:TypeId}{cs:Array Value}{fr:Nat×Nat}
 (h0:o.op=.load ty p) (hp:a.eval p=.pointer (some ⟨g,0,none⟩)) (hg:w.heap[g]? =some (.cells cs t fr)) (hu:P.underlying ty=some (.array n e)) (hi:(P.info? ty).map (·.size)=some cs.size)
 (hn:next (a.put o.dst (.agg cs)) w):Oper.wp P o a w next Q:=by unfold Oper.wp;have h:(execOp a.eval o).run P w=.ok (.value (.agg cs)) w:=(by have:=run_loadVar_row (P:=P) w g t ty cs fr _ hg hu rfl hi;simp only[execOp,h0,hp,Instr.loadAt,Instr.sureAddr,Sem.run_bind,Sem.run_pure,Result.andThen,this]);rw[h];exact hn
theorem iT{fn:Func}{p:Tmp}{ty t:TypeId}{tmps:Array Value}{w:World}{g n:Nat}{e:TypeId}{cs:Array Value}{fr:Nat×Nat}(h:fn.results=#[.cell p ty])
 (hp:tmps.getD p undef=.pointer (some ⟨g,0,none⟩)) (hg:w.heap[g]? =some (.cells cs t fr)) (hu:P.underlying ty=some (.array n e)) (hi:(P.info? ty).map (·.size)=some cs.size):
 (results fn tmps).run P w=.ok (.agg cs) w:=by have:=run_loadVar_row (P:=P) w g t ty cs fr _ hg hu rfl hi;rw[Array.getD_eq_getD_getElem?]at hp;simp only[results,h];simp[hp,asAddr,this]
theorem cu{w:World}{t ty:TypeId}{g:Nat}{old cs:Array Value}(hg:w.heap[g]? =some (.cells old t (0,0)))(hi:(P.info? ty).map (·.size)=some cs.size)(ho:old.size=cs.size)(h1:cs.all (·.oneCell')=true):
 (storeCells ⟨g,0,none⟩ cs.toList 0).run P w=.ok () (w.setRow g cs):=by
 have:=run_storeVar_row (P:=P) w g t ty old cs hg hi ho h1
 cases hq:P.info? ty with
 | none=>simp[hq]at hi
 | some i=>have hs:cs.size=i.size:=(by simp[hq]at hi;omega);simpa [storeVar,sizeOf,typeInfo,hq,Value.cells,hs]using this
theorem below_setRow{B:Nat}{w w':World}(h:Below B w w'){g:Nat}(hg:B≤g)(cs:Array Value):Below B w (w'.setRow g cs):=
 ⟨h.os,h.tape,h.output,by rw[size_setRow];exact h.size,fun k hk=>by rw[setRow_other _ _ _ _ (by omega)];exact h.block k hk⟩
theorem bw(w:World)(o:Obj)(k:Nat)(h:k<w.heap.size):(w.alloc o).heap[k]? =w.heap[k]? :=by show(w.heap.push o)[k]? =_;rw[Array.getElem?_push,LW (by omega)]
end Go.Proofs.YtepokmggbfoakaaGreatDoor
