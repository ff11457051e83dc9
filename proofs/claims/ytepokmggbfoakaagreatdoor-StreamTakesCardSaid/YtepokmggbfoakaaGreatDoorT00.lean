import Derived.Test.YtepokmggbfoakaaGreatDoorRows
import Derived.WalkKit
import Derived.WalkLawsBesides
import Derived.WalkSpells
import Derived.Below
import Derived.Maps.AppendAt
import Derived.Deep.Draws
import Derived.LoopTactic
import Derived.Deep.LoopGhost
import Derived.Lib.Hide
import Derived.Outline
import Derived.RegionTactic
import Derived.BigRegion
import Derived.BigQuiet
import Derived.Deep.QuietTactic
import Derived.Deep.DeepFit
import Derived.OwnWalk
import Derived.Laws.AppendOwn
import Derived.IntWalk
import Derived.Deep.DeepCutAuto
import Derived.Deep.RegionHeld3
import Derived.StillTailTactics
import Derived.Laws.BitsAllLaws
import Derived.Laws.IdiomStrings
import Derived.Laws.BytesArg
import Derived.Laws.StructEq
import Derived.Deep.AppendLies
import Derived.ProofKit
import Derived.OpenShut
import Derived.Carry
import Derived.ChangeMaps5
import Derived.ChangeSlices
import Derived.Deep.WholeRow
import Derived.Laws.Rows
import Derived.Laws.ResultCell
set_option maxRecDepth 100000
namespace Go.Proofs.YtepokmggbfoakaaGreatDoor
open _root_.Go.Proofs.Tryz
abbrev Nb:=@List.getD_eq_getElem?_getD
abbrev Nc:=@List.length_append
abbrev Nd:=@List.getElem?_eq_getElem
abbrev Nf:=@if_neg
abbrev Ng:=@if_pos
abbrev Nh:=@Nat.zero_le
abbrev Ni:=@List.append_assoc
abbrev Nj:=@Go.RowKit.Below.refl
abbrev Nk:=@decide_eq_false
abbrev Nl:=@List.mem_cons_self
abbrev Nm:=@Nat.le_refl
abbrev Nn:=@Int.toNat_natCast
abbrev No:=@decide_eq_true
abbrev Np:=@List.getElem?_map
abbrev Nq:=@List.length_drop
abbrev Nr:=@Go.World.block_lt_of_cell?
abbrev Ns:=@Go.World.ownsRow_nil
abbrev Nt:=@List.take_of_length_le
abbrev Nu:=@List.mem_cons_of_mem
abbrev Nv:=@List.length_cons
abbrev Nw:=@List.eq_nil_of_length_eq_zero
abbrev Ny:=@List.getElem?_eq_none
abbrev Nz:=@List.length_take
abbrev NA:=@beq_eq_false_iff_ne
abbrev NC:=@List.length_map
abbrev ND:=@Go.bodyPost_ret
abbrev NE:=@List.length_replicate
abbrev NF:=@List.map_append
abbrev NH:=@Nat.le_trans
abbrev NI:=@List.take_succ_eq_append_getElem
abbrev NJ:=@Nat.mod_eq_of_lt
abbrev NK:=@List.length_range
abbrev NL:=@List.getElem_mem
abbrev NM:=@List.length_singleton
abbrev NN:=@List.getElem?_range
abbrev NP:=@List.drop_eq_getElem_cons
abbrev NR:=@List.append_nil
abbrev NT:=@List.getElem?_append_left
abbrev NU:=@List.getElem?_append_right
abbrev NV:=@Nat.le_of_lt
abbrev NW:=@List.drop_of_length_le
abbrev NX:=@List.nil_append
abbrev NY:=@Go.info_parts
abbrev NZ:=@Nat.lt_or_ge
abbrev N5:=@List.length_nil
abbrev N8:=@Nat.zero_add
abbrev N9:=@List.flatMap_cons
abbrev Oa:=@List.ext_getElem?
abbrev Ob:=@Go.wpList_append_own
abbrev Oc:=@List.map_congr_left
abbrev Od:=@List.cons_append
abbrev Oe:=@Go.IntKind.wrap_i64
abbrev Of:=@Nat.mul_one
abbrev Og:=@Nat.add_zero
abbrev Oh:=@Nat.min_eq_left
abbrev Oi:=@List.range_succ
abbrev Oj:=@Nat.pow_le_pow_right
abbrev Ok:=@List.mem_singleton
abbrev Ol:=@List.setIfInBounds_toArray
abbrev Om:=@Option.some.inj
abbrev On:=@Option.some.injEq
abbrev Oo:=@ByteArray.size_extract
abbrev Oq:=@Nat.mul_comm
abbrev Ot:=@UInt8.toNat_ofNat'
abbrev Ou:=@Go.Value.slice.injEq
abbrev Ov:=@List.map_map
abbrev Ow:=@Nat.sub_self
abbrev Ox:=@Nat.le_of_eq
abbrev Oy:=@Option.map_some
abbrev Oz:=@Go.Exit.noGoto_ret
abbrev OA:=@List.drop_append_of_le_length
abbrev OB:=@List.map_cons
abbrev OC:=@List.getElem_cons_zero
abbrev OD:=@Go.World.ownsRow.lt
abbrev OE:=@Go.World.size_alloc
abbrev OF:=@List.take_append_drop
abbrev OG:=@List.getElem_cons_succ
abbrev OH:=@List.take_append_of_le_length
abbrev OI:=@List.getElem_toArray
abbrev OJ:=@Nat.lt_trichotomy
abbrev OK:=@beq_self_eq_true
abbrev OL:=@Nat.add_assoc
abbrev OM:=@Nat.lt_of_lt_of_le
abbrev ON:=@List.set_cons_succ
abbrev OO:=@List.flatMap_append
abbrev OP:=@bne_iff_ne
abbrev OQ:=@List.Pairwise.imp_of_mem
abbrev OR:=@Go.World.ownsRow.cellAt
abbrev OS:=@List.nodup_range
abbrev OT:=@Nat.two_pow_pos
abbrev OU:=@decide_eq_true_iff
abbrev OV:=@List.set_cons_zero
abbrev OW:=@bne_eq_false_iff_eq
abbrev OX:=@Go.Addr.add_lit
abbrev OY:=@List.drop_eq_nil_of_le
abbrev OZ:=@Go.RowKit.Below.heap_setCell
abbrev O0:=@beq_iff_eq
abbrev O3:=@Nat.mul_lt_mul_of_pos_right
abbrev O4:=@Nat.pow_succ
abbrev O5:=@Nat.add_sub_cancel_left
abbrev O8:=@Nat.mul_assoc
abbrev O9:=@List.mem_of_mem_drop
abbrev Pa:=@List.getElem?_drop
abbrev Pb:=@Go.World.ownsRow.kept
abbrev Pd:=@Go.World.ownsRow_made
abbrev Pe:=@not_not_intro
abbrev Pg:=@List.replicate_succ
abbrev Ph:=@List.take_succ_cons
abbrev Pi:=@Go.ByteArray.toList_eq
abbrev Pj:=@List.idxOf_lt_length_of_mem
abbrev Pk:=@Nat.testBit_eq_decide_div_mod_eq
abbrev Pm:=@List.getElem?_replicate
abbrev Pn:=@Array.getElem?_setIfInBounds_ne
abbrev Po:=@List.mem_of_mem_take
abbrev Pp:=@List.perm_ext_iff_of_nodup
abbrev Pq:=@Nat.le_succ
abbrev Pr:=@UInt8.toNat_lt
abbrev Ps:=@Go.RowKit.Below.heap_alloc
abbrev Pt:=@List.getElem_of_mem
abbrev Pu:=@Array.toList_append
abbrev Pv:=@Prod.mk.injEq
abbrev Pw:=@List.drop_left
abbrev Px:=@Nat.not_lt_zero
abbrev Py:=@Array.getElem?_setIfInBounds
abbrev Pz:=@List.mem_append_left
abbrev PA:=@Nat.pow_add
abbrev PC:=@List.replicate_succ'
abbrev PD:=@Nat.min_eq_right
abbrev PE:=@List.sum_cons
abbrev PF:=@List.mem_cons
abbrev PG:=@Nat.div_div_eq_div_mul
abbrev PH:=@Go.run_underlying
abbrev PI:=@List.length_pos_of_mem
abbrev PJ:=@List.pairwise_map
abbrev PM:=@List.size_toArray
abbrev PN:=@List.replicate_zero
abbrev PP:=@List.extract_eq_take_drop
abbrev PQ:=@UInt8.lt_iff_toNat_lt
abbrev PR:=@List.getElem?_take
abbrev PT:=@Nat.eq_zero_or_pos
abbrev PU:=@Nat.lt_succ_self
abbrev PV:=@Nat.mod_lt
abbrev PW:=@List.map_replicate
abbrev PX:=@List.filter_append
abbrev PY:=@List.getElem?_take_of_lt
abbrev PZ:=@Array.size_setIfInBounds
abbrev P0:=@Go.World.setCell_alloc_past
abbrev P3:=@Nat.add_mul
abbrev P4:=@Go.heap_alloc_new
abbrev P5:=@List.mem_of_getElem?
abbrev P6:=@Nat.mul_le_mul_right
abbrev P7:=@List.drop_drop
abbrev P8:=@Go.Calls.quiet_of
abbrev P9:=@Nat.pow_lt_pow_right
abbrev Qa:=@decide_eq_true_eq
abbrev Qb:=@List.length_set
abbrev Qc:=@Int.toNat_of_nonneg
abbrev Qd:=@List.getD_cons_succ
abbrev Qe:=@Go.run_convert_bytes_back
abbrev Qf:=@Nat.sub_zero
abbrev Qg:=@ByteArray.data_extract
abbrev Qh:=@Array.getElem_setIfInBounds
abbrev Qi:=@Go.Addr.mk.injEq
abbrev Qj:=@Go.wp_region_lit
abbrev Qk:=@Go.wpAnyH_take
abbrev Ql:=@List.countP_cons
abbrev Qm:=@List.take_length
abbrev Qn:=@Nat.shiftLeft_eq
abbrev Qo:=@Nat.lt_of_mul_lt_mul_right
abbrev Qp:=@Nat.xor_lt_two_pow
abbrev Qq:=@List.take_zero
abbrev Qr:=@List.mem_append_right
abbrev Qs:=@Go.run_convert_bytes_nil
abbrev Qt:=@List.countP_le_length
abbrev Qu:=@List.length_filter_le
abbrev Qv:=@Nat.shiftRight_eq_div_pow
abbrev Qw:=@beq_false_of_ne
abbrev Qx:=@List.map_nil
abbrev Qy:=@Go.toList_madeCells_one
abbrev Qz:=@Go.run_append_own_at
abbrev QA:=@Nat.eq_of_testBit_eq
abbrev QB:=@Array.toList_extract
abbrev QC:=@UInt8.ofNat_toNat
abbrev QD:=@List.eq_of_mem_replicate
abbrev QE:=@List.replicate_append_replicate
abbrev QF:=@Nat.le_add_right
abbrev QG:=@decide_eq_false_iff_not
abbrev QH:=@Int.eq_ofNat_of_zero_le
abbrev QI:=@Array.eq_empty_of_size_eq_zero
abbrev QJ:=@Go.setRow_heap
abbrev QK:=@Int.natCast_pow
abbrev QL:=@List.map_const'
abbrev QM:=@Go.Lib.wpList_append_own_string
abbrev QN:=@ByteArray.ext
abbrev QO:=@Array.getElem?_modify
abbrev QP:=@Array.getElem?_toList
abbrev QQ:=@ByteArray.data_append
abbrev QR:=@List.getElem_take
abbrev QS:=@Array.all_eq_true
abbrev QT:=@List.flatten_cons
abbrev QU:=@Array.getElem?_setIfInBounds_self_of_lt
abbrev QV:=@List.mem_range
abbrev QW:=@List.nodup_iff_pairwise_ne
abbrev QX:=@List.map_id
abbrev QY:=@Go.World.ownsRow.stored
abbrev QZ:=@Go.run_make
abbrev Q0:=@Int.le_refl
abbrev Q1:=@Array.getElem?_append_left
abbrev Q2:=@List.drop_zero
abbrev Q3:=@Int.tdiv_eq_ediv_of_nonneg
abbrev Q4:=@Int.tmod_eq_emod_of_nonneg
abbrev Q5:=@Int.natCast_emod
abbrev Q6:=@Nat.pow_zero
abbrev Q7:=@Go.cell_one_new
abbrev Q8:=@Nat.zero_testBit
abbrev Q9:=@Nat.mul_le_mul_left
abbrev Ra:=@Array.length_toList
abbrev Rb:=@Go.Calls.quiet_of_same
abbrev Rc:=@List.flatten_append
abbrev Rd:=@Nat.lt_irrefl
abbrev Re:=@List.nodup_cons
abbrev Rf:=@Int.natCast_mul
abbrev Rg:=@Bool.eq_iff_iff
abbrev Rh:=@List.drop_left'
abbrev Ri:=@Array.extract_size
abbrev Rj:=@List.countP_append
abbrev Rk:=@List.map_singleton
abbrev Rl:=@Go.run_string_add_sum
abbrev Rm:=@Nat.one_mul
abbrev Rn:=@List.getElem?_cons_succ
abbrev Ro:=@Array.ext
abbrev Rp:=@Go.run_append_own
abbrev Rq:=@Go.World.ownsRow.frozenAt
abbrev Rr:=@Go.size_madeCells
abbrev Rs:=@List.take_take
abbrev Rt:=@List.getElem_drop
abbrev Ru:=@List.getElem?_set
abbrev Rv:=@Array.size_append
abbrev Rw:=@List.take_left
abbrev Rx:=@Array.getElem?_eq_none
abbrev Ry:=@List.pairwise_lt_range
abbrev Rz:=@List.filter_congr
abbrev RA:=@Go.results_none
abbrev RB:=@List.countP_singleton
abbrev RC:=@List.cons_lt_cons_iff
abbrev RD:=@Nat.div_eq_of_lt
abbrev RE:=@Go.IntKind.wrap_u64
abbrev RF:=@List.filter_cons
abbrev RG:=@List.getElem_map
abbrev RH:=@List.flatten_nil
abbrev RI:=@List.map_take
abbrev RJ:=@Nat.xor_assoc
abbrev RK:=@if_false
abbrev RL:=@BitVec.ofInt_natCast
abbrev RN:=@Nat.div_one
abbrev RO:=@Array.toArray_toList
abbrev RP:=@Nat.div_le_self
abbrev RQ:=@List.take_left'
abbrev RR:=@Go.Obj.cells.injEq
abbrev RT:=@Nat.testBit_xor
abbrev RU:=@List.filter_nil
abbrev RV:=@UInt8.lt_irrefl
abbrev RW:=@Go.World.ownsRow.alloc
abbrev RX:=@Nat.testBit_div_two
abbrev RY:=@List.getD_cons_zero
abbrev RZ:=@Nat.testBit_two_pow
abbrev R0:=@Nat.add_comm
abbrev R1:=@Classical.em
abbrev R2:=@Go.zero_of_info
abbrev R3:=@Nat.mul_div_cancel
abbrev R4:=@Nat.lt_of_le_of_lt
abbrev R8:=@BitVec.toNat_ofNat
abbrev R9:=@List.Perm.refl
abbrev Sa:=@List.append_of_mem
abbrev Sb:=@Nat.add_sub_cancel
abbrev Sc:=@Go.grownCap_le_maxLen
abbrev Sd:=@Go.size_zeroCells
abbrev Se:=@Go.run_storeCells_new
abbrev Sf:=@Go.run_copy_cells
abbrev Sg:=@Go.u32_xor_nat
abbrev Sh:=@ne_eq
theorem ar{α:Type _}{a:α}:a∉([]:List α):=List.not_mem_nil
theorem ah(n:Nat):n<=n:=Nm n
theorem aD{p:Prop}[Decidable p](h:¬p):decide p=false:=Nk h
theorem aX{p:Prop}[Decidable p](h:p):decide p=true:=No h
def ag(v:Nat):Nat->List Nat
 | 0=> []
 | n+1=>ag (v/2) n++ [v%2]
def val(l:List Nat):Nat:=l.foldl (fun a b=>2*a+b) 0
theorem af(n:Nat):∀v,(ag v n).length=n:=by
 induction n with
 | zero=>intro v;rfl
 | succ n ih=>intro v;simp[ag,ih]
theorem ja(b:Nat):∀v a,ag v (a+b)=ag (v/2^b) a++ag v b:=by
 induction b with
 | zero=>intro v a;simp[ag]
 | succ b ih=>intro v a;show ag v (a+b+1)=_;rw[ag,ih,ag,<-Ni,PG,O4,Oq]
theorem jL(l:List Nat)(b:Nat):val (l++ [b])=2*val l+b:=by simp[val]
theorem uO{p:List Nat->Prop}(h0:p [])(h1:∀m b,p m->p (m++ [b])):∀l,p l:=by
 have H:∀r:List Nat,p r.reverse:=by
  intro r
  induction r with
  | nil=>exact h0
  | cons b r ih=>rw[List.reverse_cons];exact h1 _ _ ih
 intro l;have:=H l.reverse;rwa [List.reverse_reverse]at this
theorem vd(m:List Nat):∀l,val (l++m)=val l*2^m.length+val m:=by
 refine uO (p:=fun m=>∀l,val (l++m)=val l*2^m.length+val m) ?_ ?_ m;·intro l;simp[val]
 ·intro m b ih l;rw[<- Ni,jL,ih,jL];simp[O4];rw[Nat.mul_add,<-O8,OL];congr 1;rw[Oq 2 (val l),O8,Oq 2]
theorem dm(n:Nat):∀v,val (ag v n)=v%2^n:=by
 induction n with
 | zero=>intro v;simp[ag,val,Nat.mod_one]
 | succ n ih=>intro v;rw[ag,jL,ih,O4,Oq (2^n) 2,Nat.mod_mul];omega
def am(l:List Nat):Prop:=∀b∈l,b<2
theorem aB(n:Nat):∀v,am (ag v n):=by
 induction n with
 | zero=>intro v b h;simp[ag]at h
 | succ n ih=>
  intro v b h;simp[ag]at h;rcases h with h|h;·exact ih _ b h
  ·subst h;omega
theorem am.append{a b:List Nat}(ha:am a)(hb:am b):am (a++b):=by
 intro x hx;rcases List.mem_append.1 hx with h|h;·exact ha x h
 ·exact hb x h
theorem am.left{a b:List Nat}(h:am (a++b)):am a:=fun x hx=>h x (Pz _ hx)
theorem am.take{a:List Nat}(h:am a)(n:Nat):am (a.take n):=fun x hx=>h x (Po hx)
theorem am.drop{a:List Nat}(h:am a)(n:Nat):am (a.drop n):=fun x hx=>h x (O9 hx)
theorem fu(l:List Nat):am l->val l<2^l.length:=by
 refine uO (p:=fun l=>am l->val l<2^l.length) ?_ ?_ l;·intro _;simp[val]
 ·intro m b ih h;have h1:=ih h.left;have h2:=h b (by simp);rw[jL];simp[O4];omega
theorem fy(l:List Nat):am l->ag (val l) l.length=l:=by
 refine uO (p:=fun l=>am l->ag (val l) l.length=l) ?_ ?_ l;·intro _;rfl
 ·intro m b ih h;have h1:=ih h.left;have h2:=h b (by simp);rw[Nc,NM,ag,jL,show(2*val m+b)/2=val m by omega,h1,show(2*val m+b)%2=b by omega]
def pa:Nat->List Nat->List UInt8
 | 0,_=> []
 | k+1,l=>if l= []then []else UInt8.ofNat (val (l.take 8)*2^(8-l.length))::pa k (l.drop 8)
def aF(l:List Nat):List UInt8:=pa l.length l
theorem jh(k:Nat):pa k []= []:=by cases k <;>simp[pa]
theorem uo(k:Nat):∀(l:List Nat),l.length<=k->pa k l=aF l:=by
 suffices H:∀(k j:Nat) (l:List Nat),l.length<=k->l.length<=j->pa k l=pa j l from fun l h=>H k l.length l h (ah _)
 intro k
 induction k with
 | zero=>intro j l h h';have:l= []:=Nw (by omega);subst this;rw[jh,jh]
 | succ k ih=>
  intro j l h h'
  cases j with
  | zero=>have:l= []:=Nw (by omega);subst this;rw[jh,jh]
  | succ j=>
   by_cases e:l= [];·subst e;rw[jh,jh]
   ·simp only[pa,e,RK];rw[ih j (l.drop 8) (by simp;omega) (by simp;omega)]
theorem JW:aF []= []:=rfl
theorem qx(l:List Nat)(h:l≠ []):aF l=UInt8.ofNat (val (l.take 8)*2^(8-l.length))::aF (l.drop 8):=by rw[<- uo (l.length+1) l (by omega)];simp only[pa,h,RK];rw[uo _ _ (by simp)]
theorem nZ(l:List Nat)(h:0<l.length)(h8:l.length<=8):aF l= [UInt8.ofNat (val l*2^(8-l.length))]:=by rw[qx l (List.length_pos_iff.1 h),Nt h8,NW h8,JW]
theorem lE(a b:List Nat)(h:a.length=8):aF (a++b)=UInt8.ofNat (val a)::aF b:=by rw[qx (a++b) (by intro e;have:=congrArg List.length e;rw[Nc,N5]at this;omega),OH (by omega),Nt (by omega),OA (by omega),NW (by omega)];simp[h]
theorem ru(k:Nat):∀a b:List Nat,a.length=8*k->aF (a++b)=aF a++aF b:=by
 induction k with
 | zero=>intro a b h;have:a= []:=Nw (by omega);subst this;rfl
 | succ k ih=>intro a b h;have e:a=a.take 8++a.drop 8:=(OF 8 a).symm;have h1:(a.take 8).length=8:=(by simp;omega);have h2:(a.drop 8).length=8*k:=(by simp;omega);rw[e,Ni,lE _ _ h1,lE _ _ h1,ih _ _ h2,Od]
theorem db(l:List Nat):(aF l).length=(l.length+7)/8:=by
 have H:∀(n:Nat) (l:List Nat),l.length<=n->(aF l).length=(l.length+7)/8:=by
  intro n
  induction n with
  | zero=>intro l h;have:l= []:=Nw (by omega);subst this;rfl
  | succ n ih=>
   intro l h;by_cases e:l= [];·subst e;rfl
   ·have hp:0<l.length:=List.length_pos_iff.2 e;rw[qx l e,Nv,ih _ (by simp;omega)];simp;omega
 exact H l.length l (ah _)
theorem Dc(l:List Nat):aF l=aF (l.take (8*(l.length/8)))++aF (l.drop (8*(l.length/8))):=by (conv=>lhs;rw[<- OF (8*(l.length/8)) l]);exact ru (l.length/8) _ _ (by simp;omega)
theorem JU(a b s:Nat)(h:b<2^s):(a*2^s) ||| b=a*2^s+b:=by rw[Oq,Nat.two_pow_add_eq_or_of_lt h]
theorem GH(l m:List Nat)(hm:0<m.length)(hr:l.length%8+m.length<=8)(hb:am m):
 aF (l++m)=aF (l.take (8*(l.length/8)))++ [UInt8.ofNat ((val (l.drop (8*(l.length/8)))*2^(8-l.length%8)) ||| (val m*2^(8-l.length%8-m.length)))]:=by have e:l++m=l.take (8*(l.length/8))++(l.drop (8*(l.length/8))++m):=(by rw[<- Ni,OF]);have hl:(l.drop (8*(l.length/8))++m).length=l.length%8+m.length:=(by simp;omega);rw[e,ru (l.length/8) _ _ (by simp;omega),nZ (l.drop (8*(l.length/8))++m) (by omega) (by omega),vd,hl];congr 3;have hv:=fu m hb;generalize val (List.drop (8*(l.length/8)) l)=R;generalize val m=M at*;generalize hr':l.length%8=r at*;generalize m.length=k at*;have e1:8-r=k+(8-r-k):=(by omega);have h0:M*2^(8-r-k)<2^(8-r):=(by (conv=>rhs;rw[e1,PA]);exact O3 hv (OT _));rw[JU _ _ _ h0,P3];(conv=>rhs;lhs;rw[e1,PA]);rw[show 8-(r+k)=8-r-k by omega,O8]
def ai(l:List UInt8):List Nat:=l.flatMap fun c=>ag c.toNat 8
theorem pV:ai []= []:=rfl
theorem eC(c:UInt8)(l:List UInt8):ai (c::l)=ag c.toNat 8++ai l:=rfl
theorem fw(a b:List UInt8):ai (a++b)=ai a++ai b:=by simp[ai]
theorem aq(l:List UInt8):(ai l).length=8*l.length:=by
 induction l with
 | nil=>rfl
 | cons c l ih=>rw[eC,Nc,af,ih,Nv];omega
theorem aG(l:List UInt8):am (ai l):=by
 induction l with
 | nil=>intro b h;simp[ai]at h
 | cons c l ih=>rw[eC];exact(aB _ _).append ih
theorem mZ(n:Nat):∀v i,i<n->(ag v n)[i]? =some (v/2^(n-1-i)%2):=by
 induction n with
 | zero=>intro v i h;omega
 | succ n ih=>
  intro v i h;rw[ag];by_cases h1:i<n;·rw[NT (by rw[af];exact h1),ih _ _ h1,PG,show n+1-1-i=(n-1-i)+1 by omega,O4,Oq]
  ·obtain rfl:i=n:=(by omega);rw[NU (by rw[af];exact Nm _),af];simp
theorem Fh(l:List UInt8):∀i,i<8*l.length->(ai l)[i]? =some ((l.getD (i/8) 0).toNat/2^(7-i%8)%2):=by
 induction l with
 | nil=>intro i h;simp at h
 | cons c l ih=>
  intro i h;rw[eC];by_cases h8:i<8;·rw[NT (by rw[af];exact h8),mZ _ _ _ h8,show i/8=0 by omega,show i%8=i by omega];rfl
  ·rw[NU (by rw[af];omega),af,ih (i-8) (by rw[Nv]at h;omega),show i/8=(i-8)/8+1 by omega,show(i-8)%8=i%8 by omega];rfl
theorem sR(n:Nat):ag 0 n=List.replicate n 0:=by
 induction n with
 | zero=>rfl
 | succ n ih=>rw[ag,Nat.zero_div,ih,Nat.zero_mod,PC]
theorem mg(v k n:Nat):ag (v*2^k) (n+k)=ag v n++List.replicate k 0:=by
 rw[ja,R3 _ (OT k)];congr 1;have:∀(k v:Nat),ag (v*2^k) k=List.replicate k 0:=by
  intro k
  induction k with
  | zero=>intro v;rfl
  | succ k ih=>intro v;rw[ag,O4,<-O8,R3 _ (by omega),ih,Nat.mul_mod_left,PC]
 exact this k v
theorem lq(L:List Nat):am L->ai (aF L)=L++List.replicate (8*((L.length+7)/8)-L.length) 0:=by
 have H:∀(n:Nat) (L:List Nat),L.length<=n->am L->ai (aF L)=L++List.replicate (8*((L.length+7)/8)-L.length) 0:=by
  intro n
  induction n with
  | zero=>intro L h _;have:L= []:=Nw (by omega);subst this;rfl
  | succ n ih=>
   intro L h hb;by_cases h8:L.length<=8
   ·by_cases h0:L.length=0;·have:L= []:=Nw h0;subst this;rfl
    ·have hv:=fu L hb;have h5:val L*2^(8-L.length)<256:=(by have h2:(256:Nat)=2^L.length*2^(8-L.length):=(by rw[<- PA,show L.length+(8-L.length)=8 by omega]);rw[h2];exact O3 hv (OT _));rw[nZ L (by omega) h8,eC,pV,NR,Ot,NJ h5];have h3:=mg (val L) (8-L.length) L.length;rw[show L.length+(8-L.length)=8 by omega,fy L hb]at h3;rw[h3];congr 2;omega
   ·have e:L=L.take 8++L.drop 8:=(OF 8 L).symm;have h1:(L.take 8).length=8:=(by simp;omega);have h4:am (L.take 8):=hb.take 8;have hv:=fu _ h4;rw[h1]at hv;have h3:=fy _ h4;rw[h1]at h3;(conv=>lhs;rw[e]);rw[lE _ _ h1,eC,Ot,NJ hv,h3,ih _ (by simp;omega) (hb.drop 8),<-Ni,<-e,Nq];congr 2;omega
 exact H L.length L (ah _)
theorem uq(l:List UInt8):aF (ai l)=l:=by
 induction l with
 | nil=>rfl
 | cons c l ih=>rw[eC,lE _ _ (af _ _),ih,dm];congr 1;rw[NJ c.toNat_lt];simp
open Go.RowKit
theorem aa{p:Prop}(h:p):Hid p:=Lib.hid h
def Blk(w:World)(g:Nat)(t:TypeId)(cs:Array Value):Prop:=w.heap[g]? =some (.cells cs t (0,0))
theorem az{w:World}{g:Nat}{t:TypeId}{cs:Array Value}(h:Blk w g t cs):g<w.heap.size:=(Array.getElem?_eq_some_iff.1 h).1
theorem ac{w:World}{g:Nat}{t:TypeId}{cs:Array Value}(h:Blk w g t cs)(i:Nat):w.cell? ⟨g,i,none⟩=cs[i]? :=cell_of_row w g i cs t (0,0) h
theorem ae{w:World}{g:Nat}{t:TypeId}{cs:Array Value}(h:Blk w g t cs)(i:Nat):w.frozen? ⟨g,i,none⟩=false:=frozen_of_row w g i cs t h
theorem aj(w:World)(t:TypeId)(cs:Array Value):Blk (w.alloc (.cells cs t)) w.heap.size t cs:=P4 w _
theorem au{w:World}{g:Nat}{t:TypeId}{cs:Array Value}(h:Blk w g t cs)(i:Nat)(u:Value):Blk (w.setCell ⟨g,i,none⟩ u) g t (cs.setIfInBounds i u):=heap_setCell_same w g i cs t u h
structure al (B:Nat) (ps:List Nat) (ts:List TypeId) (w w':World):Prop where
 below:Below B w w'
 keep:∀k cs t fr,w.heap[k]? =some (.cells cs t fr)->k∉ps->t∉ts->w'.heap[k]? =some (.cells cs t fr)
section
variable {B:Nat} {ps:List Nat} {ts:List TypeId} {w w' w'':World}
theorem al.refl(B:Nat)(ps:List Nat)(ts:List TypeId)(w:World):al B ps ts w w:=⟨Nj _ _,fun _ _ _ _ h _ _=>h⟩
theorem al.trans(h:al B ps ts w w')(k:al B ps ts w' w''):al B ps ts w w'':=
 ⟨h.below.trans k.below,fun i cs t fr hh hp ht=>k.keep i cs t fr (h.keep i cs t fr hh hp ht) hp ht⟩
theorem al.mono{B':Nat}{ps':List Nat}{ts':List TypeId}(h:al B ps ts w w')(hB:B'<=B)(hp:∀k∈ps,k∈ps')(ht:∀t∈ts,t∈ts'):al B' ps' ts' w w':=
 ⟨h.below.mono hB,fun i cs t fr hh hp' ht'=>h.keep i cs t fr hh (fun x=>hp' (hp _ x)) (fun x=>ht' (ht _ x))⟩
theorem al.after{B':Nat}{ps':List Nat}{ts':List TypeId}(h:al B ps ts w w')(k:al B' ps' ts' w' w'')(hB:B<=B')(hp:∀i∈ps',i∈ps\/w.heap.size<=i)(ht:∀t∈ts',t∈ts):al B ps ts w w'':=
 ⟨h.below.trans (k.below.mono hB),fun i cs t fr hh hi ht'=>k.keep i cs t fr (h.keep i cs t fr hh hi ht')
   (fun e=>(hp i e).elim hi (fun g=>by have:=(Array.getElem?_eq_some_iff.1 hh).1;omega)) (fun e=>ht' (ht t e))⟩
theorem al.size(h:al B ps ts w w'):w.heap.size<=w'.heap.size:=h.below.size
theorem al.drew(h:al B ps ts w w'):al B ps ts w w'.drew:=⟨h.below.drew,h.keep⟩
theorem al.drewN(h:al B ps ts w w')(n:Nat):al B ps ts w (w'.drewN n):=⟨⟨h.below.os,h.below.tape,h.below.output,h.below.size,h.below.block⟩,h.keep⟩
theorem al.alloc(h:al B ps ts w w')(hB:B<=w'.heap.size)(o:Obj):al B ps ts w (w'.alloc o):=
 ⟨h.below.alloc hB o,fun i cs t fr hh hp ht=>by
   have:=h.keep i cs t fr hh hp ht
   exact(Ps w' o i (Array.getElem?_eq_some_iff.1 this).1).trans this⟩
theorem al.set(h:al B ps ts w w'){p:Addr}(hB:B<=p.block)(hp:p.block∈ps)(u:Value):al B ps ts w (w'.setCell p u):=
 ⟨h.below.setCell hB u,fun i cs t fr hh hi ht=>by
   rw[OZ w' p u i (fun e=>hi (e ▸ hp))]
   exact h.keep i cs t fr hh hi ht⟩
theorem al.setT(h:al B ps ts w w'){p:Addr}(hB:B<=p.block){cs:Array Value}{t:TypeId}{fr:Nat×Nat}(hb:w'.heap[p.block]? =some (.cells cs t fr))(hp:t∈ts)(u:Value):al B ps ts w (w'.setCell p u):=
 ⟨h.below.setCell hB u,fun i cs' t' fr' hh hi ht=>by
   have hk:=h.keep i cs' t' fr' hh hi ht
   by_cases e:i=p.block
   ·subst e
    rw[hb]at hk
    injection hk with hk
    injection hk with _ h2
    exact absurd (h2 ▸ hp) ht
   ·rw[OZ w' p u i e]
    exact hk⟩
theorem al.grown(h:al B ps ts w w'){row:Option Nat}(hg:w'.grownBy w'' row)(hB:B<=w'.heap.size)
 (hr:∀k,row=some k->B<=k/\∃cs t fr,w'.heap[k]? =some (.cells cs t fr)/\t∈ts):al B ps ts w w'':=
 ⟨h.below.grown hg hB (fun k hk=>(hr k hk).1),fun i cs t fr hh hi ht=>by
   have hk:=h.keep i cs t fr hh hi ht
   rw[hg.block i (Array.getElem?_eq_some_iff.1 hk).1 ?_]
   ·exact hk
   ·intro e
    obtain⟨_,cs',t',fr',hb,h0⟩:=hr i e.symm
    rw[hb]at hk
    injection hk with hk
    injection hk with _ h2
    exact ht (h2 ▸ h0)⟩
theorem al.blk(h:al B ps ts w w'){g:Nat}{t:TypeId}{cs:Array Value}(hb:Blk w g t cs)(hp:g∉ps)(ht:t∉ts):Blk w' g t cs:=h.keep _ _ _ _ hb hp ht
theorem al.row(h:al B ps ts w w'){base:Nat}{t:TypeId}{size n:Nat}{v:Value}{xs:List Value}(hr:w.ownsRow base t size v n xs)(hp:∀k,v.ownBlock=some k->k∉ps)(ht:t∉ts):w'.ownsRow base t size v n xs:=by
 refine⟨hr.1,?_⟩;rcases hr.2 with h1|⟨g,cap,cur,hv,hg,hh,rest⟩;·exact .inl h1
 ·exact .inr ⟨g,cap,cur,hv,hg,h.keep _ _ _ _ hh (hp g (by rw[hv];rfl)) ht,rest⟩
end
theorem yr{w:World}{base:Nat}{e:TypeId}{size n:Nat}{v:Value}{xs:List Value}(h:w.ownsRow base e size v n xs):
 ∀k,v.ownBlock=some k->base<=k/\∃cs t fr,w.heap[k]? =some (.cells cs t fr)/\t∈ [e]:=by
 intro k hk;rcases h.2 with⟨rfl,_⟩|⟨g,cap,cur,rfl,hb,hg,_⟩;·simp[Value.ownBlock]at hk
 ·simp[Value.ownBlock]at hk;subst hk;exact⟨hb,cur,e,(0,0),hg,by simp⟩
theorem dJ{w:World}{base:Nat}{e t:TypeId}{size n g:Nat}{v:Value}{xs:List Value}{cs:Array Value}(h:w.ownsRow base e size v n xs)(hg:Blk w g t cs)(h0:e≠t):∀k,v.ownBlock=some k->k≠g:=by
 intro k hk he;obtain⟨_,cs',t',fr',hb,ht⟩:=yr h k hk;subst he;unfold Blk at hg;rw[hg]at hb;injection hb with hb
 injection hb with _ h2
 simp at ht;exact h0 (by rw[<- ht,<-h2])
def bv(c:UInt8):Value:=.int .u8 c.toNat
theorem Tryz.info5:(prog.info? 5).map (fun i=>(i.zero,i.size,i.bytes))=some (some (.int .u8 0),1,1):=by kernel_rfl
theorem Tryz.info3:(prog.info? 3).map (fun i=>(i.zero,i.size,i.bytes))=some (some (.int .i64 0),1,8):=by kernel_rfl
theorem an{w w':World}(h:Below w.heap.size w w'):al w.heap.size [] [] w w':=
 ⟨h,fun k _ _ _ hh _ _=>(h.block k (Array.getElem?_eq_some_iff.1 hh).1).trans hh⟩
theorem ap{w w1 w2:World}(h:Below w.heap.size w w1)(k:Below w1.heap.size w1 w2):Below w.heap.size w w2:=h.trans (k.mono h.size)
theorem aO{w w':World}{g:Nat}{t:TypeId}{cs:Array Value}(hb:Below w.heap.size w w')(h:Blk w g t cs):Blk w' g t cs:=(an hb).blk h List.not_mem_nil List.not_mem_nil
theorem bQ{w w1:World}{o:Obj}(h:w1=w.alloc o):Below w.heap.size w w1:=by rw[h];exact(Nj _ _).alloc (Nm _) _
theorem eJ{w w1:World}{t:TypeId}{cs:Array Value}(h:w1=w.alloc (.cells cs t)):Blk w1 w.heap.size t cs:=by rw[h];exact aj w _ _
theorem ay{B:Nat}{a w:World}(h:Below B a w)(k:Nat):Below B a (w.drewN k):=⟨h.os,h.tape,h.output,h.size,h.block⟩
theorem su(w:World)(a b:Value)(t:TypeId):∀(j:Nat) (u:Value), [a,b][j]? =some u->(w.alloc (.cells #[a,b] t)).cell? ((⟨w.heap.size,0,none⟩:Addr).add j)=some u:=by intro j u hu;rw[OX,ac (aj w t #[a,b])];simpa using hu
theorem ak{w:World}{B:Nat}{e:TypeId}{size n:Nat}{v:Value}{xs:List Value}(h:w.ownsRow B e size v n xs):∃A cap,v=.slice A n cap/\n<=cap/\cap<=maxLen/\(0<n->∃g,A=some ⟨g,0,none⟩):=by
 rcases h.2 with⟨rfl,rfl⟩|⟨g,cap,cur,rfl,_,_,hn,hm,_⟩;·exact⟨none,0,rfl,Nm _,by unfold maxLen;omega,fun h=>by omega⟩
 ·exact⟨some ⟨g,0,none⟩,cap,rfl,hn,hm,fun _=>⟨g,rfl⟩⟩
def iv(b:Nat):Value:=.int .i64 b
def aw(w:World)(A:Option Addr)(n:Nat)(L:List Nat):Prop:=
 L.length=n/\(0<n->∃b off,A=some ⟨b,off,none⟩/\∀i,i<n->w.cell? ⟨b,off+i,none⟩=some (.int .i64 (L.getD i 0)))
theorem aw.nil{w:World}{A:Option Addr}{n k a:Nat}{L:List Nat}(h:aw w A n L)(hk:k=0)(_hak:a+k<=n):aw w A k ((L.drop a).take k):=by have:=h.1;subst hk;exact⟨by simp,fun h=>by omega⟩
theorem aw.cut{w:World}{A:Option Addr}{n k a:Nat}{L:List Nat}(h:aw w A n L)(h0:a+k<=n):aw w (Option.map (fun x=>x.add a) A) k ((L.drop a).take k):=by refine⟨by rw[Nz,Nq,h.1];omega,fun hk=> ?_⟩;obtain⟨b,off,rfl,hc⟩:=h.2 (by omega);refine⟨b,off+a,by rw[Oy,OX],fun i hi=> ?_⟩;rw[OL,hc (a+i) (by omega),Nb,Nb,PR,Ng hi,Pa]
theorem aN{w:World}{B n cap:Nat}{A:Option Addr}{L:List Nat}(h:w.ownsRow B 3 1 (.slice A n cap) n (L.map iv)):aw w A n L:=by have hl:=h.1;rw[NC,Of]at hl;refine⟨hl,fun hn=> ?_⟩;obtain⟨A',cap',hv,_,_,hg⟩:=ak h;simp only[Ou]at hv;obtain⟨rfl,_,rfl⟩:=hv;obtain⟨g,rfl⟩:=hg hn;refine⟨g,0,rfl,fun i hi=> ?_⟩;rw[N8,h.cellAt i (by omega),Np,Nb,Nd (by omega)];rfl
theorem jT(w:World)(B:Nat)(v:Value)(n:Nat)(xs:List Value)(h5:w.ownsRow B 3 1 v n xs)(A:Option Addr)(k c:Nat)(L:List Nat)(hi:aw w A k L)(hf:n+k<=1000000000)(hB:B<=w.heap.size):
 ∃v' w',(Builtin.append_ #[57,57] 57 #[v,.slice A k c]).run prog w=.ok v' w'/\w'.ownsRow B 3 1 v' (n+k) (xs++L.map iv)/\w.grownBy w' v.ownBlock:=by
 obtain⟨i3,h3,h9,ha,hb⟩:=NY Tryz.info3;have hl:=hi.1;rcases A with _|ad
 ·have hk:k=0:=by
   rcases PT k with h0|h0;·exact h0
   ·obtain⟨b,off,h,_⟩:=hi.2 h0;cases h
  subst hk;have hL:L= []:=Nw hl;subst hL;refine⟨v,w,?_,by simpa using h5,⟨rfl,rfl,rfl,Nm _,fun _ _ _=>rfl⟩⟩;rcases h5.2 with⟨rfl,rfl⟩|⟨g,cap,cur,rfl,_,_,h8,_⟩;·simp[Builtin.append_,PH underlying57,sizeOf,typeInfo,h3,Builtin.lenOf,Builtin.firstCells]
  ·simp[Builtin.append_,PH underlying57,sizeOf,typeInfo,h3,Builtin.lenOf,Builtin.firstCells,h8,storeCells]
 ·have h6:∀j u,(L.map iv)[j]? =some u->w.cell? (ad.add j)=some u:=by
   intro j u hu;have h7:j<k:=(by have:=(List.getElem?_eq_some_iff.1 hu).1;rw[NC]at this;omega);obtain⟨b,off,he,hc⟩:=hi.2 (by omega);injection he with he
   subst he;rw[OX,hc j h7,<-hu,Np,Nb,Nd (by omega)];rfl
  obtain⟨v',w',h1,h2,h4,_⟩:=Rp (P:=prog) w B 57 57 3 i3 (.int .i64 0) 1 8 underlying57 h3 h9 ha hb rfl (by decide) v n xs h5 ad k c (L.map iv) (by rw[NC,hl,Of]) h6
   (fun u hu=>by obtain⟨q,_,rfl⟩:=List.mem_map.1 hu;rfl) (by unfold maxLen;omega) (by omega) hB
  exact⟨v',w',h1,h2,h4⟩
theorem fQ{ops:Array Oper}{o:Oper}{a:Act}{w w':World}{K:Act->World->Prop}{Q:Exit->Act->World->Prop}{E:Prop}{v':Value}(h1:o.guard=none)(s x:Operand)(t:TypeId)
 (ho:o.op=.call { callee:=.builtin .append,args:=#[s,x],argTypes:=#[t,t] }) (vs vx:Value) (hs:a.eval s=vs) (hx:a.eval x=vx)
 (h0:(Builtin.append_ #[t,t] o.type #[vs,vx]).run prog w=.ok v' w') (h:K (a.put o.dst v') w'):
 if Region.wanted o (yielded ops a.tmps)=true then Oper.wp prog o a w K Q else E:=by have hw:Region.wanted o (yielded ops a.tmps)=true:=(by simp[Region.wanted,h1]);rw[Ng hw];unfold Oper.wp execOp;simp only[ho,resolve,invoke,builtin,Sem.run_bind,Sem.run_pure,Result.andThen_ok,List.map_toArray,OB,Qx,hs,hx,h0];exact h
theorem pU(l:List Nat)(i:Nat)(hb:am l):l.getD i 0<2:=by
 rw[Nb];rcases h:l[i]? with _|b;·simp
 ·exact hb b (P5 h)
theorem Ld(c e:Nat)(hc:c<256):bits .and .i64 ((c:Int)/2^e) 1=((c/2^e%2:Nat):Int):=by have h1:((c:Int)/2^e)=((c/2^e:Nat):Int):=(by rw[Int.natCast_ediv,QK];rfl);have h0:c/2^e<256:=R4 (RP _ _) hc;rw[h1];generalize c/2^e=d at*;show IntKind.i64.wrap ((BitVec.ofInt 64 (d:Int) &&& BitVec.ofInt 64 1).toNat:Int)=_;rw[BitVec.toNat_and,RL,R8,NJ (show d<2^64 by omega),show(BitVec.ofInt 64 1).toNat=1 from rfl,nat_mask1,Oe];omega
open Go.ChangeShapes Go.WideShapes Go.ChangeAt Go.RowKit
theorem own:ownKnob prog.godebug=none:=by kernel_rfl
theorem Jz:laidOutB prog=true:=by kernel_rfl
theorem vL{H:Type}{enc:TypeId×Value->H}{W W':World}(hb:Below W.heap.size W W'):∀{ts:List TypeId} {vs:List Value} {ds:List (DataW H)} {ps:List MemPlace},
 (∀ t∈ts,prog.readableRec t=true/\t<prog.types.size)->(∀ x∈ps,x.block<W.heap.size)->
 DataW.TrodAll enc prog W 0 (fun _=>true) true ts vs ds ps->DataW.TrodAll enc prog W' 0 (fun b=>decide (b<W.heap.size)) true ts vs ds ps
 | [],_,_,_,_,_,h=>by obtain⟨rfl,rfl,rfl⟩:=trodAll_nil h;exact trodAll_mk0
 | t::ts,_,_,_,ht,hlt,h=>by
  obtain⟨v,vs,d,ds,p,q,rfl,rfl,rfl,h1,h2⟩:=trodAll_cons h
  exact trodAll_cons_mk (Below.trod Jz (ht t (by simp)).1 (ht t (by simp)).2 h1 hb (fun x hx=>hlt x (by simp[hx])))
   (vL hb (fun t' h'=>ht t' (by simp[h'])) (fun x hx=>hlt x (by simp[hx])) h2)
theorem JA{H:Type}{enc:TypeId×Value->H}{f:Func}{s:ChangeSpec}{W W':World}{args:Array Value}{ds:List (DataW H)}{before:List MemPlace}
 (hW:DataW.Whole enc prog f.params.toList s.vars false W args.toList ds [] before) (hs:s.vars= []) (hb:Below W.heap.size W W')
 (hp:f.params.toList.all (fun t=>prog.readableRec t&&decide (t<prog.types.size))=true) (hr:f.resultTypes=#[4])
 (h0:s.fn H (ds++ [])={ results:= [.lit (.bool true)],args:=ds }):s.post enc prog f false true false false W args (.bool true) W':=by
 have h2:=hW.lt;have h1:=hW;obtain⟨p,q,hA,hV,rfl,_,_⟩:=hW;rw[hs]at hV;obtain⟨_,rfl⟩:=trodVars_none hV;rw[NR]at h2 h1;refine⟨ds, [],p, [],p, [],h1,?_,?_,?_,hb.frame _,fun h=>by cases h⟩;·rw[h0,hr];exact trodAll_cons_mk (shut_bool underlying4 _) trodAll_mk0
 ·rw[h0];exact vL hb (fun t ht=>by simpa using List.all_eq_true.1 hp t ht) h2 hA
 ·rw[hs,h0];rfl
theorem bn(w:World)(v:Value)(t:TypeId):∀(j:Nat) (u:Value), [v][j]? =some u->(w.alloc (.cells #[v] t)).cell? ((⟨w.heap.size,0,none⟩:Addr).add j)=some u:=by intro j u hu;have hj:j=0:=(by have:=(List.getElem?_eq_some_iff.1 hu).1;simp at this;exact this);subst hj;simp at hu;subst hu;rw[OX,ac (aj w t _)];rfl
def ZIn(w:World)(A:Option Addr)(n:Nat)(L:List Int):Prop:=
 L.length=n/\(0<n->∃b off,A=some ⟨b,off,none⟩/\∀i,i<n->w.cell? ⟨b,off+i,none⟩=some (.int .i64 (L.getD i 0)))
theorem ZIn.below{w w':World}{A:Option Addr}{n:Nat}{L:List Int}(h:ZIn w A n L)(hb:Below w.heap.size w w'):ZIn w' A n L:=by refine⟨h.1,fun hn=> ?_⟩;obtain⟨b,off,rfl,hc⟩:=h.2 hn;exact⟨b,off,rfl,fun i hi=>(hb.cell (p:=⟨b,off+i,none⟩) (Nr w _ (hc i hi))).trans (hc i hi)⟩
theorem bN{w w':World}{A:Option Addr}{n:Nat}{L:List Nat}(h:aw w A n L)(hb:Below w.heap.size w w'):aw w' A n L:=by refine⟨h.1,fun hn=> ?_⟩;obtain⟨b,off,rfl,hc⟩:=h.2 hn;refine⟨b,off,rfl,fun i hi=> ?_⟩;exact(hb.cell (p:=⟨b,off+i,none⟩) (Nr w _ (hc i hi))).trans (hc i hi)
theorem dK{w:World}{A:Option Addr}{n:Nat}{L:List Nat}(h:aw w A n L):ZIn w A n (L.map fun(x:Nat)=>(x:Int)):=by refine⟨by rw[NC];exact h.1,fun hn=> ?_⟩;obtain⟨b,off,rfl,hc⟩:=h.2 hn;refine⟨b,off,rfl,fun i hi=> ?_⟩;rw[hc i hi,Nb,Nb,Np,Nd (by rw[h.1];exact hi)];rfl
variable {P:Program}
theorem kh{o:Oper}{a:Act}{w:World}{next:Act->World->Prop}{Q:Exit->Act->World->Prop}{ty t:TypeId}{p:Operand}{g n:Nat}{e:TypeId}{cs:Array Value}{fr:Nat×Nat}
 (h0:o.op=.load ty p) (hp:a.eval p=.pointer (some ⟨g,0,none⟩)) (hg:w.heap[g]? =some (.cells cs t fr)) (hu:P.underlying ty=some (.array n e)) (hi:(P.info? ty).map (·.size)=some cs.size)
 (hn:next (a.put o.dst (.agg cs)) w):Oper.wp P o a w next Q:=by unfold Oper.wp;have h:(execOp a.eval o).run P w=.ok (.value (.agg cs)) w:=(by have:=run_loadVar_row (P:=P) w g t ty cs fr _ hg hu rfl hi;simp only[execOp,h0,hp,Instr.loadAt,Instr.sureAddr,Sem.run_bind,Sem.run_pure,Result.andThen,this]);rw[h];exact hn
theorem i6{fn:Func}{p:Tmp}{ty t:TypeId}{tmps:Array Value}{w:World}{g n:Nat}{e:TypeId}{cs:Array Value}{fr:Nat×Nat}(h:fn.results=#[.cell p ty])
 (hp:tmps.getD p undef=.pointer (some ⟨g,0,none⟩)) (hg:w.heap[g]? =some (.cells cs t fr)) (hu:P.underlying ty=some (.array n e)) (hi:(P.info? ty).map (·.size)=some cs.size):
 (results fn tmps).run P w=.ok (.agg cs) w:=by have:=run_loadVar_row (P:=P) w g t ty cs fr _ hg hu rfl hi;rw[Array.getD_eq_getD_getElem?]at hp;simp only[results,h];simp[hp,asAddr,this]
theorem cE{w:World}{t ty:TypeId}{g:Nat}{old cs:Array Value}(hg:w.heap[g]? =some (.cells old t (0,0)))(hi:(P.info? ty).map (·.size)=some cs.size)(ho:old.size=cs.size)(h1:cs.all (·.oneCell')=true):
 (storeCells ⟨g,0,none⟩ cs.toList 0).run P w=.ok () (w.setRow g cs):=by
 have:=run_storeVar_row (P:=P) w g t ty old cs hg hi ho h1
 cases hq:P.info? ty with
 | none=>simp[hq]at hi
 | some i=>have hs:cs.size=i.size:=(by simp[hq]at hi;omega);simpa [storeVar,sizeOf,typeInfo,hq,Value.cells,hs]using this
theorem below_setRow{B:Nat}{w w':World}(h:Below B w w'){g:Nat}(hg:B<=g)(cs:Array Value):Below B w (w'.setRow g cs):=
 ⟨h.os,h.tape,h.output,by rw[size_setRow];exact h.size,fun k hk=>by rw[setRow_other _ _ _ _ (by omega)];exact h.block k hk⟩
theorem bH(w:World)(o:Obj)(k:Nat)(h:k<w.heap.size):(w.alloc o).heap[k]? =w.heap[k]? :=by show(w.heap.push o)[k]? =_;rw[Array.getElem?_push,Nf (by omega)]
