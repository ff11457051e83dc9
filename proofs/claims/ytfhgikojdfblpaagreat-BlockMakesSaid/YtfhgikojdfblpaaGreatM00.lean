import Derived.Test.YtfhgikojdfblpaaGreatRows
import Derived.WalkKit
import Derived.WalkLawsBesides
import Derived.WalkSpells
import Derived.Below
import Derived.Maps.AppendAt
import Derived.Deep.Draws
import Derived.LoopTactic
import Derived.Deep.LoopGhost
import Derived.Lib.Hide
import Derived.Outline
import Derived.RegionTactic
import Derived.BigRegion
import Derived.BigQuiet
import Derived.Deep.QuietTactic
import Derived.Deep.DeepFit
import Derived.OwnWalk
import Derived.Laws.AppendOwn
import Derived.IntWalk
import Derived.Deep.DeepCutAuto
import Derived.Deep.RegionHeld3
import Derived.StillTailTactics
import Derived.Laws.BitsAllLaws
import Derived.Laws.IdiomStrings
import Derived.Laws.BytesArg
import Derived.Laws.StructEq
import Derived.Deep.AppendLies
import Derived.ProofKit
import Derived.OpenShut
import Derived.Carry
import Derived.ChangeMaps5
import Derived.ChangeSlices
import Derived.Deep.WholeRow
import Derived.Laws.Rows
import Derived.Laws.ResultCell
set_option maxRecDepth 100000
namespace Go.Proofs.YtfhgikojdfblpaaGreat
open _root_.Go.Proofs.Tryz
abbrev Na:=@List.getD_eq_getElem?_getD
abbrev Nb:=@List.length_append
abbrev Nc:=@List.getElem?_eq_getElem
theorem Nd{c:Prop}{h:Decidable c}(n:¬c:=by omega){α:Sort _}{t e:α}:ite c t e=e:=if_neg n
theorem Nf{c:Prop}{h:Decidable c}(n:c:=by omega){α:Sort _}{t e:α}:ite c t e=t:=if_pos n
abbrev Ng:=@Nat.zero_le
abbrev Nh:=@List.mem_cons_self
abbrev Ni:=@List.append_assoc
abbrev Nj:=@Go.RowKit.Below.refl
abbrev Nk:=@Nat.le_refl
theorem Nl{p:Prop}[i:Decidable p](n:¬p:=by omega):decide p=false:=decide_eq_false n
abbrev Nm:=@List.mem_cons_of_mem
theorem Nn{p:Prop}[i:Decidable p](n:p:=by omega):decide p=true:=decide_eq_true n
abbrev No:=@Go.World.block_lt_of_cell?
abbrev Np:=@List.getElem?_map
abbrev Nq:=@List.eq_nil_of_length_eq_zero
abbrev Nr:=@List.take_of_length_le
abbrev Ns:=@List.length_cons
abbrev Nt:=@Go.World.ownsRow_nil
abbrev Nu:=@List.length_map
abbrev Nv:=@Int.toNat_natCast
abbrev Nw:=@List.getElem?_eq_none
abbrev Ny:=@List.length_drop
abbrev Nz:=@List.map_append
abbrev NA:=@List.length_replicate
abbrev NB:=@List.length_take
abbrev NC:=@beq_eq_false_iff_ne
abbrev ND:=@Nat.le_trans
abbrev NE:=@List.length_range
abbrev NF:=@List.take_succ_eq_append_getElem
abbrev NH:=@Go.bodyPost_ret
abbrev NI:=@Go.Calls.quiet_of
abbrev NJ:=@List.getElem?_range
abbrev NK:=@List.setIfInBounds_toArray
abbrev NL:=@Nat.mod_eq_of_lt
abbrev NM:=@List.getElem_mem
abbrev NN:=@List.drop_eq_getElem_cons
abbrev NO:=@List.getElem?_append_right
abbrev NP:=@List.length_singleton
abbrev NR:=@List.getElem_cons_zero
abbrev NS:=@Go.World.ownsRow.lt
abbrev NT:=@Nat.le_of_lt
abbrev NU:=@List.append_nil
abbrev NV:=@List.getElem_cons_succ
abbrev NW:=@List.getElem?_append_left
abbrev NX:=@List.getElem_toArray
abbrev NY:=@Nat.add_zero
abbrev NZ:=@List.set_cons_succ
abbrev N1:=@Nat.lt_or_ge
abbrev N3:=@List.set_cons_zero
abbrev N4:=@Go.info_parts
abbrev N5:=@Go.wpList_append_own
abbrev N8:=@Nat.zero_add
abbrev N9:=@List.drop_of_length_le
abbrev Oa:=@List.flatMap_cons
abbrev Ob:=@List.ext_getElem?
abbrev Oc:=@Nat.mul_one
abbrev Od:=@Nat.pow_le_pow_right
abbrev Oe:=@List.map_congr_left
abbrev Of:=@Go.IntKind.wrap_i64
abbrev Og:=@List.mem_singleton
abbrev Oh:=@List.range_succ
abbrev Oi:=@Nat.le_of_eq
abbrev Oj:=@Option.some.injEq
abbrev Ok:=@List.nil_append
abbrev Ol:=@Go.Value.slice.injEq
abbrev Om:=@Nat.mul_comm
abbrev On:=@Option.some.inj
abbrev Oo:=@UInt8.toNat_ofNat'
abbrev Oq:=@List.cons_append
abbrev Ot:=@Nat.pow_succ
abbrev Ou:=@List.map_map
abbrev Ov:=@Option.map_some
abbrev Ow:=@List.map_cons
abbrev Ox:=@List.length_nil
abbrev Oy:=@Go.World.ownsRow.cellAt
abbrev Oz:=@Nat.sub_self
abbrev OA:=@Nat.lt_of_lt_of_le
abbrev OB:=@ByteArray.size_extract
abbrev OC:=@List.mem_of_mem_take
abbrev OD:=@List.nodup_range
abbrev OE:=@Nat.two_pow_pos
abbrev OF:=@List.flatMap_append
abbrev OG:=@List.Pairwise.imp_of_mem
abbrev OH:=@Go.wpAnyH_take
abbrev OI:=@Nat.lt_trichotomy
abbrev OJ:=@Nat.min_eq_left
abbrev OK:=@Go.RowKit.Below.heap_setCell
abbrev OL:=@Nat.eq_zero_or_pos
abbrev OM:=@Go.World.ownsRow_made
abbrev ON:=@decide_eq_true_iff
abbrev OP:=@List.getElem?_replicate
abbrev OQ:=@Nat.add_assoc
abbrev OR:=@Go.Exit.noGoto_ret
abbrev OS:=@List.mem_of_mem_drop
abbrev OT:=@Go.Addr.add_lit
abbrev OU:=@Go.World.ownsRow.kept
abbrev OV:=@Nat.mul_lt_mul_of_pos_right
abbrev OW:=@List.take_append_drop
abbrev OX:=@List.mem_append_right
abbrev OY:=@Nat.mul_assoc
abbrev OZ:=@List.take_append_of_le_length
abbrev O0:=@Nat.div_div_eq_div_mul
abbrev O3:=@List.getElem?_drop
abbrev O4:=@Nat.not_lt_zero
abbrev O5:=@Array.getElem?_setIfInBounds
abbrev O8:=@Go.RowKit.Below.heap_alloc
abbrev O9:=@beq_self_eq_true
abbrev Pa:=@Nat.le_succ
abbrev Pb:=@List.replicate_succ
abbrev Pd:=@Array.toList_append
abbrev Pe:=@bne_iff_ne
abbrev Pg:=@List.flatten_cons
abbrev Ph:=@List.idxOf_lt_length_of_mem
abbrev Pi:=@Nat.testBit_eq_decide_div_mod_eq
abbrev Pj:=@Array.getElem?_setIfInBounds_ne
abbrev Pk:=@Go.run_underlying
abbrev Pm:=@List.perm_ext_iff_of_nodup
abbrev Pn:=@beq_iff_eq
abbrev Po:=@Nat.mod_lt
abbrev Pp:=@List.drop_eq_nil_of_le
abbrev Pq:=@List.extract_eq_take_drop
abbrev Pr:=@List.getElem_of_mem
abbrev Ps:=@Prod.mk.injEq
abbrev Pt:=@List.getElem?_take_of_lt
abbrev Pu:=@Array.size_setIfInBounds
abbrev Pv:=@List.mem_append_left
abbrev Pw:=@Nat.pow_add
abbrev Px:=@List.replicate_succ'
abbrev Py:=@Nat.add_sub_cancel_left
abbrev Pz:=@List.sum_cons
abbrev PA:=@List.mem_cons
abbrev PC:=@Go.heap_alloc_new
abbrev PD:=@List.length_pos_of_mem
abbrev PE:=@List.pairwise_map
abbrev PF:=@decide_eq_true_eq
abbrev PG:=@ByteArray.data_extract
abbrev PH:=@Int.toNat_of_nonneg
abbrev PI:=@List.map_const'
abbrev PJ:=@List.countP_le_length
abbrev PM:=@UInt8.lt_iff_toNat_lt
abbrev PN:=@List.getElem?_take
abbrev PP:=@Nat.lt_succ_self
abbrev PQ:=@Nat.min_eq_right
abbrev PR:=@Go.Addr.mk.injEq
abbrev PS:=@Go.World.setCell_alloc_past
abbrev PT:=@List.drop_append_of_le_length
abbrev PU:=@Nat.add_mul
abbrev PV:=@List.mem_of_getElem?
abbrev PW:=@List.Perm.refl
abbrev PX:=@Go.toList_madeCells_one
abbrev PY:=@Array.toList_extract
abbrev PZ:=@UInt8.toNat_lt
abbrev P0:=@Nat.pow_lt_pow_right
abbrev P1:=@Go.run_append_own_at
abbrev P3:=@List.size_toArray
abbrev P4:=@UInt8.ofNat_toNat
abbrev P5:=@List.length_set
abbrev P6:=@List.replicate_zero
abbrev P7:=@List.getD_cons_succ
abbrev P8:=@Go.ByteArray.toList_eq
abbrev Qa:=@Go.run_convert_bytes_back
abbrev Qb:=@Array.getElem_setIfInBounds
abbrev Qc:=@Go.results_none
abbrev Qd:=@Go.wp_region_lit
abbrev Qe:=@List.countP_cons
abbrev Qf:=@Go.World.size_alloc
abbrev Qg:=@Nat.shiftLeft_eq
abbrev Qh:=@List.map_replicate
abbrev Qi:=@Nat.lt_of_mul_lt_mul_right
abbrev Qj:=@List.drop_left
abbrev Qk:=@Go.run_convert_bytes_nil
abbrev Ql:=@ByteArray.data_append
abbrev Qm:=@Array.getElem?_toList
abbrev Qn:=@Nat.shiftRight_eq_div_pow
abbrev Qo:=@Go.World.ownsRow.stored
abbrev Qp:=@Nat.mul_le_mul_right
abbrev Qq:=@Nat.eq_of_testBit_eq
abbrev Qr:=@List.eq_of_mem_replicate
abbrev Qs:=@List.replicate_append_replicate
abbrev Qt:=@List.take_succ_cons
abbrev Qu:=@List.mem_range
abbrev Qv:=@Go.run_make
abbrev Qw:=@List.drop_drop
abbrev Qx:=@Int.natCast_emod
abbrev Qy:=@decide_eq_false_iff_not
abbrev Qz:=@Int.eq_ofNat_of_zero_le
abbrev QA:=@Array.eq_empty_of_size_eq_zero
abbrev QB:=@Go.setRow_heap
abbrev QC:=@List.map_nil
abbrev QD:=@Go.World.ownsRow.frozenAt
abbrev QE:=@List.countP_append
abbrev QF:=@Nat.sub_zero
abbrev QG:=@List.map_singleton
abbrev QH:=@Nat.xor_lt_two_pow
abbrev QI:=@List.filter_append
abbrev QJ:=@Int.natCast_pow
abbrev QK:=@Nat.div_le_self
abbrev QL:=@ByteArray.ext
abbrev QM:=@List.countP_singleton
abbrev QN:=@Array.getElem?_modify
abbrev QO:=@ByteArray.size_append
abbrev QP:=@List.length_filter_le
abbrev QQ:=@List.getElem?_set
abbrev QR:=@List.getElem_take
abbrev QS:=@Array.all_eq_true
abbrev QT:=@Array.getElem?_setIfInBounds_self_of_lt
abbrev QU:=@List.nodup_iff_pairwise_ne
abbrev QV:=@List.map_id
abbrev QW:=@Int.le_refl
abbrev QX:=@Array.getElem?_append_left
abbrev QY:=@List.drop_zero
abbrev QZ:=@List.take_left
abbrev Q0:=@List.take_length
abbrev Q1:=@Nat.pow_zero
abbrev Q2:=@Go.cell_one_new
abbrev Q3:=@Go.IntKind.wrap_u64
abbrev Q4:=@List.getElem_map
abbrev Q5:=@List.flatMap_def
abbrev Q6:=@Nat.zero_testBit
abbrev Q7:=@Nat.mul_le_mul_left
abbrev Q8:=@Array.length_toList
abbrev Q9:=@List.flatten_append
abbrev Ra:=@bne_eq_false_iff_eq
abbrev Rb:=@Go.Calls.quiet_of_same
abbrev Rc:=@Nat.lt_irrefl
abbrev Rd:=@List.nodup_cons
abbrev Re:=@Int.natCast_mul
abbrev Rf:=@Bool.eq_iff_iff
abbrev Rg:=@List.drop_left'
abbrev Rh:=@List.mem_append
abbrev Ri:=@Array.extract_size
abbrev Rj:=@Go.run_string_add_sum
abbrev Rk:=@Nat.one_mul
abbrev Rl:=@List.getElem?_cons_succ
abbrev Rm:=@Array.ext
abbrev Rn:=@of_decide_eq_true
abbrev Ro:=@Go.size_madeCells
abbrev Rp:=@List.getElem_drop
abbrev Rq:=@List.take_add_one
abbrev Rr:=@Array.size_append
abbrev Rs:=@List.take_zero
abbrev Rt:=@Array.getElem?_eq_none
abbrev Ru:=@List.pairwise_lt_range
abbrev Rv:=@Go.World.cell?_alloc_new
abbrev Rw:=@List.cons_lt_cons_iff
abbrev Rx:=@Nat.le_add_right
abbrev Ry:=@Nat.div_eq_of_lt
abbrev Rz:=@Nat.xor_assoc
abbrev RA:=@if_false
abbrev RB:=@BitVec.ofInt_natCast
abbrev RC:=@Nat.div_one
abbrev RD:=@Array.toArray_toList
abbrev RE:=@List.take_left'
abbrev RF:=@Go.Obj.cells.injEq
abbrev RG:=@Nat.testBit_xor
abbrev RH:=@UInt8.lt_irrefl
abbrev RI:=@Go.World.ownsRow.alloc
abbrev RJ:=@Nat.testBit_div_two
abbrev RK:=@List.getD_cons_zero
abbrev RL:=@Nat.testBit_two_pow
abbrev RN:=@Nat.add_comm
abbrev RO:=@Go.zero_of_info
abbrev RP:=@Nat.mul_div_cancel
abbrev RQ:=@Nat.lt_of_le_of_lt
abbrev RR:=@BitVec.toNat_ofNat
abbrev RT:=@List.append_of_mem
abbrev RU:=@Go.heap_alloc_old
abbrev RV:=@Nat.add_sub_cancel
abbrev RW:=@Nat.mul_le_mul
abbrev RX:=@Go.grownCap_le_maxLen
abbrev RY:=@Go.size_zeroCells
abbrev RZ:=@Go.run_storeCells_new
abbrev R3:=@Go.run_copy_cells
abbrev R4:=@List.map_take
abbrev R8:=@ne_eq
theorem aw{α:Type _}{a:α}:a∉([]:List α):=List.not_mem_nil
theorem ag(n:Nat):n<=n:=Nk n
theorem aR{p:Prop}[Decidable p](h:¬p:=by omega):decide p=false:=Nl h
theorem bE{p:Prop}[Decidable p](h:p:=by omega):decide p=true:=Nn h
def ah(v:Nat):Nat->List Nat
 | 0=> []
 | n+1=>ah (v/2) n++ [v%2]
def val(l:List Nat):Nat:=l.foldl (fun a b=>2*a+b) 0
theorem af(n:Nat):∀v,(ah v n).length=n:=by
 induction n with
 | zero=>intro v;rfl
 | succ n ih=>intro v;simp[ah,ih]
theorem jr(b:Nat):∀v a,ah v (a+b)=ah (v/2^b) a++ah v b:=by
 induction b with
 | zero=>intro v a;simp[ah]
 | succ b ih=>intro v a;show ah v (a+b+1)=_;rw[ah,ih,ah,<-Ni,O0,Ot,Om]
theorem iR(l:List Nat)(b:Nat):val (l++ [b])=2*val l+b:=by simp[val]
theorem ve{p:List Nat->Prop}(h0:p [])(h1:∀m b,p m->p (m++ [b])):∀l,p l:=by
 have H:∀r:List Nat,p r.reverse:=by
  intro r
  induction r with
  | nil=>exact h0
  | cons b r ih=>rw[List.reverse_cons];exact h1 _ _ ih
 intro l;have:=H l.reverse;rwa [List.reverse_reverse]at this
theorem oY(m:List Nat):∀l,val (l++m)=val l*2^m.length+val m:=by
 refine ve (p:=fun m=>∀l,val (l++m)=val l*2^m.length+val m) ?_ ?_ m;·intro l;simp[val]
 ·intro m b ih l;rw[<- Ni,iR,ih,iR];simp[Ot];rw[Nat.mul_add,<-OY,OQ];congr 1;rw[Om 2 (val l),OY,Om 2]
theorem eG(n:Nat):∀v,val (ah v n)=v%2^n:=by
 induction n with
 | zero=>intro v;simp[ah,val,Nat.mod_one]
 | succ n ih=>intro v;rw[ah,iR,ih,Ot,Om (2^n) 2,Nat.mod_mul];omega
def au(l:List Nat):Prop:=∀b∈l,b<2
theorem aQ(n:Nat):∀v,au (ah v n):=by
 induction n with
 | zero=>intro v b h;simp[ah]at h
 | succ n ih=>
  intro v b h;simp[ah]at h;rcases h with h|h;·exact ih _ b h
  ·subst h;omega
theorem au.append{a b:List Nat}(ha:au a)(hb:au b):au (a++b):=by
 intro x hx;rcases List.mem_append.1 hx with h|h;·exact ha x h
 ·exact hb x h
theorem au.left{a b:List Nat}(h:au (a++b)):au a:=fun x hx=>h x (Pv _ hx)
theorem au.take{a:List Nat}(h:au a)(n:Nat):au (a.take n):=fun x hx=>h x (OC hx)
theorem au.drop{a:List Nat}(h:au a)(n:Nat):au (a.drop n):=fun x hx=>h x (OS hx)
theorem gH(l:List Nat):au l->val l<2^l.length:=by
 refine ve (p:=fun l=>au l->val l<2^l.length) ?_ ?_ l;·intro _;simp[val]
 ·intro m b ih h;have h1:=ih h.left;have h2:=h b (by simp);rw[iR];simp[Ot];omega
theorem js(l:List Nat):au l->ah (val l) l.length=l:=by
 refine ve (p:=fun l=>au l->ah (val l) l.length=l) ?_ ?_ l;·intro _;rfl
 ·intro m b ih h;have h1:=ih h.left;have h2:=h b (by simp);rw[Nb,NP,ah,iR,show(2*val m+b)/2=val m by omega,h1,show(2*val m+b)%2=b by omega]
def qe:Nat->List Nat->List UInt8
 | 0,_=> []
 | k+1,l=>if l= []then []else UInt8.ofNat (val (l.take 8)*2^(8-l.length))::qe k (l.drop 8)
def aK(l:List Nat):List UInt8:=qe l.length l
theorem jz(k:Nat):qe k []= []:=by cases k <;>simp[qe]
theorem uD(k:Nat):∀(l:List Nat),l.length<=k->qe k l=aK l:=by
 suffices H:∀(k j:Nat) (l:List Nat),l.length<=k->l.length<=j->qe k l=qe j l from fun l h=>H k l.length l h (ag _)
 intro k
 induction k with
 | zero=>intro j l h h';have:l= []:=Nq (by omega);subst this;rw[jz,jz]
 | succ k ih=>
  intro j l h h'
  cases j with
  | zero=>have:l= []:=Nq (by omega);subst this;rw[jz,jz]
  | succ j=>
   by_cases e:l= [];·subst e;rw[jz,jz]
   ·simp only[qe,e,RA];rw[ih j (l.drop 8) (by simp;omega) (by simp;omega)]
theorem JZ:aK []= []:=rfl
theorem rj(l:List Nat)(h:l≠ []):aK l=UInt8.ofNat (val (l.take 8)*2^(8-l.length))::aK (l.drop 8):=by rw[<- uD (l.length+1) l (by omega)];simp only[qe,h,RA];rw[uD _ _ (by simp)]
theorem me(l:List Nat)(h:0<l.length)(h8:l.length<=8):aK l= [UInt8.ofNat (val l*2^(8-l.length))]:=by rw[rj l (List.length_pos_iff.1 h),Nr h8,N9 h8,JZ]
theorem oO(a b:List Nat)(h:a.length=8):aK (a++b)=UInt8.ofNat (val a)::aK b:=by rw[rj (a++b) (by intro e;have:=congrArg List.length e;rw[Nb,Ox]at this;omega),OZ (by omega),Nr (by omega),PT (by omega),N9 (by omega)];simp[h]
theorem ng(k:Nat):∀a b:List Nat,a.length=8*k->aK (a++b)=aK a++aK b:=by
 induction k with
 | zero=>intro a b h;have:a= []:=Nq (by omega);subst this;rfl
 | succ k ih=>intro a b h;have e:a=a.take 8++a.drop 8:=(OW 8 a).symm;have h1:(a.take 8).length=8:=(by simp;omega);have h2:(a.drop 8).length=8*k:=(by simp;omega);rw[e,Ni,oO _ _ h1,oO _ _ h1,ih _ _ h2,Oq]
theorem ee(l:List Nat):(aK l).length=(l.length+7)/8:=by
 have H:∀(n:Nat) (l:List Nat),l.length<=n->(aK l).length=(l.length+7)/8:=by
  intro n
  induction n with
  | zero=>intro l h;have:l= []:=Nq (by omega);subst this;rfl
  | succ n ih=>
   intro l h;by_cases e:l= [];·subst e;rfl
   ·have hp:0<l.length:=List.length_pos_iff.2 e;rw[rj l e,Ns,ih _ (by simp;omega)];simp;omega
 exact H l.length l (ag _)
theorem Dr(l:List Nat):aK l=aK (l.take (8*(l.length/8)))++aK (l.drop (8*(l.length/8))):=by (conv=>lhs;rw[<- OW (8*(l.length/8)) l]);exact ng (l.length/8) _ _ (by simp;omega)
theorem JY(a b s:Nat)(h:b<2^s):(a*2^s) ||| b=a*2^s+b:=by rw[Om,Nat.two_pow_add_eq_or_of_lt h]
theorem GI(l m:List Nat)(hm:0<m.length)(hr:l.length%8+m.length<=8)(hb:au m):
 aK (l++m)=aK (l.take (8*(l.length/8)))++ [UInt8.ofNat ((val (l.drop (8*(l.length/8)))*2^(8-l.length%8)) ||| (val m*2^(8-l.length%8-m.length)))]:=by have e:l++m=l.take (8*(l.length/8))++(l.drop (8*(l.length/8))++m):=(by rw[<- Ni,OW]);have hl:(l.drop (8*(l.length/8))++m).length=l.length%8+m.length:=(by simp;omega);rw[e,ng (l.length/8) _ _ (by simp;omega),me (l.drop (8*(l.length/8))++m) (by omega) (by omega),oY,hl];congr 3;have hv:=gH m hb;generalize val (List.drop (8*(l.length/8)) l)=R;generalize val m=M at*;generalize hr':l.length%8=r at*;generalize m.length=k at*;have e1:8-r=k+(8-r-k):=(by omega);have h0:M*2^(8-r-k)<2^(8-r):=(by (conv=>rhs;rw[e1,Pw]);exact OV hv (OE _));rw[JY _ _ _ h0,PU];(conv=>rhs;lhs;rw[e1,Pw]);rw[show 8-(r+k)=8-r-k by omega,OY]
def ao(l:List UInt8):List Nat:=l.flatMap fun c=>ah c.toNat 8
theorem qK:ao []= []:=rfl
theorem fd(c:UInt8)(l:List UInt8):ao (c::l)=ah c.toNat 8++ao l:=rfl
theorem lN(a b:List UInt8):ao (a++b)=ao a++ao b:=by simp[ao]
theorem aC(l:List UInt8):(ao l).length=8*l.length:=by
 induction l with
 | nil=>rfl
 | cons c l ih=>rw[fd,Nb,af,ih,Ns];omega
theorem bh(l:List UInt8):au (ao l):=by
 induction l with
 | nil=>intro b h;simp[ao]at h
 | cons c l ih=>rw[fd];exact(aQ _ _).append ih
theorem nD(n:Nat):∀v i,i<n->(ah v n)[i]? =some (v/2^(n-1-i)%2):=by
 induction n with
 | zero=>intro v i h;omega
 | succ n ih=>
  intro v i h;rw[ah];by_cases h1:i<n;·rw[NW (by rw[af];exact h1),ih _ _ h1,O0,show n+1-1-i=(n-1-i)+1 by omega,Ot,Om]
  ·obtain rfl:i=n:=(by omega);rw[NO (by rw[af];exact Nk _),af];simp
theorem Fj(l:List UInt8):∀i,i<8*l.length->(ao l)[i]? =some ((l.getD (i/8) 0).toNat/2^(7-i%8)%2):=by
 induction l with
 | nil=>intro i h;simp at h
 | cons c l ih=>
  intro i h;rw[fd];by_cases h8:i<8;·rw[NW (by rw[af];exact h8),nD _ _ _ h8,show i/8=0 by omega,show i%8=i by omega];rfl
  ·rw[NO (by rw[af];omega),af,ih (i-8) (by rw[Ns]at h;omega),show i/8=(i-8)/8+1 by omega,show(i-8)%8=i%8 by omega];rfl
theorem oA(n:Nat):ah 0 n=List.replicate n 0:=by
 induction n with
 | zero=>rfl
 | succ n ih=>rw[ah,Nat.zero_div,ih,Nat.zero_mod,Px]
theorem mL(v k n:Nat):ah (v*2^k) (n+k)=ah v n++List.replicate k 0:=by
 rw[jr,RP _ (OE k)];congr 1;have:∀(k v:Nat),ah (v*2^k) k=List.replicate k 0:=by
  intro k
  induction k with
  | zero=>intro v;rfl
  | succ k ih=>intro v;rw[ah,Ot,<-OY,RP _ (by omega),ih,Nat.mul_mod_left,Px]
 exact this k v
theorem lP(L:List Nat):au L->ao (aK L)=L++List.replicate (8*((L.length+7)/8)-L.length) 0:=by
 have H:∀(n:Nat) (L:List Nat),L.length<=n->au L->ao (aK L)=L++List.replicate (8*((L.length+7)/8)-L.length) 0:=by
  intro n
  induction n with
  | zero=>intro L h _;have:L= []:=Nq (by omega);subst this;rfl
  | succ n ih=>
   intro L h hb;by_cases h8:L.length<=8
   ·by_cases h0:L.length=0;·have:L= []:=Nq h0;subst this;rfl
    ·have hv:=gH L hb;have h5:val L*2^(8-L.length)<256:=(by have h2:(256:Nat)=2^L.length*2^(8-L.length):=(by rw[<- Pw,show L.length+(8-L.length)=8 by omega]);rw[h2];exact OV hv (OE _));rw[me L (by omega) h8,fd,qK,NU,Oo,NL h5];have h3:=mL (val L) (8-L.length) L.length;rw[show L.length+(8-L.length)=8 by omega,js L hb]at h3;rw[h3];congr 2;omega
   ·have e:L=L.take 8++L.drop 8:=(OW 8 L).symm;have h1:(L.take 8).length=8:=(by simp;omega);have h4:au (L.take 8):=hb.take 8;have hv:=gH _ h4;rw[h1]at hv;have h3:=js _ h4;rw[h1]at h3;(conv=>lhs;rw[e]);rw[oO _ _ h1,fd,Oo,NL hv,h3,ih _ (by simp;omega) (hb.drop 8),<-Ni,<-e,Ny];congr 2;omega
 exact H L.length L (ag _)
open Go.RowKit
theorem aa{p:Prop}(h:p):Hid p:=Lib.hid h
def Blk(w:World)(g:Nat)(t:TypeId)(cs:Array Value):Prop:=w.heap[g]? =some (.cells cs t (0,0))
theorem aA{w:World}{g:Nat}{t:TypeId}{cs:Array Value}(h:Blk w g t cs):g<w.heap.size:=(Array.getElem?_eq_some_iff.1 h).1
theorem ac{w:World}{g:Nat}{t:TypeId}{cs:Array Value}(h:Blk w g t cs)(i:Nat):w.cell? ⟨g,i,none⟩=cs[i]? :=cell_of_row w g i cs t (0,0) h
theorem ae{w:World}{g:Nat}{t:TypeId}{cs:Array Value}(h:Blk w g t cs)(i:Nat):w.frozen? ⟨g,i,none⟩=false:=frozen_of_row w g i cs t h
theorem aj(w:World)(t:TypeId)(cs:Array Value):Blk (w.alloc (.cells cs t)) w.heap.size t cs:=PC w _
theorem ay{w:World}{g:Nat}{t:TypeId}{cs:Array Value}(h:Blk w g t cs)(i:Nat)(u:Value):Blk (w.setCell ⟨g,i,none⟩ u) g t (cs.setIfInBounds i u):=heap_setCell_same w g i cs t u h
structure ak (B:Nat) (ps:List Nat) (ts:List TypeId) (w w':World):Prop where
 below:Below B w w'
 keep:∀k cs t fr,w.heap[k]? =some (.cells cs t fr)->k∉ps->t∉ts->w'.heap[k]? =some (.cells cs t fr)
section
variable {B:Nat} {ps:List Nat} {ts:List TypeId} {w w' w'':World}
theorem ak.refl(B:Nat)(ps:List Nat)(ts:List TypeId)(w:World):ak B ps ts w w:=⟨Nj _ _,fun _ _ _ _ h _ _=>h⟩
theorem ak.trans(h:ak B ps ts w w')(k:ak B ps ts w' w''):ak B ps ts w w'':=
 ⟨h.below.trans k.below,fun i cs t fr hh hp ht=>k.keep i cs t fr (h.keep i cs t fr hh hp ht) hp ht⟩
theorem ak.mono{B':Nat}{ps':List Nat}{ts':List TypeId}(h:ak B ps ts w w')(hB:B'<=B)(hp:∀k∈ps,k∈ps')(ht:∀t∈ts,t∈ts'):ak B' ps' ts' w w':=
 ⟨h.below.mono hB,fun i cs t fr hh hp' ht'=>h.keep i cs t fr hh (fun x=>hp' (hp _ x)) (fun x=>ht' (ht _ x))⟩
theorem ak.after{B':Nat}{ps':List Nat}{ts':List TypeId}(h:ak B ps ts w w')(k:ak B' ps' ts' w' w'')(hB:B<=B')(hp:∀i∈ps',i∈ps\/w.heap.size<=i)(ht:∀t∈ts',t∈ts):ak B ps ts w w'':=
 ⟨h.below.trans (k.below.mono hB),fun i cs t fr hh hi ht'=>k.keep i cs t fr (h.keep i cs t fr hh hi ht')
   (fun e=>(hp i e).elim hi (fun g=>by have:=(Array.getElem?_eq_some_iff.1 hh).1;omega)) (fun e=>ht' (ht t e))⟩
theorem ak.size(h:ak B ps ts w w'):w.heap.size<=w'.heap.size:=h.below.size
theorem ak.drew(h:ak B ps ts w w'):ak B ps ts w w'.drew:=⟨h.below.drew,h.keep⟩
theorem ak.drewN(h:ak B ps ts w w')(n:Nat):ak B ps ts w (w'.drewN n):=⟨⟨h.below.os,h.below.tape,h.below.output,h.below.size,h.below.block⟩,h.keep⟩
theorem ak.alloc(h:ak B ps ts w w')(hB:B<=w'.heap.size)(o:Obj):ak B ps ts w (w'.alloc o):=
 ⟨h.below.alloc hB o,fun i cs t fr hh hp ht=>by
   have:=h.keep i cs t fr hh hp ht
   exact(O8 w' o i (Array.getElem?_eq_some_iff.1 this).1).trans this⟩
theorem ak.set(h:ak B ps ts w w'){p:Addr}(hB:B<=p.block)(hp:p.block∈ps)(u:Value):ak B ps ts w (w'.setCell p u):=
 ⟨h.below.setCell hB u,fun i cs t fr hh hi ht=>by
   rw[OK w' p u i (fun e=>hi (e ▸ hp))]
   exact h.keep i cs t fr hh hi ht⟩
theorem ak.setT(h:ak B ps ts w w'){p:Addr}(hB:B<=p.block){cs:Array Value}{t:TypeId}{fr:Nat×Nat}(hb:w'.heap[p.block]? =some (.cells cs t fr))(hp:t∈ts)(u:Value):ak B ps ts w (w'.setCell p u):=
 ⟨h.below.setCell hB u,fun i cs' t' fr' hh hi ht=>by
   have hk:=h.keep i cs' t' fr' hh hi ht
   by_cases e:i=p.block
   ·subst e
    rw[hb]at hk
    injection hk with hk
    injection hk with _ h2
    exact absurd (h2 ▸ hp) ht
   ·rw[OK w' p u i e]
    exact hk⟩
theorem ak.grown(h:ak B ps ts w w'){row:Option Nat}(hg:w'.grownBy w'' row)(hB:B<=w'.heap.size)
 (hr:∀k,row=some k->B<=k/\∃cs t fr,w'.heap[k]? =some (.cells cs t fr)/\t∈ts):ak B ps ts w w'':=
 ⟨h.below.grown hg hB (fun k hk=>(hr k hk).1),fun i cs t fr hh hi ht=>by
   have hk:=h.keep i cs t fr hh hi ht
   rw[hg.block i (Array.getElem?_eq_some_iff.1 hk).1 ?_]
   ·exact hk
   ·intro e
    obtain⟨_,cs',t',fr',hb,h0⟩:=hr i e.symm
    rw[hb]at hk
    injection hk with hk
    injection hk with _ h2
    exact ht (h2 ▸ h0)⟩
theorem ak.blk(h:ak B ps ts w w'){g:Nat}{t:TypeId}{cs:Array Value}(hb:Blk w g t cs)(hp:g∉ps)(ht:t∉ts):Blk w' g t cs:=h.keep _ _ _ _ hb hp ht
theorem ak.row(h:ak B ps ts w w'){base:Nat}{t:TypeId}{size n:Nat}{v:Value}{xs:List Value}(hr:w.ownsRow base t size v n xs)(hp:∀k,v.ownBlock=some k->k∉ps)(ht:t∉ts):w'.ownsRow base t size v n xs:=by
 refine⟨hr.1,?_⟩;rcases hr.2 with h1|⟨g,cap,cur,hv,hg,hh,rest⟩;·exact .inl h1
 ·exact .inr ⟨g,cap,cur,hv,hg,h.keep _ _ _ _ hh (hp g (by rw[hv];rfl)) ht,rest⟩
end
theorem kK{w:World}{base:Nat}{e:TypeId}{size n:Nat}{v:Value}{xs:List Value}(h:w.ownsRow base e size v n xs):
 ∀k,v.ownBlock=some k->base<=k/\∃cs t fr,w.heap[k]? =some (.cells cs t fr)/\t∈ [e]:=by
 intro k hk;rcases h.2 with⟨rfl,_⟩|⟨g,cap,cur,rfl,hb,hg,_⟩;·simp[Value.ownBlock]at hk
 ·simp[Value.ownBlock]at hk;subst hk;exact⟨hb,cur,e,(0,0),hg,by simp⟩
theorem dV{w:World}{base:Nat}{e t:TypeId}{size n g:Nat}{v:Value}{xs:List Value}{cs:Array Value}(h:w.ownsRow base e size v n xs)(hg:Blk w g t cs)(h0:e≠t):∀k,v.ownBlock=some k->k≠g:=by
 intro k hk he;obtain⟨_,cs',t',fr',hb,ht⟩:=kK h k hk;subst he;unfold Blk at hg;rw[hg]at hb;injection hb with hb
 injection hb with _ h2
 simp at ht;exact h0 (by rw[<- ht,<-h2])
def bv(c:UInt8):Value:=.int .u8 c.toNat
theorem Tryz.info5:(prog.info? 5).map (fun i=>(i.zero,i.size,i.bytes))=some (some (.int .u8 0),1,1):=by kernel_rfl
theorem Tryz.info3:(prog.info? 3).map (fun i=>(i.zero,i.size,i.bytes))=some (some (.int .i64 0),1,8):=by kernel_rfl
theorem an{w w':World}(h:Below w.heap.size w w'):ak w.heap.size [] [] w w':=
 ⟨h,fun k _ _ _ hh _ _=>(h.block k (Array.getElem?_eq_some_iff.1 hh).1).trans hh⟩
theorem aq{w w1 w2:World}(h:Below w.heap.size w w1)(k:Below w1.heap.size w1 w2):Below w.heap.size w w2:=h.trans (k.mono h.size)
theorem aO{w w':World}{g:Nat}{t:TypeId}{cs:Array Value}(hb:Below w.heap.size w w')(h:Blk w g t cs):Blk w' g t cs:=(an hb).blk h List.not_mem_nil List.not_mem_nil
theorem cB{w w1:World}{o:Obj}(h:w1=w.alloc o):Below w.heap.size w w1:=by rw[h];exact(Nj _ _).alloc (Nk _) _
theorem dW{w w1:World}{t:TypeId}{cs:Array Value}(h:w1=w.alloc (.cells cs t)):Blk w1 w.heap.size t cs:=by rw[h];exact aj w _ _
theorem ax{B:Nat}{a w:World}(h:Below B a w)(k:Nat):Below B a (w.drewN k):=⟨h.os,h.tape,h.output,h.size,h.block⟩
theorem yN(w:World)(a b:Value)(t:TypeId):∀(j:Nat) (u:Value), [a,b][j]? =some u->(w.alloc (.cells #[a,b] t)).cell? ((⟨w.heap.size,0,none⟩:Addr).add j)=some u:=by intro j u hu;rw[OT,ac (aj w t #[a,b])];simpa using hu
theorem ai{w:World}{B:Nat}{e:TypeId}{size n:Nat}{v:Value}{xs:List Value}(h:w.ownsRow B e size v n xs):∃A cap,v=.slice A n cap/\n<=cap/\cap<=maxLen/\(0<n->∃g,A=some ⟨g,0,none⟩):=by
 rcases h.2 with⟨rfl,rfl⟩|⟨g,cap,cur,rfl,_,_,hn,hm,_⟩;·exact⟨none,0,rfl,Nk _,by unfold maxLen;omega,fun h=>by omega⟩
 ·exact⟨some ⟨g,0,none⟩,cap,rfl,hn,hm,fun _=>⟨g,rfl⟩⟩
def iv(b:Nat):Value:=.int .i64 b
def aB(w:World)(A:Option Addr)(n:Nat)(L:List Nat):Prop:=
 L.length=n/\(0<n->∃b off,A=some ⟨b,off,none⟩/\∀i,i<n->w.cell? ⟨b,off+i,none⟩=some (.int .i64 (L.getD i 0)))
theorem aB.cut{w:World}{A:Option Addr}{n k a:Nat}{L:List Nat}(h:aB w A n L)(h0:a+k<=n):aB w (Option.map (fun x=>x.add a) A) k ((L.drop a).take k):=by refine⟨by rw[NB,Ny,h.1];omega,fun hk=> ?_⟩;obtain⟨b,off,rfl,hc⟩:=h.2 (by omega);refine⟨b,off+a,by rw[Ov,OT],fun i hi=> ?_⟩;rw[OQ,hc (a+i) (by omega),Na,Na,PN,Nf hi,O3]
theorem aE{w:World}{B n cap:Nat}{A:Option Addr}{L:List Nat}(h:w.ownsRow B 3 1 (.slice A n cap) n (L.map iv)):aB w A n L:=by have hl:=h.1;rw[Nu,Oc]at hl;refine⟨hl,fun hn=> ?_⟩;obtain⟨A',cap',hv,_,_,hg⟩:=ai h;simp only[Ol]at hv;obtain⟨rfl,_,rfl⟩:=hv;obtain⟨g,rfl⟩:=hg hn;refine⟨g,0,rfl,fun i hi=> ?_⟩;rw[N8,h.cellAt i (by omega),Np,Na,Nc (by omega)];rfl
theorem bB(w:World)(B:Nat)(v:Value)(n:Nat)(xs:List Value)(h5:w.ownsRow B 3 1 v n xs)(A:Option Addr)(k c:Nat)(L:List Nat)(hi:aB w A k L)(hf:n+k<=1000000000)(hB:B<=w.heap.size):
 ∃v' w',(Builtin.append_ #[37,37] 37 #[v,.slice A k c]).run prog w=.ok v' w'/\w'.ownsRow B 3 1 v' (n+k) (xs++L.map iv)/\w.grownBy w' v.ownBlock:=by
 obtain⟨i3,h3,h9,ha,hb⟩:=N4 Tryz.info3;have hl:=hi.1;rcases A with _|ad
 ·have hk:k=0:=by
   rcases OL k with h0|h0;·exact h0
   ·obtain⟨b,off,h,_⟩:=hi.2 h0;cases h
  subst hk;have hL:L= []:=Nq hl;subst hL;refine⟨v,w,?_,by simpa using h5,⟨rfl,rfl,rfl,Nk _,fun _ _ _=>rfl⟩⟩;rcases h5.2 with⟨rfl,rfl⟩|⟨g,cap,cur,rfl,_,_,h8,_⟩;·simp[Builtin.append_,Pk underlying37,sizeOf,typeInfo,h3,Builtin.lenOf,Builtin.firstCells]
  ·simp[Builtin.append_,Pk underlying37,sizeOf,typeInfo,h3,Builtin.lenOf,Builtin.firstCells,h8,storeCells]
 ·have h6:∀j u,(L.map iv)[j]? =some u->w.cell? (ad.add j)=some u:=by
   intro j u hu;have h7:j<k:=(by have:=(List.getElem?_eq_some_iff.1 hu).1;rw[Nu]at this;omega);obtain⟨b,off,he,hc⟩:=hi.2 (by omega);injection he with he
   subst he;rw[OT,hc j h7,<-hu,Np,Na,Nc (by omega)];rfl
  obtain⟨v',w',h1,h2,h4,_⟩:=run_append_own (P:=prog) w B 37 37 3 i3 (.int .i64 0) 1 8 underlying37 h3 h9 ha hb rfl (by decide) v n xs h5 ad k c (L.map iv) (by rw[Nu,hl,Oc]) h6
   (fun u hu=>by obtain⟨q,_,rfl⟩:=List.mem_map.1 hu;rfl) (by unfold maxLen;omega) (by omega) hB
  exact⟨v',w',h1,h2,h4⟩
theorem dG{ops:Array Oper}{o:Oper}{a:Act}{w w':World}{K:Act->World->Prop}{Q:Exit->Act->World->Prop}{E:Prop}{v':Value}(h1:o.guard=none)(s x:Operand)(t:TypeId)
 (ho:o.op=.call { callee:=.builtin .append,args:=#[s,x],argTypes:=#[t,t] }) (vs vx:Value) (hs:a.eval s=vs) (hx:a.eval x=vx)
 (h0:(Builtin.append_ #[t,t] o.type #[vs,vx]).run prog w=.ok v' w') (h:K (a.put o.dst v') w'):
 if Region.wanted o (yielded ops a.tmps)=true then Oper.wp prog o a w K Q else E:=by have hw:Region.wanted o (yielded ops a.tmps)=true:=(by simp[Region.wanted,h1]);rw[Nf hw];unfold Oper.wp execOp;simp only[ho,resolve,invoke,builtin,Sem.run_bind,Sem.run_pure,Result.andThen_ok,List.map_toArray,Ow,QC,hs,hx,h0];exact h
theorem oz(l:List Nat)(i:Nat)(hb:au l):l.getD i 0<2:=by
 rw[Na];rcases h:l[i]? with _|b;·simp
 ·exact hb b (PV h)
theorem Lj(c e:Nat)(hc:c<256):bits .and .i64 ((c:Int)/2^e) 1=((c/2^e%2:Nat):Int):=by have h1:((c:Int)/2^e)=((c/2^e:Nat):Int):=(by rw[Int.natCast_ediv,QJ];rfl);have h0:c/2^e<256:=RQ (QK _ _) hc;rw[h1];generalize c/2^e=d at*;show IntKind.i64.wrap ((BitVec.ofInt 64 (d:Int) &&& BitVec.ofInt 64 1).toNat:Int)=_;rw[BitVec.toNat_and,RB,RR,NL (show d<2^64 by omega),show(BitVec.ofInt 64 1).toNat=1 from rfl,nat_mask1,Of];omega
open Go.ChangeShapes Go.WideShapes Go.ChangeAt Go.RowKit
theorem own:ownKnob prog.godebug=none:=by kernel_rfl
theorem JF:laidOutB prog=true:=by kernel_rfl
theorem wa{H:Type}{enc:TypeId×Value->H}{W W':World}(hb:Below W.heap.size W W'):∀{ts:List TypeId} {vs:List Value} {ds:List (DataW H)} {ps:List MemPlace},
 (∀ t∈ts,prog.readableRec t=true/\t<prog.types.size)->(∀ x∈ps,x.block<W.heap.size)->
 DataW.TrodAll enc prog W 0 (fun _=>true) true ts vs ds ps->DataW.TrodAll enc prog W' 0 (fun b=>decide (b<W.heap.size)) true ts vs ds ps
 | [],_,_,_,_,_,h=>by obtain⟨rfl,rfl,rfl⟩:=trodAll_nil h;exact trodAll_mk0
 | t::ts,_,_,_,ht,hlt,h=>by
  obtain⟨v,vs,d,ds,p,q,rfl,rfl,rfl,h1,h2⟩:=trodAll_cons h
  exact trodAll_cons_mk (Below.trod JF (ht t (by simp)).1 (ht t (by simp)).2 h1 hb (fun x hx=>hlt x (by simp[hx])))
   (wa hb (fun t' h'=>ht t' (by simp[h'])) (fun x hx=>hlt x (by simp[hx])) h2)
theorem JG{H:Type}{enc:TypeId×Value->H}{f:Func}{s:ChangeSpec}{W W':World}{args:Array Value}{ds:List (DataW H)}{before:List MemPlace}
 (hW:DataW.Whole enc prog f.params.toList s.vars false W args.toList ds [] before) (hs:s.vars= []) (hb:Below W.heap.size W W')
 (hp:f.params.toList.all (fun t=>prog.readableRec t&&decide (t<prog.types.size))=true) (hr:f.resultTypes=#[4])
 (h0:s.fn H (ds++ [])={ results:= [.lit (.bool true)],args:=ds }):s.post enc prog f false true false false W args (.bool true) W':=by
 have h2:=hW.lt;have h1:=hW;obtain⟨p,q,hA,hV,rfl,_,_⟩:=hW;rw[hs]at hV;obtain⟨_,rfl⟩:=trodVars_none hV;rw[NU]at h2 h1;refine⟨ds, [],p, [],p, [],h1,?_,?_,?_,hb.frame _,fun h=>by cases h⟩;·rw[h0,hr];exact trodAll_cons_mk (shut_bool underlying4 _) trodAll_mk0
 ·rw[h0];exact wa hb (fun t ht=>by simpa using List.all_eq_true.1 hp t ht) h2 hA
 ·rw[hs,h0];rfl
theorem bV(w:World)(v:Value)(t:TypeId):∀(j:Nat) (u:Value), [v][j]? =some u->(w.alloc (.cells #[v] t)).cell? ((⟨w.heap.size,0,none⟩:Addr).add j)=some u:=by intro j u hu;have hj:j=0:=(by have:=(List.getElem?_eq_some_iff.1 hu).1;simp at this;exact this);subst hj;simp at hu;subst hu;rw[OT,ac (aj w t _)];rfl
def ZIn(w:World)(A:Option Addr)(n:Nat)(L:List Int):Prop:=
 L.length=n/\(0<n->∃b off,A=some ⟨b,off,none⟩/\∀i,i<n->w.cell? ⟨b,off+i,none⟩=some (.int .i64 (L.getD i 0)))
theorem ZIn.below{w w':World}{A:Option Addr}{n:Nat}{L:List Int}(h:ZIn w A n L)(hb:Below w.heap.size w w'):ZIn w' A n L:=by refine⟨h.1,fun hn=> ?_⟩;obtain⟨b,off,rfl,hc⟩:=h.2 hn;exact⟨b,off,rfl,fun i hi=>(hb.cell (p:=⟨b,off+i,none⟩) (No w _ (hc i hi))).trans (hc i hi)⟩
theorem cF{w w':World}{A:Option Addr}{n:Nat}{L:List Nat}(h:aB w A n L)(hb:Below w.heap.size w w'):aB w' A n L:=by refine⟨h.1,fun hn=> ?_⟩;obtain⟨b,off,rfl,hc⟩:=h.2 hn;refine⟨b,off,rfl,fun i hi=> ?_⟩;exact(hb.cell (p:=⟨b,off+i,none⟩) (No w _ (hc i hi))).trans (hc i hi)
theorem dw{w:World}{A:Option Addr}{n:Nat}{L:List Nat}(h:aB w A n L):ZIn w A n (L.map fun(x:Nat)=>(x:Int)):=by refine⟨by rw[Nu];exact h.1,fun hn=> ?_⟩;obtain⟨b,off,rfl,hc⟩:=h.2 hn;refine⟨b,off,rfl,fun i hi=> ?_⟩;rw[hc i hi,Na,Na,Np,Nc (by rw[h.1];exact hi)];rfl
variable {P:Program}
theorem kL{o:Oper}{a:Act}{w:World}{next:Act->World->Prop}{Q:Exit->Act->World->Prop}{ty t:TypeId}{p:Operand}{g n:Nat}{e:TypeId}{cs:Array Value}{fr:Nat×Nat}
 (h0:o.op=.load ty p) (hp:a.eval p=.pointer (some ⟨g,0,none⟩)) (hg:w.heap[g]? =some (.cells cs t fr)) (hu:P.underlying ty=some (.array n e)) (hi:(P.info? ty).map (·.size)=some cs.size)
 (hn:next (a.put o.dst (.agg cs)) w):Oper.wp P o a w next Q:=by unfold Oper.wp;have h:(execOp a.eval o).run P w=.ok (.value (.agg cs)) w:=(by have:=run_loadVar_row (P:=P) w g t ty cs fr _ hg hu rfl hi;simp only[execOp,h0,hp,Instr.loadAt,Instr.sureAddr,Sem.run_bind,Sem.run_pure,Result.andThen,this]);rw[h];exact hn
theorem jf{fn:Func}{p:Tmp}{ty t:TypeId}{tmps:Array Value}{w:World}{g n:Nat}{e:TypeId}{cs:Array Value}{fr:Nat×Nat}(h:fn.results=#[.cell p ty])
 (hp:tmps.getD p undef=.pointer (some ⟨g,0,none⟩)) (hg:w.heap[g]? =some (.cells cs t fr)) (hu:P.underlying ty=some (.array n e)) (hi:(P.info? ty).map (·.size)=some cs.size):
 (results fn tmps).run P w=.ok (.agg cs) w:=by have:=run_loadVar_row (P:=P) w g t ty cs fr _ hg hu rfl hi;rw[Array.getD_eq_getD_getElem?]at hp;simp only[results,h];simp[hp,asAddr,this]
theorem cT{w:World}{t ty:TypeId}{g:Nat}{old cs:Array Value}(hg:w.heap[g]? =some (.cells old t (0,0)))(hi:(P.info? ty).map (·.size)=some cs.size)(ho:old.size=cs.size)(h1:cs.all (·.oneCell')=true):
 (storeCells ⟨g,0,none⟩ cs.toList 0).run P w=.ok () (w.setRow g cs):=by
 have:=run_storeVar_row (P:=P) w g t ty old cs hg hi ho h1
 cases hq:P.info? ty with
 | none=>simp[hq]at hi
 | some i=>have hs:cs.size=i.size:=(by simp[hq]at hi;omega);simpa [storeVar,sizeOf,typeInfo,hq,Value.cells,hs]using this
theorem below_setRow{B:Nat}{w w':World}(h:Below B w w'){g:Nat}(hg:B<=g)(cs:Array Value):Below B w (w'.setRow g cs):=
 ⟨h.os,h.tape,h.output,by rw[size_setRow];exact h.size,fun k hk=>by rw[setRow_other _ _ _ _ (by omega)];exact h.block k hk⟩
theorem bZ(w:World)(o:Obj)(k:Nat)(h:k<w.heap.size):(w.alloc o).heap[k]? =w.heap[k]? :=by show(w.heap.push o)[k]? =_;rw[Array.getElem?_push,Nd]
